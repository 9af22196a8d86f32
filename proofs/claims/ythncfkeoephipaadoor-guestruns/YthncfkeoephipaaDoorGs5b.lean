/- Run. -/
import Derived.Test.YthncfkeoephipaaDoorGs5
namespace Go.Proofs.YthncfkeoephipaaDoor
open Go.ChangeShapes Go.WideShapes Go.ChangeAt Go.RowKit
attribute [local go_sem] World.cell?_alloc_some frozen_alloc_some

/-- What a call leaves of a guest. -/
def GC (base : Nat) (w : World) (b : Nat) (p : Int) (tv jv : Value) (s' : Gt) (w' : World) : Prop := ∃ jv', GB base w' b p tv jv' s' ∧ Kept (Ft tv jv b) w w' ∧ ∀ k, jv'.ownBlock = some k → jv.ownBlock = some k ∨ w.heap.size ≤ k
theorem GC.mk {base : Nat} {w w' : World} {b : Nat} {p : Int} {tv jv jv' : Value} {s' : Gt} (h1 : GB base w' b p tv jv' s') (h2 : Kept (Ft tv jv b) w w') (h3 : ∀ k, jv'.ownBlock = some k → jv.ownBlock = some k ∨ w.heap.size ≤ k) : GC base w b p tv jv s' w' := ⟨jv', h1, h2, h3⟩
theorem leavesCTT {W : World} {R : Nat} {p u x : Tmp} {fn : Func} {ty : TypeId} {fs : Array Go.Field} {cs : Array Value} (hf : fn.results = #[.cell p ty, .tmp u, .tmp x]) (hR : W.heap[R]? = some (.cells cs ty (0, 0))) (hu : Tryd.prog.underlying ty = some (.struct fs)) (hs : (Tryd.prog.info? ty).map (·.size) = some cs.size) (tmps : Array Value) (h2 : tmps.getD p undef = .pointer (some ⟨R, 0, none⟩)) : (results fn tmps).run Tryd.prog W = .ok (.tuple #[.agg cs, tmps.getD u undef, tmps.getD x undef]) W := by
  have hl := run_loadVar_row (P := Tryd.prog) W R ty ty cs (0, 0) _ hR hu rfl hs
  rw [results_cell_tmp2 (p := p) (u := u) (x := x) (ty := ty) hf, h2]
  simp [asAddr, Result.andThen, hl]
theorem own_setJ {w : World} {base : Nat} {e : TypeId} {g n cap : Nat} {js : List Jb} (h : w.ownsRow base e 5 (.slice (some ⟨g, 0, none⟩) n cap) n (js.flatMap cj)) {j : Nat} {x : Jb} (hx : js[j]? = some x) (y : Jb) :
    (((((w.setCell ⟨g, j * 5, none⟩ (.int .i64 (y.tk : Int))).setCell ⟨g, j * 5 + 1, none⟩ (.int .i64 y.rl)).setCell ⟨g, j * 5 + 2, none⟩ (.int .i64 y.dl)).setCell ⟨g, j * 5 + 3, none⟩ (.int .i64 y.lf)).setCell ⟨g, j * 5 + 4, none⟩ (.int .i64 y.dn)).ownsRow base e 5 (.slice (some ⟨g, 0, none⟩) n cap) n ((js.set j y).flatMap cj) := by
  have a0 := own_put h (j * 5 + 0) (.int .i64 (y.tk : Int))
  rw [fl_set cj 5 cj_len js j 0 x ⟨y.tk, x.rl, x.dl, x.lf, x.dn⟩ _ hx (by omega) rfl] at a0
  have l : j < js.length := (List.getElem?_eq_some_iff.mp hx).1
  have g1 : (js.set j ⟨y.tk, x.rl, x.dl, x.lf, x.dn⟩)[j]? = some ⟨y.tk, x.rl, x.dl, x.lf, x.dn⟩ := by simp [l]
  have a1 := own_put a0 (j * 5 + 1) (.int .i64 y.rl)
  rw [fl_set cj 5 cj_len _ j 1 _ ⟨y.tk, y.rl, x.dl, x.lf, x.dn⟩ _ g1 (by omega) rfl, List.set_set] at a1
  have g2 : (js.set j ⟨y.tk, y.rl, x.dl, x.lf, x.dn⟩)[j]? = some ⟨y.tk, y.rl, x.dl, x.lf, x.dn⟩ := by simp [l]
  have a2 := own_put a1 (j * 5 + 2) (.int .i64 y.dl)
  rw [fl_set cj 5 cj_len _ j 2 _ ⟨y.tk, y.rl, y.dl, x.lf, x.dn⟩ _ g2 (by omega) rfl, List.set_set] at a2
  have g3 : (js.set j ⟨y.tk, y.rl, y.dl, x.lf, x.dn⟩)[j]? = some ⟨y.tk, y.rl, y.dl, x.lf, x.dn⟩ := by simp [l]
  have a3 := own_put a2 (j * 5 + 3) (.int .i64 y.lf)
  rw [fl_set cj 5 cj_len _ j 3 _ ⟨y.tk, y.rl, y.dl, y.lf, x.dn⟩ _ g3 (by omega) rfl, List.set_set] at a3
  have g4 : (js.set j ⟨y.tk, y.rl, y.dl, y.lf, x.dn⟩)[j]? = some ⟨y.tk, y.rl, y.dl, y.lf, x.dn⟩ := by simp [l]
  have a4 := own_put a3 (j * 5 + 4) (.int .i64 y.dn)
  rw [fl_set cj 5 cj_len _ j 4 _ y _ g4 (by omega) rfl, List.set_set] at a4
  exact a4
theorem run_none (base : Nat) (w : World) (b : Nat) (p : Int) (tv jv : Value) (s : Gt) (a : Addr) (h : GB base w b p tv jv s) (hl : s.js.length = 0) (he : w.cell? ⟨15, 0, none⟩ = some (vE a)) : Calls Tryd.prog 15 #[.pointer (some ⟨b, 0, none⟩)] w fun e w' => e = .returned (.tuple #[vJ j0, .bool false, vE a]) ∧ Below w.heap.size w w' := by
  have HW : Hid (∀ W, Below w.heap.size w W → Calls Tryd.prog 23 #[.pointer (some ⟨b, 0, none⟩)] W fun e w' => e = .returned (.bool false) ∧ w' = W) := mkHid (fun W hW => by
    have := work_is base W b p tv jv s (h.below hW)
    rwa [hl] at this)
  have hB : 15 < w.heap.size := World.block_lt_of_cell? w _ he
  have hne : ¬ w.heap.size = 15 := by omega
  have hne2 : ¬ 15 = w.heap.size := by omega
  clear h hl
  go_enter Tryd.func15, Tryd.ntmps15
  go_wp2_with (go_at_call 23; refine (HW.out _ (ba (Below.refl _ w) _)).mono ?_; rintro e w1 ⟨rfl, hw⟩; rw [hw]; clear hw)
  go_region_held3 (fun w' => w'.cell? ⟨15, 0, none⟩ = some (vE a)) (go_keep) (fail)
  all_goals
    go_wp2
    refine bodyPost_ret (leavesCTT (cs := #[.int .i64 0, .int .i64 0, .int .i64 0, .int .i64 0, .int .i64 0]) rfl ?_ Tryd.underlying45 size_job _ rfl) rfl ⟨rfl, ?_⟩
    · exact heap_alloc_new w _
    · exact (ba (Below.refl _ w) _).drew
set_option maxHeartbeats 6400000 in
theorem run_end (base : Nat) (w : World) (b : Nat) (p : Int) (tv jv : Value) (s : Gt) (j : Jb) (h : GB base w b p tv jv s) (ok : s.Ok p) (hj : s.js[nx p s.ts s.js]? = some j) (hlf : j.lf = 1) : Calls Tryd.prog 15 #[.pointer (some ⟨b, 0, none⟩)] w fun e w' => e = .returned (.tuple #[vJ j.ran, .bool true, .nilIface]) ∧ GC base w b p tv jv ⟨s.xs, runL (nx p s.ts s.js) j s.js⟩ w' := by
  have hn := (List.getElem?_eq_some_iff.mp hj).1
  have hl : 0 < s.js.length := by omega
  have hl64 := ok.l
  obtain ⟨_, _, jok, _⟩ := ok.j _ _ hj
  have hlf1 := jok.l
  have hdn0 := jok.n
  have hcap : j.lf + j.dn ≤ 256 := by
    obtain ⟨x, hx, jo, _⟩ := ok.j _ _ hj
    obtain ⟨k1, k2, k3, k4, k5, k6⟩ := ok.ok x (List.mem_of_getElem? hx)
    have := jo.c
    omega
  clear jok
  obtain ⟨N, hN⟩ : ∃ N, N = nx p s.ts s.js := ⟨_, rfl⟩
  have HW : Hid (∀ W, Below w.heap.size w W → Calls Tryd.prog 23 #[.pointer (some ⟨b, 0, none⟩)] W fun e w' => e = .returned (.bool true) ∧ w' = W) := mkHid (fun W hW => by
    have := work_is base W b p tv jv s (h.below hW)
    rwa [decide_eq_true (show (0 : Int) < s.js.length by omega)] at this)
  have HN : Hid (∀ W, Below w.heap.size w W → Calls Tryd.prog 24 #[.pointer (some ⟨b, 0, none⟩)] W fun e w' => e = .returned (.int .i64 (N : Int)) ∧ Below W.heap.size W w') := mkHid (fun W hW => by rw [hN]; exact next_is base W b p tv jv s (h.below hW) ok hl)
  rw [← hN] at hj hn ⊢
  obtain ⟨g, c, rfl, _⟩ := own_job h.jown hj
  have hNi : (N : Int) < s.js.length := by omega
  have HG := mkHid h
  have HJ := mkHid hj
  clear h ok hj hN hl
  obtain ⟨tj, rj, dj, lj, nj⟩ := j
  simp only at hlf hlf1 hdn0 hcap
  subst hlf
  have eD : IntKind.i64.wrap (nj + 1) = nj + 1 := wfit (by omega) (by omega)
  go_enter Tryd.func15, Tryd.ntmps15
  go_wp2_with (first | (go_at_call 23; refine (HW.out _ (ba (Below.refl _ w) _)).mono ?_; rintro e w1 ⟨rfl, hw⟩; rw [hw]; clear hw) | (go_at_call 24; refine (HN.out _ (ba (Below.refl _ w) _)).mono ?_; rintro e w2 ⟨rfl, b2⟩; obtain ⟨hr2, hb2⟩ := new_last b2; have HR2 := mkHid hr2; have HB2 := mkHid hb2; have HG2 := mkHid (HG.out.below hb2); clear b2 hr2 hb2; have c1 := HG2.out.c1; obtain ⟨g', c', eg, q⟩ := own_job HG2.out.jown HJ.out; simp only [Value.slice.injEq, Option.some.injEq, Addr.mk.injEq] at eg; obtain ⟨⟨rfl, _⟩, _, rfl⟩ := eg; obtain ⟨q0, q1, q2, q3, q4, _⟩ := q; simp only at q0 q1 q2 q3 q4) | (go_at_call 25; obtain ⟨X, hX⟩ : ∃ X, X = w2.alloc (.cells #[.int .i64 (tj : Int), .int .i64 rj, .int .i64 dj, .int .i64 0, .int .i64 (nj + 1)] 45) := ⟨_, rfl⟩; have hkX : Kept (fun _ => False) w2 X := (by rw [hX]; exact Kept.alloc _ w2 _); have HGX : Hid (GB base X b p tv (.slice (some ⟨g, 0, none⟩) s.js.length c) s) := mkHid (HG2.out.kept hkX (fun k e f => e)); have hBX : X.heap[w2.heap.size]? = some (oJ ⟨tj, rj, dj, 0, nj + 1⟩) := (by rw [hX]; exact heap_alloc_new w2 _); rw [← hX]; have HR4 : Hid (X.heap[w.heap.size]? = some (.cells #[.int .i64 0, .int .i64 0, .int .i64 0, .int .i64 0, .int .i64 0] 45)) := mkHid ((hkX.block _ (lt_of_heap HR2.out) (fun e => e)).trans HR2.out); have HK4 : Hid (Kept (Ft tv (.slice (some ⟨g, 0, none⟩) s.js.length c) b) w X) := mkHid ((kept_new HB2.out).trans hkX (fun k e => e.elim)); have HBB : Hid (¬ w2.heap.size = g ∧ ¬ w2.heap.size = b ∧ w.heap.size < w2.heap.size ∧ b < w.heap.size ∧ g < w.heap.size) := mkHid ⟨fun e => by have := (HG.out.foot (k := g) (.inr (.inr rfl))).2; have := HB2.out.size; omega, fun e => by have := HG.out.lt; have := HB2.out.size; omega, lt_of_heap HR2.out, HG.out.lt, (HG.out.foot (k := g) (.inr (.inr rfl))).2⟩; clear hX hkX; generalize w2.heap.size = B at *; refine (delJ_is base X g c N s.js HGX.out.jown (by omega) (by omega)).mono ?_; rintro e w4 ⟨rfl, ho4, hk4⟩; have HO4 := mkHid ho4; have HK5 := mkHid hk4; have hb4 := (hk4.block _ (lt_of_heap hBX) HBB.out.1).trans hBX; have hr4 := (hk4.block _ (lt_of_heap HR4.out) (by have := HBB.out; omega)).trans HR4.out; have hg4 := (hk4.block _ HGX.out.lt (by intro e; exact HGX.out.jb (by simp [Value.ownBlock, e]))).trans HGX.out.blk; have HR5 := mkHid hr4; have HGB := mkHid hg4; obtain ⟨z0, z1, z2, z3, z4, zf⟩ := J5.of_blk hb4; obtain ⟨r0, r1, r2, r3, r4, rf⟩ := J5.of_blk (j := j0) hr4; have f0 := rf 0; have f1 := rf 1; have f2 := rf 2; have f3 := rf 3; have f4 := rf 4; have m1 : w4.cell? ⟨b, 1, none⟩ = some (.slice (some ⟨g, 0, none⟩) s.js.length c) := cell_of_block hg4 rfl; have mf : w4.frozen? ⟨b, 1, none⟩ = false := frozen_of_block hg4; simp only [Nat.zero_add] at z0 z1 z2 z3 z4 r0 r1 r2 r3 r4; clear ho4 hk4 hb4 hr4 hg4 rf zf c1 q0 q1 q2 q3 q4; have n1 : ¬ b = w.heap.size := (by have := HBB.out; omega); have n2 : ¬ w.heap.size = b := (by have := HBB.out; omega); have n3 : ¬ b = B := (by have := HBB.out; omega); have n4 : ¬ B = b := (by have := HBB.out; omega); have n5 : ¬ B = w.heap.size := (by have := HBB.out; omega); have n6 : ¬ w.heap.size = B := (by have := HBB.out; omega)))
  have hbg : ¬ b = g := fun e => HGX.out.jb (by simp [Value.ownBlock, e])
  have hk8 : Kept (fun k => k = b ∨ k = w.heap.size) w4 ((((((w4.setCell ⟨b, 1, none⟩ (.slice (some ⟨g, 0, none⟩) (s.js.length - 1) c)).setCell ⟨w.heap.size, 0, none⟩ (.int .i64 (tj : Int))).setCell ⟨w.heap.size, 1, none⟩ (.int .i64 rj)).setCell ⟨w.heap.size, 2, none⟩ (.int .i64 dj)).setCell ⟨w.heap.size, 3, none⟩ (.int .i64 0)).setCell ⟨w.heap.size, 4, none⟩ (.int .i64 (nj + 1))) := (kset (Kept.refl (fun k => k = b ∨ k = w.heap.size) w4) (.inl (.inl rfl)) 1 _).trans (set5k (fun k => k = b ∨ k = w.heap.size) _ _ (.inr rfl) _ _ _ _ _) (fun _ h => .inl h)
  have eR : runL N ⟨tj, rj, dj, 1, nj⟩ s.js = s.js.eraseIdx N := if_pos rfl
  have eN : (s.js.eraseIdx N).length = s.js.length - 1 := by rw [List.length_eraseIdx]; simp [hn]
  refine bodyPost_ret (leavesCTT (cs := #[.int .i64 (tj : Int), .int .i64 rj, .int .i64 dj, .int .i64 0, .int .i64 (nj + 1)]) rfl ?_ Tryd.underlying45 size_job _ rfl) rfl ⟨rfl, ?_⟩
  · rw [heap_set (heap_set (heap_set (heap_set (heap_set ((Below.heap_setCell _ _ _ _ n2).trans HR5.out)))))]; rfl
  · rw [eR]
    refine GC.mk (jv' := .slice (some ⟨g, 0, none⟩) (s.js.length - 1) c) ⟨?_, ?_, ?_, HGX.out.bb, HGX.out.tb, fun e => hbg (by simpa [Value.ownBlock] using e.symm), HGX.out.tj⟩ ?_ (fun k e => .inl e)
    · refine ((set5k (fun k => k = w.heap.size) _ _ rfl _ _ _ _ _).block b ?_ n1).trans (heap_set HGB.out)
      have := HBB.out
      have := HR5.out
      have := lt_of_heap HGB.out
      simpa [World.setCell] using this
    · exact ownN_kept (ownN_kept HGX.out.town HK5.out (fun k e e2 => HGX.out.tj k e (by simp [Value.ownBlock, e2]))) hk8 (fun k e e2 => by
        rcases e2 with e2 | e2
        · exact HGX.out.tb (by rw [← e2]; exact e)
        · have := (HG.out.town.lt k e).2; omega)
    · rw [eN]
      exact ownN_kept HO4.out hk8 (fun k e e2 => by
        simp [Value.ownBlock] at e
        have := HBB.out
        omega)
    · refine (HK4.out.trans HK5.out (fun k e => .inl (.inr (.inr (by simp [Value.ownBlock, e]))))).trans hk8 (fun k e => ?_)
      rcases e with e | e
      · exact .inl (.inl e)
      · exact .inr (by omega)
set_option maxHeartbeats 6400000 in
theorem run_on (base : Nat) (w : World) (b : Nat) (p : Int) (tv jv : Value) (s : Gt) (j : Jb) (h : GB base w b p tv jv s) (ok : s.Ok p) (hj : s.js[nx p s.ts s.js]? = some j) (hlf : ¬ j.lf = 1) : Calls Tryd.prog 15 #[.pointer (some ⟨b, 0, none⟩)] w fun e w' => e = .returned (.tuple #[vJ j.ran, .bool false, .nilIface]) ∧ GC base w b p tv jv ⟨s.xs, runL (nx p s.ts s.js) j s.js⟩ w' := by
  have hn := (List.getElem?_eq_some_iff.mp hj).1
  have hl : 0 < s.js.length := by omega
  have hl64 := ok.l
  obtain ⟨_, _, jok, _⟩ := ok.j _ _ hj
  have hlf1 := jok.l
  have hdn0 := jok.n
  have hcap : j.lf + j.dn ≤ 256 := by
    obtain ⟨x, hx, jo, _⟩ := ok.j _ _ hj
    obtain ⟨k1, k2, k3, k4, k5, k6⟩ := ok.ok x (List.mem_of_getElem? hx)
    have := jo.c
    omega
  clear jok
  obtain ⟨N, hN⟩ : ∃ N, N = nx p s.ts s.js := ⟨_, rfl⟩
  have HW : Hid (∀ W, Below w.heap.size w W → Calls Tryd.prog 23 #[.pointer (some ⟨b, 0, none⟩)] W fun e w' => e = .returned (.bool true) ∧ w' = W) := mkHid (fun W hW => by
    have := work_is base W b p tv jv s (h.below hW)
    rwa [decide_eq_true (show (0 : Int) < s.js.length by omega)] at this)
  have HN : Hid (∀ W, Below w.heap.size w W → Calls Tryd.prog 24 #[.pointer (some ⟨b, 0, none⟩)] W fun e w' => e = .returned (.int .i64 (N : Int)) ∧ Below W.heap.size W w') := mkHid (fun W hW => by rw [hN]; exact next_is base W b p tv jv s (h.below hW) ok hl)
  rw [← hN] at hj hn ⊢
  obtain ⟨g, c, rfl, _⟩ := own_job h.jown hj
  have hNi : (N : Int) < s.js.length := by omega
  have HG := mkHid h
  have HJ := mkHid hj
  clear h ok hj hN hl
  obtain ⟨tj, rj, dj, lj, nj⟩ := j
  simp only at hlf hlf1 hdn0 hcap
  have eD : IntKind.i64.wrap (nj + 1) = nj + 1 := wfit (by omega) (by omega)
  obtain ⟨L, hL⟩ : ∃ L, L = lj - 1 := ⟨_, rfl⟩
  have eL : IntKind.i64.wrap (lj - 1) = L := by rw [hL]; exact wfit (by omega) (by omega)
  have hL0 : (L == 0) = false := by rw [hL]; simp; omega
  have HL := mkHid hL
  clear hL
  go_enter Tryd.func15, Tryd.ntmps15
  go_wp2_with (first | (go_at_call 23; refine (HW.out _ (ba (Below.refl _ w) _)).mono ?_; rintro e w1 ⟨rfl, hw⟩; rw [hw]; clear hw) | (go_at_call 24; refine (HN.out _ (ba (Below.refl _ w) _)).mono ?_; rintro e w2 ⟨rfl, b2⟩; obtain ⟨hr2, hb2⟩ := new_last b2; have HR2 := mkHid hr2; have HB2 := mkHid hb2; have HG2 := mkHid (HG.out.below hb2); clear b2 hr2 hb2; have c1 := HG2.out.c1; obtain ⟨g', c', eg, q⟩ := own_job HG2.out.jown HJ.out; simp only [Value.slice.injEq, Option.some.injEq, Addr.mk.injEq] at eg; obtain ⟨⟨rfl, _⟩, _, rfl⟩ := eg; obtain ⟨q0, q1, q2, q3, q4, _⟩ := q; simp only at q0 q1 q2 q3 q4))
  obtain ⟨X, hX⟩ : ∃ X, X = w2.alloc (.cells #[.int .i64 (tj : Int), .int .i64 rj, .int .i64 dj, .int .i64 L, .int .i64 (nj + 1)] 45) := ⟨_, rfl⟩; have hkX : Kept (fun _ => False) w2 X := (by rw [hX]; exact Kept.alloc _ w2 _); have HGX : Hid (GB base X b p tv (.slice (some ⟨g, 0, none⟩) s.js.length c) s) := mkHid (HG2.out.kept hkX (fun k e f => e)); have hBX : X.heap[w2.heap.size]? = some (oJ ⟨tj, rj, dj, L, nj + 1⟩) := (by rw [hX]; exact heap_alloc_new w2 _); rw [← hX]; have HR4 : Hid (X.heap[w.heap.size]? = some (.cells #[.int .i64 0, .int .i64 0, .int .i64 0, .int .i64 0, .int .i64 0] 45)) := mkHid ((hkX.block _ (lt_of_heap HR2.out) (fun e => e)).trans HR2.out); have HK4 : Hid (Kept (Ft tv (.slice (some ⟨g, 0, none⟩) s.js.length c) b) w X) := mkHid ((kept_new HB2.out).trans hkX (fun k e => e.elim)); have HBB : Hid (¬ w2.heap.size = g ∧ ¬ w2.heap.size = b ∧ w.heap.size < w2.heap.size ∧ b < w.heap.size ∧ g < w.heap.size) := mkHid ⟨fun e => by have := (HG.out.foot (k := g) (.inr (.inr rfl))).2; have := HB2.out.size; omega, fun e => by have := HG.out.lt; have := HB2.out.size; omega, lt_of_heap HR2.out, HG.out.lt, (HG.out.foot (k := g) (.inr (.inr rfl))).2⟩; clear hX hkX; generalize w2.heap.size = B at *
  clear c1 q0 q1 q2 q3 q4
  obtain ⟨z0, z1, z2, z3, z4, zf⟩ := J5.of_blk hBX
  have c1 := HGX.out.c1
  obtain ⟨g', c', eg, q⟩ := own_job HGX.out.jown HJ.out
  simp only [Value.slice.injEq, Option.some.injEq, Addr.mk.injEq] at eg
  obtain ⟨⟨rfl, _⟩, _, rfl⟩ := eg
  obtain ⟨q0, q1, q2, q3, q4, qf⟩ := q
  simp only [Nat.zero_add] at q0 q1 q2 q3 q4 z0 z1 z2 z3 z4
  have f0 := qf (N * 5)
  have f1 := qf (N * 5 + 1)
  have f2 := qf (N * 5 + 2)
  have f3 := qf (N * 5 + 3)
  have f4 := qf (N * 5 + 4)
  have HBX := mkHid hBX
  clear qf zf hBX
  have hbg : ¬ b = g := fun e => HGX.out.jb (by simp [Value.ownBlock, e])
  have hgb : ¬ g = b := fun e => hbg e.symm
  have hBg : ¬ B = g := HBB.out.1
  have hgB : ¬ g = B := fun e => hBg e.symm
  go_region_held3 (fun w' => w'.cell? ⟨b, 1, none⟩ = some (.slice (some ⟨g, 0, none⟩) s.js.length c) ∧ w'.cell? ⟨B, 0, none⟩ = some (.int .i64 (tj : Int)) ∧ w'.cell? ⟨B, 1, none⟩ = some (.int .i64 rj) ∧ w'.cell? ⟨B, 2, none⟩ = some (.int .i64 dj) ∧ w'.cell? ⟨B, 3, none⟩ = some (.int .i64 L) ∧ w'.cell? ⟨B, 4, none⟩ = some (.int .i64 (nj + 1))) (go_keep) (fail)
  all_goals
    obtain ⟨Y, hY⟩ : ∃ Y, Y = (((((X.setCell ⟨g, N * 5, none⟩ (.int .i64 (tj : Int))).setCell ⟨g, N * 5 + 1, none⟩ (.int .i64 rj)).setCell ⟨g, N * 5 + 2, none⟩ (.int .i64 dj)).setCell ⟨g, N * 5 + 3, none⟩ (.int .i64 L)).setCell ⟨g, N * 5 + 4, none⟩ (.int .i64 (nj + 1))).drew := ⟨_, rfl⟩
    have hkY : Kept (fun k => k = g) X Y := by
      rw [hY]
      exact (kset (kset (kset (kset (kset (Kept.refl (fun k => k = g) X) (.inl rfl) _ _) (.inl rfl) _ _) (.inl rfl) _ _) (.inl rfl) _ _) (.inl rfl) _ _).trans (Kept.drew (fun k => k = g) _) (fun _ h => .inl h)
    have HO4 : Hid (Y.ownsRow base 45 5 (.slice (some ⟨g, 0, none⟩) s.js.length c) s.js.length ((s.js.set N ⟨tj, rj, dj, L, nj + 1⟩).flatMap cj)) := mkHid (by
      rw [hY]
      exact ownN_kept (own_setJ HGX.out.jown HJ.out ⟨tj, rj, dj, L, nj + 1⟩) (Kept.drew (fun _ => False) _) (fun _ _ h => h))
    have hb4 := (hkY.block _ (lt_of_heap HBX.out) hBg).trans HBX.out
    have hr4 := (hkY.block _ (lt_of_heap HR4.out) (by have := HBB.out; omega)).trans HR4.out
    have hg4 := (hkY.block _ HGX.out.lt hbg).trans HGX.out.blk
    have HR5 := mkHid hr4
    have HGB := mkHid hg4
    have HK5 := mkHid hkY
    rw [← hY]
    clear hY hkY c1 z0 z1 z2 z3 z4 q0 q1 q2 q3 q4 f0 f1 f2 f3 f4
    obtain ⟨z0, z1, z2, z3, z4, zf⟩ := J5.of_blk hb4
    obtain ⟨r0, r1, r2, r3, r4, rf⟩ := J5.of_blk (j := j0) hr4
    have f0 := rf 0
    have f1 := rf 1
    have f2 := rf 2
    have f3 := rf 3
    have f4 := rf 4
    simp only [Nat.zero_add] at z0 z1 z2 z3 z4 r0 r1 r2 r3 r4
    clear hb4 hr4 hg4 rf zf
    have n1 : ¬ b = w.heap.size := (by have := HBB.out; omega)
    have n2 : ¬ w.heap.size = b := (by have := HBB.out; omega)
    have n5 : ¬ B = w.heap.size := (by have := HBB.out; omega)
    have n6 : ¬ w.heap.size = B := (by have := HBB.out; omega)
    go_wp2
    have hk8 := set5k (fun k => k = w.heap.size) Y w.heap.size rfl (.int .i64 (tj : Int)) (.int .i64 rj) (.int .i64 dj) (.int .i64 L) (.int .i64 (nj + 1))
    have eR : runL N ⟨tj, rj, dj, lj, nj⟩ s.js = s.js.set N ⟨tj, rj, dj, L, nj + 1⟩ := by
      rw [HL.out]
      exact if_neg hlf
    have eN : (s.js.set N ⟨tj, rj, dj, L, nj + 1⟩).length = s.js.length := by simp
    refine bodyPost_ret (leavesCTT (cs := #[.int .i64 (tj : Int), .int .i64 rj, .int .i64 dj, .int .i64 L, .int .i64 (nj + 1)]) rfl ?_ Tryd.underlying45 size_job _ rfl) rfl ⟨by rw [HL.out]; rfl, ?_⟩
    · rw [heap_set (heap_set (heap_set (heap_set (heap_set HR5.out))))]; rfl
    · rw [eR]
      refine GC.mk (jv' := .slice (some ⟨g, 0, none⟩) s.js.length c) ⟨(hk8.block b (lt_of_heap HGB.out) n1).trans HGB.out, ?_, ?_, HGX.out.bb, HGX.out.tb, HGX.out.jb, HGX.out.tj⟩ ?_ (fun k e => .inl e)
      · exact ownN_kept (ownN_kept HGX.out.town HK5.out (fun k e e2 => HGX.out.tj k e (by simp [Value.ownBlock, e2]))) hk8 (fun k e e2 => by have := (HG.out.town.lt k e).2; omega)
      · show World.ownsRow _ _ _ _ _ (s.js.set N ⟨tj, rj, dj, L, nj + 1⟩).length _
        rw [eN]
        exact ownN_kept HO4.out hk8 (fun k e e2 => by
          simp [Value.ownBlock] at e
          have := HBB.out
          omega)
      · refine (HK4.out.trans HK5.out (fun k e => .inl (.inr (.inr (by simp [Value.ownBlock, e]))))).trans hk8 (fun k e => .inr (by omega))
end Go.Proofs.YthncfkeoephipaaDoor
