/- The document's guest: Run. -/
import Derived.Test.YthncfkeoephipaaDoorGp2
namespace Go.Proofs.YthncfkeoephipaaDoor
open Go.ChangeShapes Go.WideShapes Go.ChangeAt Go.RowKit
attribute [local go_sem] World.cell?_alloc_some frozen_alloc_some

theorem step_append_src5D {P : Program} {ops : Array Oper} {o : Oper} {l : List Value} {df : List Deferred} {w : World} {K : Act → World → Prop} {Q : Exit → Act → World → Prop} {E : Prop} (d : Nat) (hd : o.dst = some d) (hgd : o.guard = none) (sl x : Operand) (t tx : TypeId)
    (hop : o.op = .call { callee := .builtin .append, args := #[sl, x], argTypes := #[t, tx] })
    (base : Nat) (e : TypeId) (i : TypeInfo) (ht : P.underlying t = some (.slice e)) (hi : P.info? e = some i) (z : Value) (B : Nat) (hz : i.zero = some z) (hzs : z.cells.size = 5) (hsize : i.size = 5) (hby : i.bytes = B)
    (v : Value) (n : Nat) (xs : List Value) (hs : Act.eval ⟨l.toArray, df⟩ sl = v) (hown : w.ownsRow base e 5 v n xs) (xv : Value) (m : Nat) (news : List Value) (hx : Act.eval ⟨l.toArray, df⟩ x = xv) (hsrc : Src P 5 tx xv m news w)
    (h63 : n + m ≤ maxLen) (hbytes : (n + m) * B ≤ 140737488355328) (hbase : base ≤ w.heap.size)
    (h : ∀ v' w', w'.ownsRow base e 5 v' (n + m) (xs ++ news) → w.grownBy w' v.ownBlock → (v'.ownBlock = v.ownBlock ∨ v'.ownBlock = some w.heap.size) → K ⟨(l.set d v').toArray, df⟩ w') :
    if Region.wanted o (yielded ops (Act.tmps ⟨l.toArray, df⟩)) = true then Oper.wp P o ⟨l.toArray, df⟩ w K Q else E :=
  step_append_src5 hgd sl x t tx hop base e i ht hi z B hz hzs hsize hby v n xs hs hown xv m news hx hsrc h63 hbytes hbase (fun v' w' h1 h2 h3 => by
    rw [hd]
    simpa [Act.put] using h v' w' h1 h2 h3)
theorem own_run {w : World} {base : Nat} {e : TypeId} {g n cap : Nat} {js : List Jb} (h : w.ownsRow base e 5 (.slice (some ⟨g, 0, none⟩) n cap) n (js.flatMap cj)) {j : Nat} {x : Jb} (hx : js[j]? = some x) : ((w.setCell ⟨g, j * 5 + 3, none⟩ (.int .i64 (x.lf - 1))).setCell ⟨g, j * 5 + 4, none⟩ (.int .i64 (x.dn + 1))).ownsRow base e 5 (.slice (some ⟨g, 0, none⟩) n cap) n ((js.set j x.ran).flatMap cj) := by
  have l : j < js.length := (List.getElem?_eq_some_iff.mp hx).1
  have a0 := own_put h (j * 5 + 3) (.int .i64 (x.lf - 1))
  rw [fl_set cj 5 cj_len js j 3 x ⟨x.tk, x.rl, x.dl, x.lf - 1, x.dn⟩ _ hx (by omega) rfl] at a0
  have g1 : (js.set j ⟨x.tk, x.rl, x.dl, x.lf - 1, x.dn⟩)[j]? = some ⟨x.tk, x.rl, x.dl, x.lf - 1, x.dn⟩ := by simp [l]
  have a1 := own_put a0 (j * 5 + 4) (.int .i64 (x.dn + 1))
  rw [fl_set cj 5 cj_len _ j 4 _ ⟨x.tk, x.rl, x.dl, x.lf - 1, x.dn + 1⟩ _ g1 (by omega) rfl, List.set_set] at a1
  exact a1
theorem DG.jobs {F : Nat → Prop} {base : Nat} {w w' : World} {b : Nat} {p : Int} {tv lv jv jv' : Value} {ls : List Int} {s : Gt} {js' : List Jb} (h : DG base w b p tv lv jv ls s) (hk : Kept F w w') (hF : ∀ k, F k → (tv.ownBlock ≠ some k ∧ lv.ownBlock ≠ some k) ∨ w.heap.size ≤ k) (hb : w'.heap[b]? = some (.cells #[.int .i64 p, tv, lv, jv'] 70 (0, 0)))
    (hj : w'.ownsRow base 45 5 jv' js'.length (js'.flatMap cj)) (jb : jv'.ownBlock ≠ some b) (tj : ∀ k, tv.ownBlock = some k → jv'.ownBlock ≠ some k) (lj : ∀ k, lv.ownBlock = some k → jv'.ownBlock ≠ some k) : DG base w' b p tv lv jv' ls ⟨s.xs, js'⟩ :=
  ⟨hb, ownN_kept h.town hk (fun k e f => by rcases hF k f with q | q; exact q.1 e; have := (h.town.lt k e).2; omega), ownN_kept h.lown hk (fun k e f => by rcases hF k f with q | q; exact q.2 e; have := (h.lown.lt k e).2; omega), hj, h.bb, h.tb, h.lb, jb, h.tl, tj, lj, h.ll, h.rel⟩
theorem drun_none (base : Nat) (w : World) (b : Nat) (p : Int) (tv lv jv : Value) (ls : List Int) (s : Gt) (h : DG base w b p tv lv jv ls s) (ok : s.Ok p) (hl : s.js.length = 0) : Calls Tryd.prog 16 #[.pointer (some ⟨b, 0, none⟩)] w fun e w' => e = .returned (.tuple #[vJ j0, .bool false, .int .i64 16]) ∧ Below w.heap.size w w' := by
  have HN : Hid (∀ W, Below w.heap.size w W → Calls Tryd.prog 26 #[.pointer (some ⟨b, 0, none⟩)] W fun e w' => e = .returned (.int .i64 (-1)) ∧ Below W.heap.size W w') := mkHid (fun W hW => dnext_is base W b p tv lv jv ls s (h.below hW) ok (-1) (by rw [if_pos hl]))
  clear h ok hl
  go_enter Tryd.func16, Tryd.ntmps16
  go_wp2_with (go_at_call 26; refine (HN.out _ (ba (Below.refl _ w) _)).mono ?_; rintro e w2 ⟨rfl, b2⟩; obtain ⟨hr2, hb2⟩ := new_last b2; have HR2 := mkHid hr2; have HB2 := mkHid hb2; obtain ⟨r0, r1, r2, r3, r4, rf⟩ := J5.of_blk (j := j0) hr2; have f0 := rf 0; have f1 := rf 1; have f2 := rf 2; have f3 := rf 3; have f4 := rf 4; simp only [Nat.zero_add] at r0 r1 r2 r3 r4; clear b2 hr2 hb2 rf)
  refine bodyPost_ret (leavesCTT (cs := #[.int .i64 0, .int .i64 0, .int .i64 0, .int .i64 0, .int .i64 0]) rfl ?_ Tryd.underlying45 size_job _ rfl) rfl ⟨rfl, ?_⟩
  · rw [heap_set (heap_set (heap_set (heap_set (heap_set HR2.out))))]; rfl
  · exact HB2.out.trans (Kept.below (set5k (fun k => k = w.heap.size) w2 w.heap.size rfl _ _ _ _ _) (fun k e => by omega) HB2.out.size)
set_option maxHeartbeats 12800000 in
theorem drun_end (base : Nat) (w : World) (b : Nat) (p : Int) (tv lv jv : Value) (ls : List Int) (s : Gt) (j : Jb) (h : DG base w b p tv lv jv ls s) (ok : s.Ok p) (hj : s.js[nx p s.ts s.js]? = some j) (hlf : j.lf = 1) : Calls Tryd.prog 16 #[.pointer (some ⟨b, 0, none⟩)] w fun e w' => e = .returned (.tuple #[vJ j.ran, .bool true, .int .i64 0]) ∧ DC base w b p tv lv jv ⟨s.xs, runL (nx p s.ts s.js) j s.js⟩ w' := by
  obtain ⟨ie, hie1, hz0, hz1, hz2⟩ := info_parts info_job
  have hie := mkHid (And.intro hie1 (And.intro hz0 (And.intro hz1 hz2)))
  clear hie1 hz0 hz1 hz2
  have hn := (List.getElem?_eq_some_iff.mp hj).1
  have hl : ¬ s.js.length = 0 := by omega
  have hl64 := ok.l
  have hcap : 1 ≤ j.lf ∧ 0 ≤ j.dn ∧ j.lf + j.dn ≤ 256 := by
    obtain ⟨x, hx, jo, _⟩ := ok.j _ _ hj
    obtain ⟨k1, k2, k3, k4, k5, k6⟩ := ok.ok x (List.mem_of_getElem? hx)
    have := jo.c
    exact ⟨jo.l, jo.n, by omega⟩
  obtain ⟨hlf1, hdn0, hcap⟩ := hcap
  obtain ⟨N, hN⟩ : ∃ N, N = nx p s.ts s.js := ⟨_, rfl⟩
  have HN : Hid (∀ W, Below w.heap.size w W → Calls Tryd.prog 26 #[.pointer (some ⟨b, 0, none⟩)] W fun e w' => e = .returned (.int .i64 (N : Int)) ∧ Below W.heap.size W w') := mkHid (fun W hW => dnext_is base W b p tv lv jv ls s (h.below hW) ok _ (by rw [if_neg hl, hN]))
  rw [← hN] at hj hn ⊢
  obtain ⟨g, c, rfl, _⟩ := own_job h.jown hj
  have HCAP : Hid (s.js.length ≤ c) := mkHid (by obtain ⟨_, _, e, hc⟩ := own_sh h.jown; simp only [Value.slice.injEq] at e; rw [e.2.2]; exact hc)
  have hNi : (N : Int) < s.js.length := by omega
  have HG := mkHid h
  have HJ := mkHid hj
  have HNE : Hid (¬ b = g ∧ ¬ g = b ∧ g < w.heap.size ∧ b < w.heap.size ∧ tv.ownBlock ≠ some g ∧ lv.ownBlock ≠ some g) := mkHid ⟨fun e => h.jb (by rw [e]; rfl), fun e => h.jb (by rw [← e]; rfl), (h.jown.lt g rfl).2, h.lt, fun e => h.tj g e rfl, fun e => h.lj g e rfl⟩
  clear h ok hj hN hl
  obtain ⟨tj, rj, dj, lj, nj⟩ := j
  simp only at hlf hlf1 hdn0 hcap
  subst hlf
  have eD : IntKind.i64.wrap (nj + 1) = nj + 1 := wfit (by omega) (by omega)
  go_enter Tryd.func16, Tryd.ntmps16
  go_wp2_with (go_at_call 26; refine (HN.out _ (ba (Below.refl _ w) _)).mono ?_; rintro e w2 ⟨rfl, b2⟩; obtain ⟨hr2, hb2⟩ := new_last b2; have HR2 := mkHid hr2; have HB2 := mkHid hb2; have HG2 := mkHid (HG.out.below hb2); clear b2 hr2 hb2; have c3 := HG2.out.c3; obtain ⟨g', c', eg', q⟩ := own_job HG2.out.jown HJ.out; simp only [Value.slice.injEq, Option.some.injEq, Addr.mk.injEq] at eg'; obtain ⟨⟨rfl, _⟩, _, rfl⟩ := eg'; obtain ⟨q0, q1, q2, q3, q4, qf⟩ := q; simp only at q0 q1 q2 q3 q4; have p3 := qf (N * 5 + 3); have p4 := qf (N * 5 + 4); clear qf; have nb1 := HNE.out.1; have nb2 := HNE.out.2.1)
  obtain ⟨X1, hX1⟩ : ∃ X1, X1 = ((w2.setCell ⟨g, N * 5 + 3, none⟩ (.int .i64 0)).setCell ⟨g, N * 5 + 4, none⟩ (.int .i64 (nj + 1))) := ⟨_, rfl⟩
  have hk1 : Kept (fun k => k = g) w2 X1 := by rw [hX1]; exact kset (kset (Kept.refl (fun k => k = g) w2) (.inl rfl) _ _) (.inl rfl) _ _
  have HO1 : Hid (X1.ownsRow base 45 5 (.slice (some ⟨g, 0, none⟩) s.js.length c) s.js.length ((s.js.set N ⟨tj, rj, dj, 0, nj + 1⟩).flatMap cj)) := mkHid (by
    have := own_run HG2.out.jown HJ.out
    simp only [Jb.ran] at this
    rw [hX1]
    exact this)
  have HB1 := mkHid ((hk1.block b HG2.out.lt nb1).trans HG2.out.blk)
  have HR1 : Hid (X1.heap[w.heap.size]? = some (.cells #[.int .i64 0, .int .i64 0, .int .i64 0, .int .i64 0, .int .i64 0] 45)) := mkHid ((hk1.block _ (lt_of_heap HR2.out) (by have := HNE.out; omega)).trans HR2.out)
  obtain ⟨X2, hX2⟩ : ∃ X2, X2 = X1.alloc (.cells #[.int .i64 (tj : Int), .int .i64 rj, .int .i64 dj, .int .i64 0, .int .i64 (nj + 1)] 45) := ⟨_, rfl⟩
  have b2' : Below X1.heap.size X1 X2 := by rw [hX2]; exact ba (Below.refl _ _) _
  have HO2 := mkHid (ownN_kept HO1.out (kept_new (F := fun _ => False) b2') (fun _ _ f => f))
  have HBB := mkHid (blk_late HB1.out b2')
  have HRR := mkHid (blk_late HR1.out b2')
  have HX2 : Hid (X2.heap[X1.heap.size]? = some (oJ ⟨tj, rj, dj, 0, nj + 1⟩)) := mkHid (by rw [hX2]; exact heap_alloc_new X1 _)
  have hsz : X1.heap.size = w2.heap.size := by rw [hX1]; simp [World.setCell]
  rw [hsz] at HX2
  have HKX : Hid (Kept (fun k => k = b ∨ k = g) w X2) := mkHid (((kept_new HB2.out).trans hk1 (fun k e => .inl (.inr e))).trans (kept_new (F := fun _ => False) b2') (fun _ f => f.elim))
  have HSZ : Hid (w.heap.size < w2.heap.size ∧ w2.heap.size < X2.heap.size) := mkHid ⟨lt_of_heap HR2.out, lt_of_heap HX2.out⟩
  rw [← hX1, ← hX2]
  clear hX1 hX2 hk1 b2' hsz c3 q0 q1 q2 q3 q4 p3 p4 HB1 HR1 HO1
  generalize w2.heap.size = B at *
  have c3 : X2.cell? ⟨b, 3, none⟩ = some (.slice (some ⟨g, 0, none⟩) s.js.length c) := cell_of_block HBB.out rfl
  have hsl1 : ∀ W, (Instr.slice 54 (.slice (some ⟨g, 0, none⟩) s.js.length c) none (some (.int .i64 (N : Int))) none).run Tryd.prog W = .ok (.slice (some ⟨g, 0, none⟩) N c) W := fun W => by
    rw [run_slice_h W 54 _ _ _ elemJ.1 .i64 _ (by omega) (by have := HCAP.out; omega), elemJ.2, sizeJ]
    simp only [Result.andThen, Go.sliced]
    simp [add_none]
  obtain ⟨SV, hSV⟩ : ∃ SV, SV = Go.sliced (some ⟨g, 0, none⟩) (N + 1) s.js.length c 5 := ⟨_, rfl⟩
  have hsl2 : ∀ W, (Instr.slice 54 (.slice (some ⟨g, 0, none⟩) s.js.length c) (some (.int .i64 ((N : Int) + 1))) none none).run Tryd.prog W = .ok SV W := fun W => by
    rw [run_slice_l W 54 _ _ _ elemJ.1 .i64 _ (by omega) (by omega), elemJ.2, sizeJ, hSV]
    simp only [Result.andThen]
    rfl
  have eN1 : IntKind.i64.wrap ((N : Int) + 1) = (N : Int) + 1 := wfit (by omega) (by omega)
  have htk : (s.js.set N ⟨tj, rj, dj, 0, nj + 1⟩).take N = s.js.take N := List.take_set_of_le (Nat.le_refl _)
  have hdr : (s.js.set N ⟨tj, rj, dj, 0, nj + 1⟩).drop (N + 1) = s.js.drop (N + 1) := List.drop_set_of_lt (by omega)
  have HSR1 : Hid (∀ W, Below X2.heap.size X2 W → RowIn 5 cj W (.slice (some ⟨g, 0, none⟩) N c) (s.js.take N)) := mkHid (fun W hW => by
    have h1 := own_shorter (m := N) HO2.out (by omega)
    rw [fl_take cj 5 cj_len, htk] at h1
    have hlt : (s.js.take N).length = N := by rw [List.length_take]; omega
    have h2 : X2.ownsRow base 45 5 (.slice (some ⟨g, 0, none⟩) N c) (s.js.take N).length ((s.js.take N).flatMap cj) := by rw [hlt]; exact h1
    exact (RowIn.of_owns cj_len (by omega) h2).below hW)
  have HSR2 : Hid (∀ W, Below X2.heap.size X2 W → RowIn 5 cj W SV (s.js.drop (N + 1))) := mkHid (fun W hW => by
    refine RowIn.below ?_ hW
    rw [hSV]
    unfold Go.sliced
    by_cases hc : c = N + 1
    · have : s.js.drop (N + 1) = [] := by rw [List.drop_eq_nil_iff]; have := HCAP.out; omega
      rw [if_pos hc, this]
      exact ⟨_, _, by rw [show s.js.length - (N + 1) = 0 by have := HCAP.out; omega]; rfl, Nat.zero_le _, by simp, fun hp => by simp at hp⟩
    · rw [if_neg hc]
      refine ⟨_, _, by rw [List.length_drop], by rw [List.length_drop]; have := HCAP.out; omega, by rw [List.length_drop]; omega, fun hp => ⟨g, (N + 1) * 5, by simp [add_none], fun i x hx r u hr hu => ?_⟩⟩
      rw [← hdr, List.getElem?_drop] at hx
      have := (own_cell HO2.out ((fl_get cj 5 cj_len _ (N + 1 + i) r x hx hr).trans hu)).1
      rw [show (N + 1) * 5 + i * 5 + r = (N + 1 + i) * 5 + r by omega]
      exact this)
  have HSVS : Hid (∃ a n c2, SV = .slice a n c2) := mkHid (by rw [hSV]; unfold Go.sliced; split <;> exact ⟨_, _, _, rfl⟩)
  obtain ⟨sva, svn, svc, hsv⟩ := HSVS.out
  subst hsv
  clear hSV htk hdr HSVS
  have hT : X2.drew.cell? ⟨b, 3, none⟩ = some (.slice (some ⟨g, 0, none⟩) s.js.length c) := c3
  refine wp_region_till (fun w' => w'.cell? ⟨b, 3, none⟩ = some (.slice (some ⟨g, 0, none⟩) s.js.length c)) 19 (by kernel_rfl) ?_
  refine freeD 0 44 (.pointer (some ⟨b, 0, none⟩)) rfl rfl (by kernel_rfl) (by kernel_rfl) (by kernel_rfl) (by decide) (fun _ _ _ h => h) (fun _ => hT) (Or.inl ⟨by kernel_rfl, by intro w _; go_simp⟩) ?_
  simp only [List.set_cons_zero, List.set_cons_succ]
  refine freeD 2 46 (.pointer (some ⟨b, 0, none⟩)) rfl rfl (by kernel_rfl) (by kernel_rfl) (by kernel_rfl) (by decide) (fun _ _ _ h => h) (fun _ => hT) (Or.inl ⟨by kernel_rfl, by intro w _; go_simp⟩) ?_
  simp only [List.set_cons_zero, List.set_cons_succ]
  refine freeD 3 47 (.pointer (some ⟨b, 0, none⟩)) rfl rfl (by kernel_rfl) (by kernel_rfl) (by kernel_rfl) (by decide) (fun _ _ _ h => h) (fun _ => hT) (Or.inl ⟨by kernel_rfl, by intro w _; go_simp⟩) ?_
  simp only [List.set_cons_zero, List.set_cons_succ]
  refine freeD 4 48 (.pointer (some ⟨b, 3, none⟩)) rfl rfl (by kernel_rfl) (by kernel_rfl) (by kernel_rfl) (by decide) (fun _ _ _ h => h) (fun _ => hT) (Or.inl ⟨by kernel_rfl, by intro w _; go_simp⟩) ?_
  simp only [List.set_cons_zero, List.set_cons_succ]
  refine firstD 5 49 (.slice (some ⟨g, 0, none⟩) s.js.length c) rfl rfl (by kernel_rfl) (by kernel_rfl) (by kernel_rfl) (by kernel_rfl) (by decide) (by kernel_rfl) (fun _ _ _ h => h) (Or.inl ⟨by kernel_rfl, by intro w hSw; (try dsimp only at hSw); go_simp⟩) hT ?_
  simp only [List.set_cons_zero, List.set_cons_succ]
  refine freeD 6 50 (.int .i64 (N : Int)) rfl rfl (by kernel_rfl) (by kernel_rfl) (by kernel_rfl) (by decide) (fun _ _ _ h => h) (fun _ => hT) (Or.inl ⟨by kernel_rfl, by intro w _; go_simp⟩) ?_
  simp only [List.set_cons_zero, List.set_cons_succ]
  refine freeD 7 51 (.slice (some ⟨g, 0, none⟩) N c) rfl rfl (by kernel_rfl) (by kernel_rfl) (by kernel_rfl) (by decide) (fun _ _ _ h => h) (fun _ => hT) (Or.inl ⟨by kernel_rfl, by intro w _; exact yields_slice (t := 54) rfl elemJ.1 (by simpa [Act.eval] using hsl1) w⟩) ?_
  simp only [List.set_cons_zero, List.set_cons_succ]
  refine freeD 9 53 (.pointer (some ⟨b, 0, none⟩)) rfl rfl (by kernel_rfl) (by kernel_rfl) (by kernel_rfl) (by decide) (fun _ _ _ h => h) (fun _ => hT) (Or.inl ⟨by kernel_rfl, by intro w _; go_simp⟩) ?_
  simp only [List.set_cons_zero, List.set_cons_succ]
  refine freeD 10 54 (.pointer (some ⟨b, 0, none⟩)) rfl rfl (by kernel_rfl) (by kernel_rfl) (by kernel_rfl) (by decide) (fun _ _ _ h => h) (fun _ => hT) (Or.inl ⟨by kernel_rfl, by intro w _; go_simp⟩) ?_
  simp only [List.set_cons_zero, List.set_cons_succ]
  refine freeD 11 55 (.pointer (some ⟨b, 3, none⟩)) rfl rfl (by kernel_rfl) (by kernel_rfl) (by kernel_rfl) (by decide) (fun _ _ _ h => h) (fun _ => hT) (Or.inl ⟨by kernel_rfl, by intro w _; go_simp⟩) ?_
  simp only [List.set_cons_zero, List.set_cons_succ]
  refine firstD 12 56 (.slice (some ⟨g, 0, none⟩) s.js.length c) rfl rfl (by kernel_rfl) (by kernel_rfl) (by kernel_rfl) (by kernel_rfl) (by decide) (by kernel_rfl) (fun _ _ _ h => h) (Or.inl ⟨by kernel_rfl, by intro w hSw; (try dsimp only at hSw); go_simp⟩) hT ?_
  simp only [List.set_cons_zero, List.set_cons_succ]
  refine freeD 13 57 (.int .i64 (N : Int)) rfl rfl (by kernel_rfl) (by kernel_rfl) (by kernel_rfl) (by decide) (fun _ _ _ h => h) (fun _ => hT) (Or.inl ⟨by kernel_rfl, by intro w _; go_simp⟩) ?_
  simp only [List.set_cons_zero, List.set_cons_succ]
  refine freeD 14 58 (.int .i64 ((N : Int) + 1)) rfl rfl (by kernel_rfl) (by kernel_rfl) (by kernel_rfl) (by decide) (fun _ _ _ h => h) (fun _ => hT) (Or.inl ⟨by kernel_rfl, by intro w _; go_simp⟩) ?_
  simp only [List.set_cons_zero, List.set_cons_succ]
  refine freeD 15 59 (.slice sva svn svc) rfl rfl (by kernel_rfl) (by kernel_rfl) (by kernel_rfl) (by decide) (fun _ _ _ h => h) (fun _ => hT) (Or.inl ⟨by kernel_rfl, by intro w _; exact yields_slice (t := 54) rfl elemJ.1 (by simpa [Act.eval] using hsl2) w⟩) ?_
  simp only [List.set_cons_zero, List.set_cons_succ]
  refine wpT_ready (rs := [1]) (by kernel_rfl) (by simp) (AllT.cons rfl (fun K hK => ?_) AllT.nil)
  go_simp
  obtain ⟨W4, hW4⟩ : ∃ W4, W4 = (X2.alloc (.cells #[] 45)).drew := ⟨_, rfl⟩
  have b4 : Below X2.heap.size X2 W4 := by rw [hW4]; exact (ba (Below.refl _ _) _).drew
  have HM4 : Hid (W4.ownsRow base 45 5 (.slice (some ⟨X2.heap.size, 0, none⟩) 0 0) 0 []) := mkHid (by
    rw [hW4]
    exact ownN_kept (own_lower (World.ownsRow_made (base := X2.heap.size) (e := 45) (size := 5) X2 #[] 0 (Nat.le_refl _) (by unfold maxLen; omega) rfl) (by have := HG2.out.base_le; have := HSZ.out; have := HKX.out.size; have := HG.out.base_le; omega)) (Kept.drew (fun _ => False) _) (fun _ _ f => f))
  have HB4 := mkHid b4
  have hb4 := blk_late HBB.out b4
  have d3 : W4.cell? ⟨b, 3, none⟩ = some (.slice (some ⟨g, 0, none⟩) s.js.length c) := cell_of_block hb4 rfl
  have HBL4 := mkHid hb4
  have HBS : Hid (base ≤ X2.heap.size) := mkHid (by have := HG.out.base_le; have := HKX.out.size; omega)
  rw [← hW4]
  clear hW4 b4 hT hb4
  refine hK.out _ _ (fun _ => d3) ?_
  clear hK K
  (try simp only [Act.put])
  have HY : Hid (X2.heap.size < W4.heap.size ∧ X2.heap.size = X2.heap.size) := mkHid ⟨(HM4.out.lt _ rfl).2, rfl⟩
  obtain ⟨y3, hy3⟩ : ∃ y, y = X2.heap.size := ⟨_, rfl⟩
  have HY3 := mkHid hy3
  rw [← hy3] at HM4 ⊢
  clear hy3
  refine wpT_ready (rs := [8]) (by kernel_rfl) (by simp) (AllT.cons rfl (fun K hK => ?_) AllT.nil)
  refine step_append_src5D (w := W4) 52 rfl rfl (.tmp 45) (.tmp 51) 54 54 rfl base 45 ie Tryd.underlying54 hie.out.1 (.agg #[.int .i64 0, .int .i64 0, .int .i64 0, .int .i64 0, .int .i64 0]) 40 hie.out.2.1 rfl hie.out.2.2.1 hie.out.2.2.2 (.slice (some ⟨y3, 0, none⟩) 0 0) 0 [] (by simp [Act.eval]) HM4.out _ (s.js.take N).length ((s.js.take N).flatMap cj) (by simp [Act.eval]) (RowIn.src Tryd.underlying54 (by omega) cj_len onej (HSR1.out _ HB4.out)) (by rw [List.length_take]; unfold maxLen; omega) (by rw [List.length_take]; omega) (by have := HBS.out; have := HB4.out.size; omega) ?_
  intro v5 w5 ho5 hg5 hat5
  rw [Nat.zero_add, List.nil_append] at ho5
  have HK5 : Hid (Kept (fun k => X2.heap.size ≤ k) X2 w5) := mkHid ((kept_of_below HB4.out).trans (Kept.grown hg5 (F := fun k => k = y3) (fun k e => by simpa [Value.ownBlock] using e.symm)) (fun k e => .inl (by rw [e]; exact Nat.le_of_eq HY3.out.symm)))
  have HB5 : Hid (Below X2.heap.size X2 w5) := mkHid (HK5.out.below (fun k e => e) (Nat.le_refl _))
  have HV5 : Hid (∀ k, v5.ownBlock = some k → X2.heap.size ≤ k) := mkHid (fun k e => by
    rcases hat5 with a | a
    · rw [a] at e; have e' : y3 = k := (by simpa [Value.ownBlock] using e); have := HY3.out; omega
    · rw [a] at e; simp at e; have := HB4.out.size; omega)
  have HO5 := mkHid ho5
  obtain ⟨va5, vc5, hv5, _⟩ := own_sh ho5
  subst hv5
  have hb5 := blk_late HBB.out HB5.out
  have d5 : w5.cell? ⟨b, 3, none⟩ = some (.slice (some ⟨g, 0, none⟩) s.js.length c) := cell_of_block hb5 rfl
  clear ho5 hg5 hat5 hb5 d3
  refine hK.out _ _ (fun _ => d5) ?_
  clear hK K
  simp only [List.set_cons_zero, List.set_cons_succ]
  refine wpT_ready (rs := [16]) (by kernel_rfl) (by simp) (AllT.cons rfl (fun K hK => ?_) AllT.nil)
  refine step_append_src5D (w := w5) 60 rfl rfl (.tmp 52) (.tmp 59) 54 54 rfl base 45 ie Tryd.underlying54 hie.out.1 (.agg #[.int .i64 0, .int .i64 0, .int .i64 0, .int .i64 0, .int .i64 0]) 40 hie.out.2.1 rfl hie.out.2.2.1 hie.out.2.2.2 (.slice va5 (s.js.take N).length vc5) (s.js.take N).length ((s.js.take N).flatMap cj) (by simp [Act.eval]) HO5.out _ (s.js.drop (N + 1)).length ((s.js.drop (N + 1)).flatMap cj) (by simp [Act.eval]) (RowIn.src Tryd.underlying54 (by omega) cj_len onej (HSR2.out _ HB5.out)) (by rw [List.length_take, List.length_drop]; unfold maxLen; omega) (by rw [List.length_take, List.length_drop]; omega) (by have := HBS.out; have := HB5.out.size; omega) ?_
  intro v6 w6 ho6 hg6 hat6
  rw [← List.flatMap_append, ← List.eraseIdx_eq_take_drop_succ] at ho6
  have hle6 : (s.js.take N).length + (s.js.drop (N + 1)).length = (s.js.eraseIdx N).length := by rw [List.eraseIdx_eq_take_drop_succ, List.length_append]
  rw [hle6] at ho6
  have HB6 : Hid (Below X2.heap.size X2 w6) := mkHid (HB5.out.trans ((Kept.grown hg6 (F := fun k => (Value.slice va5 (s.js.take N).length vc5).ownBlock = some k) (fun k e => e)).below (fun k e => HV5.out k e) HB5.out.size))
  have HV6 : Hid (∀ k, v6.ownBlock = some k → X2.heap.size ≤ k) := mkHid (fun k e => by
    rcases hat6 with a | a
    · rw [a] at e; exact HV5.out k e
    · rw [a] at e; simp at e; have := HB5.out.size; omega)
  have HO6 := mkHid ho6
  obtain ⟨va6, vc6, hv6, _⟩ := own_sh ho6
  subst hv6
  have hb6 := blk_late HBB.out HB6.out
  have d6 : w6.cell? ⟨b, 3, none⟩ = some (.slice (some ⟨g, 0, none⟩) s.js.length c) := cell_of_block hb6 rfl
  have g6 : w6.frozen? ⟨b, 3, none⟩ = false := frozen_of_block hb6
  have HBL6 := mkHid hb6
  clear ho6 hg6 hat6 hb6 d5
  clear hle6
  refine hK.out _ _ (fun _ => d6) ?_
  clear hK K
  simp only [List.set_cons_zero, List.set_cons_succ]
  refine freeD 17 61 (.pointer (some ⟨b, 0, none⟩)) rfl rfl (by kernel_rfl) (by kernel_rfl) (by kernel_rfl) (by decide) (fun _ _ _ h => h) (fun _ => d6) (Or.inl ⟨by kernel_rfl, by intro w _; go_simp⟩) ?_
  simp only [List.set_cons_zero, List.set_cons_succ]
  refine freeD 18 62 (.pointer (some ⟨b, 3, none⟩)) rfl rfl (by kernel_rfl) (by kernel_rfl) (by kernel_rfl) (by decide) (fun _ _ _ h => h) (fun _ => d6) (Or.inl ⟨by kernel_rfl, by intro w _; go_simp⟩) ?_
  simp only [List.set_cons_zero, List.set_cons_succ]
  refine wpT_ready (rs := [19]) (by kernel_rfl) (by simp) (AllT.cons rfl (fun K hK => ?_) AllT.nil)
  go_simp
  refine hK.out _ _ (bool_no (by kernel_rfl)) ?_
  clear hK K
  refine wpT_done (by kernel_rfl) ?_ _
  obtain ⟨v6, hv6⟩ : ∃ v6, v6 = Value.slice va6 (s.js.eraseIdx N).length vc6 := ⟨_, rfl⟩
  rw [← hv6] at HO6 HV6 ⊢
  clear hv6 d6 g6 c3
  have hk7 : Kept (fun k => k = b) w6 (w6.setCell ⟨b, 3, none⟩ v6) := Kept.setCell (F := fun k => k = b) w6 (p := ⟨b, 3, none⟩) rfl v6
  have HB7 : Hid ((w6.setCell ⟨b, 3, none⟩ v6).heap[b]? = some (.cells #[.int .i64 p, tv, lv, v6] 70 (0, 0))) := mkHid (heap_set HBL6.out)
  have HBX7 : Hid ((w6.setCell ⟨b, 3, none⟩ v6).heap[B]? = some (oJ ⟨tj, rj, dj, 0, nj + 1⟩)) := mkHid ((hk7.block B (lt_of_heap (blk_late HX2.out HB6.out)) (by have := HNE.out; have := HSZ.out; omega)).trans (blk_late HX2.out HB6.out))
  have HR7 : Hid ((w6.setCell ⟨b, 3, none⟩ v6).heap[w.heap.size]? = some (.cells #[.int .i64 0, .int .i64 0, .int .i64 0, .int .i64 0, .int .i64 0] 45)) := mkHid ((hk7.block _ (lt_of_heap (blk_late HRR.out HB6.out)) (by have := HNE.out; omega)).trans (blk_late HRR.out HB6.out))
  have HO7 : Hid ((w6.setCell ⟨b, 3, none⟩ v6).ownsRow base 45 5 v6 (s.js.eraseIdx N).length ((s.js.eraseIdx N).flatMap cj)) := mkHid (ownN_kept HO6.out hk7 (fun k e f => by have := HV6.out k e; have := HNE.out; have := HSZ.out; omega))
  have HK7 : Hid (Kept (fun k => k = b ∨ k = g) w (w6.setCell ⟨b, 3, none⟩ v6)) := mkHid ((HKX.out.trans (kept_new (F := fun _ => False) HB6.out) (fun _ f => f.elim)).trans hk7 (fun k e => .inl (.inl e)))
  clear hk7
  generalize w6.setCell ⟨b, 3, none⟩ v6 = W7 at *
  obtain ⟨z0, z1, z2, z3, z4, _⟩ := J5.of_blk HBX7.out
  obtain ⟨r0, r1, r2, r3, r4, rf⟩ := J5.of_blk (j := j0) HR7.out
  have f0 := rf 0
  have f1 := rf 1
  have f2 := rf 2
  have f3 := rf 3
  have f4 := rf 4
  simp only [Nat.zero_add] at z0 z1 z2 z3 z4 r0 r1 r2 r3 r4
  clear rf
  have n5 : ¬ B = w.heap.size := (by have := HSZ.out; omega)
  have n6 : ¬ w.heap.size = B := (by have := HSZ.out; omega)
  obtain ⟨R, hR⟩ : ∃ R, R = w.heap.size := ⟨_, rfl⟩
  rw [← hR] at r0 r1 r2 r3 r4 f0 f1 f2 f3 f4 n5 n6 ⊢
  have HRE := mkHid hR
  clear hR
  go_wp2
  go_region_held3 (fun w' => w'.cell? ⟨B, 0, none⟩ = some (.int .i64 (tj : Int)) ∧ w'.cell? ⟨B, 1, none⟩ = some (.int .i64 rj) ∧ w'.cell? ⟨B, 2, none⟩ = some (.int .i64 dj) ∧ w'.cell? ⟨B, 3, none⟩ = some (.int .i64 0) ∧ w'.cell? ⟨B, 4, none⟩ = some (.int .i64 (nj + 1))) (go_keep) (fail)
  all_goals
    go_wp2
    have hk8 := set5k (fun k => k = R) W7 R rfl (.int .i64 (tj : Int)) (.int .i64 rj) (.int .i64 dj) (.int .i64 0) (.int .i64 (nj + 1))
    have hk9 := hk8.trans (Kept.drew (fun k => k = R) _) (fun _ f => .inl f)
    have eR : runL N ⟨tj, rj, dj, 1, nj⟩ s.js = (s.js.eraseIdx N) := if_pos rfl
    have hRn : ¬ R = b ∧ ¬ b = R ∧ (∀ k, tv.ownBlock = some k → ¬ k = R) ∧ (∀ k, lv.ownBlock = some k → ¬ k = R) := ⟨by have := HNE.out; have := HRE.out; omega, by have := HNE.out; have := HRE.out; omega, fun k e => by have := (HG.out.town.lt k e).2; have := HRE.out; omega, fun k e => by have := (HG.out.lown.lt k e).2; have := HRE.out; omega⟩
    have hjR : ∀ k, (v6 : Value).ownBlock = some k → ¬ k = R ∧ ¬ k = b ∧ tv.ownBlock ≠ some k ∧ lv.ownBlock ≠ some k := fun k e => by have h1 := HV6.out k e; have h2 := HSZ.out; have h3 := HRE.out; have h4 := HNE.out; exact ⟨by omega, by omega, fun q => by have := (HG.out.town.lt k q).2; omega, fun q => by have := (HG.out.lown.lt k q).2; omega⟩
    refine bodyPost_ret (leavesCTT (cs := #[.int .i64 (tj : Int), .int .i64 rj, .int .i64 dj, .int .i64 0, .int .i64 (nj + 1)]) rfl ?_ Tryd.underlying45 size_job _ rfl) rfl ⟨rfl, ?_⟩
    · have hr := HR7.out
      rw [← HRE.out] at hr
      exact (show ((((W7.setCell ⟨R, 0, none⟩ (.int .i64 (tj : Int))).setCell ⟨R, 1, none⟩ (.int .i64 rj)).setCell ⟨R, 2, none⟩ (.int .i64 dj)).setCell ⟨R, 3, none⟩ (.int .i64 0) |>.setCell ⟨R, 4, none⟩ (.int .i64 (nj + 1))).heap[R]? = _ from by rw [heap_set (heap_set (heap_set (heap_set (heap_set hr))))]; rfl)
    · rw [eR]
      refine DC.mk (jv' := v6) (ls' := ls) (HG.out.jobs (HK7.out.trans hk9 (fun k e => .inr (by have := HRE.out; omega))) (fun k e => .inl (by rcases e with e | e <;> subst e; exact ⟨HG.out.tb, HG.out.lb⟩; exact ⟨HNE.out.2.2.2.2.1, HNE.out.2.2.2.2.2⟩)) ((hk9.block b (lt_of_heap HB7.out) hRn.2.1).trans HB7.out) (ownN_kept HO7.out hk9 (fun k e f => (hjR k e).1 f)) (fun e => (hjR _ e).2.1 rfl) (fun k e e2 => (hjR k e2).2.2.1 e) (fun k e e2 => (hjR k e2).2.2.2 e)) ((HK7.out.trans hk9 (fun k e => .inr (by have := HRE.out; omega))).mono (fun k e => by rcases e with e | e; exact .inl e; exact .inr (.inr (.inr (by rw [e]; rfl))))) (fun k e => .inr (by have := HV6.out k e; have := HKX.out.size; omega))
set_option maxHeartbeats 12800000 in
theorem drun_on (base : Nat) (w : World) (b : Nat) (p : Int) (tv lv jv : Value) (ls : List Int) (s : Gt) (j : Jb) (h : DG base w b p tv lv jv ls s) (ok : s.Ok p) (hj : s.js[nx p s.ts s.js]? = some j) (hlf : ¬ j.lf = 1) : Calls Tryd.prog 16 #[.pointer (some ⟨b, 0, none⟩)] w fun e w' => e = .returned (.tuple #[vJ j.ran, .bool false, .int .i64 0]) ∧ DC base w b p tv lv jv ⟨s.xs, runL (nx p s.ts s.js) j s.js⟩ w' := by
  obtain ⟨ie, hie1, hz0, hz1, hz2⟩ := info_parts info_job
  have hie := mkHid (And.intro hie1 (And.intro hz0 (And.intro hz1 hz2)))
  clear hie1 hz0 hz1 hz2
  have hn := (List.getElem?_eq_some_iff.mp hj).1
  have hl : ¬ s.js.length = 0 := by omega
  have hl64 := ok.l
  have hcap : 1 ≤ j.lf ∧ 0 ≤ j.dn ∧ j.lf + j.dn ≤ 256 := by
    obtain ⟨x, hx, jo, _⟩ := ok.j _ _ hj
    obtain ⟨k1, k2, k3, k4, k5, k6⟩ := ok.ok x (List.mem_of_getElem? hx)
    have := jo.c
    exact ⟨jo.l, jo.n, by omega⟩
  obtain ⟨hlf1, hdn0, hcap⟩ := hcap
  obtain ⟨N, hN⟩ : ∃ N, N = nx p s.ts s.js := ⟨_, rfl⟩
  have HN : Hid (∀ W, Below w.heap.size w W → Calls Tryd.prog 26 #[.pointer (some ⟨b, 0, none⟩)] W fun e w' => e = .returned (.int .i64 (N : Int)) ∧ Below W.heap.size W w') := mkHid (fun W hW => dnext_is base W b p tv lv jv ls s (h.below hW) ok _ (by rw [if_neg hl, hN]))
  rw [← hN] at hj hn ⊢
  obtain ⟨g, c, rfl, _⟩ := own_job h.jown hj
  have HCAP : Hid (s.js.length ≤ c) := mkHid (by obtain ⟨_, _, e, hc⟩ := own_sh h.jown; simp only [Value.slice.injEq] at e; rw [e.2.2]; exact hc)
  have hNi : (N : Int) < s.js.length := by omega
  have HG := mkHid h
  have HJ := mkHid hj
  have HNE : Hid (¬ b = g ∧ ¬ g = b ∧ g < w.heap.size ∧ b < w.heap.size ∧ tv.ownBlock ≠ some g ∧ lv.ownBlock ≠ some g) := mkHid ⟨fun e => h.jb (by rw [e]; rfl), fun e => h.jb (by rw [← e]; rfl), (h.jown.lt g rfl).2, h.lt, fun e => h.tj g e rfl, fun e => h.lj g e rfl⟩
  clear h ok hj hN hl
  obtain ⟨tj, rj, dj, lj, nj⟩ := j
  simp only at hlf hlf1 hdn0 hcap
  have eD : IntKind.i64.wrap (nj + 1) = nj + 1 := wfit (by omega) (by omega)
  obtain ⟨L, hL⟩ : ∃ L, L = lj - 1 := ⟨_, rfl⟩
  have eL : IntKind.i64.wrap (lj - 1) = L := by rw [hL]; exact wfit (by omega) (by omega)
  have hL0 : (L == 0) = false := by rw [hL]; simp; omega
  have HL := mkHid hL
  clear hL
  go_enter Tryd.func16, Tryd.ntmps16
  go_wp2_with (go_at_call 26; refine (HN.out _ (ba (Below.refl _ w) _)).mono ?_; rintro e w2 ⟨rfl, b2⟩; obtain ⟨hr2, hb2⟩ := new_last b2; have HR2 := mkHid hr2; have HB2 := mkHid hb2; have HG2 := mkHid (HG.out.below hb2); clear b2 hr2 hb2; have c3 := HG2.out.c3; obtain ⟨g', c', eg', q⟩ := own_job HG2.out.jown HJ.out; simp only [Value.slice.injEq, Option.some.injEq, Addr.mk.injEq] at eg'; obtain ⟨⟨rfl, _⟩, _, rfl⟩ := eg'; obtain ⟨q0, q1, q2, q3, q4, qf⟩ := q; simp only at q0 q1 q2 q3 q4; have p3 := qf (N * 5 + 3); have p4 := qf (N * 5 + 4); clear qf; have nb1 := HNE.out.1; have nb2 := HNE.out.2.1)
  obtain ⟨X1, hX1⟩ : ∃ X1, X1 = ((w2.setCell ⟨g, N * 5 + 3, none⟩ (.int .i64 L)).setCell ⟨g, N * 5 + 4, none⟩ (.int .i64 (nj + 1))) := ⟨_, rfl⟩
  have hk1 : Kept (fun k => k = g) w2 X1 := by rw [hX1]; exact kset (kset (Kept.refl (fun k => k = g) w2) (.inl rfl) _ _) (.inl rfl) _ _
  have HO1 : Hid (X1.ownsRow base 45 5 (.slice (some ⟨g, 0, none⟩) s.js.length c) s.js.length ((s.js.set N ⟨tj, rj, dj, L, nj + 1⟩).flatMap cj)) := mkHid (by
    have := own_run HG2.out.jown HJ.out
    simp only [Jb.ran] at this
    rw [hX1, HL.out]
    exact this)
  have HB1 := mkHid ((hk1.block b HG2.out.lt nb1).trans HG2.out.blk)
  have HR1 : Hid (X1.heap[w.heap.size]? = some (.cells #[.int .i64 0, .int .i64 0, .int .i64 0, .int .i64 0, .int .i64 0] 45)) := mkHid ((hk1.block _ (lt_of_heap HR2.out) (by have := HNE.out; omega)).trans HR2.out)
  obtain ⟨X2, hX2⟩ : ∃ X2, X2 = X1.alloc (.cells #[.int .i64 (tj : Int), .int .i64 rj, .int .i64 dj, .int .i64 L, .int .i64 (nj + 1)] 45) := ⟨_, rfl⟩
  have b2' : Below X1.heap.size X1 X2 := by rw [hX2]; exact ba (Below.refl _ _) _
  have HO2 := mkHid (ownN_kept HO1.out (kept_new (F := fun _ => False) b2') (fun _ _ f => f))
  have HBB := mkHid (blk_late HB1.out b2')
  have HRR := mkHid (blk_late HR1.out b2')
  have HX2 : Hid (X2.heap[X1.heap.size]? = some (oJ ⟨tj, rj, dj, L, nj + 1⟩)) := mkHid (by rw [hX2]; exact heap_alloc_new X1 _)
  have hsz : X1.heap.size = w2.heap.size := by rw [hX1]; simp [World.setCell]
  rw [hsz] at HX2
  have HKX : Hid (Kept (fun k => k = b ∨ k = g) w X2) := mkHid (((kept_new HB2.out).trans hk1 (fun k e => .inl (.inr e))).trans (kept_new (F := fun _ => False) b2') (fun _ f => f.elim))
  have HSZ : Hid (w.heap.size < w2.heap.size ∧ w2.heap.size < X2.heap.size) := mkHid ⟨lt_of_heap HR2.out, lt_of_heap HX2.out⟩
  rw [← hX1, ← hX2]
  clear hX1 hX2 hk1 b2' hsz c3 q0 q1 q2 q3 q4 p3 p4 HB1 HR1 HO1
  generalize w2.heap.size = B at *
  have c3 : X2.cell? ⟨b, 3, none⟩ = some (.slice (some ⟨g, 0, none⟩) s.js.length c) := cell_of_block HBB.out rfl
  clear c3
  obtain ⟨z0, z1, z2, z3, z4, _⟩ := J5.of_blk HX2.out
  obtain ⟨r0, r1, r2, r3, r4, rf⟩ := J5.of_blk (j := j0) HRR.out
  have f0 := rf 0
  have f1 := rf 1
  have f2 := rf 2
  have f3 := rf 3
  have f4 := rf 4
  simp only [Nat.zero_add] at z0 z1 z2 z3 z4 r0 r1 r2 r3 r4
  clear rf
  have n5 : ¬ B = w.heap.size := (by have := HSZ.out; omega)
  have n6 : ¬ w.heap.size = B := (by have := HSZ.out; omega)
  obtain ⟨R, hR⟩ : ∃ R, R = w.heap.size := ⟨_, rfl⟩
  rw [← hR] at r0 r1 r2 r3 r4 f0 f1 f2 f3 f4 n5 n6 ⊢
  have HRE := mkHid hR
  clear hR
  go_wp2
  go_region_held3 (fun w' => w'.cell? ⟨B, 0, none⟩ = some (.int .i64 (tj : Int)) ∧ w'.cell? ⟨B, 1, none⟩ = some (.int .i64 rj) ∧ w'.cell? ⟨B, 2, none⟩ = some (.int .i64 dj) ∧ w'.cell? ⟨B, 3, none⟩ = some (.int .i64 L) ∧ w'.cell? ⟨B, 4, none⟩ = some (.int .i64 (nj + 1))) (go_keep) (fail)
  all_goals
    go_wp2
    have hk8 := set5k (fun k => k = R) X2 R rfl (.int .i64 (tj : Int)) (.int .i64 rj) (.int .i64 dj) (.int .i64 L) (.int .i64 (nj + 1))
    have hk9 := hk8.trans (Kept.drew (fun k => k = R) _) (fun _ f => .inl f)
    have eR : runL N ⟨tj, rj, dj, lj, nj⟩ s.js = (s.js.set N ⟨tj, rj, dj, L, nj + 1⟩) := by rw [HL.out]; exact if_neg hlf
    have hRn : ¬ R = b ∧ ¬ b = R ∧ (∀ k, tv.ownBlock = some k → ¬ k = R) ∧ (∀ k, lv.ownBlock = some k → ¬ k = R) := ⟨by have := HNE.out; have := HRE.out; omega, by have := HNE.out; have := HRE.out; omega, fun k e => by have := (HG.out.town.lt k e).2; have := HRE.out; omega, fun k e => by have := (HG.out.lown.lt k e).2; have := HRE.out; omega⟩
    have hjR : ∀ k, ((.slice (some ⟨g, 0, none⟩) s.js.length c) : Value).ownBlock = some k → ¬ k = R ∧ ¬ k = b ∧ tv.ownBlock ≠ some k ∧ lv.ownBlock ≠ some k := fun k e => by have e2 : g = k := (by simpa [Value.ownBlock] using e); subst e2; have h4 := HNE.out; have h3 := HRE.out; exact ⟨by omega, by omega, h4.2.2.2.2.1, h4.2.2.2.2.2⟩
    refine bodyPost_ret (leavesCTT (cs := #[.int .i64 (tj : Int), .int .i64 rj, .int .i64 dj, .int .i64 L, .int .i64 (nj + 1)]) rfl ?_ Tryd.underlying45 size_job _ rfl) rfl ⟨by rw [HL.out]; simp [Jb.ran], ?_⟩
    · have hr := HRR.out
      rw [← HRE.out] at hr
      exact (show ((((X2.setCell ⟨R, 0, none⟩ (.int .i64 (tj : Int))).setCell ⟨R, 1, none⟩ (.int .i64 rj)).setCell ⟨R, 2, none⟩ (.int .i64 dj)).setCell ⟨R, 3, none⟩ (.int .i64 L) |>.setCell ⟨R, 4, none⟩ (.int .i64 (nj + 1))).heap[R]? = _ from by rw [heap_set (heap_set (heap_set (heap_set (heap_set hr))))]; rfl)
    · rw [eR]
      refine DC.mk (jv' := (.slice (some ⟨g, 0, none⟩) s.js.length c)) (ls' := ls) (HG.out.jobs (HKX.out.trans hk9 (fun k e => .inr (by have := HRE.out; omega))) (fun k e => .inl (by rcases e with e | e <;> subst e; exact ⟨HG.out.tb, HG.out.lb⟩; exact ⟨HNE.out.2.2.2.2.1, HNE.out.2.2.2.2.2⟩)) ((hk9.block b (lt_of_heap HBB.out) hRn.2.1).trans HBB.out) (by rw [List.length_set]; exact ownN_kept HO2.out hk9 (fun k e f => (hjR k e).1 f)) (fun e => (hjR _ e).2.1 rfl) (fun k e e2 => (hjR k e2).2.2.1 e) (fun k e e2 => (hjR k e2).2.2.2 e)) ((HKX.out.trans hk9 (fun k e => .inr (by have := HRE.out; omega))).mono (fun k e => by rcases e with e | e; exact .inl e; exact .inr (.inr (.inr (by rw [e]; rfl))))) (fun k e => .inl e)
end Go.Proofs.YthncfkeoephipaaDoor
