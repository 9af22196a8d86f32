/- The document's guest: Release. -/
import Derived.Test.YthncfkeoephipaaDoorGp1
namespace Go.Proofs.YthncfkeoephipaaDoor
open Go.ChangeShapes Go.WideShapes Go.ChangeAt Go.RowKit
attribute [local go_sem] World.cell?_alloc_some frozen_alloc_some

/-- What a call leaves of the document's guest. -/
def DC (base : Nat) (w : World) (b : Nat) (p : Int) (tv lv jv : Value) (s' : Gt) (w' : World) : Prop := ∃ jv' ls', DG base w' b p tv lv jv' ls' s' ∧ Kept (Fd tv lv jv b) w w' ∧ ∀ k, jv'.ownBlock = some k → jv.ownBlock = some k ∨ w.heap.size ≤ k
theorem DC.mk {base : Nat} {w w' : World} {b : Nat} {p : Int} {tv lv jv jv' : Value} {ls' : List Int} {s' : Gt} (h1 : DG base w' b p tv lv jv' ls' s') (h2 : Kept (Fd tv lv jv b) w w') (h3 : ∀ k, jv'.ownBlock = some k → jv.ownBlock = some k ∨ w.heap.size ≤ k) : DC base w b p tv lv jv s' w' := ⟨jv', ls', h1, h2, h3⟩
theorem DC.late {base : Nat} {w w' : World} {b : Nat} {p : Int} {tv lv jv : Value} {ls : List Int} {s : Gt} (h : DG base w b p tv lv jv ls s) (hb : Below w.heap.size w w') : DC base w b p tv lv jv s w' := DC.mk (h.below hb) (kept_new hb) (fun _ e => .inl e)
theorem DG.putF {base : Nat} {w1 w3 w4 : World} {b : Nat} {p : Int} {tv jv v1 : Value} {ls : List Int} {s : Gt} {gl c n i : Nat} {x : Tq} {now ticks : Int} (h : DG base w1 b p tv (.slice (some ⟨gl, 0, none⟩) n c) jv ls s) (hn : n = s.xs.length) (hx : s.xs[i]? = some x) (n0 : 0 ≤ now)
    (b3 : Below (w1.setCell ⟨gl, i, none⟩ (.int .i64 (now + 1))).heap.size (w1.setCell ⟨gl, i, none⟩ (.int .i64 (now + 1))) w3) (hown : w4.ownsRow base 45 5 v1 (s.js.length + 1) (s.js.flatMap cj ++ cj (newJ x.1 i now ticks))) (hg : w3.grownBy w4 jv.ownBlock) (hat : v1.ownBlock = jv.ownBlock ∨ v1.ownBlock = some w3.heap.size) :
    DG base (w4.setCell ⟨b, 3, none⟩ v1) b p tv (.slice (some ⟨gl, 0, none⟩) n c) v1 (ls.set i (now + 1)) (s.put i x now ticks) := by
  subst hn
  have hi := (List.getElem?_eq_some_iff.mp hx).1
  have k12 := Kept.setCell (F := fun k => k = gl) w1 (p := ⟨gl, i, none⟩) rfl (.int .i64 (now + 1))
  have k23 := kept_new (F := fun _ => False) b3
  have k34 := Kept.grown hg (F := fun k => jv.ownBlock = some k) (fun k hk => hk)
  have k45 := Kept.setCell (F := fun k => k = b) w4 (p := ⟨b, 3, none⟩) rfl v1
  have hgl : (Value.slice (some ⟨gl, 0, none⟩) s.xs.length c).ownBlock = some gl := rfl
  have hsz : w1.heap.size ≤ w3.heap.size := Nat.le_trans k12.size k23.size
  have hv : ∀ k, v1.ownBlock = some k → jv.ownBlock = some k ∨ k = w3.heap.size := fun k e => by
    rcases hat with a | a
    · exact .inl (a ▸ e)
    · rw [a] at e; simp at e; exact .inr e.symm
  have hvb : v1.ownBlock ≠ some b := fun e => by
    rcases hv b e with a | a
    · exact h.jb a
    · have := h.lt; omega
  have hb2 := (k12.block b h.lt (fun e => h.lb (by rw [hgl, e]))).trans h.blk
  have hb3 := (k23.block b (lt_of_heap hb2) (fun e => e)).trans hb2
  have hb4 := (k34.block b (lt_of_heap hb3) h.jb).trans hb3
  have hts := Gt.put_ts (now := now) (ticks := ticks) hx
  have hxl : (s.put i x now ticks).xs.length = s.xs.length := by simp [Gt.put]
  have a0 := own_put h.lown i (.int .i64 (now + 1))
  rw [← List.map_set] at a0
  refine ⟨heap_set hb4, ?_, ?_, ?_, h.bb, h.tb, h.lb, hvb, h.tl, fun k e e2 => ?_, fun k e e2 => ?_, by rw [hxl, List.length_set]; exact h.ll, fun m l y hl hy => ?_⟩
  · rw [hts, hxl]
    exact ownN_kept (ownN_kept (ownN_kept (ownN_kept h.town k12 (fun k e f => h.tl k e (by rw [hgl, f]))) k23 (fun _ _ f => f)) k34 (fun k e f => h.tj k e f)) k45 (fun k e f => h.tb (by rw [← f]; exact e))
  · rw [hxl]
    exact ownN_kept (ownN_kept (ownN_kept a0 k23 (fun _ _ f => f)) k34 (fun k e f => h.lj k e f)) k45 (fun k e f => h.lb (by rw [← f]; exact e))
  · show World.ownsRow _ _ _ _ _ (s.js ++ [newJ x.1 i now ticks]).length _
    rw [show (s.put i x now ticks).js = s.js ++ [newJ x.1 i now ticks] from rfl, List.flatMap_append, List.length_append]
    refine ownN_kept ?_ k45 (fun k e f => hvb (by rw [← f]; exact e))
    simpa using hown
  · rcases hv k e2 with a | a
    · exact h.tj k e a
    · have := (h.town.lt k e).2; omega
  · rcases hv k e2 with a | a
    · exact h.lj k e a
    · have := (h.lown.lt k e).2; omega
  · have hy : (s.xs.set i (x.1, now + x.1.2.1))[m]? = some y := hy
    rw [List.getElem?_set] at hl hy
    by_cases e : i = m
    · subst e
      have hil : i < ls.length := by rw [h.ll]; exact hi
      simp [hil] at hl
      simp [hi] at hy
      subst hl
      subst hy
      exact ⟨by omega, .inr ⟨by omega, by simp only; omega⟩⟩
    · rw [if_neg e] at hl hy
      exact h.rel m l y hl hy
theorem own_int {w : World} {base n : Nat} {lv : Value} {ls : List Int} (hn : n = ls.length) (h : w.ownsRow base 3 1 lv n (ls.map (Value.int .i64))) {i : Nat} {l : Int} (hl : ls[i]? = some l) : ∃ g c, lv = .slice (some ⟨g, 0, none⟩) n c ∧ w.cell? ⟨g, i, none⟩ = some (.int .i64 l) ∧ w.frozen? ⟨g, i, none⟩ = false := by
  subst hn
  obtain ⟨g, c, rfl, hg, _⟩ := own_addr h (List.getElem?_eq_some_iff.mp hl).1
  exact ⟨g, c, rfl, own_cell h (by rw [List.getElem?_map, hl]; rfl)⟩
set_option maxHeartbeats 1600000 in
theorem drel_num (base : Nat) (w : World) (b : Nat) (p : Int) (tv lv jv : Value) (ls : List Int) (s : Gt) (k now ticks : Int) (h : DG base w b p tv lv jv ls s) (hc : k < 0 ∨ (0 ≤ k ∧ (s.xs.length : Int) ≤ k) ∨ (0 ≤ k ∧ k < s.xs.length ∧ now < 0) ∨ (0 ≤ k ∧ k < s.xs.length ∧ 0 ≤ now ∧ 1099511627776 < now)) : Calls Tryd.prog 14 #[.pointer (some ⟨b, 0, none⟩), .int .i64 k, .int .i64 now, .int .i64 ticks] w fun e w' => e = .returned (.int .i64 1) ∧ w' = w := by
  have c1 := h.c1
  obtain ⟨t, c, rfl, hcap⟩ := own_sh h.town
  clear h
  rcases hc with h1 | ⟨h1, h2⟩ | ⟨h1, h2, h3⟩ | ⟨h1, h2, h3, h4⟩
  all_goals
    go_enter Tryd.func14, Tryd.ntmps14
    go_wp2
    go_ret
    exact ⟨rfl, rfl⟩
set_option maxHeartbeats 3200000 in
theorem drel_busy (base : Nat) (w : World) (b : Nat) (p : Int) (tv lv jv : Value) (ls : List Int) (s : Gt) (i : Nat) (x : Tq) (now ticks : Int) (h : DG base w b p tv lv jv ls s) (hok : okT x.1) (hx : s.xs[i]? = some x) (n0 : 0 ≤ now) (n1 : now ≤ 1099511627776) (hb : now < x.2) (hag : x.2 ≤ 1099511628032) : Calls Tryd.prog 14 #[.pointer (some ⟨b, 0, none⟩), .int .i64 (i : Int), .int .i64 now, .int .i64 ticks] w fun e w' => e = .returned (.int .i64 14) ∧ Below w.heap.size w w' := by
  have c1 := h.c1
  have c2 := h.c2
  have c3 := h.c3
  have hi := (List.getElem?_eq_some_iff.mp hx).1
  have hii : (i : Int) < s.xs.length := by omega
  obtain ⟨l, hl⟩ : ∃ l, ls[i]? = some l := ⟨_, List.getElem?_eq_getElem (by rw [h.ll]; exact hi)⟩
  obtain ⟨hl0, hlx⟩ := h.rel i l x hl hx
  obtain ⟨gl, lc, rfl, ql, qf⟩ := own_int h.ll.symm h.lown hl
  obtain ⟨gt, tc, rfl, q0, q1, q2, q3⟩ := own_t4 (ts_len s) h.town (ts_at hx)
  obtain ⟨ja, jc, rfl, _⟩ := own_sh h.jown
  obtain ⟨⟨xc, xp, xd, xs⟩, xa⟩ := x
  obtain ⟨k1, k2, k3, k4, k5, k6⟩ := hok
  simp only at q0 q1 q2 q3 hb hlx k1 k2 k3 k4 k5 k6 hag
  have hl1 : 0 < l ∧ now - (l - 1) < xp ∧ l ≤ 1099511628033 := by omega
  obtain ⟨l1, l2, l3⟩ := hl1
  have e1 : IntKind.i64.wrap (l - 1) = l - 1 := wfit (by omega) (by omega)
  have e2 : IntKind.i64.wrap (now - (l - 1)) = now - (l - 1) := wfit (by omega) (by omega)
  clear h hx hl hlx hb
  go_enter Tryd.func14, Tryd.ntmps14
  go_wp2
  go_quiet (fail)
  go_wp2
  go_ret
  exact ⟨rfl, below_drewN (ba (Below.refl _ w) _) _⟩
set_option maxHeartbeats 3200000 in
theorem drel_full (base : Nat) (w : World) (b : Nat) (p : Int) (tv lv jv : Value) (ls : List Int) (s : Gt) (i : Nat) (x : Tq) (now ticks : Int) (h : DG base w b p tv lv jv ls s) (hok : okT x.1) (hx : s.xs[i]? = some x) (n0 : 0 ≤ now) (n1 : now ≤ 1099511627776) (hb : x.2 ≤ now) (hf : 64 ≤ s.js.length) : Calls Tryd.prog 14 #[.pointer (some ⟨b, 0, none⟩), .int .i64 (i : Int), .int .i64 now, .int .i64 ticks] w fun e w' => e = .returned (.int .i64 7) ∧ Below w.heap.size w w' := by
  have c1 := h.c1
  have c2 := h.c2
  have c3 := h.c3
  have hi := (List.getElem?_eq_some_iff.mp hx).1
  have hii : (i : Int) < s.xs.length := by omega
  obtain ⟨l, hl⟩ : ∃ l, ls[i]? = some l := ⟨_, List.getElem?_eq_getElem (by rw [h.ll]; exact hi)⟩
  obtain ⟨hl0, hlx⟩ := h.rel i l x hl hx
  obtain ⟨gl, lc, rfl, ql, qf⟩ := own_int h.ll.symm h.lown hl
  obtain ⟨gt, tc, rfl, q0, q1, q2, q3⟩ := own_t4 (ts_len s) h.town (ts_at hx)
  obtain ⟨ja, jc, rfl, _⟩ := own_sh h.jown
  obtain ⟨⟨xc, xp, xd, xs⟩, xa⟩ := x
  obtain ⟨k1, k2, k3, k4, k5, k6⟩ := hok
  simp only at q0 q1 q2 q3 hb hlx k1 k2 k3 k4 k5 k6
  have hfi : (64 : Int) ≤ s.js.length := by omega
  have hcs : l = 0 ∨ (0 < l ∧ ¬ now - (l - 1) < xp ∧ l ≤ 1099511628033) := by omega
  clear h hx hl hlx hb
  rcases hcs with rfl | ⟨l1, l2, l3⟩
  · go_enter Tryd.func14, Tryd.ntmps14
    go_wp2
    go_quiet (fail)
    go_wp2
    go_ret
    exact ⟨rfl, below_drewN (ba (Below.refl _ w) _) _⟩
  · have e1 : IntKind.i64.wrap (l - 1) = l - 1 := wfit (by omega) (by omega)
    have e2 : IntKind.i64.wrap (now - (l - 1)) = now - (l - 1) := wfit (by omega) (by omega)
    have e3 : decide (now - (l - 1) < xp) = false := decide_eq_false l2
    go_enter Tryd.func14, Tryd.ntmps14
    go_wp2
    go_quiet (fail)
    go_wp2
    go_ret
    exact ⟨rfl, below_drewN (ba (Below.refl _ w) _) _⟩
set_option maxHeartbeats 12800000 in
theorem drel_ok (base : Nat) (w : World) (b : Nat) (p : Int) (tv lv jv : Value) (ls : List Int) (s : Gt) (i : Nat) (x : Tq) (now ticks : Int) (h : DG base w b p tv lv jv ls s) (hok : okT x.1) (hx : s.xs[i]? = some x) (n0 : 0 ≤ now) (n1 : now ≤ 1099511627776) (hb : x.2 ≤ now) (hf : s.js.length < 64) : Calls Tryd.prog 14 #[.pointer (some ⟨b, 0, none⟩), .int .i64 (i : Int), .int .i64 now, .int .i64 ticks] w fun e w' => e = .returned (.int .i64 0) ∧ DC base w b p tv lv jv (s.put i x now ticks) w' := by
  obtain ⟨ie, hie1, hz0, hz1, hz2⟩ := info_parts info_job
  have hie := mkHid (And.intro hie1 (And.intro hz0 (And.intro hz1 hz2)))
  clear hie1 hz0 hz1 hz2
  have c1 := h.c1
  have c2 := h.c2
  have c3 := h.c3
  have hi := (List.getElem?_eq_some_iff.mp hx).1
  have hii : (i : Int) < s.xs.length := by omega
  obtain ⟨l, hl⟩ : ∃ l, ls[i]? = some l := ⟨_, List.getElem?_eq_getElem (by rw [h.ll]; exact hi)⟩
  obtain ⟨hl0, hlx⟩ := h.rel i l x hl hx
  obtain ⟨gl, lc, rfl, ql, qf⟩ := own_int h.ll.symm h.lown hl
  obtain ⟨gt, tc, rfl, q0, q1, q2, q3⟩ := own_t4 (ts_len s) h.town (ts_at hx)
  obtain ⟨ja, jc, rfl, _⟩ := own_sh h.jown
  obtain ⟨⟨xc, xp, xd, xs⟩, xa⟩ := x
  obtain ⟨k1, k2, k3, k4, k5, k6⟩ := hok
  have HG := mkHid h
  have HX := mkHid hx
  simp only at q0 q1 q2 q3 hb hlx k1 k2 k3 k4 k5 k6
  have hfi : ¬ (64 : Int) ≤ s.js.length := by omega
  have hfd : decide ((64 : Int) ≤ s.js.length) = false := decide_eq_false hfi
  have eD : IntKind.i64.wrap (now + xd) = now + xd := wfit (by omega) (by omega)
  have eP : IntKind.i64.wrap (now + 1) = now + 1 := wfit (by omega) (by omega)
  obtain ⟨L, hL⟩ : ∃ L, L = min (max ticks 1) xc := ⟨_, rfl⟩
  have HL := mkHid hL
  have hcs : l = 0 ∨ (0 < l ∧ ¬ now - (l - 1) < xp ∧ l ≤ 1099511628033) := by omega
  have hcase : (ticks < 1 ∧ L = 1) ∨ (1 ≤ ticks ∧ ticks ≤ xc ∧ L = ticks) ∨ (1 ≤ ticks ∧ xc < ticks ∧ L = xc) := by omega
  have HGL : Hid (¬ w.heap.size = gl ∧ ¬ gl = b ∧ (Value.slice ja s.js.length jc).ownBlock ≠ some gl) := mkHid ⟨fun e => by have := (h.lown.lt gl rfl).2; omega, fun e => h.lb (by rw [← e]; rfl), h.lj gl rfl⟩
  clear h hx hl hlx hb hL
  have hxc : ¬ xc < 1 := by omega
  rcases hcs with rfl | ⟨l1, l2, l3⟩
  · rcases hcase with ⟨t1, e⟩ | ⟨t1, t2, e⟩ | ⟨t1, t2, e⟩ <;> subst e
    · have tn : decide (xc < ticks) = false := decide_eq_false (by omega)
      go_enter Tryd.func14, Tryd.ntmps14
      go_wp2
      go_quiet (fail)
      go_wp2
      have HE : Hid (newJ (xc, xp, xd, xs) i now ticks = ⟨i, now, now + xd, 1, 0⟩) := mkHid (by unfold newJ; rw [← HL.out])
      obtain ⟨W1, hW1⟩ : ∃ W1, W1 = (w.alloc (.cells #[.int .i64 xc, .int .i64 xp, .int .i64 xd, .int .i64 xs] 37)).drewN nq := ⟨_, rfl⟩
      have HB1 : Hid (Below w.heap.size w W1) := mkHid (by rw [hW1]; exact below_drewN (ba (Below.refl _ w) _) _)
      have HD1 := mkHid (HG.out.below HB1.out)
      have hx1 : W1.heap[w.heap.size]? = some (.cells #[.int .i64 xc, .int .i64 xp, .int .i64 xd, .int .i64 xs] 37) := by rw [hW1]; exact heap_alloc_new w _
      obtain ⟨W2, hW2⟩ : ∃ W2, W2 = W1.setCell ⟨gl, i, none⟩ (.int .i64 (now + 1)) := ⟨_, rfl⟩
      have hk2 : Kept (fun k => k = gl) W1 W2 := by rw [hW2]; exact Kept.setCell (F := fun k => k = gl) W1 (p := ⟨gl, i, none⟩) rfl _
      have hx2 := (hk2.block _ (lt_of_heap hx1) HGL.out.1).trans hx1
      have hb2 := (hk2.block b HD1.out.lt (fun e => HGL.out.2.1 e.symm)).trans HD1.out.blk
      have HJ2 : Hid (W2.ownsRow base 45 5 (.slice ja s.js.length jc) s.js.length (s.js.flatMap cj)) := mkHid (ownN_kept HD1.out.jown hk2 (fun k e f => HGL.out.2.2 (by rw [← f]; exact e)))
      have HK2 := mkHid hk2
      have HB2 := mkHid hb2
      have HX2 := mkHid hx2
      have HW2 := mkHid hW2
      rw [← hW1, ← hW2]
      clear hW1 hW2 hk2 hb2 hx2 hx1 c1 c2 c3 ql qf q0 q1 q2 q3
      have c3 : W2.cell? ⟨b, 3, none⟩ = some (.slice ja s.js.length jc) := cell_of_block HB2.out rfl
      have z2 : W2.cell? ⟨w.heap.size, 2, none⟩ = some (.int .i64 xd) := cell_of_block HX2.out rfl
      have hT : W2.drew.cell? ⟨b, 3, none⟩ = some (.slice ja s.js.length jc) ∧ W2.drew.cell? ⟨w.heap.size, 2, none⟩ = some (.int .i64 xd) := ⟨c3, z2⟩
      refine wp_region_till (fun w' => w'.cell? ⟨b, 3, none⟩ = some (.slice ja s.js.length jc) ∧ w'.cell? ⟨w.heap.size, 2, none⟩ = some (.int .i64 xd)) 17 (by kernel_rfl) ?_
      refine freeD 0 81 (.pointer (some ⟨b, 0, none⟩)) rfl rfl (by kernel_rfl) (by kernel_rfl) (by kernel_rfl) (by decide) (fun _ _ _ h => h) (fun _ => hT) (Or.inl ⟨by kernel_rfl, by intro w _; go_simp⟩) ?_
      simp only [List.set_cons_zero, List.set_cons_succ]
      refine freeD 1 82 (.pointer (some ⟨b, 0, none⟩)) rfl rfl (by kernel_rfl) (by kernel_rfl) (by kernel_rfl) (by decide) (fun _ _ _ h => h) (fun _ => hT) (Or.inl ⟨by kernel_rfl, by intro w _; go_simp⟩) ?_
      simp only [List.set_cons_zero, List.set_cons_succ]
      refine freeD 2 83 (.pointer (some ⟨b, 0, none⟩)) rfl rfl (by kernel_rfl) (by kernel_rfl) (by kernel_rfl) (by decide) (fun _ _ _ h => h) (fun _ => hT) (Or.inl ⟨by kernel_rfl, by intro w _; go_simp⟩) ?_
      simp only [List.set_cons_zero, List.set_cons_succ]
      refine freeD 3 84 (.pointer (some ⟨b, 3, none⟩)) rfl rfl (by kernel_rfl) (by kernel_rfl) (by kernel_rfl) (by decide) (fun _ _ _ h => h) (fun _ => hT) (Or.inl ⟨by kernel_rfl, by intro w _; go_simp⟩) ?_
      simp only [List.set_cons_zero, List.set_cons_succ]
      refine firstD 4 85 (.slice ja s.js.length jc) rfl rfl (by kernel_rfl) (by kernel_rfl) (by kernel_rfl) (by kernel_rfl) (by decide) (by kernel_rfl) (fun _ _ _ h => h) (Or.inl ⟨by kernel_rfl, by intro w hSw; (try dsimp only at hSw); go_simp⟩) hT ?_
      simp only [List.set_cons_zero, List.set_cons_succ]
      refine freeD 5 86 (.int .i64 (i : Int)) rfl rfl (by kernel_rfl) (by kernel_rfl) (by kernel_rfl) (by decide) (fun _ _ _ h => h) (fun _ => hT) (Or.inl ⟨by kernel_rfl, by intro w _; go_simp⟩) ?_
      simp only [List.set_cons_zero, List.set_cons_succ]
      refine freeD 6 87 (.int .i64 now) rfl rfl (by kernel_rfl) (by kernel_rfl) (by kernel_rfl) (by decide) (fun _ _ _ h => h) (fun _ => hT) (Or.inl ⟨by kernel_rfl, by intro w _; go_simp⟩) ?_
      simp only [List.set_cons_zero, List.set_cons_succ]
      refine freeD 7 88 (.int .i64 now) rfl rfl (by kernel_rfl) (by kernel_rfl) (by kernel_rfl) (by decide) (fun _ _ _ h => h) (fun _ => hT) (Or.inl ⟨by kernel_rfl, by intro w _; go_simp⟩) ?_
      simp only [List.set_cons_zero, List.set_cons_succ]
      refine freeD 8 89 (.pointer (some ⟨w.heap.size, 2, none⟩)) rfl rfl (by kernel_rfl) (by kernel_rfl) (by kernel_rfl) (by decide) (fun _ _ _ h => h) (fun _ => hT) (Or.inl ⟨by kernel_rfl, by intro w _; go_simp⟩) ?_
      simp only [List.set_cons_zero, List.set_cons_succ]
      refine firstD 9 90 (.int .i64 xd) rfl rfl (by kernel_rfl) (by kernel_rfl) (by kernel_rfl) (by kernel_rfl) (by decide) (by kernel_rfl) (fun _ _ _ h => h) (Or.inl ⟨by kernel_rfl, by intro w hSw; (try dsimp only at hSw); go_simp⟩) hT ?_
      simp only [List.set_cons_zero, List.set_cons_succ]
      refine freeD 10 91 (.int .i64 (now + xd)) rfl rfl (by kernel_rfl) (by kernel_rfl) (by kernel_rfl) (by decide) (fun _ _ _ h => h) (fun _ => hT) (Or.inl ⟨by kernel_rfl, by intro w _; go_simp⟩) ?_
      simp only [List.set_cons_zero, List.set_cons_succ]
      refine freeD 11 92 (.int .i64 1) rfl rfl (by kernel_rfl) (by kernel_rfl) (by kernel_rfl) (by decide) (fun _ _ _ h => h) (fun _ => hT) (Or.inl ⟨by kernel_rfl, by intro w _; go_simp⟩) ?_
      simp only [List.set_cons_zero, List.set_cons_succ]
      refine freeD 12 93 (.agg #[.int .i64 (i : Int), .int .i64 now, .int .i64 (now + xd), .int .i64 1, .int .i64 0]) rfl rfl (by kernel_rfl) (by kernel_rfl) (by kernel_rfl) (by decide) (fun _ _ _ h => h) (fun _ => hT) (Or.inl ⟨by kernel_rfl, by intro w _; go_simp⟩) ?_
      simp only [List.set_cons_zero, List.set_cons_succ]
      refine wpT_ready (rs := [13]) (by kernel_rfl) (by simp) (AllT.cons rfl (fun K hK => ?_) AllT.nil)
      go_simp
      obtain ⟨W4, hW4⟩ : ∃ W4, W4 = (W2.alloc (.cells #[.int .i64 (i : Int), .int .i64 now, .int .i64 (now + xd), .int .i64 1, .int .i64 0] 45)).drew := ⟨_, rfl⟩
      have b4 : Below W2.heap.size W2 W4 := by rw [hW4]; exact (ba (Below.refl _ _) _).drew
      have HR4 : Hid (RowIn 5 cj W4 (.slice (some ⟨W2.heap.size, 0, none⟩) 1 1) [(⟨i, now, now + xd, 1, 0⟩ : Jb)]) := mkHid (by
        rw [hW4]
        exact RowIn.below (rowOne (f := cj) (⟨i, now, now + xd, 1, 0⟩ : Jb) W2 45) (Below.refl _ _).drew)
      have HJ4 := mkHid (ownN_kept HJ2.out (kept_new (F := fun _ => False) b4) (fun _ _ f => f))
      have HB4 := mkHid b4
      have HB4F : Hid (Below W2.heap.size W2 W4) := mkHid b4
      have HKB : Hid (Kept (fun _ => False) W2 W4) := mkHid (kept_new b4)
      have hb4 := blk_late HB2.out b4
      have d3 : W4.cell? ⟨b, 3, none⟩ = some (.slice ja s.js.length jc) := cell_of_block hb4 rfl
      have dz := kc z2 b4
      have HBL4 := mkHid hb4
      rw [← hW4]
      clear hW4 b4 hT hb4
      refine hK.out _ _ (fun _ => ⟨d3, dz⟩) ?_
      clear hK K
      (try simp only [Act.put])
      obtain ⟨y3, hy3⟩ : ∃ y, y = W2.heap.size := ⟨_, rfl⟩
      rw [← hy3] at HR4 ⊢
      clear hy3
      refine wpT_ready (rs := [14]) (by kernel_rfl) (by simp) (AllT.cons rfl (fun K hK => ?_) AllT.nil)
      refine step_append_src5 (w := W4) rfl (.tmp 85) (.tmp 94) 54 54 rfl base 45 ie Tryd.underlying54 hie.out.1 (.agg #[.int .i64 0, .int .i64 0, .int .i64 0, .int .i64 0, .int .i64 0]) 40 hie.out.2.1 rfl hie.out.2.2.1 hie.out.2.2.2 (.slice ja s.js.length jc) s.js.length (s.js.flatMap cj) (by simp [Act.eval]) HJ4.out _ 1 (cj ⟨i, now, now + xd, 1, 0⟩) (by simp [Act.eval]) (srcOne (f := cj) (x := (⟨i, now, now + xd, 1, 0⟩ : Jb)) Tryd.underlying54 (by omega) cj_len onej HR4.out) (by unfold maxLen; omega) (by omega) (by have := HG.out.base_le; have := HB1.out.size; have := HK2.out.size; have := HB4.out.size; omega) ?_
      intro v6 w6 ho6 hg6 hat6
      have HPN : Hid (DG base (w6.setCell ⟨b, 3, none⟩ v6) b p _ _ v6 (ls.set i (now + 1)) (s.put i ((xc, xp, xd, xs), xa) now ticks)) := mkHid (HD1.out.putF rfl HX.out n0 (by rw [← HW2.out]; exact HB4F.out) (by rw [HE.out]; exact ho6) hg6 hat6)
      have hk6 := Kept.grown hg6 (F := fun k => (.slice ja s.js.length jc : Value).ownBlock = some k) (fun k hk => hk)
      have HA6 : Hid (∀ k, v6.ownBlock = some k → (.slice ja s.js.length jc : Value).ownBlock = some k ∨ k = W4.heap.size) := mkHid (fun k e => by
        rcases hat6 with a | a
        · exact .inl (a ▸ e)
        · rw [a] at e; simp at e; exact .inr e.symm)
      obtain ⟨na6, nc6, hv6, _⟩ := own_sh ho6
      subst hv6
      have hpb := (hk6.block b (lt_of_heap HBL4.out) HD1.out.jb).trans HBL4.out
      have e3' : w6.cell? ⟨b, 3, none⟩ = some (.slice ja s.js.length jc) := cell_of_block hpb rfl
      have g3 : w6.frozen? ⟨b, 3, none⟩ = false := frozen_of_block hpb
      have ez := hk6.cell dz (fun e => by have := (HG.out.jown.lt _ e).2; simp only at this; omega)
      have HK6 := mkHid hk6
      clear ho6 hg6 hat6 hk6 hpb
      refine hK.out _ _ (fun _ => ⟨e3', ez⟩) ?_
      clear hK K
      (try simp only [Act.put])
      refine freeD 15 96 (.pointer (some ⟨b, 0, none⟩)) rfl rfl (by kernel_rfl) (by kernel_rfl) (by kernel_rfl) (by decide) (fun _ _ _ h => h) (fun _ => ⟨e3', ez⟩) (Or.inl ⟨by kernel_rfl, by intro w _; go_simp⟩) ?_
      simp only [List.set_cons_zero, List.set_cons_succ]
      refine freeD 16 97 (.pointer (some ⟨b, 3, none⟩)) rfl rfl (by kernel_rfl) (by kernel_rfl) (by kernel_rfl) (by decide) (fun _ _ _ h => h) (fun _ => ⟨e3', ez⟩) (Or.inl ⟨by kernel_rfl, by intro w _; go_simp⟩) ?_
      simp only [List.set_cons_zero, List.set_cons_succ]
      refine wpT_ready (rs := [17]) (by kernel_rfl) (by simp) (AllT.cons rfl (fun K hK => ?_) AllT.nil)
      go_simp
      refine hK.out _ _ (bool_no (by kernel_rfl)) ?_
      clear hK K e3' ez g3
      refine wpT_done (by kernel_rfl) ?_ _
      have HK7 : Hid (Kept (fun k => k = b) w6 (w6.setCell ⟨b, 3, none⟩ (.slice na6 (s.js.length + 1) nc6))) := mkHid (Kept.setCell (F := fun k => k = b) w6 (p := ⟨b, 3, none⟩) rfl (.slice na6 (s.js.length + 1) nc6))
      generalize w6.setCell ⟨b, 3, none⟩ (.slice na6 (s.js.length + 1) nc6) = W7 at *
      clear c3 z2 d3 dz
      go_wp2
      go_ret
      refine ⟨rfl, DC.mk HPN.out ?_ (fun k e => ?_)⟩
      · exact ((((kept_new HB1.out).trans HK2.out (fun k e => .inl (.inr (.inr (.inl (by rw [e]; rfl)))))).trans HKB.out (fun k e => e.elim)).trans HK6.out (fun k e => .inl (.inr (.inr (.inr e))))).trans HK7.out (fun k e => .inl (.inl e))
      · rcases HA6.out k e with a | a
        · exact .inl a
        · exact .inr (by rw [a]; have := HB1.out.size; have := HK2.out.size; have := HB4.out.size; omega)
    · have tn : decide (xc < L) = false := decide_eq_false (by omega)
      have tn2 : decide (L < 1) = false := decide_eq_false (by omega)
      go_enter Tryd.func14, Tryd.ntmps14
      go_wp2
      go_quiet (fail)
      go_wp2
      have HE : Hid (newJ (xc, xp, xd, xs) i now L = ⟨i, now, now + xd, L, 0⟩) := mkHid (by unfold newJ; rw [← HL.out])
      obtain ⟨W1, hW1⟩ : ∃ W1, W1 = (w.alloc (.cells #[.int .i64 xc, .int .i64 xp, .int .i64 xd, .int .i64 xs] 37)).drewN nq := ⟨_, rfl⟩
      have HB1 : Hid (Below w.heap.size w W1) := mkHid (by rw [hW1]; exact below_drewN (ba (Below.refl _ w) _) _)
      have HD1 := mkHid (HG.out.below HB1.out)
      have hx1 : W1.heap[w.heap.size]? = some (.cells #[.int .i64 xc, .int .i64 xp, .int .i64 xd, .int .i64 xs] 37) := by rw [hW1]; exact heap_alloc_new w _
      obtain ⟨W2, hW2⟩ : ∃ W2, W2 = W1.setCell ⟨gl, i, none⟩ (.int .i64 (now + 1)) := ⟨_, rfl⟩
      have hk2 : Kept (fun k => k = gl) W1 W2 := by rw [hW2]; exact Kept.setCell (F := fun k => k = gl) W1 (p := ⟨gl, i, none⟩) rfl _
      have hx2 := (hk2.block _ (lt_of_heap hx1) HGL.out.1).trans hx1
      have hb2 := (hk2.block b HD1.out.lt (fun e => HGL.out.2.1 e.symm)).trans HD1.out.blk
      have HJ2 : Hid (W2.ownsRow base 45 5 (.slice ja s.js.length jc) s.js.length (s.js.flatMap cj)) := mkHid (ownN_kept HD1.out.jown hk2 (fun k e f => HGL.out.2.2 (by rw [← f]; exact e)))
      have HK2 := mkHid hk2
      have HB2 := mkHid hb2
      have HX2 := mkHid hx2
      have HW2 := mkHid hW2
      rw [← hW1, ← hW2]
      clear hW1 hW2 hk2 hb2 hx2 hx1 c1 c2 c3 ql qf q0 q1 q2 q3
      have c3 : W2.cell? ⟨b, 3, none⟩ = some (.slice ja s.js.length jc) := cell_of_block HB2.out rfl
      have z2 : W2.cell? ⟨w.heap.size, 2, none⟩ = some (.int .i64 xd) := cell_of_block HX2.out rfl
      have hT : W2.drew.cell? ⟨b, 3, none⟩ = some (.slice ja s.js.length jc) ∧ W2.drew.cell? ⟨w.heap.size, 2, none⟩ = some (.int .i64 xd) := ⟨c3, z2⟩
      refine wp_region_till (fun w' => w'.cell? ⟨b, 3, none⟩ = some (.slice ja s.js.length jc) ∧ w'.cell? ⟨w.heap.size, 2, none⟩ = some (.int .i64 xd)) 17 (by kernel_rfl) ?_
      refine freeD 0 81 (.pointer (some ⟨b, 0, none⟩)) rfl rfl (by kernel_rfl) (by kernel_rfl) (by kernel_rfl) (by decide) (fun _ _ _ h => h) (fun _ => hT) (Or.inl ⟨by kernel_rfl, by intro w _; go_simp⟩) ?_
      simp only [List.set_cons_zero, List.set_cons_succ]
      refine freeD 1 82 (.pointer (some ⟨b, 0, none⟩)) rfl rfl (by kernel_rfl) (by kernel_rfl) (by kernel_rfl) (by decide) (fun _ _ _ h => h) (fun _ => hT) (Or.inl ⟨by kernel_rfl, by intro w _; go_simp⟩) ?_
      simp only [List.set_cons_zero, List.set_cons_succ]
      refine freeD 2 83 (.pointer (some ⟨b, 0, none⟩)) rfl rfl (by kernel_rfl) (by kernel_rfl) (by kernel_rfl) (by decide) (fun _ _ _ h => h) (fun _ => hT) (Or.inl ⟨by kernel_rfl, by intro w _; go_simp⟩) ?_
      simp only [List.set_cons_zero, List.set_cons_succ]
      refine freeD 3 84 (.pointer (some ⟨b, 3, none⟩)) rfl rfl (by kernel_rfl) (by kernel_rfl) (by kernel_rfl) (by decide) (fun _ _ _ h => h) (fun _ => hT) (Or.inl ⟨by kernel_rfl, by intro w _; go_simp⟩) ?_
      simp only [List.set_cons_zero, List.set_cons_succ]
      refine firstD 4 85 (.slice ja s.js.length jc) rfl rfl (by kernel_rfl) (by kernel_rfl) (by kernel_rfl) (by kernel_rfl) (by decide) (by kernel_rfl) (fun _ _ _ h => h) (Or.inl ⟨by kernel_rfl, by intro w hSw; (try dsimp only at hSw); go_simp⟩) hT ?_
      simp only [List.set_cons_zero, List.set_cons_succ]
      refine freeD 5 86 (.int .i64 (i : Int)) rfl rfl (by kernel_rfl) (by kernel_rfl) (by kernel_rfl) (by decide) (fun _ _ _ h => h) (fun _ => hT) (Or.inl ⟨by kernel_rfl, by intro w _; go_simp⟩) ?_
      simp only [List.set_cons_zero, List.set_cons_succ]
      refine freeD 6 87 (.int .i64 now) rfl rfl (by kernel_rfl) (by kernel_rfl) (by kernel_rfl) (by decide) (fun _ _ _ h => h) (fun _ => hT) (Or.inl ⟨by kernel_rfl, by intro w _; go_simp⟩) ?_
      simp only [List.set_cons_zero, List.set_cons_succ]
      refine freeD 7 88 (.int .i64 now) rfl rfl (by kernel_rfl) (by kernel_rfl) (by kernel_rfl) (by decide) (fun _ _ _ h => h) (fun _ => hT) (Or.inl ⟨by kernel_rfl, by intro w _; go_simp⟩) ?_
      simp only [List.set_cons_zero, List.set_cons_succ]
      refine freeD 8 89 (.pointer (some ⟨w.heap.size, 2, none⟩)) rfl rfl (by kernel_rfl) (by kernel_rfl) (by kernel_rfl) (by decide) (fun _ _ _ h => h) (fun _ => hT) (Or.inl ⟨by kernel_rfl, by intro w _; go_simp⟩) ?_
      simp only [List.set_cons_zero, List.set_cons_succ]
      refine firstD 9 90 (.int .i64 xd) rfl rfl (by kernel_rfl) (by kernel_rfl) (by kernel_rfl) (by kernel_rfl) (by decide) (by kernel_rfl) (fun _ _ _ h => h) (Or.inl ⟨by kernel_rfl, by intro w hSw; (try dsimp only at hSw); go_simp⟩) hT ?_
      simp only [List.set_cons_zero, List.set_cons_succ]
      refine freeD 10 91 (.int .i64 (now + xd)) rfl rfl (by kernel_rfl) (by kernel_rfl) (by kernel_rfl) (by decide) (fun _ _ _ h => h) (fun _ => hT) (Or.inl ⟨by kernel_rfl, by intro w _; go_simp⟩) ?_
      simp only [List.set_cons_zero, List.set_cons_succ]
      refine freeD 11 92 (.int .i64 L) rfl rfl (by kernel_rfl) (by kernel_rfl) (by kernel_rfl) (by decide) (fun _ _ _ h => h) (fun _ => hT) (Or.inl ⟨by kernel_rfl, by intro w _; go_simp⟩) ?_
      simp only [List.set_cons_zero, List.set_cons_succ]
      refine freeD 12 93 (.agg #[.int .i64 (i : Int), .int .i64 now, .int .i64 (now + xd), .int .i64 L, .int .i64 0]) rfl rfl (by kernel_rfl) (by kernel_rfl) (by kernel_rfl) (by decide) (fun _ _ _ h => h) (fun _ => hT) (Or.inl ⟨by kernel_rfl, by intro w _; go_simp⟩) ?_
      simp only [List.set_cons_zero, List.set_cons_succ]
      refine wpT_ready (rs := [13]) (by kernel_rfl) (by simp) (AllT.cons rfl (fun K hK => ?_) AllT.nil)
      go_simp
      obtain ⟨W4, hW4⟩ : ∃ W4, W4 = (W2.alloc (.cells #[.int .i64 (i : Int), .int .i64 now, .int .i64 (now + xd), .int .i64 L, .int .i64 0] 45)).drew := ⟨_, rfl⟩
      have b4 : Below W2.heap.size W2 W4 := by rw [hW4]; exact (ba (Below.refl _ _) _).drew
      have HR4 : Hid (RowIn 5 cj W4 (.slice (some ⟨W2.heap.size, 0, none⟩) 1 1) [(⟨i, now, now + xd, L, 0⟩ : Jb)]) := mkHid (by
        rw [hW4]
        exact RowIn.below (rowOne (f := cj) (⟨i, now, now + xd, L, 0⟩ : Jb) W2 45) (Below.refl _ _).drew)
      have HJ4 := mkHid (ownN_kept HJ2.out (kept_new (F := fun _ => False) b4) (fun _ _ f => f))
      have HB4 := mkHid b4
      have HB4F : Hid (Below W2.heap.size W2 W4) := mkHid b4
      have HKB : Hid (Kept (fun _ => False) W2 W4) := mkHid (kept_new b4)
      have hb4 := blk_late HB2.out b4
      have d3 : W4.cell? ⟨b, 3, none⟩ = some (.slice ja s.js.length jc) := cell_of_block hb4 rfl
      have dz := kc z2 b4
      have HBL4 := mkHid hb4
      rw [← hW4]
      clear hW4 b4 hT hb4
      refine hK.out _ _ (fun _ => ⟨d3, dz⟩) ?_
      clear hK K
      (try simp only [Act.put])
      obtain ⟨y3, hy3⟩ : ∃ y, y = W2.heap.size := ⟨_, rfl⟩
      rw [← hy3] at HR4 ⊢
      clear hy3
      refine wpT_ready (rs := [14]) (by kernel_rfl) (by simp) (AllT.cons rfl (fun K hK => ?_) AllT.nil)
      refine step_append_src5 (w := W4) rfl (.tmp 85) (.tmp 94) 54 54 rfl base 45 ie Tryd.underlying54 hie.out.1 (.agg #[.int .i64 0, .int .i64 0, .int .i64 0, .int .i64 0, .int .i64 0]) 40 hie.out.2.1 rfl hie.out.2.2.1 hie.out.2.2.2 (.slice ja s.js.length jc) s.js.length (s.js.flatMap cj) (by simp [Act.eval]) HJ4.out _ 1 (cj ⟨i, now, now + xd, L, 0⟩) (by simp [Act.eval]) (srcOne (f := cj) (x := (⟨i, now, now + xd, L, 0⟩ : Jb)) Tryd.underlying54 (by omega) cj_len onej HR4.out) (by unfold maxLen; omega) (by omega) (by have := HG.out.base_le; have := HB1.out.size; have := HK2.out.size; have := HB4.out.size; omega) ?_
      intro v6 w6 ho6 hg6 hat6
      have HPN : Hid (DG base (w6.setCell ⟨b, 3, none⟩ v6) b p _ _ v6 (ls.set i (now + 1)) (s.put i ((xc, xp, xd, xs), xa) now L)) := mkHid (HD1.out.putF rfl HX.out n0 (by rw [← HW2.out]; exact HB4F.out) (by rw [HE.out]; exact ho6) hg6 hat6)
      have hk6 := Kept.grown hg6 (F := fun k => (.slice ja s.js.length jc : Value).ownBlock = some k) (fun k hk => hk)
      have HA6 : Hid (∀ k, v6.ownBlock = some k → (.slice ja s.js.length jc : Value).ownBlock = some k ∨ k = W4.heap.size) := mkHid (fun k e => by
        rcases hat6 with a | a
        · exact .inl (a ▸ e)
        · rw [a] at e; simp at e; exact .inr e.symm)
      obtain ⟨na6, nc6, hv6, _⟩ := own_sh ho6
      subst hv6
      have hpb := (hk6.block b (lt_of_heap HBL4.out) HD1.out.jb).trans HBL4.out
      have e3' : w6.cell? ⟨b, 3, none⟩ = some (.slice ja s.js.length jc) := cell_of_block hpb rfl
      have g3 : w6.frozen? ⟨b, 3, none⟩ = false := frozen_of_block hpb
      have ez := hk6.cell dz (fun e => by have := (HG.out.jown.lt _ e).2; simp only at this; omega)
      have HK6 := mkHid hk6
      clear ho6 hg6 hat6 hk6 hpb
      refine hK.out _ _ (fun _ => ⟨e3', ez⟩) ?_
      clear hK K
      (try simp only [Act.put])
      refine freeD 15 96 (.pointer (some ⟨b, 0, none⟩)) rfl rfl (by kernel_rfl) (by kernel_rfl) (by kernel_rfl) (by decide) (fun _ _ _ h => h) (fun _ => ⟨e3', ez⟩) (Or.inl ⟨by kernel_rfl, by intro w _; go_simp⟩) ?_
      simp only [List.set_cons_zero, List.set_cons_succ]
      refine freeD 16 97 (.pointer (some ⟨b, 3, none⟩)) rfl rfl (by kernel_rfl) (by kernel_rfl) (by kernel_rfl) (by decide) (fun _ _ _ h => h) (fun _ => ⟨e3', ez⟩) (Or.inl ⟨by kernel_rfl, by intro w _; go_simp⟩) ?_
      simp only [List.set_cons_zero, List.set_cons_succ]
      refine wpT_ready (rs := [17]) (by kernel_rfl) (by simp) (AllT.cons rfl (fun K hK => ?_) AllT.nil)
      go_simp
      refine hK.out _ _ (bool_no (by kernel_rfl)) ?_
      clear hK K e3' ez g3
      refine wpT_done (by kernel_rfl) ?_ _
      have HK7 : Hid (Kept (fun k => k = b) w6 (w6.setCell ⟨b, 3, none⟩ (.slice na6 (s.js.length + 1) nc6))) := mkHid (Kept.setCell (F := fun k => k = b) w6 (p := ⟨b, 3, none⟩) rfl (.slice na6 (s.js.length + 1) nc6))
      generalize w6.setCell ⟨b, 3, none⟩ (.slice na6 (s.js.length + 1) nc6) = W7 at *
      clear c3 z2 d3 dz
      go_wp2
      go_ret
      refine ⟨rfl, DC.mk HPN.out ?_ (fun k e => ?_)⟩
      · exact ((((kept_new HB1.out).trans HK2.out (fun k e => .inl (.inr (.inr (.inl (by rw [e]; rfl)))))).trans HKB.out (fun k e => e.elim)).trans HK6.out (fun k e => .inl (.inr (.inr (.inr e))))).trans HK7.out (fun k e => .inl (.inl e))
      · rcases HA6.out k e with a | a
        · exact .inl a
        · exact .inr (by rw [a]; have := HB1.out.size; have := HK2.out.size; have := HB4.out.size; omega)
    · have tn2 : decide (L < 1) = false := decide_eq_false (by omega)
      go_enter Tryd.func14, Tryd.ntmps14
      go_wp2
      go_quiet (fail)
      go_wp2
      have HE : Hid (newJ (L, xp, xd, xs) i now ticks = ⟨i, now, now + xd, L, 0⟩) := mkHid (by unfold newJ; rw [← HL.out])
      obtain ⟨W1, hW1⟩ : ∃ W1, W1 = (w.alloc (.cells #[.int .i64 L, .int .i64 xp, .int .i64 xd, .int .i64 xs] 37)).drewN nq := ⟨_, rfl⟩
      have HB1 : Hid (Below w.heap.size w W1) := mkHid (by rw [hW1]; exact below_drewN (ba (Below.refl _ w) _) _)
      have HD1 := mkHid (HG.out.below HB1.out)
      have hx1 : W1.heap[w.heap.size]? = some (.cells #[.int .i64 L, .int .i64 xp, .int .i64 xd, .int .i64 xs] 37) := by rw [hW1]; exact heap_alloc_new w _
      obtain ⟨W2, hW2⟩ : ∃ W2, W2 = W1.setCell ⟨gl, i, none⟩ (.int .i64 (now + 1)) := ⟨_, rfl⟩
      have hk2 : Kept (fun k => k = gl) W1 W2 := by rw [hW2]; exact Kept.setCell (F := fun k => k = gl) W1 (p := ⟨gl, i, none⟩) rfl _
      have hx2 := (hk2.block _ (lt_of_heap hx1) HGL.out.1).trans hx1
      have hb2 := (hk2.block b HD1.out.lt (fun e => HGL.out.2.1 e.symm)).trans HD1.out.blk
      have HJ2 : Hid (W2.ownsRow base 45 5 (.slice ja s.js.length jc) s.js.length (s.js.flatMap cj)) := mkHid (ownN_kept HD1.out.jown hk2 (fun k e f => HGL.out.2.2 (by rw [← f]; exact e)))
      have HK2 := mkHid hk2
      have HB2 := mkHid hb2
      have HX2 := mkHid hx2
      have HW2 := mkHid hW2
      rw [← hW1, ← hW2]
      clear hW1 hW2 hk2 hb2 hx2 hx1 c1 c2 c3 ql qf q0 q1 q2 q3
      have c3 : W2.cell? ⟨b, 3, none⟩ = some (.slice ja s.js.length jc) := cell_of_block HB2.out rfl
      have z2 : W2.cell? ⟨w.heap.size, 2, none⟩ = some (.int .i64 xd) := cell_of_block HX2.out rfl
      have hT : W2.drew.cell? ⟨b, 3, none⟩ = some (.slice ja s.js.length jc) ∧ W2.drew.cell? ⟨w.heap.size, 2, none⟩ = some (.int .i64 xd) := ⟨c3, z2⟩
      refine wp_region_till (fun w' => w'.cell? ⟨b, 3, none⟩ = some (.slice ja s.js.length jc) ∧ w'.cell? ⟨w.heap.size, 2, none⟩ = some (.int .i64 xd)) 17 (by kernel_rfl) ?_
      refine freeD 0 81 (.pointer (some ⟨b, 0, none⟩)) rfl rfl (by kernel_rfl) (by kernel_rfl) (by kernel_rfl) (by decide) (fun _ _ _ h => h) (fun _ => hT) (Or.inl ⟨by kernel_rfl, by intro w _; go_simp⟩) ?_
      simp only [List.set_cons_zero, List.set_cons_succ]
      refine freeD 1 82 (.pointer (some ⟨b, 0, none⟩)) rfl rfl (by kernel_rfl) (by kernel_rfl) (by kernel_rfl) (by decide) (fun _ _ _ h => h) (fun _ => hT) (Or.inl ⟨by kernel_rfl, by intro w _; go_simp⟩) ?_
      simp only [List.set_cons_zero, List.set_cons_succ]
      refine freeD 2 83 (.pointer (some ⟨b, 0, none⟩)) rfl rfl (by kernel_rfl) (by kernel_rfl) (by kernel_rfl) (by decide) (fun _ _ _ h => h) (fun _ => hT) (Or.inl ⟨by kernel_rfl, by intro w _; go_simp⟩) ?_
      simp only [List.set_cons_zero, List.set_cons_succ]
      refine freeD 3 84 (.pointer (some ⟨b, 3, none⟩)) rfl rfl (by kernel_rfl) (by kernel_rfl) (by kernel_rfl) (by decide) (fun _ _ _ h => h) (fun _ => hT) (Or.inl ⟨by kernel_rfl, by intro w _; go_simp⟩) ?_
      simp only [List.set_cons_zero, List.set_cons_succ]
      refine firstD 4 85 (.slice ja s.js.length jc) rfl rfl (by kernel_rfl) (by kernel_rfl) (by kernel_rfl) (by kernel_rfl) (by decide) (by kernel_rfl) (fun _ _ _ h => h) (Or.inl ⟨by kernel_rfl, by intro w hSw; (try dsimp only at hSw); go_simp⟩) hT ?_
      simp only [List.set_cons_zero, List.set_cons_succ]
      refine freeD 5 86 (.int .i64 (i : Int)) rfl rfl (by kernel_rfl) (by kernel_rfl) (by kernel_rfl) (by decide) (fun _ _ _ h => h) (fun _ => hT) (Or.inl ⟨by kernel_rfl, by intro w _; go_simp⟩) ?_
      simp only [List.set_cons_zero, List.set_cons_succ]
      refine freeD 6 87 (.int .i64 now) rfl rfl (by kernel_rfl) (by kernel_rfl) (by kernel_rfl) (by decide) (fun _ _ _ h => h) (fun _ => hT) (Or.inl ⟨by kernel_rfl, by intro w _; go_simp⟩) ?_
      simp only [List.set_cons_zero, List.set_cons_succ]
      refine freeD 7 88 (.int .i64 now) rfl rfl (by kernel_rfl) (by kernel_rfl) (by kernel_rfl) (by decide) (fun _ _ _ h => h) (fun _ => hT) (Or.inl ⟨by kernel_rfl, by intro w _; go_simp⟩) ?_
      simp only [List.set_cons_zero, List.set_cons_succ]
      refine freeD 8 89 (.pointer (some ⟨w.heap.size, 2, none⟩)) rfl rfl (by kernel_rfl) (by kernel_rfl) (by kernel_rfl) (by decide) (fun _ _ _ h => h) (fun _ => hT) (Or.inl ⟨by kernel_rfl, by intro w _; go_simp⟩) ?_
      simp only [List.set_cons_zero, List.set_cons_succ]
      refine firstD 9 90 (.int .i64 xd) rfl rfl (by kernel_rfl) (by kernel_rfl) (by kernel_rfl) (by kernel_rfl) (by decide) (by kernel_rfl) (fun _ _ _ h => h) (Or.inl ⟨by kernel_rfl, by intro w hSw; (try dsimp only at hSw); go_simp⟩) hT ?_
      simp only [List.set_cons_zero, List.set_cons_succ]
      refine freeD 10 91 (.int .i64 (now + xd)) rfl rfl (by kernel_rfl) (by kernel_rfl) (by kernel_rfl) (by decide) (fun _ _ _ h => h) (fun _ => hT) (Or.inl ⟨by kernel_rfl, by intro w _; go_simp⟩) ?_
      simp only [List.set_cons_zero, List.set_cons_succ]
      refine freeD 11 92 (.int .i64 L) rfl rfl (by kernel_rfl) (by kernel_rfl) (by kernel_rfl) (by decide) (fun _ _ _ h => h) (fun _ => hT) (Or.inl ⟨by kernel_rfl, by intro w _; go_simp⟩) ?_
      simp only [List.set_cons_zero, List.set_cons_succ]
      refine freeD 12 93 (.agg #[.int .i64 (i : Int), .int .i64 now, .int .i64 (now + xd), .int .i64 L, .int .i64 0]) rfl rfl (by kernel_rfl) (by kernel_rfl) (by kernel_rfl) (by decide) (fun _ _ _ h => h) (fun _ => hT) (Or.inl ⟨by kernel_rfl, by intro w _; go_simp⟩) ?_
      simp only [List.set_cons_zero, List.set_cons_succ]
      refine wpT_ready (rs := [13]) (by kernel_rfl) (by simp) (AllT.cons rfl (fun K hK => ?_) AllT.nil)
      go_simp
      obtain ⟨W4, hW4⟩ : ∃ W4, W4 = (W2.alloc (.cells #[.int .i64 (i : Int), .int .i64 now, .int .i64 (now + xd), .int .i64 L, .int .i64 0] 45)).drew := ⟨_, rfl⟩
      have b4 : Below W2.heap.size W2 W4 := by rw [hW4]; exact (ba (Below.refl _ _) _).drew
      have HR4 : Hid (RowIn 5 cj W4 (.slice (some ⟨W2.heap.size, 0, none⟩) 1 1) [(⟨i, now, now + xd, L, 0⟩ : Jb)]) := mkHid (by
        rw [hW4]
        exact RowIn.below (rowOne (f := cj) (⟨i, now, now + xd, L, 0⟩ : Jb) W2 45) (Below.refl _ _).drew)
      have HJ4 := mkHid (ownN_kept HJ2.out (kept_new (F := fun _ => False) b4) (fun _ _ f => f))
      have HB4 := mkHid b4
      have HB4F : Hid (Below W2.heap.size W2 W4) := mkHid b4
      have HKB : Hid (Kept (fun _ => False) W2 W4) := mkHid (kept_new b4)
      have hb4 := blk_late HB2.out b4
      have d3 : W4.cell? ⟨b, 3, none⟩ = some (.slice ja s.js.length jc) := cell_of_block hb4 rfl
      have dz := kc z2 b4
      have HBL4 := mkHid hb4
      rw [← hW4]
      clear hW4 b4 hT hb4
      refine hK.out _ _ (fun _ => ⟨d3, dz⟩) ?_
      clear hK K
      (try simp only [Act.put])
      obtain ⟨y3, hy3⟩ : ∃ y, y = W2.heap.size := ⟨_, rfl⟩
      rw [← hy3] at HR4 ⊢
      clear hy3
      refine wpT_ready (rs := [14]) (by kernel_rfl) (by simp) (AllT.cons rfl (fun K hK => ?_) AllT.nil)
      refine step_append_src5 (w := W4) rfl (.tmp 85) (.tmp 94) 54 54 rfl base 45 ie Tryd.underlying54 hie.out.1 (.agg #[.int .i64 0, .int .i64 0, .int .i64 0, .int .i64 0, .int .i64 0]) 40 hie.out.2.1 rfl hie.out.2.2.1 hie.out.2.2.2 (.slice ja s.js.length jc) s.js.length (s.js.flatMap cj) (by simp [Act.eval]) HJ4.out _ 1 (cj ⟨i, now, now + xd, L, 0⟩) (by simp [Act.eval]) (srcOne (f := cj) (x := (⟨i, now, now + xd, L, 0⟩ : Jb)) Tryd.underlying54 (by omega) cj_len onej HR4.out) (by unfold maxLen; omega) (by omega) (by have := HG.out.base_le; have := HB1.out.size; have := HK2.out.size; have := HB4.out.size; omega) ?_
      intro v6 w6 ho6 hg6 hat6
      have HPN : Hid (DG base (w6.setCell ⟨b, 3, none⟩ v6) b p _ _ v6 (ls.set i (now + 1)) (s.put i ((L, xp, xd, xs), xa) now ticks)) := mkHid (HD1.out.putF rfl HX.out n0 (by rw [← HW2.out]; exact HB4F.out) (by rw [HE.out]; exact ho6) hg6 hat6)
      have hk6 := Kept.grown hg6 (F := fun k => (.slice ja s.js.length jc : Value).ownBlock = some k) (fun k hk => hk)
      have HA6 : Hid (∀ k, v6.ownBlock = some k → (.slice ja s.js.length jc : Value).ownBlock = some k ∨ k = W4.heap.size) := mkHid (fun k e => by
        rcases hat6 with a | a
        · exact .inl (a ▸ e)
        · rw [a] at e; simp at e; exact .inr e.symm)
      obtain ⟨na6, nc6, hv6, _⟩ := own_sh ho6
      subst hv6
      have hpb := (hk6.block b (lt_of_heap HBL4.out) HD1.out.jb).trans HBL4.out
      have e3' : w6.cell? ⟨b, 3, none⟩ = some (.slice ja s.js.length jc) := cell_of_block hpb rfl
      have g3 : w6.frozen? ⟨b, 3, none⟩ = false := frozen_of_block hpb
      have ez := hk6.cell dz (fun e => by have := (HG.out.jown.lt _ e).2; simp only at this; omega)
      have HK6 := mkHid hk6
      clear ho6 hg6 hat6 hk6 hpb
      refine hK.out _ _ (fun _ => ⟨e3', ez⟩) ?_
      clear hK K
      (try simp only [Act.put])
      refine freeD 15 96 (.pointer (some ⟨b, 0, none⟩)) rfl rfl (by kernel_rfl) (by kernel_rfl) (by kernel_rfl) (by decide) (fun _ _ _ h => h) (fun _ => ⟨e3', ez⟩) (Or.inl ⟨by kernel_rfl, by intro w _; go_simp⟩) ?_
      simp only [List.set_cons_zero, List.set_cons_succ]
      refine freeD 16 97 (.pointer (some ⟨b, 3, none⟩)) rfl rfl (by kernel_rfl) (by kernel_rfl) (by kernel_rfl) (by decide) (fun _ _ _ h => h) (fun _ => ⟨e3', ez⟩) (Or.inl ⟨by kernel_rfl, by intro w _; go_simp⟩) ?_
      simp only [List.set_cons_zero, List.set_cons_succ]
      refine wpT_ready (rs := [17]) (by kernel_rfl) (by simp) (AllT.cons rfl (fun K hK => ?_) AllT.nil)
      go_simp
      refine hK.out _ _ (bool_no (by kernel_rfl)) ?_
      clear hK K e3' ez g3
      refine wpT_done (by kernel_rfl) ?_ _
      have HK7 : Hid (Kept (fun k => k = b) w6 (w6.setCell ⟨b, 3, none⟩ (.slice na6 (s.js.length + 1) nc6))) := mkHid (Kept.setCell (F := fun k => k = b) w6 (p := ⟨b, 3, none⟩) rfl (.slice na6 (s.js.length + 1) nc6))
      generalize w6.setCell ⟨b, 3, none⟩ (.slice na6 (s.js.length + 1) nc6) = W7 at *
      clear c3 z2 d3 dz
      go_wp2
      go_ret
      refine ⟨rfl, DC.mk HPN.out ?_ (fun k e => ?_)⟩
      · exact ((((kept_new HB1.out).trans HK2.out (fun k e => .inl (.inr (.inr (.inl (by rw [e]; rfl)))))).trans HKB.out (fun k e => e.elim)).trans HK6.out (fun k e => .inl (.inr (.inr (.inr e))))).trans HK7.out (fun k e => .inl (.inl e))
      · rcases HA6.out k e with a | a
        · exact .inl a
        · exact .inr (by rw [a]; have := HB1.out.size; have := HK2.out.size; have := HB4.out.size; omega)
  · have e1 : IntKind.i64.wrap (l - 1) = l - 1 := wfit (by omega) (by omega)
    have e2 : IntKind.i64.wrap (now - (l - 1)) = now - (l - 1) := wfit (by omega) (by omega)
    have e3 : decide (now - (l - 1) < xp) = false := decide_eq_false l2
    rcases hcase with ⟨t1, e⟩ | ⟨t1, t2, e⟩ | ⟨t1, t2, e⟩ <;> subst e
    · have tn : decide (xc < ticks) = false := decide_eq_false (by omega)
      go_enter Tryd.func14, Tryd.ntmps14
      go_wp2
      go_quiet (fail)
      go_wp2
      have HE : Hid (newJ (xc, xp, xd, xs) i now ticks = ⟨i, now, now + xd, 1, 0⟩) := mkHid (by unfold newJ; rw [← HL.out])
      obtain ⟨W1, hW1⟩ : ∃ W1, W1 = (w.alloc (.cells #[.int .i64 xc, .int .i64 xp, .int .i64 xd, .int .i64 xs] 37)).drewN nq := ⟨_, rfl⟩
      have HB1 : Hid (Below w.heap.size w W1) := mkHid (by rw [hW1]; exact below_drewN (ba (Below.refl _ w) _) _)
      have HD1 := mkHid (HG.out.below HB1.out)
      have hx1 : W1.heap[w.heap.size]? = some (.cells #[.int .i64 xc, .int .i64 xp, .int .i64 xd, .int .i64 xs] 37) := by rw [hW1]; exact heap_alloc_new w _
      obtain ⟨W2, hW2⟩ : ∃ W2, W2 = W1.setCell ⟨gl, i, none⟩ (.int .i64 (now + 1)) := ⟨_, rfl⟩
      have hk2 : Kept (fun k => k = gl) W1 W2 := by rw [hW2]; exact Kept.setCell (F := fun k => k = gl) W1 (p := ⟨gl, i, none⟩) rfl _
      have hx2 := (hk2.block _ (lt_of_heap hx1) HGL.out.1).trans hx1
      have hb2 := (hk2.block b HD1.out.lt (fun e => HGL.out.2.1 e.symm)).trans HD1.out.blk
      have HJ2 : Hid (W2.ownsRow base 45 5 (.slice ja s.js.length jc) s.js.length (s.js.flatMap cj)) := mkHid (ownN_kept HD1.out.jown hk2 (fun k e f => HGL.out.2.2 (by rw [← f]; exact e)))
      have HK2 := mkHid hk2
      have HB2 := mkHid hb2
      have HX2 := mkHid hx2
      have HW2 := mkHid hW2
      rw [← hW1, ← hW2]
      clear hW1 hW2 hk2 hb2 hx2 hx1 c1 c2 c3 ql qf q0 q1 q2 q3
      have c3 : W2.cell? ⟨b, 3, none⟩ = some (.slice ja s.js.length jc) := cell_of_block HB2.out rfl
      have z2 : W2.cell? ⟨w.heap.size, 2, none⟩ = some (.int .i64 xd) := cell_of_block HX2.out rfl
      have hT : W2.drew.cell? ⟨b, 3, none⟩ = some (.slice ja s.js.length jc) ∧ W2.drew.cell? ⟨w.heap.size, 2, none⟩ = some (.int .i64 xd) := ⟨c3, z2⟩
      refine wp_region_till (fun w' => w'.cell? ⟨b, 3, none⟩ = some (.slice ja s.js.length jc) ∧ w'.cell? ⟨w.heap.size, 2, none⟩ = some (.int .i64 xd)) 17 (by kernel_rfl) ?_
      refine freeD 0 81 (.pointer (some ⟨b, 0, none⟩)) rfl rfl (by kernel_rfl) (by kernel_rfl) (by kernel_rfl) (by decide) (fun _ _ _ h => h) (fun _ => hT) (Or.inl ⟨by kernel_rfl, by intro w _; go_simp⟩) ?_
      simp only [List.set_cons_zero, List.set_cons_succ]
      refine freeD 1 82 (.pointer (some ⟨b, 0, none⟩)) rfl rfl (by kernel_rfl) (by kernel_rfl) (by kernel_rfl) (by decide) (fun _ _ _ h => h) (fun _ => hT) (Or.inl ⟨by kernel_rfl, by intro w _; go_simp⟩) ?_
      simp only [List.set_cons_zero, List.set_cons_succ]
      refine freeD 2 83 (.pointer (some ⟨b, 0, none⟩)) rfl rfl (by kernel_rfl) (by kernel_rfl) (by kernel_rfl) (by decide) (fun _ _ _ h => h) (fun _ => hT) (Or.inl ⟨by kernel_rfl, by intro w _; go_simp⟩) ?_
      simp only [List.set_cons_zero, List.set_cons_succ]
      refine freeD 3 84 (.pointer (some ⟨b, 3, none⟩)) rfl rfl (by kernel_rfl) (by kernel_rfl) (by kernel_rfl) (by decide) (fun _ _ _ h => h) (fun _ => hT) (Or.inl ⟨by kernel_rfl, by intro w _; go_simp⟩) ?_
      simp only [List.set_cons_zero, List.set_cons_succ]
      refine firstD 4 85 (.slice ja s.js.length jc) rfl rfl (by kernel_rfl) (by kernel_rfl) (by kernel_rfl) (by kernel_rfl) (by decide) (by kernel_rfl) (fun _ _ _ h => h) (Or.inl ⟨by kernel_rfl, by intro w hSw; (try dsimp only at hSw); go_simp⟩) hT ?_
      simp only [List.set_cons_zero, List.set_cons_succ]
      refine freeD 5 86 (.int .i64 (i : Int)) rfl rfl (by kernel_rfl) (by kernel_rfl) (by kernel_rfl) (by decide) (fun _ _ _ h => h) (fun _ => hT) (Or.inl ⟨by kernel_rfl, by intro w _; go_simp⟩) ?_
      simp only [List.set_cons_zero, List.set_cons_succ]
      refine freeD 6 87 (.int .i64 now) rfl rfl (by kernel_rfl) (by kernel_rfl) (by kernel_rfl) (by decide) (fun _ _ _ h => h) (fun _ => hT) (Or.inl ⟨by kernel_rfl, by intro w _; go_simp⟩) ?_
      simp only [List.set_cons_zero, List.set_cons_succ]
      refine freeD 7 88 (.int .i64 now) rfl rfl (by kernel_rfl) (by kernel_rfl) (by kernel_rfl) (by decide) (fun _ _ _ h => h) (fun _ => hT) (Or.inl ⟨by kernel_rfl, by intro w _; go_simp⟩) ?_
      simp only [List.set_cons_zero, List.set_cons_succ]
      refine freeD 8 89 (.pointer (some ⟨w.heap.size, 2, none⟩)) rfl rfl (by kernel_rfl) (by kernel_rfl) (by kernel_rfl) (by decide) (fun _ _ _ h => h) (fun _ => hT) (Or.inl ⟨by kernel_rfl, by intro w _; go_simp⟩) ?_
      simp only [List.set_cons_zero, List.set_cons_succ]
      refine firstD 9 90 (.int .i64 xd) rfl rfl (by kernel_rfl) (by kernel_rfl) (by kernel_rfl) (by kernel_rfl) (by decide) (by kernel_rfl) (fun _ _ _ h => h) (Or.inl ⟨by kernel_rfl, by intro w hSw; (try dsimp only at hSw); go_simp⟩) hT ?_
      simp only [List.set_cons_zero, List.set_cons_succ]
      refine freeD 10 91 (.int .i64 (now + xd)) rfl rfl (by kernel_rfl) (by kernel_rfl) (by kernel_rfl) (by decide) (fun _ _ _ h => h) (fun _ => hT) (Or.inl ⟨by kernel_rfl, by intro w _; go_simp⟩) ?_
      simp only [List.set_cons_zero, List.set_cons_succ]
      refine freeD 11 92 (.int .i64 1) rfl rfl (by kernel_rfl) (by kernel_rfl) (by kernel_rfl) (by decide) (fun _ _ _ h => h) (fun _ => hT) (Or.inl ⟨by kernel_rfl, by intro w _; go_simp⟩) ?_
      simp only [List.set_cons_zero, List.set_cons_succ]
      refine freeD 12 93 (.agg #[.int .i64 (i : Int), .int .i64 now, .int .i64 (now + xd), .int .i64 1, .int .i64 0]) rfl rfl (by kernel_rfl) (by kernel_rfl) (by kernel_rfl) (by decide) (fun _ _ _ h => h) (fun _ => hT) (Or.inl ⟨by kernel_rfl, by intro w _; go_simp⟩) ?_
      simp only [List.set_cons_zero, List.set_cons_succ]
      refine wpT_ready (rs := [13]) (by kernel_rfl) (by simp) (AllT.cons rfl (fun K hK => ?_) AllT.nil)
      go_simp
      obtain ⟨W4, hW4⟩ : ∃ W4, W4 = (W2.alloc (.cells #[.int .i64 (i : Int), .int .i64 now, .int .i64 (now + xd), .int .i64 1, .int .i64 0] 45)).drew := ⟨_, rfl⟩
      have b4 : Below W2.heap.size W2 W4 := by rw [hW4]; exact (ba (Below.refl _ _) _).drew
      have HR4 : Hid (RowIn 5 cj W4 (.slice (some ⟨W2.heap.size, 0, none⟩) 1 1) [(⟨i, now, now + xd, 1, 0⟩ : Jb)]) := mkHid (by
        rw [hW4]
        exact RowIn.below (rowOne (f := cj) (⟨i, now, now + xd, 1, 0⟩ : Jb) W2 45) (Below.refl _ _).drew)
      have HJ4 := mkHid (ownN_kept HJ2.out (kept_new (F := fun _ => False) b4) (fun _ _ f => f))
      have HB4 := mkHid b4
      have HB4F : Hid (Below W2.heap.size W2 W4) := mkHid b4
      have HKB : Hid (Kept (fun _ => False) W2 W4) := mkHid (kept_new b4)
      have hb4 := blk_late HB2.out b4
      have d3 : W4.cell? ⟨b, 3, none⟩ = some (.slice ja s.js.length jc) := cell_of_block hb4 rfl
      have dz := kc z2 b4
      have HBL4 := mkHid hb4
      rw [← hW4]
      clear hW4 b4 hT hb4
      refine hK.out _ _ (fun _ => ⟨d3, dz⟩) ?_
      clear hK K
      (try simp only [Act.put])
      obtain ⟨y3, hy3⟩ : ∃ y, y = W2.heap.size := ⟨_, rfl⟩
      rw [← hy3] at HR4 ⊢
      clear hy3
      refine wpT_ready (rs := [14]) (by kernel_rfl) (by simp) (AllT.cons rfl (fun K hK => ?_) AllT.nil)
      refine step_append_src5 (w := W4) rfl (.tmp 85) (.tmp 94) 54 54 rfl base 45 ie Tryd.underlying54 hie.out.1 (.agg #[.int .i64 0, .int .i64 0, .int .i64 0, .int .i64 0, .int .i64 0]) 40 hie.out.2.1 rfl hie.out.2.2.1 hie.out.2.2.2 (.slice ja s.js.length jc) s.js.length (s.js.flatMap cj) (by simp [Act.eval]) HJ4.out _ 1 (cj ⟨i, now, now + xd, 1, 0⟩) (by simp [Act.eval]) (srcOne (f := cj) (x := (⟨i, now, now + xd, 1, 0⟩ : Jb)) Tryd.underlying54 (by omega) cj_len onej HR4.out) (by unfold maxLen; omega) (by omega) (by have := HG.out.base_le; have := HB1.out.size; have := HK2.out.size; have := HB4.out.size; omega) ?_
      intro v6 w6 ho6 hg6 hat6
      have HPN : Hid (DG base (w6.setCell ⟨b, 3, none⟩ v6) b p _ _ v6 (ls.set i (now + 1)) (s.put i ((xc, xp, xd, xs), xa) now ticks)) := mkHid (HD1.out.putF rfl HX.out n0 (by rw [← HW2.out]; exact HB4F.out) (by rw [HE.out]; exact ho6) hg6 hat6)
      have hk6 := Kept.grown hg6 (F := fun k => (.slice ja s.js.length jc : Value).ownBlock = some k) (fun k hk => hk)
      have HA6 : Hid (∀ k, v6.ownBlock = some k → (.slice ja s.js.length jc : Value).ownBlock = some k ∨ k = W4.heap.size) := mkHid (fun k e => by
        rcases hat6 with a | a
        · exact .inl (a ▸ e)
        · rw [a] at e; simp at e; exact .inr e.symm)
      obtain ⟨na6, nc6, hv6, _⟩ := own_sh ho6
      subst hv6
      have hpb := (hk6.block b (lt_of_heap HBL4.out) HD1.out.jb).trans HBL4.out
      have e3' : w6.cell? ⟨b, 3, none⟩ = some (.slice ja s.js.length jc) := cell_of_block hpb rfl
      have g3 : w6.frozen? ⟨b, 3, none⟩ = false := frozen_of_block hpb
      have ez := hk6.cell dz (fun e => by have := (HG.out.jown.lt _ e).2; simp only at this; omega)
      have HK6 := mkHid hk6
      clear ho6 hg6 hat6 hk6 hpb
      refine hK.out _ _ (fun _ => ⟨e3', ez⟩) ?_
      clear hK K
      (try simp only [Act.put])
      refine freeD 15 96 (.pointer (some ⟨b, 0, none⟩)) rfl rfl (by kernel_rfl) (by kernel_rfl) (by kernel_rfl) (by decide) (fun _ _ _ h => h) (fun _ => ⟨e3', ez⟩) (Or.inl ⟨by kernel_rfl, by intro w _; go_simp⟩) ?_
      simp only [List.set_cons_zero, List.set_cons_succ]
      refine freeD 16 97 (.pointer (some ⟨b, 3, none⟩)) rfl rfl (by kernel_rfl) (by kernel_rfl) (by kernel_rfl) (by decide) (fun _ _ _ h => h) (fun _ => ⟨e3', ez⟩) (Or.inl ⟨by kernel_rfl, by intro w _; go_simp⟩) ?_
      simp only [List.set_cons_zero, List.set_cons_succ]
      refine wpT_ready (rs := [17]) (by kernel_rfl) (by simp) (AllT.cons rfl (fun K hK => ?_) AllT.nil)
      go_simp
      refine hK.out _ _ (bool_no (by kernel_rfl)) ?_
      clear hK K e3' ez g3
      refine wpT_done (by kernel_rfl) ?_ _
      have HK7 : Hid (Kept (fun k => k = b) w6 (w6.setCell ⟨b, 3, none⟩ (.slice na6 (s.js.length + 1) nc6))) := mkHid (Kept.setCell (F := fun k => k = b) w6 (p := ⟨b, 3, none⟩) rfl (.slice na6 (s.js.length + 1) nc6))
      generalize w6.setCell ⟨b, 3, none⟩ (.slice na6 (s.js.length + 1) nc6) = W7 at *
      clear c3 z2 d3 dz
      go_wp2
      go_ret
      refine ⟨rfl, DC.mk HPN.out ?_ (fun k e => ?_)⟩
      · exact ((((kept_new HB1.out).trans HK2.out (fun k e => .inl (.inr (.inr (.inl (by rw [e]; rfl)))))).trans HKB.out (fun k e => e.elim)).trans HK6.out (fun k e => .inl (.inr (.inr (.inr e))))).trans HK7.out (fun k e => .inl (.inl e))
      · rcases HA6.out k e with a | a
        · exact .inl a
        · exact .inr (by rw [a]; have := HB1.out.size; have := HK2.out.size; have := HB4.out.size; omega)
    · have tn : decide (xc < L) = false := decide_eq_false (by omega)
      have tn2 : decide (L < 1) = false := decide_eq_false (by omega)
      go_enter Tryd.func14, Tryd.ntmps14
      go_wp2
      go_quiet (fail)
      go_wp2
      have HE : Hid (newJ (xc, xp, xd, xs) i now L = ⟨i, now, now + xd, L, 0⟩) := mkHid (by unfold newJ; rw [← HL.out])
      obtain ⟨W1, hW1⟩ : ∃ W1, W1 = (w.alloc (.cells #[.int .i64 xc, .int .i64 xp, .int .i64 xd, .int .i64 xs] 37)).drewN nq := ⟨_, rfl⟩
      have HB1 : Hid (Below w.heap.size w W1) := mkHid (by rw [hW1]; exact below_drewN (ba (Below.refl _ w) _) _)
      have HD1 := mkHid (HG.out.below HB1.out)
      have hx1 : W1.heap[w.heap.size]? = some (.cells #[.int .i64 xc, .int .i64 xp, .int .i64 xd, .int .i64 xs] 37) := by rw [hW1]; exact heap_alloc_new w _
      obtain ⟨W2, hW2⟩ : ∃ W2, W2 = W1.setCell ⟨gl, i, none⟩ (.int .i64 (now + 1)) := ⟨_, rfl⟩
      have hk2 : Kept (fun k => k = gl) W1 W2 := by rw [hW2]; exact Kept.setCell (F := fun k => k = gl) W1 (p := ⟨gl, i, none⟩) rfl _
      have hx2 := (hk2.block _ (lt_of_heap hx1) HGL.out.1).trans hx1
      have hb2 := (hk2.block b HD1.out.lt (fun e => HGL.out.2.1 e.symm)).trans HD1.out.blk
      have HJ2 : Hid (W2.ownsRow base 45 5 (.slice ja s.js.length jc) s.js.length (s.js.flatMap cj)) := mkHid (ownN_kept HD1.out.jown hk2 (fun k e f => HGL.out.2.2 (by rw [← f]; exact e)))
      have HK2 := mkHid hk2
      have HB2 := mkHid hb2
      have HX2 := mkHid hx2
      have HW2 := mkHid hW2
      rw [← hW1, ← hW2]
      clear hW1 hW2 hk2 hb2 hx2 hx1 c1 c2 c3 ql qf q0 q1 q2 q3
      have c3 : W2.cell? ⟨b, 3, none⟩ = some (.slice ja s.js.length jc) := cell_of_block HB2.out rfl
      have z2 : W2.cell? ⟨w.heap.size, 2, none⟩ = some (.int .i64 xd) := cell_of_block HX2.out rfl
      have hT : W2.drew.cell? ⟨b, 3, none⟩ = some (.slice ja s.js.length jc) ∧ W2.drew.cell? ⟨w.heap.size, 2, none⟩ = some (.int .i64 xd) := ⟨c3, z2⟩
      refine wp_region_till (fun w' => w'.cell? ⟨b, 3, none⟩ = some (.slice ja s.js.length jc) ∧ w'.cell? ⟨w.heap.size, 2, none⟩ = some (.int .i64 xd)) 17 (by kernel_rfl) ?_
      refine freeD 0 81 (.pointer (some ⟨b, 0, none⟩)) rfl rfl (by kernel_rfl) (by kernel_rfl) (by kernel_rfl) (by decide) (fun _ _ _ h => h) (fun _ => hT) (Or.inl ⟨by kernel_rfl, by intro w _; go_simp⟩) ?_
      simp only [List.set_cons_zero, List.set_cons_succ]
      refine freeD 1 82 (.pointer (some ⟨b, 0, none⟩)) rfl rfl (by kernel_rfl) (by kernel_rfl) (by kernel_rfl) (by decide) (fun _ _ _ h => h) (fun _ => hT) (Or.inl ⟨by kernel_rfl, by intro w _; go_simp⟩) ?_
      simp only [List.set_cons_zero, List.set_cons_succ]
      refine freeD 2 83 (.pointer (some ⟨b, 0, none⟩)) rfl rfl (by kernel_rfl) (by kernel_rfl) (by kernel_rfl) (by decide) (fun _ _ _ h => h) (fun _ => hT) (Or.inl ⟨by kernel_rfl, by intro w _; go_simp⟩) ?_
      simp only [List.set_cons_zero, List.set_cons_succ]
      refine freeD 3 84 (.pointer (some ⟨b, 3, none⟩)) rfl rfl (by kernel_rfl) (by kernel_rfl) (by kernel_rfl) (by decide) (fun _ _ _ h => h) (fun _ => hT) (Or.inl ⟨by kernel_rfl, by intro w _; go_simp⟩) ?_
      simp only [List.set_cons_zero, List.set_cons_succ]
      refine firstD 4 85 (.slice ja s.js.length jc) rfl rfl (by kernel_rfl) (by kernel_rfl) (by kernel_rfl) (by kernel_rfl) (by decide) (by kernel_rfl) (fun _ _ _ h => h) (Or.inl ⟨by kernel_rfl, by intro w hSw; (try dsimp only at hSw); go_simp⟩) hT ?_
      simp only [List.set_cons_zero, List.set_cons_succ]
      refine freeD 5 86 (.int .i64 (i : Int)) rfl rfl (by kernel_rfl) (by kernel_rfl) (by kernel_rfl) (by decide) (fun _ _ _ h => h) (fun _ => hT) (Or.inl ⟨by kernel_rfl, by intro w _; go_simp⟩) ?_
      simp only [List.set_cons_zero, List.set_cons_succ]
      refine freeD 6 87 (.int .i64 now) rfl rfl (by kernel_rfl) (by kernel_rfl) (by kernel_rfl) (by decide) (fun _ _ _ h => h) (fun _ => hT) (Or.inl ⟨by kernel_rfl, by intro w _; go_simp⟩) ?_
      simp only [List.set_cons_zero, List.set_cons_succ]
      refine freeD 7 88 (.int .i64 now) rfl rfl (by kernel_rfl) (by kernel_rfl) (by kernel_rfl) (by decide) (fun _ _ _ h => h) (fun _ => hT) (Or.inl ⟨by kernel_rfl, by intro w _; go_simp⟩) ?_
      simp only [List.set_cons_zero, List.set_cons_succ]
      refine freeD 8 89 (.pointer (some ⟨w.heap.size, 2, none⟩)) rfl rfl (by kernel_rfl) (by kernel_rfl) (by kernel_rfl) (by decide) (fun _ _ _ h => h) (fun _ => hT) (Or.inl ⟨by kernel_rfl, by intro w _; go_simp⟩) ?_
      simp only [List.set_cons_zero, List.set_cons_succ]
      refine firstD 9 90 (.int .i64 xd) rfl rfl (by kernel_rfl) (by kernel_rfl) (by kernel_rfl) (by kernel_rfl) (by decide) (by kernel_rfl) (fun _ _ _ h => h) (Or.inl ⟨by kernel_rfl, by intro w hSw; (try dsimp only at hSw); go_simp⟩) hT ?_
      simp only [List.set_cons_zero, List.set_cons_succ]
      refine freeD 10 91 (.int .i64 (now + xd)) rfl rfl (by kernel_rfl) (by kernel_rfl) (by kernel_rfl) (by decide) (fun _ _ _ h => h) (fun _ => hT) (Or.inl ⟨by kernel_rfl, by intro w _; go_simp⟩) ?_
      simp only [List.set_cons_zero, List.set_cons_succ]
      refine freeD 11 92 (.int .i64 L) rfl rfl (by kernel_rfl) (by kernel_rfl) (by kernel_rfl) (by decide) (fun _ _ _ h => h) (fun _ => hT) (Or.inl ⟨by kernel_rfl, by intro w _; go_simp⟩) ?_
      simp only [List.set_cons_zero, List.set_cons_succ]
      refine freeD 12 93 (.agg #[.int .i64 (i : Int), .int .i64 now, .int .i64 (now + xd), .int .i64 L, .int .i64 0]) rfl rfl (by kernel_rfl) (by kernel_rfl) (by kernel_rfl) (by decide) (fun _ _ _ h => h) (fun _ => hT) (Or.inl ⟨by kernel_rfl, by intro w _; go_simp⟩) ?_
      simp only [List.set_cons_zero, List.set_cons_succ]
      refine wpT_ready (rs := [13]) (by kernel_rfl) (by simp) (AllT.cons rfl (fun K hK => ?_) AllT.nil)
      go_simp
      obtain ⟨W4, hW4⟩ : ∃ W4, W4 = (W2.alloc (.cells #[.int .i64 (i : Int), .int .i64 now, .int .i64 (now + xd), .int .i64 L, .int .i64 0] 45)).drew := ⟨_, rfl⟩
      have b4 : Below W2.heap.size W2 W4 := by rw [hW4]; exact (ba (Below.refl _ _) _).drew
      have HR4 : Hid (RowIn 5 cj W4 (.slice (some ⟨W2.heap.size, 0, none⟩) 1 1) [(⟨i, now, now + xd, L, 0⟩ : Jb)]) := mkHid (by
        rw [hW4]
        exact RowIn.below (rowOne (f := cj) (⟨i, now, now + xd, L, 0⟩ : Jb) W2 45) (Below.refl _ _).drew)
      have HJ4 := mkHid (ownN_kept HJ2.out (kept_new (F := fun _ => False) b4) (fun _ _ f => f))
      have HB4 := mkHid b4
      have HB4F : Hid (Below W2.heap.size W2 W4) := mkHid b4
      have HKB : Hid (Kept (fun _ => False) W2 W4) := mkHid (kept_new b4)
      have hb4 := blk_late HB2.out b4
      have d3 : W4.cell? ⟨b, 3, none⟩ = some (.slice ja s.js.length jc) := cell_of_block hb4 rfl
      have dz := kc z2 b4
      have HBL4 := mkHid hb4
      rw [← hW4]
      clear hW4 b4 hT hb4
      refine hK.out _ _ (fun _ => ⟨d3, dz⟩) ?_
      clear hK K
      (try simp only [Act.put])
      obtain ⟨y3, hy3⟩ : ∃ y, y = W2.heap.size := ⟨_, rfl⟩
      rw [← hy3] at HR4 ⊢
      clear hy3
      refine wpT_ready (rs := [14]) (by kernel_rfl) (by simp) (AllT.cons rfl (fun K hK => ?_) AllT.nil)
      refine step_append_src5 (w := W4) rfl (.tmp 85) (.tmp 94) 54 54 rfl base 45 ie Tryd.underlying54 hie.out.1 (.agg #[.int .i64 0, .int .i64 0, .int .i64 0, .int .i64 0, .int .i64 0]) 40 hie.out.2.1 rfl hie.out.2.2.1 hie.out.2.2.2 (.slice ja s.js.length jc) s.js.length (s.js.flatMap cj) (by simp [Act.eval]) HJ4.out _ 1 (cj ⟨i, now, now + xd, L, 0⟩) (by simp [Act.eval]) (srcOne (f := cj) (x := (⟨i, now, now + xd, L, 0⟩ : Jb)) Tryd.underlying54 (by omega) cj_len onej HR4.out) (by unfold maxLen; omega) (by omega) (by have := HG.out.base_le; have := HB1.out.size; have := HK2.out.size; have := HB4.out.size; omega) ?_
      intro v6 w6 ho6 hg6 hat6
      have HPN : Hid (DG base (w6.setCell ⟨b, 3, none⟩ v6) b p _ _ v6 (ls.set i (now + 1)) (s.put i ((xc, xp, xd, xs), xa) now L)) := mkHid (HD1.out.putF rfl HX.out n0 (by rw [← HW2.out]; exact HB4F.out) (by rw [HE.out]; exact ho6) hg6 hat6)
      have hk6 := Kept.grown hg6 (F := fun k => (.slice ja s.js.length jc : Value).ownBlock = some k) (fun k hk => hk)
      have HA6 : Hid (∀ k, v6.ownBlock = some k → (.slice ja s.js.length jc : Value).ownBlock = some k ∨ k = W4.heap.size) := mkHid (fun k e => by
        rcases hat6 with a | a
        · exact .inl (a ▸ e)
        · rw [a] at e; simp at e; exact .inr e.symm)
      obtain ⟨na6, nc6, hv6, _⟩ := own_sh ho6
      subst hv6
      have hpb := (hk6.block b (lt_of_heap HBL4.out) HD1.out.jb).trans HBL4.out
      have e3' : w6.cell? ⟨b, 3, none⟩ = some (.slice ja s.js.length jc) := cell_of_block hpb rfl
      have g3 : w6.frozen? ⟨b, 3, none⟩ = false := frozen_of_block hpb
      have ez := hk6.cell dz (fun e => by have := (HG.out.jown.lt _ e).2; simp only at this; omega)
      have HK6 := mkHid hk6
      clear ho6 hg6 hat6 hk6 hpb
      refine hK.out _ _ (fun _ => ⟨e3', ez⟩) ?_
      clear hK K
      (try simp only [Act.put])
      refine freeD 15 96 (.pointer (some ⟨b, 0, none⟩)) rfl rfl (by kernel_rfl) (by kernel_rfl) (by kernel_rfl) (by decide) (fun _ _ _ h => h) (fun _ => ⟨e3', ez⟩) (Or.inl ⟨by kernel_rfl, by intro w _; go_simp⟩) ?_
      simp only [List.set_cons_zero, List.set_cons_succ]
      refine freeD 16 97 (.pointer (some ⟨b, 3, none⟩)) rfl rfl (by kernel_rfl) (by kernel_rfl) (by kernel_rfl) (by decide) (fun _ _ _ h => h) (fun _ => ⟨e3', ez⟩) (Or.inl ⟨by kernel_rfl, by intro w _; go_simp⟩) ?_
      simp only [List.set_cons_zero, List.set_cons_succ]
      refine wpT_ready (rs := [17]) (by kernel_rfl) (by simp) (AllT.cons rfl (fun K hK => ?_) AllT.nil)
      go_simp
      refine hK.out _ _ (bool_no (by kernel_rfl)) ?_
      clear hK K e3' ez g3
      refine wpT_done (by kernel_rfl) ?_ _
      have HK7 : Hid (Kept (fun k => k = b) w6 (w6.setCell ⟨b, 3, none⟩ (.slice na6 (s.js.length + 1) nc6))) := mkHid (Kept.setCell (F := fun k => k = b) w6 (p := ⟨b, 3, none⟩) rfl (.slice na6 (s.js.length + 1) nc6))
      generalize w6.setCell ⟨b, 3, none⟩ (.slice na6 (s.js.length + 1) nc6) = W7 at *
      clear c3 z2 d3 dz
      go_wp2
      go_ret
      refine ⟨rfl, DC.mk HPN.out ?_ (fun k e => ?_)⟩
      · exact ((((kept_new HB1.out).trans HK2.out (fun k e => .inl (.inr (.inr (.inl (by rw [e]; rfl)))))).trans HKB.out (fun k e => e.elim)).trans HK6.out (fun k e => .inl (.inr (.inr (.inr e))))).trans HK7.out (fun k e => .inl (.inl e))
      · rcases HA6.out k e with a | a
        · exact .inl a
        · exact .inr (by rw [a]; have := HB1.out.size; have := HK2.out.size; have := HB4.out.size; omega)
    · have tn2 : decide (L < 1) = false := decide_eq_false (by omega)
      go_enter Tryd.func14, Tryd.ntmps14
      go_wp2
      go_quiet (fail)
      go_wp2
      have HE : Hid (newJ (L, xp, xd, xs) i now ticks = ⟨i, now, now + xd, L, 0⟩) := mkHid (by unfold newJ; rw [← HL.out])
      obtain ⟨W1, hW1⟩ : ∃ W1, W1 = (w.alloc (.cells #[.int .i64 L, .int .i64 xp, .int .i64 xd, .int .i64 xs] 37)).drewN nq := ⟨_, rfl⟩
      have HB1 : Hid (Below w.heap.size w W1) := mkHid (by rw [hW1]; exact below_drewN (ba (Below.refl _ w) _) _)
      have HD1 := mkHid (HG.out.below HB1.out)
      have hx1 : W1.heap[w.heap.size]? = some (.cells #[.int .i64 L, .int .i64 xp, .int .i64 xd, .int .i64 xs] 37) := by rw [hW1]; exact heap_alloc_new w _
      obtain ⟨W2, hW2⟩ : ∃ W2, W2 = W1.setCell ⟨gl, i, none⟩ (.int .i64 (now + 1)) := ⟨_, rfl⟩
      have hk2 : Kept (fun k => k = gl) W1 W2 := by rw [hW2]; exact Kept.setCell (F := fun k => k = gl) W1 (p := ⟨gl, i, none⟩) rfl _
      have hx2 := (hk2.block _ (lt_of_heap hx1) HGL.out.1).trans hx1
      have hb2 := (hk2.block b HD1.out.lt (fun e => HGL.out.2.1 e.symm)).trans HD1.out.blk
      have HJ2 : Hid (W2.ownsRow base 45 5 (.slice ja s.js.length jc) s.js.length (s.js.flatMap cj)) := mkHid (ownN_kept HD1.out.jown hk2 (fun k e f => HGL.out.2.2 (by rw [← f]; exact e)))
      have HK2 := mkHid hk2
      have HB2 := mkHid hb2
      have HX2 := mkHid hx2
      have HW2 := mkHid hW2
      rw [← hW1, ← hW2]
      clear hW1 hW2 hk2 hb2 hx2 hx1 c1 c2 c3 ql qf q0 q1 q2 q3
      have c3 : W2.cell? ⟨b, 3, none⟩ = some (.slice ja s.js.length jc) := cell_of_block HB2.out rfl
      have z2 : W2.cell? ⟨w.heap.size, 2, none⟩ = some (.int .i64 xd) := cell_of_block HX2.out rfl
      have hT : W2.drew.cell? ⟨b, 3, none⟩ = some (.slice ja s.js.length jc) ∧ W2.drew.cell? ⟨w.heap.size, 2, none⟩ = some (.int .i64 xd) := ⟨c3, z2⟩
      refine wp_region_till (fun w' => w'.cell? ⟨b, 3, none⟩ = some (.slice ja s.js.length jc) ∧ w'.cell? ⟨w.heap.size, 2, none⟩ = some (.int .i64 xd)) 17 (by kernel_rfl) ?_
      refine freeD 0 81 (.pointer (some ⟨b, 0, none⟩)) rfl rfl (by kernel_rfl) (by kernel_rfl) (by kernel_rfl) (by decide) (fun _ _ _ h => h) (fun _ => hT) (Or.inl ⟨by kernel_rfl, by intro w _; go_simp⟩) ?_
      simp only [List.set_cons_zero, List.set_cons_succ]
      refine freeD 1 82 (.pointer (some ⟨b, 0, none⟩)) rfl rfl (by kernel_rfl) (by kernel_rfl) (by kernel_rfl) (by decide) (fun _ _ _ h => h) (fun _ => hT) (Or.inl ⟨by kernel_rfl, by intro w _; go_simp⟩) ?_
      simp only [List.set_cons_zero, List.set_cons_succ]
      refine freeD 2 83 (.pointer (some ⟨b, 0, none⟩)) rfl rfl (by kernel_rfl) (by kernel_rfl) (by kernel_rfl) (by decide) (fun _ _ _ h => h) (fun _ => hT) (Or.inl ⟨by kernel_rfl, by intro w _; go_simp⟩) ?_
      simp only [List.set_cons_zero, List.set_cons_succ]
      refine freeD 3 84 (.pointer (some ⟨b, 3, none⟩)) rfl rfl (by kernel_rfl) (by kernel_rfl) (by kernel_rfl) (by decide) (fun _ _ _ h => h) (fun _ => hT) (Or.inl ⟨by kernel_rfl, by intro w _; go_simp⟩) ?_
      simp only [List.set_cons_zero, List.set_cons_succ]
      refine firstD 4 85 (.slice ja s.js.length jc) rfl rfl (by kernel_rfl) (by kernel_rfl) (by kernel_rfl) (by kernel_rfl) (by decide) (by kernel_rfl) (fun _ _ _ h => h) (Or.inl ⟨by kernel_rfl, by intro w hSw; (try dsimp only at hSw); go_simp⟩) hT ?_
      simp only [List.set_cons_zero, List.set_cons_succ]
      refine freeD 5 86 (.int .i64 (i : Int)) rfl rfl (by kernel_rfl) (by kernel_rfl) (by kernel_rfl) (by decide) (fun _ _ _ h => h) (fun _ => hT) (Or.inl ⟨by kernel_rfl, by intro w _; go_simp⟩) ?_
      simp only [List.set_cons_zero, List.set_cons_succ]
      refine freeD 6 87 (.int .i64 now) rfl rfl (by kernel_rfl) (by kernel_rfl) (by kernel_rfl) (by decide) (fun _ _ _ h => h) (fun _ => hT) (Or.inl ⟨by kernel_rfl, by intro w _; go_simp⟩) ?_
      simp only [List.set_cons_zero, List.set_cons_succ]
      refine freeD 7 88 (.int .i64 now) rfl rfl (by kernel_rfl) (by kernel_rfl) (by kernel_rfl) (by decide) (fun _ _ _ h => h) (fun _ => hT) (Or.inl ⟨by kernel_rfl, by intro w _; go_simp⟩) ?_
      simp only [List.set_cons_zero, List.set_cons_succ]
      refine freeD 8 89 (.pointer (some ⟨w.heap.size, 2, none⟩)) rfl rfl (by kernel_rfl) (by kernel_rfl) (by kernel_rfl) (by decide) (fun _ _ _ h => h) (fun _ => hT) (Or.inl ⟨by kernel_rfl, by intro w _; go_simp⟩) ?_
      simp only [List.set_cons_zero, List.set_cons_succ]
      refine firstD 9 90 (.int .i64 xd) rfl rfl (by kernel_rfl) (by kernel_rfl) (by kernel_rfl) (by kernel_rfl) (by decide) (by kernel_rfl) (fun _ _ _ h => h) (Or.inl ⟨by kernel_rfl, by intro w hSw; (try dsimp only at hSw); go_simp⟩) hT ?_
      simp only [List.set_cons_zero, List.set_cons_succ]
      refine freeD 10 91 (.int .i64 (now + xd)) rfl rfl (by kernel_rfl) (by kernel_rfl) (by kernel_rfl) (by decide) (fun _ _ _ h => h) (fun _ => hT) (Or.inl ⟨by kernel_rfl, by intro w _; go_simp⟩) ?_
      simp only [List.set_cons_zero, List.set_cons_succ]
      refine freeD 11 92 (.int .i64 L) rfl rfl (by kernel_rfl) (by kernel_rfl) (by kernel_rfl) (by decide) (fun _ _ _ h => h) (fun _ => hT) (Or.inl ⟨by kernel_rfl, by intro w _; go_simp⟩) ?_
      simp only [List.set_cons_zero, List.set_cons_succ]
      refine freeD 12 93 (.agg #[.int .i64 (i : Int), .int .i64 now, .int .i64 (now + xd), .int .i64 L, .int .i64 0]) rfl rfl (by kernel_rfl) (by kernel_rfl) (by kernel_rfl) (by decide) (fun _ _ _ h => h) (fun _ => hT) (Or.inl ⟨by kernel_rfl, by intro w _; go_simp⟩) ?_
      simp only [List.set_cons_zero, List.set_cons_succ]
      refine wpT_ready (rs := [13]) (by kernel_rfl) (by simp) (AllT.cons rfl (fun K hK => ?_) AllT.nil)
      go_simp
      obtain ⟨W4, hW4⟩ : ∃ W4, W4 = (W2.alloc (.cells #[.int .i64 (i : Int), .int .i64 now, .int .i64 (now + xd), .int .i64 L, .int .i64 0] 45)).drew := ⟨_, rfl⟩
      have b4 : Below W2.heap.size W2 W4 := by rw [hW4]; exact (ba (Below.refl _ _) _).drew
      have HR4 : Hid (RowIn 5 cj W4 (.slice (some ⟨W2.heap.size, 0, none⟩) 1 1) [(⟨i, now, now + xd, L, 0⟩ : Jb)]) := mkHid (by
        rw [hW4]
        exact RowIn.below (rowOne (f := cj) (⟨i, now, now + xd, L, 0⟩ : Jb) W2 45) (Below.refl _ _).drew)
      have HJ4 := mkHid (ownN_kept HJ2.out (kept_new (F := fun _ => False) b4) (fun _ _ f => f))
      have HB4 := mkHid b4
      have HB4F : Hid (Below W2.heap.size W2 W4) := mkHid b4
      have HKB : Hid (Kept (fun _ => False) W2 W4) := mkHid (kept_new b4)
      have hb4 := blk_late HB2.out b4
      have d3 : W4.cell? ⟨b, 3, none⟩ = some (.slice ja s.js.length jc) := cell_of_block hb4 rfl
      have dz := kc z2 b4
      have HBL4 := mkHid hb4
      rw [← hW4]
      clear hW4 b4 hT hb4
      refine hK.out _ _ (fun _ => ⟨d3, dz⟩) ?_
      clear hK K
      (try simp only [Act.put])
      obtain ⟨y3, hy3⟩ : ∃ y, y = W2.heap.size := ⟨_, rfl⟩
      rw [← hy3] at HR4 ⊢
      clear hy3
      refine wpT_ready (rs := [14]) (by kernel_rfl) (by simp) (AllT.cons rfl (fun K hK => ?_) AllT.nil)
      refine step_append_src5 (w := W4) rfl (.tmp 85) (.tmp 94) 54 54 rfl base 45 ie Tryd.underlying54 hie.out.1 (.agg #[.int .i64 0, .int .i64 0, .int .i64 0, .int .i64 0, .int .i64 0]) 40 hie.out.2.1 rfl hie.out.2.2.1 hie.out.2.2.2 (.slice ja s.js.length jc) s.js.length (s.js.flatMap cj) (by simp [Act.eval]) HJ4.out _ 1 (cj ⟨i, now, now + xd, L, 0⟩) (by simp [Act.eval]) (srcOne (f := cj) (x := (⟨i, now, now + xd, L, 0⟩ : Jb)) Tryd.underlying54 (by omega) cj_len onej HR4.out) (by unfold maxLen; omega) (by omega) (by have := HG.out.base_le; have := HB1.out.size; have := HK2.out.size; have := HB4.out.size; omega) ?_
      intro v6 w6 ho6 hg6 hat6
      have HPN : Hid (DG base (w6.setCell ⟨b, 3, none⟩ v6) b p _ _ v6 (ls.set i (now + 1)) (s.put i ((L, xp, xd, xs), xa) now ticks)) := mkHid (HD1.out.putF rfl HX.out n0 (by rw [← HW2.out]; exact HB4F.out) (by rw [HE.out]; exact ho6) hg6 hat6)
      have hk6 := Kept.grown hg6 (F := fun k => (.slice ja s.js.length jc : Value).ownBlock = some k) (fun k hk => hk)
      have HA6 : Hid (∀ k, v6.ownBlock = some k → (.slice ja s.js.length jc : Value).ownBlock = some k ∨ k = W4.heap.size) := mkHid (fun k e => by
        rcases hat6 with a | a
        · exact .inl (a ▸ e)
        · rw [a] at e; simp at e; exact .inr e.symm)
      obtain ⟨na6, nc6, hv6, _⟩ := own_sh ho6
      subst hv6
      have hpb := (hk6.block b (lt_of_heap HBL4.out) HD1.out.jb).trans HBL4.out
      have e3' : w6.cell? ⟨b, 3, none⟩ = some (.slice ja s.js.length jc) := cell_of_block hpb rfl
      have g3 : w6.frozen? ⟨b, 3, none⟩ = false := frozen_of_block hpb
      have ez := hk6.cell dz (fun e => by have := (HG.out.jown.lt _ e).2; simp only at this; omega)
      have HK6 := mkHid hk6
      clear ho6 hg6 hat6 hk6 hpb
      refine hK.out _ _ (fun _ => ⟨e3', ez⟩) ?_
      clear hK K
      (try simp only [Act.put])
      refine freeD 15 96 (.pointer (some ⟨b, 0, none⟩)) rfl rfl (by kernel_rfl) (by kernel_rfl) (by kernel_rfl) (by decide) (fun _ _ _ h => h) (fun _ => ⟨e3', ez⟩) (Or.inl ⟨by kernel_rfl, by intro w _; go_simp⟩) ?_
      simp only [List.set_cons_zero, List.set_cons_succ]
      refine freeD 16 97 (.pointer (some ⟨b, 3, none⟩)) rfl rfl (by kernel_rfl) (by kernel_rfl) (by kernel_rfl) (by decide) (fun _ _ _ h => h) (fun _ => ⟨e3', ez⟩) (Or.inl ⟨by kernel_rfl, by intro w _; go_simp⟩) ?_
      simp only [List.set_cons_zero, List.set_cons_succ]
      refine wpT_ready (rs := [17]) (by kernel_rfl) (by simp) (AllT.cons rfl (fun K hK => ?_) AllT.nil)
      go_simp
      refine hK.out _ _ (bool_no (by kernel_rfl)) ?_
      clear hK K e3' ez g3
      refine wpT_done (by kernel_rfl) ?_ _
      have HK7 : Hid (Kept (fun k => k = b) w6 (w6.setCell ⟨b, 3, none⟩ (.slice na6 (s.js.length + 1) nc6))) := mkHid (Kept.setCell (F := fun k => k = b) w6 (p := ⟨b, 3, none⟩) rfl (.slice na6 (s.js.length + 1) nc6))
      generalize w6.setCell ⟨b, 3, none⟩ (.slice na6 (s.js.length + 1) nc6) = W7 at *
      clear c3 z2 d3 dz
      go_wp2
      go_ret
      refine ⟨rfl, DC.mk HPN.out ?_ (fun k e => ?_)⟩
      · exact ((((kept_new HB1.out).trans HK2.out (fun k e => .inl (.inr (.inr (.inl (by rw [e]; rfl)))))).trans HKB.out (fun k e => e.elim)).trans HK6.out (fun k e => .inl (.inr (.inr (.inr e))))).trans HK7.out (fun k e => .inl (.inl e))
      · rcases HA6.out k e with a | a
        · exact .inl a
        · exact .inr (by rw [a]; have := HB1.out.size; have := HK2.out.size; have := HB4.out.size; omega)
theorem drelease_is (base : Nat) (w : World) (b : Nat) (p : Int) (tv lv jv : Value) (ls : List Int) (s : Gt) (k now ticks : Int) (h : DG base w b p tv lv jv ls s) (ok : s.Ok p) : Calls Tryd.prog 14 #[.pointer (some ⟨b, 0, none⟩), .int .i64 k, .int .i64 now, .int .i64 ticks] w fun e w' => e = .returned (.int .i64 (relC s k now)) ∧ DC base w b p tv lv jv (s.rel k now ticks) w' := by
  rcases relC_cases s k now with ⟨e, hc⟩ | ⟨n0, n1, i, x, rfl, hi, hx, ⟨e, h1⟩ | ⟨e, h1, h2⟩ | ⟨e, h1, h2⟩⟩
  · rw [e, rel_no (by omega)]
    refine (drel_num base w b p tv lv jv ls s k now ticks h hc).mono ?_
    rintro r w' ⟨rfl, rfl⟩
    exact ⟨rfl, DC.late h (Below.refl _ _)⟩
  · rw [e, rel_no (by omega)]
    refine (drel_busy base w b p tv lv jv ls s i x now ticks h (ok.ok x (List.mem_of_getElem? hx)) hx n0 n1 h1 (ok.ag x (List.mem_of_getElem? hx)).2).mono ?_
    rintro r w' ⟨rfl, hb⟩
    exact ⟨rfl, DC.late h hb⟩
  · rw [e, rel_no (by omega)]
    refine (drel_full base w b p tv lv jv ls s i x now ticks h (ok.ok x (List.mem_of_getElem? hx)) hx n0 n1 h1 h2).mono ?_
    rintro r w' ⟨rfl, hb⟩
    exact ⟨rfl, DC.late h hb⟩
  · rw [e, rel_yes e hx]
    exact drel_ok base w b p tv lv jv ls s i x now ticks h (ok.ok x (List.mem_of_getElem? hx)) hx n0 n1 h1 h2
end Go.Proofs.YthncfkeoephipaaDoor
