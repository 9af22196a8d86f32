/- The law SupplyRows. -/
import Derived.Test.YtldfngkooilmnaaDoorRowIt4
namespace Go.Proofs.YtldfngkooilmnaaDoor
open Go.ChangeShapes Go.WideShapes Go.ChangeAt Go.RowKit Go.Shelf

attribute [local go_sem] Oper.semAt_some
theorem stop_ex (x : Int) : ∃ (r1 r2 r3 : Int) (P : Nat), x.tmod 1200 = r1 ∧ IntKind.i64.wrap r1 = r1 ∧ IntKind.i64.wrap (r1 + 1200) = r2 ∧ r2.tmod 1200 = r3 ∧ IntKind.i64.wrap r3 = r3 ∧ IntKind.i64.wrap (r3 + 1) = (P : Int) ∧ 1 ≤ P ∧ P ≤ 1200 := by
  have a1 := Int.tmod_lt_of_pos x (show (0 : Int) < 1200 by decide)
  have a2 : -1200 < x.tmod 1200 := by
    have := Int.tmod_eq_emod (a := x) (b := 1200)
    have h0 := Int.emod_nonneg x (show (1200 : Int) ≠ 0 by decide)
    rw [this]; split <;> simp <;> omega
  have b0 : 0 ≤ (x.tmod 1200 + 1200).tmod 1200 := Int.tmod_nonneg _ (by omega)
  have b1 := Int.tmod_lt_of_pos (x.tmod 1200 + 1200) (show (0 : Int) < 1200 by decide)
  refine ⟨x.tmod 1200, x.tmod 1200 + 1200, (x.tmod 1200 + 1200).tmod 1200, ((x.tmod 1200 + 1200).tmod 1200 + 1).toNat, rfl, wfit (by omega) (by omega), wfit (by omega) (by omega), rfl, wfit (by omega) (by omega), ?_, by omega, by omega⟩
  rw [wfit (by omega) (by omega)]; omega
/-- What is known of the law's blocks. -/
structure Kn (w : World) (B Be Bs : Nat) (k q t : Int) (P : Nat) (G D Q : Int) (ev : Value) (W : World) : Prop where
  lo : Below w.heap.size w W
  r0 : W.heap[B]? = some (.cells #[.int .i64 k, .int .i64 q, .int .i64 t] 23 (0, 0))
  r1 : W.heap[B + 1]? = some (.cells #[.int .i64 (P : Int)] 3 (0, 0))
  r2 : W.heap[B + 1 + 1]? = some (.cells #[.bool false] 4 (0, 0))
  ce : W.cell? ⟨Be, 0, none⟩ = some ev
  sh : W.heap[Bs]? = some (.cells #[.int .i64 G, .int .i64 D, .int .i64 Q] 41 (0, 0))
theorem Kn.later {w : World} {B Be Bs : Nat} {k q t : Int} {P : Nat} {G D Q : Int} {ev : Value} {W W' : World} (h : Kn w B Be Bs k q t P G D Q ev W) (hb : Below W.heap.size W W') : Kn w B Be Bs k q t P G D Q ev W' :=
  ⟨bt h.lo hb, hold h.r0 hb, hold h.r1 hb, hold h.r2 hb, kc h.ce hb, hold h.sh hb⟩
theorem new_three {w w3 : World} {o o2 o3 : Obj} (h : Below (((w.alloc o).alloc o2).alloc o3).heap.size (((w.alloc o).alloc o2).alloc o3) w3) : w3.heap[w.heap.size]? = some o ∧ w3.heap[w.heap.size + 1]? = some o2 ∧ w3.heap[w.heap.size + 1 + 1]? = some o3 ∧ Below w.heap.size w w3 := by
  obtain ⟨h1, h2⟩ := new_last h
  obtain ⟨h3, h4, h5⟩ := new_two h2
  exact ⟨h3, h4, by rw [show w.heap.size + 1 + 1 = ((w.alloc o).alloc o2).heap.size by simp]; exact h1, h5⟩
theorem start_st {w w1 : World} {B : Nat} {k q t x : Int} (P : Nat) (hB : B = w.heap.size) (h : Below (((w.alloc (.cells #[.int .i64 k, .int .i64 q, .int .i64 t] 23)).alloc (.cells #[.int .i64 x] 3)).alloc (.cells #[.bool false] 4)).heap.size (((w.alloc (.cells #[.int .i64 k, .int .i64 q, .int .i64 t] 23)).alloc (.cells #[.int .i64 x] 3)).alloc (.cells #[.bool false] 4)) w1) :
    Below w.heap.size w (w1.setCell ⟨B + 1, 0, none⟩ (.int .i64 (P : Int))) ∧ (w1.setCell ⟨B + 1, 0, none⟩ (.int .i64 (P : Int))).heap[B]? = some (.cells #[.int .i64 k, .int .i64 q, .int .i64 t] 23 (0, 0)) ∧ (w1.setCell ⟨B + 1, 0, none⟩ (.int .i64 (P : Int))).heap[B + 1]? = some (.cells #[.int .i64 (P : Int)] 3 (0, 0)) ∧ (w1.setCell ⟨B + 1, 0, none⟩ (.int .i64 (P : Int))).heap[B + 1 + 1]? = some (.cells #[.bool false] 4 (0, 0)) := by
  subst hB
  obtain ⟨h1, h2, h3, h4⟩ := new_three h
  refine ⟨h4.setCell (p := ⟨_, _, none⟩) (by simp) _, ?_, heap_set h2, ?_⟩
  · rw [Below.heap_setCell _ _ _ _ (by simp)]; exact h1
  · rw [Below.heap_setCell _ _ _ _ (by simp)]; exact h3
theorem keeps_set {W Wc : World} {b B : Nat} (h : Below W.heap.size W Wc) (hb : b < B) (v : Value) : KeepsFrom B W (Wc.setCell ⟨b, 0, none⟩ v) := by
  refine ⟨by have := h.size; simpa [World.setCell] using this, fun k o hk ho _ => ?_⟩
  rw [Below.heap_setCell _ _ _ _ (by simp; omega), h.block k (Array.getElem?_eq_some_iff.1 ho).1]
  exact ho
theorem results_cell1 {fn : Func} {p : Tmp} {ty : TypeId} (h : fn.results = #[.cell p ty]) (tmps : Array Value) (P : Program) (w : World) :
    (results fn tmps).run P w = ((asAddr (tmps.getD p undef)).run P w).andThen fun a w₁ => (loadVar ty a).run P w₁ := by
  simp only [results, h]
  simp [Sem.run_bind, Result.andThen]
set_option maxRecDepth 100000 in
set_option maxHeartbeats 12800000 in
theorem rows_no (w : World) (s : Sv) (x : Int) (ad : Addr) (h : ¬ okW s) (he : w.cell? ⟨0, 0, none⟩ = some (vE ad)) : Calls Tryd.prog 4 #[vS s, .int .i64 x] w fun e w' => e = .returned (.bool true) ∧ Below w.heap.size w w' := by
  obtain ⟨r1, r2, r3, P, f1, f2, f3, f4, f5, f6, f7, f8⟩ := stop_ex x
  have H1 : Hid (Ans w 9 #[] (.bool true)) := mkHid (fun W _ => salive W)
  have H2 : Hid (∀ W, Below w.heap.size w W → Calls Tryd.prog 16 #[vS s] W (RowPost W 0 0 0 (vE ad))) := mkHid (fun W hb => row_is W s 0 0 0 _ (.inr ⟨_, rfl⟩) (shapeIs_no W s h ad (kc he hb)))
  have H5 : Hid (Ans w 13 #[vS s] (.bool false)) := mkHid (fun W _ => legal_no W s h)
  clear he h
  obtain ⟨k, q, t⟩ := s
  obtain ⟨B, hB⟩ : ∃ B, B = w.heap.size := ⟨_, rfl⟩
  have HBB := mkHid hB
  refine (callsIn_wide (n := 5)).1 ?_
  refine callsIn_of_wp_marks Tryd.func4 rfl trivial ?_ rfl
  simp only [Tryd.ntmps4, List.size_toArray, List.length_cons, List.length_nil, Nat.reduceAdd, Nat.reduceSub, Array.replicate_succ, Array.replicate_zero, List.push_toArray, List.append_toArray, List.nil_append, List.cons_append]
  gi_wp2
  refine ⟨trivial, ?_⟩
  refine (callsIn_wide.2 (H1.out _ (ba (ba (ba (Below.refl _ _) _) _) _))).mono ?_
  rintro e w1 ⟨rfl, b1⟩
  have HS1 := mkHid (start_st P hB b1)
  obtain ⟨g1, g2, g3, g4⟩ := new_three b1
  rw [← hB] at g1 g2 g3 ⊢
  have c1 : w1.cell? ⟨B + 1, 0, none⟩ = some (.int .i64 x) := cell_of_block (i := 0) g2 rfl
  have d1 : w1.frozen? ⟨B + 1, 0, none⟩ = false := frozen_of_block g2
  clear g1 g2 g3 g4 b1 hB
  obtain ⟨W2, hW2⟩ : ∃ W2, W2 = w1.setCell ⟨B + 1, 0, none⟩ (.int .i64 (P : Int)) := ⟨_, rfl⟩
  rw [← hW2] at HS1
  have y0 : (w1.setCell ⟨B + 1, 0, none⟩ (.int .i64 (P : Int))).cell? ⟨B, 0, none⟩ = some (.int .i64 k) := by rw [← hW2]; exact cell_of_block (i := 0) HS1.out.2.1 rfl
  have y1 : (w1.setCell ⟨B + 1, 0, none⟩ (.int .i64 (P : Int))).cell? ⟨B, 1, none⟩ = some (.int .i64 q) := by rw [← hW2]; exact cell_of_block (i := 1) HS1.out.2.1 rfl
  have y2 : (w1.setCell ⟨B + 1, 0, none⟩ (.int .i64 (P : Int))).cell? ⟨B, 2, none⟩ = some (.int .i64 t) := by rw [← hW2]; exact cell_of_block (i := 2) HS1.out.2.1 rfl
  have HW2 := mkHid hW2
  clear hW2
  gi_wp2
  refine ⟨trivial, ?_⟩
  refine (callsIn_wide.2 (H2.out _ (by rw [← HW2.out]; exact HS1.out.1))).mono ?_
  rintro e w3 ⟨Be, Bs, rfl, hb3, hce, hsh⟩
  rw [← HW2.out] at hb3
  have HK : Hid (Kn w B Be Bs k q t P 0 0 0 (vE ad) w3) := mkHid ⟨bt HS1.out.1 hb3, hold HS1.out.2.1 hb3, hold HS1.out.2.2.1 hb3, hold HS1.out.2.2.2 hb3, hce, hsh⟩
  clear hb3 hce hsh y0 y1 y2 c1 d1 HS1 HW2 H1 H2 f1 f2 f3 f4 f5 f6
  gi_wp2
  refine wpIn_loop_rounds 3 ?_
  rw [roundsIn_succ]
  gi_wp2
  have hs0 : (w3.alloc (.cells #[.int .i64 0] 3)).heap.size = w3.heap.size + 1 := by simp
  have bV0 : Below w3.heap.size w3 (w3.alloc (.cells #[.int .i64 0] 3)) := (Below.refl _ _).alloc (Nat.le_refl _) _
  have hBe0 : Be < w3.heap.size := World.block_lt_of_cell? _ ⟨Be, 0, none⟩ HK.out.ce
  refine range_row (w0 := w3) (n₀ := w3.heap.size) (E := True) (m := 2) (enc := fun _ => #[.bool true]) rfl (by omega) (gf := 26) (lb := #[.pointer (some ⟨Be, 0, none⟩), .pointer (some ⟨Bs, 0, none⟩)]) rfl trivial (enters_of Tryd.func26 (by kernel_rfl) rfl)
    (row1_no Fence.wide 4 2 trivial trivial rfl _ _ Be Bs ad _ HK.out.ce hBe0) bV0 (by omega) (fun _ => rfl) 1 2
    (fun i W => Below w3.heap.size (w3.alloc (.cells #[.int .i64 0] 3)) W ∧ W.heap[w3.heap.size]? = some (.cells #[.int .i64 0] 3 (0, 0)) ∧ i < 1) (fun _ => True)
    (fun i W h => h.2.2) (fun i W l o o' h hl ho hc => ⟨h.1.trans ((Below.refl _ _).grown (grownBy_putObj' W l o') (by have := (Array.getElem?_eq_some_iff.1 ho).1; omega) (fun j e => by cases e; omega)), (World.putObj_heap_other (by omega)).trans h.2.1, h.2.2⟩)
    (fun W l o o' h hl ho hc => trivial)
    (fun W h => ⟨h.mono (by omega), (h.block _ (by omega)).trans (heap_alloc_new _ _), by omega⟩)
    (fun _ => { tmps := #[vS (k, q, t), .int .i64 x, .pointer (some ⟨B, 0, none⟩), .pointer (some ⟨B + 1, 0, none⟩), .pointer (some ⟨B + 1 + 1, 0, none⟩), .func (.func 26) #[] #[.pointer (some ⟨Be, 0, none⟩), .pointer (some ⟨Bs, 0, none⟩)], .pointer (some ⟨w3.heap.size, 0, none⟩), .bool true, .bool true, .bool false, .int .i64 x, .int .i64 r1, .int .i64 r2, .int .i64 r3, .int .i64 (P : Int), .agg #[.int .i64 k, .int .i64 q, .int .i64 t], .func (.func 26) #[] #[.pointer (some ⟨Be, 0, none⟩), .pointer (some ⟨Bs, 0, none⟩)], .int .i64 0, .bool true, .func (.func 26) #[] #[.pointer (some ⟨Be, 0, none⟩), .pointer (some ⟨Bs, 0, none⟩)], .bool true, undef, undef, undef, undef, undef, undef, undef, undef, undef, undef, undef, undef, undef, undef, undef, undef, undef, undef, undef, undef, undef, undef, undef, undef, undef, undef, undef, undef, undef, undef, undef, undef], defers := [] }) ?assign0 (fun h => absurd trivial h) ?done0 (fun h => absurd trivial h)
  case assign0 =>
    rintro l i W K hK
    gi_wp2
    exact hK
  rintro - D0 X0 hD0 ⟨hb0, hn0, -⟩ hK0
  have KX0 := HK.out.later (bV0.trans hb0)
  have a00 : X0.cell? ⟨B, 0, none⟩ = some (.int .i64 k) := cell_of_block (i := 0) KX0.r0 rfl
  have a01 : X0.cell? ⟨B, 1, none⟩ = some (.int .i64 q) := cell_of_block (i := 1) KX0.r0 rfl
  have a02 : X0.cell? ⟨B, 2, none⟩ = some (.int .i64 t) := cell_of_block (i := 2) KX0.r0 rfl
  have a0s : X0.cell? ⟨B + 1, 0, none⟩ = some (.int .i64 (P : Int)) := cell_of_block (i := 0) KX0.r1 rfl
  have a0n : X0.cell? ⟨w3.heap.size, 0, none⟩ = some (.int .i64 0) := cell_of_block (i := 0) hn0 rfl
  have HX0 := mkHid (And.intro KX0 (And.intro hn0 hK0))
  have HD0 := mkHid hD0
  clear KX0 hn0 hK0 hb0 bV0 hD0 hs0
  gi_wp2
  refine ⟨trivial, ?_⟩
  refine ((callsIn_wide (n := 4)).2 (H5.out _ HX0.out.1.lo)).mono ?_
  rintro e Y0 ⟨rfl, by0⟩
  have KY0 := HX0.out.1.later by0
  have c00 : Y0.cell? ⟨B, 0, none⟩ = some (.int .i64 k) := cell_of_block (i := 0) KY0.r0 rfl
  have c01 : Y0.cell? ⟨B, 1, none⟩ = some (.int .i64 q) := cell_of_block (i := 1) KY0.r0 rfl
  have c02 : Y0.cell? ⟨B, 2, none⟩ = some (.int .i64 t) := cell_of_block (i := 2) KY0.r0 rfl
  have c0s : Y0.cell? ⟨B + 1, 0, none⟩ = some (.int .i64 (P : Int)) := cell_of_block (i := 0) KY0.r1 rfl
  have c0n : Y0.cell? ⟨w3.heap.size, 0, none⟩ = some (.int .i64 0) := cell_of_block (i := 0) (hold HX0.out.2.1 by0) rfl
  have HY0 := mkHid (And.intro KY0 by0)
  clear KY0 by0
  gi_wp2
  refine ⟨trivial, ?_⟩
  refine ((callsIn_wide (n := 4)).2 (H5.out _ HY0.out.1.lo)).mono ?_
  rintro e Z0 ⟨rfl, bz0⟩
  have HZ0 := mkHid (HY0.out.1.later bz0)
  have Hm00e : Hid (Z0.heap[D0]? = some (.deferred (some []))) := mkHid (hold (hold HX0.out.2.2 HY0.out.2) bz0)
  have d0n : Z0.cell? ⟨w3.heap.size, 0, none⟩ = some (.int .i64 0) := cell_of_block (i := 0) (hold (hold HX0.out.2.1 HY0.out.2) bz0) rfl
  have HDL0 : Hid (w.heap.size ≤ D0) := mkHid (by have h1 := HD0.out; have h2 := HK.out.lo.size; simp only [World.size_alloc] at h1; omega)
  clear bz0
  gi_wp2
  rw [roundsIn_succ]
  gi_wp2
  have hs1 : (Z0.alloc (.cells #[.int .i64 0] 3)).heap.size = Z0.heap.size + 1 := by simp
  have bV1 : Below Z0.heap.size Z0 (Z0.alloc (.cells #[.int .i64 0] 3)) := (Below.refl _ _).alloc (Nat.le_refl _) _
  have hBe1 : Be < Z0.heap.size := World.block_lt_of_cell? _ ⟨Be, 0, none⟩ HZ0.out.ce
  refine range_row (w0 := Z0) (n₀ := Z0.heap.size) (E := True) (m := 2) (enc := fun _ => #[.bool true]) rfl (by omega) (gf := 26) (lb := #[.pointer (some ⟨Be, 0, none⟩), .pointer (some ⟨Bs, 0, none⟩)]) rfl trivial (enters_of Tryd.func26 (by kernel_rfl) rfl)
    (row1_no Fence.wide 4 2 trivial trivial rfl _ _ Be Bs ad _ HZ0.out.ce hBe1) bV1 (by omega) (fun _ => rfl) 1 2
    (fun i W => Below Z0.heap.size (Z0.alloc (.cells #[.int .i64 0] 3)) W ∧ W.heap[Z0.heap.size]? = some (.cells #[.int .i64 0] 3 (0, 0)) ∧ i < 1) (fun _ => True)
    (fun i W h => h.2.2) (fun i W l o o' h hl ho hc => ⟨h.1.trans ((Below.refl _ _).grown (grownBy_putObj' W l o') (by have := (Array.getElem?_eq_some_iff.1 ho).1; omega) (fun j e => by cases e; omega)), (World.putObj_heap_other (by omega)).trans h.2.1, h.2.2⟩)
    (fun W l o o' h hl ho hc => trivial)
    (fun W h => ⟨h.mono (by omega), (h.block _ (by omega)).trans (heap_alloc_new _ _), by omega⟩)
    (fun _ => { tmps := #[vS (k, q, t), .int .i64 x, .pointer (some ⟨B, 0, none⟩), .pointer (some ⟨B + 1, 0, none⟩), .pointer (some ⟨B + 1 + 1, 0, none⟩), .func (.func 26) #[] #[.pointer (some ⟨Be, 0, none⟩), .pointer (some ⟨Bs, 0, none⟩)], .pointer (some ⟨Z0.heap.size, 0, none⟩), .bool true, .bool true, .bool false, .int .i64 x, .int .i64 r1, .int .i64 r2, .int .i64 r3, .int .i64 (P : Int), .agg #[.int .i64 k, .int .i64 q, .int .i64 t], .func (.func 26) #[] #[.pointer (some ⟨Be, 0, none⟩), .pointer (some ⟨Bs, 0, none⟩)], .int .i64 1, .bool true, .func (.func 26) #[] #[.pointer (some ⟨Be, 0, none⟩), .pointer (some ⟨Bs, 0, none⟩)], .bool true, undef, undef, undef, undef, undef, undef, undef, undef, undef, undef, undef, undef, undef, undef, undef, .agg #[.int .i64 k, .int .i64 q, .int .i64 t], .bool false, .bool false, undef, undef, undef, .bool false, .bool false, .agg #[.int .i64 k, .int .i64 q, .int .i64 t], .bool false, .bool true, .bool true, .int .i64 0, .bool false, .bool false, .bool false, .int .i64 1], defers := [] }) ?assign1 (fun h => absurd trivial h) ?done1 (fun h => absurd trivial h)
  case assign1 =>
    rintro l i W K hK
    gi_wp2
    exact hK
  rintro - D1 X1 hD1 ⟨hb1, hn1, -⟩ hK1
  have KX1 := HZ0.out.later (bV1.trans hb1)
  have a10 : X1.cell? ⟨B, 0, none⟩ = some (.int .i64 k) := cell_of_block (i := 0) KX1.r0 rfl
  have a11 : X1.cell? ⟨B, 1, none⟩ = some (.int .i64 q) := cell_of_block (i := 1) KX1.r0 rfl
  have a12 : X1.cell? ⟨B, 2, none⟩ = some (.int .i64 t) := cell_of_block (i := 2) KX1.r0 rfl
  have a1s : X1.cell? ⟨B + 1, 0, none⟩ = some (.int .i64 (P : Int)) := cell_of_block (i := 0) KX1.r1 rfl
  have a1n : X1.cell? ⟨Z0.heap.size, 0, none⟩ = some (.int .i64 0) := cell_of_block (i := 0) hn1 rfl
  have HX1 := mkHid (And.intro KX1 (And.intro hn1 hK1))
  have Hm10 : Hid (X1.heap[D0]? = some (.deferred (some []))) := mkHid (((bV1.trans hb1).block _ (Array.getElem?_eq_some_iff.1 Hm00e.out).1).trans Hm00e.out)
  have HD1 := mkHid hD1
  clear KX1 hn1 hK1 hb1 bV1 hD1 hs1
  gi_wp2
  refine ⟨trivial, ?_⟩
  refine ((callsIn_wide (n := 4)).2 (H5.out _ HX1.out.1.lo)).mono ?_
  rintro e Y1 ⟨rfl, by1⟩
  have KY1 := HX1.out.1.later by1
  have c10 : Y1.cell? ⟨B, 0, none⟩ = some (.int .i64 k) := cell_of_block (i := 0) KY1.r0 rfl
  have c11 : Y1.cell? ⟨B, 1, none⟩ = some (.int .i64 q) := cell_of_block (i := 1) KY1.r0 rfl
  have c12 : Y1.cell? ⟨B, 2, none⟩ = some (.int .i64 t) := cell_of_block (i := 2) KY1.r0 rfl
  have c1s : Y1.cell? ⟨B + 1, 0, none⟩ = some (.int .i64 (P : Int)) := cell_of_block (i := 0) KY1.r1 rfl
  have c1n : Y1.cell? ⟨Z0.heap.size, 0, none⟩ = some (.int .i64 0) := cell_of_block (i := 0) (hold HX1.out.2.1 by1) rfl
  have HY1 := mkHid (And.intro KY1 by1)
  clear KY1 by1
  gi_wp2
  refine ⟨trivial, ?_⟩
  refine ((callsIn_wide (n := 4)).2 (H5.out _ HY1.out.1.lo)).mono ?_
  rintro e Z1 ⟨rfl, bz1⟩
  have HZ1 := mkHid (HY1.out.1.later bz1)
  have Hm11e : Hid (Z1.heap[D1]? = some (.deferred (some []))) := mkHid (hold (hold HX1.out.2.2 HY1.out.2) bz1)
  have d1n : Z1.cell? ⟨Z0.heap.size, 0, none⟩ = some (.int .i64 0) := cell_of_block (i := 0) (hold (hold HX1.out.2.1 HY1.out.2) bz1) rfl
  have Hm10e : Hid (Z1.heap[D0]? = some (.deferred (some []))) := mkHid (hold (hold Hm10.out HY1.out.2) bz1)
  have HDL1 : Hid (w.heap.size ≤ D1) := mkHid (by have h1 := HD1.out; have h2 := HZ0.out.lo.size; simp only [World.size_alloc] at h1; omega)
  clear bz1
  have u4 : Z1.cell? ⟨B + 1 + 1, 0, none⟩ = some (.bool false) := cell_of_block (i := 0) HZ1.out.r2 rfl
  have u5 : Z1.frozen? ⟨B + 1 + 1, 0, none⟩ = false := frozen_of_block HZ1.out.r2
  gi_wp2
  rw [roundsIn_succ]
  gi_wp2
  have hbB := HBB.out
  have hne0 : B + 1 + 1 ≠ D0 := fun e => by have h1 := HZ1.out.r2; have h2 := Hm10e.out; rw [← e, h1] at h2; cases h2
  have hne1 : B + 1 + 1 ≠ D1 := fun e => by have h1 := HZ1.out.r2; have h2 := Hm11e.out; rw [← e, h1] at h2; cases h2
  have hneD : D0 ≠ D1 := fun e => by have h1 := HD1.out; have h2 := (Array.getElem?_eq_some_iff.1 Hm00e.out).1; simp only [World.size_alloc] at h1; omega
  have fin := HZ1.out.lo.setCell (p := ⟨B + 1 + 1, 0, none⟩) (by simp; omega) (.bool true)
  have k1 : (Z1.setCell ⟨B + 1 + 1, 0, none⟩ (.bool true)).heap[D1]? = some (.deferred (some [])) := by rw [Below.heap_setCell _ _ _ _ (by simpa using Ne.symm hne1)]; exact Hm11e.out
  have k0 : (Z1.setCell ⟨B + 1 + 1, 0, none⟩ (.bool true)).heap[D0]? = some (.deferred (some [])) := by rw [Below.heap_setCell _ _ _ _ (by simpa using Ne.symm hne0)]; exact Hm10e.out
  have kr : (Z1.setCell ⟨B + 1 + 1, 0, none⟩ (.bool true)).heap[B + 1 + 1]? = some (.cells #[.bool true] 4 (0, 0)) := heap_set HZ1.out.r2
  generalize Z1.setCell ⟨B + 1 + 1, 0, none⟩ (.bool true) = ZZ at *
  have z0 : (ZZ.putObj D1 (.deferred none)).heap[D0]? = some (.deferred (some [])) := (World.putObj_heap_other hneD).trans k0
  have zr : ((ZZ.putObj D1 (.deferred none)).putObj D0 (.deferred none)).heap[B + 1 + 1]? = some (.cells #[.bool true] 4 (0, 0)) := (World.putObj_heap_other hne0).trans ((World.putObj_heap_other hne1).trans kr)
  refine ⟨by simp, .inl ⟨_, _, rfl, run_takeDeferred k1, ?_⟩⟩
  refine ⟨by simp, .inl ⟨_, _, rfl, run_takeDeferred z0, ?_⟩⟩
  refine ⟨_, ?_, rfl, (fin.grown (grownBy_putObj' ZZ D1 _) fin.size (fun j e => by cases e; exact HDL1.out)).grown (grownBy_putObj' _ D0 _) (by simpa [World.putObj] using fin.size) (fun j e => by cases e; exact HDL0.out)⟩
  rw [results_cell1 Tryd.results4]
  have zc : ((ZZ.putObj D1 (.deferred none)).putObj D0 (.deferred none)).cell? ⟨B + 1 + 1, 0, none⟩ = some (.bool true) := cell_of_block (i := 0) zr rfl
  simp [asAddr, Result.andThen, loadVar, go_sem, zc]
set_option maxRecDepth 100000 in
set_option maxHeartbeats 12800000 in
theorem rows_yes (w : World) (s : Sv) (x : Int) (h : okW s) : Calls Tryd.prog 4 #[vS s, .int .i64 x] w fun e w' => e = .returned (.bool true) ∧ Below w.heap.size w w' := by
  obtain ⟨r1, r2, r3, P, f1, f2, f3, f4, f5, f6, f7, f8⟩ := stop_ex x
  have H1 : Hid (Ans w 9 #[] (.bool true)) := mkHid (fun W _ => salive W)
  obtain ⟨n1, n2, n3, n4, n5⟩ := h.nums
  have H2 : Hid (∀ W, Below w.heap.size w W → Calls Tryd.prog 16 #[vS s] W (RowPost W (gS s) (dS s) (qS s) .nilIface)) := mkHid (fun W hb => row_is W s _ _ _ _ (.inl rfl) (shapeIs_yes W s h))
  have H5 : Hid (Ans w 13 #[vS s] (.bool true)) := mkHid (fun W _ => legal_yes W s h)
  have HAT : Hid (∀ W i, 0 ≤ i → i ≤ 1099511627776 → Calls Tryd.prog 14 #[vS s, .int .i64 i] W fun e w' => e = .returned (.bool (sbAt (gS s) (dS s) (qS s) i)) ∧ Below W.heap.size W w') := mkHid (fun W i i0 i1 => at_yes W s i h i0 i1)
  clear h
  generalize gS s = G at *
  generalize dS s = D at *
  generalize qS s = Q at *
  obtain ⟨g, rfl⟩ := Int.eq_ofNat_of_zero_le (show 0 ≤ G by omega)
  obtain ⟨d, rfl⟩ := Int.eq_ofNat_of_zero_le (show 0 ≤ D by omega)
  obtain ⟨qq, rfl⟩ := Int.eq_ofNat_of_zero_le (show 0 ≤ Q by omega)
  have HNN : Hid (g + d + qq ≤ 1000 ∧ 1 ≤ qq) := mkHid (by omega)
  clear n1 n2 n3 n4 n5
  obtain ⟨k, q, t⟩ := s
  obtain ⟨B, hB⟩ : ∃ B, B = w.heap.size := ⟨_, rfl⟩
  have HBB := mkHid hB
  refine (callsIn_wide (n := 5)).1 ?_
  refine callsIn_of_wp_marks Tryd.func4 rfl trivial ?_ rfl
  simp only [Tryd.ntmps4, List.size_toArray, List.length_cons, List.length_nil, Nat.reduceAdd, Nat.reduceSub, Array.replicate_succ, Array.replicate_zero, List.push_toArray, List.append_toArray, List.nil_append, List.cons_append]
  gi_wp2
  refine ⟨trivial, ?_⟩
  refine (callsIn_wide.2 (H1.out _ (ba (ba (ba (Below.refl _ _) _) _) _))).mono ?_
  rintro e w1 ⟨rfl, b1⟩
  have HS1 := mkHid (start_st P hB b1)
  obtain ⟨g1, g2, g3, g4⟩ := new_three b1
  rw [← hB] at g1 g2 g3 ⊢
  have c1 : w1.cell? ⟨B + 1, 0, none⟩ = some (.int .i64 x) := cell_of_block (i := 0) g2 rfl
  have d1 : w1.frozen? ⟨B + 1, 0, none⟩ = false := frozen_of_block g2
  clear g1 g2 g3 g4 b1 hB
  obtain ⟨W2, hW2⟩ : ∃ W2, W2 = w1.setCell ⟨B + 1, 0, none⟩ (.int .i64 (P : Int)) := ⟨_, rfl⟩
  rw [← hW2] at HS1
  have y0 : (w1.setCell ⟨B + 1, 0, none⟩ (.int .i64 (P : Int))).cell? ⟨B, 0, none⟩ = some (.int .i64 k) := by rw [← hW2]; exact cell_of_block (i := 0) HS1.out.2.1 rfl
  have y1 : (w1.setCell ⟨B + 1, 0, none⟩ (.int .i64 (P : Int))).cell? ⟨B, 1, none⟩ = some (.int .i64 q) := by rw [← hW2]; exact cell_of_block (i := 1) HS1.out.2.1 rfl
  have y2 : (w1.setCell ⟨B + 1, 0, none⟩ (.int .i64 (P : Int))).cell? ⟨B, 2, none⟩ = some (.int .i64 t) := by rw [← hW2]; exact cell_of_block (i := 2) HS1.out.2.1 rfl
  have HW2 := mkHid hW2
  clear hW2
  gi_wp2
  refine ⟨trivial, ?_⟩
  refine (callsIn_wide.2 (H2.out _ (by rw [← HW2.out]; exact HS1.out.1))).mono ?_
  rintro e w3 ⟨Be, Bs, rfl, hb3, hce, hsh⟩
  rw [← HW2.out] at hb3
  have HK : Hid (Kn w B Be Bs k q t P (g : Int) (d : Int) (qq : Int) .nilIface w3) := mkHid ⟨bt HS1.out.1 hb3, hold HS1.out.2.1 hb3, hold HS1.out.2.2.1 hb3, hold HS1.out.2.2.2 hb3, hce, hsh⟩
  clear hb3 hce hsh y0 y1 y2 c1 d1 HS1 HW2 H1 H2 f1 f2 f3 f4 f5 f6
  gi_wp2
  refine wpIn_loop_rounds 3 ?_
  rw [roundsIn_succ]
  gi_wp2
  have hs0 : (w3.alloc (.cells #[.int .i64 0] 3)).heap.size = w3.heap.size + 1 := by simp
  have bV0 : Below w3.heap.size w3 (w3.alloc (.cells #[.int .i64 0] 3)) := (Below.refl _ _).alloc (Nat.le_refl _) _
  have hBe0 : Be < w3.heap.size := World.block_lt_of_cell? _ ⟨Be, 0, none⟩ HK.out.ce
  have hBs0 : Bs < w3.heap.size := (Array.getElem?_eq_some_iff.1 HK.out.sh).1
  refine range_row (w0 := w3) (n₀ := w3.heap.size) (E := False) (m := 2) (enc := encB g d qq) rfl (by omega) (gf := 26) (lb := #[.pointer (some ⟨Be, 0, none⟩), .pointer (some ⟨Bs, 0, none⟩)]) rfl trivial (enters_of Tryd.func26 (by kernel_rfl) rfl)
    (row1_yes Fence.wide 4 trivial trivial rfl (by omega) g d qq _ Be Bs HNN.out.1 HNN.out.2 _ HK.out.ce HK.out.sh hBe0 hBs0) bV0 (by omega) (fun _ => rfl) P 2
    (fun i W => Below w3.heap.size (w3.alloc (.cells #[.int .i64 0] 3)) W ∧ W.heap[w3.heap.size]? = some (.cells #[.int .i64 (i : Int)] 3 (0, 0)) ∧ i < P) (fun W => Below w3.heap.size (w3.alloc (.cells #[.int .i64 0] 3)) W ∧ W.heap[w3.heap.size]? = some (.cells #[.int .i64 (P : Int)] 3 (0, 0)))
    (fun i W h => h.2.2) (fun i W l o o' h hl ho hc => ⟨h.1.trans ((Below.refl _ _).grown (grownBy_putObj' W l o') (by have := (Array.getElem?_eq_some_iff.1 ho).1; omega) (fun j e => by cases e; omega)), (World.putObj_heap_other (by omega)).trans h.2.1, h.2.2⟩)
    (fun W l o o' h hl ho hc => ⟨h.1.trans ((Below.refl _ _).grown (grownBy_putObj' W l o') (by have := (Array.getElem?_eq_some_iff.1 ho).1; omega) (fun j e => by cases e; omega)), (World.putObj_heap_other (by omega)).trans h.2⟩)
    (fun W h => ⟨h.mono (by omega), (h.block _ (by omega)).trans (heap_alloc_new _ _), by omega⟩)
    (fun i => { tmps := #[vS (k, q, t), .int .i64 x, .pointer (some ⟨B, 0, none⟩), .pointer (some ⟨B + 1, 0, none⟩), .pointer (some ⟨B + 1 + 1, 0, none⟩), .func (.func 26) #[] #[.pointer (some ⟨Be, 0, none⟩), .pointer (some ⟨Bs, 0, none⟩)], .pointer (some ⟨w3.heap.size, 0, none⟩), .bool (sbAt g d qq (i : Int)), .bool true, .bool false, .int .i64 x, .int .i64 r1, .int .i64 r2, .int .i64 r3, .int .i64 (P : Int), .agg #[.int .i64 k, .int .i64 q, .int .i64 t], .func (.func 26) #[] #[.pointer (some ⟨Be, 0, none⟩), .pointer (some ⟨Bs, 0, none⟩)], .int .i64 0, .bool true, .func (.func 26) #[] #[.pointer (some ⟨Be, 0, none⟩), .pointer (some ⟨Bs, 0, none⟩)], .bool (sbAt g d qq (i : Int)), undef, undef, undef, undef, undef, undef, undef, undef, undef, undef, undef, undef, undef, undef, undef, undef, undef, undef, undef, undef, undef, undef, undef, undef, undef, undef, undef, undef, undef, undef, undef, undef], defers := [] }) ?assign0 ?body0 (fun h => h.elim) ?stop0
  case assign0 =>
    rintro l i W K hK
    simp only [encB]
    gi_wp2
    exact hK
  case body0 =>
    rintro - l i W ⟨hb, hn, hi⟩
    have KW := HK.out.later (bV0.trans hb)
    have HA5 := mkHid ((CallsIn.inRound l ((callsIn_wide (n := 1)).2 (H5.out W KW.lo))))
    have p0 : W.cell? ⟨B, 0, none⟩ = some (.int .i64 k) := cell_of_block (i := 0) KW.r0 rfl
    have p1 : W.cell? ⟨B, 1, none⟩ = some (.int .i64 q) := cell_of_block (i := 1) KW.r0 rfl
    have p2 : W.cell? ⟨B, 2, none⟩ = some (.int .i64 t) := cell_of_block (i := 2) KW.r0 rfl
    have ps : W.cell? ⟨B + 1, 0, none⟩ = some (.int .i64 (P : Int)) := cell_of_block (i := 0) KW.r1 rfl
    have pn : W.cell? ⟨w3.heap.size, 0, none⟩ = some (.int .i64 (i : Int)) := cell_of_block (i := 0) hn rfl
    have HKW := mkHid KW
    have HN := mkHid hn
    have HB := mkHid hb
    clear KW hn hb
    gi_wp2
    refine ⟨trivial, ?_⟩
    refine HA5.out.mono ?_
    rintro e W6 ⟨rfl, b6⟩
    have K6 := HKW.out.later b6
    have n6 := hold HN.out b6
    have q0 : W6.cell? ⟨B, 0, none⟩ = some (.int .i64 k) := cell_of_block (i := 0) K6.r0 rfl
    have q1 : W6.cell? ⟨B, 1, none⟩ = some (.int .i64 q) := cell_of_block (i := 1) K6.r0 rfl
    have q2 : W6.cell? ⟨B, 2, none⟩ = some (.int .i64 t) := cell_of_block (i := 2) K6.r0 rfl
    have qs : W6.cell? ⟨B + 1, 0, none⟩ = some (.int .i64 (P : Int)) := cell_of_block (i := 0) K6.r1 rfl
    have qn : W6.cell? ⟨w3.heap.size, 0, none⟩ = some (.int .i64 (i : Int)) := cell_of_block (i := 0) n6 rfl
    have HA6 := mkHid ((CallsIn.inRound l ((callsIn_wide (n := 1)).2 (HAT.out W6 (i : Int) (by omega) (by omega)))))
    have H6 := mkHid (And.intro b6 (And.intro K6 n6))
    clear b6 K6 n6
    gi_wp2
    refine ⟨trivial, ?_⟩
    refine HA6.out.mono ?_
    rintro e W7 ⟨rfl, b7⟩
    have K7 := H6.out.2.1.later b7
    have n7 := hold H6.out.2.2 b7
    have s0 : W7.cell? ⟨B, 0, none⟩ = some (.int .i64 k) := cell_of_block (i := 0) K7.r0 rfl
    have s1 : W7.cell? ⟨B, 1, none⟩ = some (.int .i64 q) := cell_of_block (i := 1) K7.r0 rfl
    have s2 : W7.cell? ⟨B, 2, none⟩ = some (.int .i64 t) := cell_of_block (i := 2) K7.r0 rfl
    have ss : W7.cell? ⟨B + 1, 0, none⟩ = some (.int .i64 (P : Int)) := cell_of_block (i := 0) K7.r1 rfl
    have sn : W7.cell? ⟨w3.heap.size, 0, none⟩ = some (.int .i64 (i : Int)) := cell_of_block (i := 0) n7 rfl
    have sf : W7.frozen? ⟨w3.heap.size, 0, none⟩ = false := frozen_of_block n7
    have H7 := mkHid (And.intro (bt H6.out.1 b7) (And.intro K7 n7))
    have hlt0 := (Array.getElem?_eq_some_iff.1 HKW.out.r1).1
    have hne : B + 1 ≠ w3.heap.size := by have := (Array.getElem?_eq_some_iff.1 HK.out.r1).1; omega
    have ss2 : (W7.setCell ⟨w3.heap.size, 0, none⟩ (.int .i64 ((i : Int) + 1))).cell? ⟨B + 1, 0, none⟩ = some (.int .i64 (P : Int)) := cell_of_block (i := 0) ((Below.heap_setCell _ _ _ _ (by simpa using hne)).trans K7.r1) rfl
    have sn2 : (W7.setCell ⟨w3.heap.size, 0, none⟩ (.int .i64 ((i : Int) + 1))).cell? ⟨w3.heap.size, 0, none⟩ = some (.int .i64 ((i : Int) + 1)) := cell_of_block (i := 0) (heap_set n7) rfl
    have ew : IntKind.i64.wrap ((i : Int) + 1) = (i : Int) + 1 := wfit (by omega) (by omega)
    clear b7 K7 n7
    have hbl : Hid (Below w3.heap.size W (W7.setCell ⟨w3.heap.size, 0, none⟩ (.int .i64 ((i : Int) + 1)))) := mkHid ((H7.out.1.mono (show w3.heap.size ≤ W.heap.size by have := (Array.getElem?_eq_some_iff.1 HN.out).1; omega)).setCell (p := ⟨w3.heap.size, 0, none⟩) (Nat.le_refl _) _)
    by_cases hlast : i + 1 = P
    · have hl2 : ((i : Int) + 1 = (P : Int)) := by omega
      gi_wp2
      exact ⟨keeps_set H7.out.1 (by omega) _, .inr ⟨rfl, by rw [← hl2]; exact HB.out.trans hbl.out, by rw [heap_set H7.out.2.2]; rfl⟩⟩
    · have hl2 : ¬ ((i : Int) + 1 = (P : Int)) := by omega
      gi_wp2
      exact ⟨keeps_set H7.out.1 (by omega) _, .inl ⟨rfl, hbl.out, HB.out.trans hbl.out, heap_set H7.out.2.2, by omega⟩⟩
  rintro - D0 X0 hD0 ⟨hb0, hn0⟩ hK0
  have KX0 := HK.out.later (bV0.trans hb0)
  have a00 : X0.cell? ⟨B, 0, none⟩ = some (.int .i64 k) := cell_of_block (i := 0) KX0.r0 rfl
  have a01 : X0.cell? ⟨B, 1, none⟩ = some (.int .i64 q) := cell_of_block (i := 1) KX0.r0 rfl
  have a02 : X0.cell? ⟨B, 2, none⟩ = some (.int .i64 t) := cell_of_block (i := 2) KX0.r0 rfl
  have a0s : X0.cell? ⟨B + 1, 0, none⟩ = some (.int .i64 (P : Int)) := cell_of_block (i := 0) KX0.r1 rfl
  have a0n : X0.cell? ⟨w3.heap.size, 0, none⟩ = some (.int .i64 (P : Int)) := cell_of_block (i := 0) hn0 rfl
  have HX0 := mkHid (And.intro KX0 (And.intro hn0 hK0))
  have HD0 := mkHid hD0
  clear KX0 hn0 hK0 hb0 bV0 hD0 hs0
  gi_wp2
  refine ⟨trivial, ?_⟩
  refine ((callsIn_wide (n := 4)).2 (H5.out _ HX0.out.1.lo)).mono ?_
  rintro e Y0 ⟨rfl, by0⟩
  have KY0 := HX0.out.1.later by0
  have c00 : Y0.cell? ⟨B, 0, none⟩ = some (.int .i64 k) := cell_of_block (i := 0) KY0.r0 rfl
  have c01 : Y0.cell? ⟨B, 1, none⟩ = some (.int .i64 q) := cell_of_block (i := 1) KY0.r0 rfl
  have c02 : Y0.cell? ⟨B, 2, none⟩ = some (.int .i64 t) := cell_of_block (i := 2) KY0.r0 rfl
  have c0s : Y0.cell? ⟨B + 1, 0, none⟩ = some (.int .i64 (P : Int)) := cell_of_block (i := 0) KY0.r1 rfl
  have c0n : Y0.cell? ⟨w3.heap.size, 0, none⟩ = some (.int .i64 (P : Int)) := cell_of_block (i := 0) (hold HX0.out.2.1 by0) rfl
  have HY0 := mkHid (And.intro KY0 by0)
  clear KY0 by0
  gi_wp2
  refine ⟨trivial, ?_⟩
  refine ((callsIn_wide (n := 4)).2 (H5.out _ HY0.out.1.lo)).mono ?_
  rintro e Z0 ⟨rfl, bz0⟩
  have HZ0 := mkHid (HY0.out.1.later bz0)
  have Hm00e : Hid (Z0.heap[D0]? = some (.deferred (some []))) := mkHid (hold (hold HX0.out.2.2 HY0.out.2) bz0)
  have d0n : Z0.cell? ⟨w3.heap.size, 0, none⟩ = some (.int .i64 (P : Int)) := cell_of_block (i := 0) (hold (hold HX0.out.2.1 HY0.out.2) bz0) rfl
  have HDL0 : Hid (w.heap.size ≤ D0) := mkHid (by have h1 := HD0.out; have h2 := HK.out.lo.size; simp only [World.size_alloc] at h1; omega)
  clear bz0
  gi_wp2
  rw [roundsIn_succ]
  gi_wp2
  have hs1 : (Z0.alloc (.cells #[.int .i64 0] 3)).heap.size = Z0.heap.size + 1 := by simp
  have bV1 : Below Z0.heap.size Z0 (Z0.alloc (.cells #[.int .i64 0] 3)) := (Below.refl _ _).alloc (Nat.le_refl _) _
  have hBe1 : Be < Z0.heap.size := World.block_lt_of_cell? _ ⟨Be, 0, none⟩ HZ0.out.ce
  have hBs1 : Bs < Z0.heap.size := (Array.getElem?_eq_some_iff.1 HZ0.out.sh).1
  refine range_row (w0 := Z0) (n₀ := Z0.heap.size) (E := False) (m := 2) (enc := encB g d qq) rfl (by omega) (gf := 26) (lb := #[.pointer (some ⟨Be, 0, none⟩), .pointer (some ⟨Bs, 0, none⟩)]) rfl trivial (enters_of Tryd.func26 (by kernel_rfl) rfl)
    (row1_yes Fence.wide 4 trivial trivial rfl (by omega) g d qq _ Be Bs HNN.out.1 HNN.out.2 _ HZ0.out.ce HZ0.out.sh hBe1 hBs1) bV1 (by omega) (fun _ => rfl) P 2
    (fun i W => Below Z0.heap.size (Z0.alloc (.cells #[.int .i64 0] 3)) W ∧ W.heap[Z0.heap.size]? = some (.cells #[.int .i64 (i : Int)] 3 (0, 0)) ∧ i < P) (fun W => Below Z0.heap.size (Z0.alloc (.cells #[.int .i64 0] 3)) W ∧ W.heap[Z0.heap.size]? = some (.cells #[.int .i64 (P : Int)] 3 (0, 0)))
    (fun i W h => h.2.2) (fun i W l o o' h hl ho hc => ⟨h.1.trans ((Below.refl _ _).grown (grownBy_putObj' W l o') (by have := (Array.getElem?_eq_some_iff.1 ho).1; omega) (fun j e => by cases e; omega)), (World.putObj_heap_other (by omega)).trans h.2.1, h.2.2⟩)
    (fun W l o o' h hl ho hc => ⟨h.1.trans ((Below.refl _ _).grown (grownBy_putObj' W l o') (by have := (Array.getElem?_eq_some_iff.1 ho).1; omega) (fun j e => by cases e; omega)), (World.putObj_heap_other (by omega)).trans h.2⟩)
    (fun W h => ⟨h.mono (by omega), (h.block _ (by omega)).trans (heap_alloc_new _ _), by omega⟩)
    (fun i => { tmps := #[vS (k, q, t), .int .i64 x, .pointer (some ⟨B, 0, none⟩), .pointer (some ⟨B + 1, 0, none⟩), .pointer (some ⟨B + 1 + 1, 0, none⟩), .func (.func 26) #[] #[.pointer (some ⟨Be, 0, none⟩), .pointer (some ⟨Bs, 0, none⟩)], .pointer (some ⟨Z0.heap.size, 0, none⟩), .bool (sbAt g d qq (i : Int)), .bool true, .bool false, .int .i64 x, .int .i64 r1, .int .i64 r2, .int .i64 r3, .int .i64 (P : Int), .agg #[.int .i64 k, .int .i64 q, .int .i64 t], .func (.func 26) #[] #[.pointer (some ⟨Be, 0, none⟩), .pointer (some ⟨Bs, 0, none⟩)], .int .i64 1, .bool true, .func (.func 26) #[] #[.pointer (some ⟨Be, 0, none⟩), .pointer (some ⟨Bs, 0, none⟩)], .bool (sbAt g d qq (i : Int)), undef, undef, undef, undef, undef, undef, undef, undef, undef, undef, undef, undef, undef, undef, undef, .agg #[.int .i64 k, .int .i64 q, .int .i64 t], .bool true, .bool true, .int .i64 (P : Int), .int .i64 (P : Int), .bool false, .bool false, .bool false, .agg #[.int .i64 k, .int .i64 q, .int .i64 t], .bool true, .bool false, .bool false, undef, undef, .bool false, .bool false, .int .i64 1], defers := [] }) ?assign1 ?body1 (fun h => h.elim) ?stop1
  case assign1 =>
    rintro l i W K hK
    simp only [encB]
    gi_wp2
    exact hK
  case body1 =>
    rintro - l i W ⟨hb, hn, hi⟩
    have KW := HZ0.out.later (bV1.trans hb)
    have HA5 := mkHid ((CallsIn.inRound l ((callsIn_wide (n := 1)).2 (H5.out W KW.lo))))
    have p0 : W.cell? ⟨B, 0, none⟩ = some (.int .i64 k) := cell_of_block (i := 0) KW.r0 rfl
    have p1 : W.cell? ⟨B, 1, none⟩ = some (.int .i64 q) := cell_of_block (i := 1) KW.r0 rfl
    have p2 : W.cell? ⟨B, 2, none⟩ = some (.int .i64 t) := cell_of_block (i := 2) KW.r0 rfl
    have ps : W.cell? ⟨B + 1, 0, none⟩ = some (.int .i64 (P : Int)) := cell_of_block (i := 0) KW.r1 rfl
    have pn : W.cell? ⟨Z0.heap.size, 0, none⟩ = some (.int .i64 (i : Int)) := cell_of_block (i := 0) hn rfl
    have HKW := mkHid KW
    have HN := mkHid hn
    have HB := mkHid hb
    clear KW hn hb
    gi_wp2
    refine ⟨trivial, ?_⟩
    refine HA5.out.mono ?_
    rintro e W6 ⟨rfl, b6⟩
    have K6 := HKW.out.later b6
    have n6 := hold HN.out b6
    have q0 : W6.cell? ⟨B, 0, none⟩ = some (.int .i64 k) := cell_of_block (i := 0) K6.r0 rfl
    have q1 : W6.cell? ⟨B, 1, none⟩ = some (.int .i64 q) := cell_of_block (i := 1) K6.r0 rfl
    have q2 : W6.cell? ⟨B, 2, none⟩ = some (.int .i64 t) := cell_of_block (i := 2) K6.r0 rfl
    have qs : W6.cell? ⟨B + 1, 0, none⟩ = some (.int .i64 (P : Int)) := cell_of_block (i := 0) K6.r1 rfl
    have qn : W6.cell? ⟨Z0.heap.size, 0, none⟩ = some (.int .i64 (i : Int)) := cell_of_block (i := 0) n6 rfl
    have HA6 := mkHid ((CallsIn.inRound l ((callsIn_wide (n := 1)).2 (HAT.out W6 (i : Int) (by omega) (by omega)))))
    have H6 := mkHid (And.intro b6 (And.intro K6 n6))
    clear b6 K6 n6
    gi_wp2
    refine ⟨trivial, ?_⟩
    refine HA6.out.mono ?_
    rintro e W7 ⟨rfl, b7⟩
    have K7 := H6.out.2.1.later b7
    have n7 := hold H6.out.2.2 b7
    have s0 : W7.cell? ⟨B, 0, none⟩ = some (.int .i64 k) := cell_of_block (i := 0) K7.r0 rfl
    have s1 : W7.cell? ⟨B, 1, none⟩ = some (.int .i64 q) := cell_of_block (i := 1) K7.r0 rfl
    have s2 : W7.cell? ⟨B, 2, none⟩ = some (.int .i64 t) := cell_of_block (i := 2) K7.r0 rfl
    have ss : W7.cell? ⟨B + 1, 0, none⟩ = some (.int .i64 (P : Int)) := cell_of_block (i := 0) K7.r1 rfl
    have sn : W7.cell? ⟨Z0.heap.size, 0, none⟩ = some (.int .i64 (i : Int)) := cell_of_block (i := 0) n7 rfl
    have sf : W7.frozen? ⟨Z0.heap.size, 0, none⟩ = false := frozen_of_block n7
    have H7 := mkHid (And.intro (bt H6.out.1 b7) (And.intro K7 n7))
    have hlt0 := (Array.getElem?_eq_some_iff.1 HKW.out.r1).1
    have hne : B + 1 ≠ Z0.heap.size := by have := (Array.getElem?_eq_some_iff.1 HZ0.out.r1).1; omega
    have ss2 : (W7.setCell ⟨Z0.heap.size, 0, none⟩ (.int .i64 ((i : Int) + 1))).cell? ⟨B + 1, 0, none⟩ = some (.int .i64 (P : Int)) := cell_of_block (i := 0) ((Below.heap_setCell _ _ _ _ (by simpa using hne)).trans K7.r1) rfl
    have sn2 : (W7.setCell ⟨Z0.heap.size, 0, none⟩ (.int .i64 ((i : Int) + 1))).cell? ⟨Z0.heap.size, 0, none⟩ = some (.int .i64 ((i : Int) + 1)) := cell_of_block (i := 0) (heap_set n7) rfl
    have ew : IntKind.i64.wrap ((i : Int) + 1) = (i : Int) + 1 := wfit (by omega) (by omega)
    clear b7 K7 n7
    have hbl : Hid (Below Z0.heap.size W (W7.setCell ⟨Z0.heap.size, 0, none⟩ (.int .i64 ((i : Int) + 1)))) := mkHid ((H7.out.1.mono (show Z0.heap.size ≤ W.heap.size by have := (Array.getElem?_eq_some_iff.1 HN.out).1; omega)).setCell (p := ⟨Z0.heap.size, 0, none⟩) (Nat.le_refl _) _)
    by_cases hlast : i + 1 = P
    · have hl2 : ((i : Int) + 1 = (P : Int)) := by omega
      gi_wp2
      exact ⟨keeps_set H7.out.1 (by omega) _, .inr ⟨rfl, by rw [← hl2]; exact HB.out.trans hbl.out, by rw [heap_set H7.out.2.2]; rfl⟩⟩
    · have hl2 : ¬ ((i : Int) + 1 = (P : Int)) := by omega
      gi_wp2
      exact ⟨keeps_set H7.out.1 (by omega) _, .inl ⟨rfl, hbl.out, HB.out.trans hbl.out, heap_set H7.out.2.2, by omega⟩⟩
  rintro - D1 X1 hD1 ⟨hb1, hn1⟩ hK1
  have KX1 := HZ0.out.later (bV1.trans hb1)
  have a10 : X1.cell? ⟨B, 0, none⟩ = some (.int .i64 k) := cell_of_block (i := 0) KX1.r0 rfl
  have a11 : X1.cell? ⟨B, 1, none⟩ = some (.int .i64 q) := cell_of_block (i := 1) KX1.r0 rfl
  have a12 : X1.cell? ⟨B, 2, none⟩ = some (.int .i64 t) := cell_of_block (i := 2) KX1.r0 rfl
  have a1s : X1.cell? ⟨B + 1, 0, none⟩ = some (.int .i64 (P : Int)) := cell_of_block (i := 0) KX1.r1 rfl
  have a1n : X1.cell? ⟨Z0.heap.size, 0, none⟩ = some (.int .i64 (P : Int)) := cell_of_block (i := 0) hn1 rfl
  have HX1 := mkHid (And.intro KX1 (And.intro hn1 hK1))
  have Hm10 : Hid (X1.heap[D0]? = some (.deferred (some []))) := mkHid (((bV1.trans hb1).block _ (Array.getElem?_eq_some_iff.1 Hm00e.out).1).trans Hm00e.out)
  have HD1 := mkHid hD1
  clear KX1 hn1 hK1 hb1 bV1 hD1 hs1
  gi_wp2
  refine ⟨trivial, ?_⟩
  refine ((callsIn_wide (n := 4)).2 (H5.out _ HX1.out.1.lo)).mono ?_
  rintro e Y1 ⟨rfl, by1⟩
  have KY1 := HX1.out.1.later by1
  have c10 : Y1.cell? ⟨B, 0, none⟩ = some (.int .i64 k) := cell_of_block (i := 0) KY1.r0 rfl
  have c11 : Y1.cell? ⟨B, 1, none⟩ = some (.int .i64 q) := cell_of_block (i := 1) KY1.r0 rfl
  have c12 : Y1.cell? ⟨B, 2, none⟩ = some (.int .i64 t) := cell_of_block (i := 2) KY1.r0 rfl
  have c1s : Y1.cell? ⟨B + 1, 0, none⟩ = some (.int .i64 (P : Int)) := cell_of_block (i := 0) KY1.r1 rfl
  have c1n : Y1.cell? ⟨Z0.heap.size, 0, none⟩ = some (.int .i64 (P : Int)) := cell_of_block (i := 0) (hold HX1.out.2.1 by1) rfl
  have HY1 := mkHid (And.intro KY1 by1)
  clear KY1 by1
  gi_wp2
  refine ⟨trivial, ?_⟩
  refine ((callsIn_wide (n := 4)).2 (H5.out _ HY1.out.1.lo)).mono ?_
  rintro e Z1 ⟨rfl, bz1⟩
  have HZ1 := mkHid (HY1.out.1.later bz1)
  have Hm11e : Hid (Z1.heap[D1]? = some (.deferred (some []))) := mkHid (hold (hold HX1.out.2.2 HY1.out.2) bz1)
  have d1n : Z1.cell? ⟨Z0.heap.size, 0, none⟩ = some (.int .i64 (P : Int)) := cell_of_block (i := 0) (hold (hold HX1.out.2.1 HY1.out.2) bz1) rfl
  have Hm10e : Hid (Z1.heap[D0]? = some (.deferred (some []))) := mkHid (hold (hold Hm10.out HY1.out.2) bz1)
  have HDL1 : Hid (w.heap.size ≤ D1) := mkHid (by have h1 := HD1.out; have h2 := HZ0.out.lo.size; simp only [World.size_alloc] at h1; omega)
  clear bz1
  have u4 : Z1.cell? ⟨B + 1 + 1, 0, none⟩ = some (.bool false) := cell_of_block (i := 0) HZ1.out.r2 rfl
  have u5 : Z1.frozen? ⟨B + 1 + 1, 0, none⟩ = false := frozen_of_block HZ1.out.r2
  gi_wp2
  rw [roundsIn_succ]
  gi_wp2
  have hbB := HBB.out
  have hne0 : B + 1 + 1 ≠ D0 := fun e => by have h1 := HZ1.out.r2; have h2 := Hm10e.out; rw [← e, h1] at h2; cases h2
  have hne1 : B + 1 + 1 ≠ D1 := fun e => by have h1 := HZ1.out.r2; have h2 := Hm11e.out; rw [← e, h1] at h2; cases h2
  have hneD : D0 ≠ D1 := fun e => by have h1 := HD1.out; have h2 := (Array.getElem?_eq_some_iff.1 Hm00e.out).1; simp only [World.size_alloc] at h1; omega
  have fin := HZ1.out.lo.setCell (p := ⟨B + 1 + 1, 0, none⟩) (by simp; omega) (.bool true)
  have k1 : (Z1.setCell ⟨B + 1 + 1, 0, none⟩ (.bool true)).heap[D1]? = some (.deferred (some [])) := by rw [Below.heap_setCell _ _ _ _ (by simpa using Ne.symm hne1)]; exact Hm11e.out
  have k0 : (Z1.setCell ⟨B + 1 + 1, 0, none⟩ (.bool true)).heap[D0]? = some (.deferred (some [])) := by rw [Below.heap_setCell _ _ _ _ (by simpa using Ne.symm hne0)]; exact Hm10e.out
  have kr : (Z1.setCell ⟨B + 1 + 1, 0, none⟩ (.bool true)).heap[B + 1 + 1]? = some (.cells #[.bool true] 4 (0, 0)) := heap_set HZ1.out.r2
  generalize Z1.setCell ⟨B + 1 + 1, 0, none⟩ (.bool true) = ZZ at *
  have z0 : (ZZ.putObj D1 (.deferred none)).heap[D0]? = some (.deferred (some [])) := (World.putObj_heap_other hneD).trans k0
  have zr : ((ZZ.putObj D1 (.deferred none)).putObj D0 (.deferred none)).heap[B + 1 + 1]? = some (.cells #[.bool true] 4 (0, 0)) := (World.putObj_heap_other hne0).trans ((World.putObj_heap_other hne1).trans kr)
  refine ⟨by simp, .inl ⟨_, _, rfl, run_takeDeferred k1, ?_⟩⟩
  refine ⟨by simp, .inl ⟨_, _, rfl, run_takeDeferred z0, ?_⟩⟩
  refine ⟨_, ?_, rfl, (fin.grown (grownBy_putObj' ZZ D1 _) fin.size (fun j e => by cases e; exact HDL1.out)).grown (grownBy_putObj' _ D0 _) (by simpa [World.putObj] using fin.size) (fun j e => by cases e; exact HDL0.out)⟩
  rw [results_cell1 Tryd.results4]
  have zc : ((ZZ.putObj D1 (.deferred none)).putObj D0 (.deferred none)).cell? ⟨B + 1 + 1, 0, none⟩ = some (.bool true) := cell_of_block (i := 0) zr rfl
  simp [asAddr, Result.andThen, loadVar, go_sem, zc]
theorem rowsL_any (w : World) (s : Sv) (x : Int) (a0 : Addr) (E0 : Err w 0 text0 a0) : Calls Tryd.prog 4 #[vS s, .int .i64 x] w fun e w' => e = .returned (.bool true) ∧ Below w.heap.size w w' := by
  by_cases h : okW s
  · exact rows_yes w s x h
  · exact rows_no w s x a0 h E0.1
end Go.Proofs.YtldfngkooilmnaaDoor
