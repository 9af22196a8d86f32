/- An area without records, and the other area. -/
import Derived.Test.YtcbimclgodkflaaDoorWlast
namespace Go.Proofs.YtcbimclgodkflaaDoor
open Go.ChangeShapes Go.WideShapes Go.ChangeAt Go.RowKit
set_option maxRecDepth 100000

theorem sizeArea : (Tryd.prog.info? 69).map (·.size) = some 4 := by kernel_rfl
theorem area_leaves {W : World} {R : Nat} {p : Tmp} {fn : Func} {a b c d : Value} (hf : fn.results = #[.cell p 69]) (hR : W.heap[R]? = some (.cells #[a, b, c, d] 69 (0, 0))) (tmps : Array Value) (h2 : tmps.getD p undef = .pointer (some ⟨R, 0, none⟩)) : (results fn tmps).run Tryd.prog W = .ok (.agg #[a, b, c, d]) W := by
  have hl := run_loadVar_row (P := Tryd.prog) W R 69 69 #[a, b, c, d] (0, 0) _ hR Tryd.underlying69 rfl sizeArea
  rw [results_cell1 hf, h2]
  simp [asAddr, Result.andThen, hl]
theorem empty_is (w : World) (f s : Nat) (hf : (f : Int) ≤ 1000000) (hs : (s : Int) ≤ 1000000) :
    Calls Tryd.prog 50 #[.int .i64 (f : Int), .int .i64 (s : Int)] w fun e w' => e = .returned (.agg #[.int .i64 (f : Int), .int .i64 ((f : Int) + (s : Int)), .slice none 0 0, .int .i64 (f : Int)]) ∧ Below w.heap.size w w' := by
  go_enter Tryd.func50, Tryd.ntmps50
  go_wp2
  exact bodyPost_ret (area_leaves rfl (heap_alloc_new w _) _ rfl) rfl ⟨rfl, (Below.refl _ w).alloc (Nat.le_refl _) _⟩
theorem azero_facts {W : World} {R : Nat} (h : W.heap[R]? = some (.cells #[.int .i64 0, .int .i64 0, .slice none 0 0, .int .i64 0] 69 (0, 0))) :
    W.cell? ⟨R, 0, none⟩ = some (.int .i64 0) ∧ W.cell? ⟨R, 1, none⟩ = some (.int .i64 0) ∧ W.cell? ⟨R, 2, none⟩ = some (.slice none 0 0) ∧ W.cell? ⟨R, 3, none⟩ = some (.int .i64 0) ∧ W.frozen? ⟨R, 0, none⟩ = false ∧ W.frozen? ⟨R, 1, none⟩ = false ∧ W.frozen? ⟨R, 2, none⟩ = false ∧ W.frozen? ⟨R, 3, none⟩ = false :=
  ⟨cell_of_block h rfl, cell_of_block h rfl, cell_of_block h rfl, cell_of_block h rfl, frozen_of_block h, frozen_of_block h, frozen_of_block h, frozen_of_block h⟩
theorem afour_leaves {W : World} {R : Nat} (h : W.heap[R]? = some (.cells #[.int .i64 0, .int .i64 0, .slice none 0 0, .int .i64 0] 69 (0, 0))) (v0 v1 v2 v3 : Value) : ((((W.setCell ⟨R, 0, none⟩ v0).setCell ⟨R, 1, none⟩ v1).setCell ⟨R, 2, none⟩ v2).setCell ⟨R, 3, none⟩ v3).heap[R]? = some (.cells #[v0, v1, v2, v3] 69 (0, 0)) := by
  rw [heap_set (heap_set (heap_set (heap_set h)))]
  rfl
theorem atwo_new (w : World) (o : Obj) (r : Array Value) : ((w.alloc o).alloc (.cells r 69)).heap[w.heap.size + 1]? = some (.cells r 69 (0, 0)) := by
  have := heap_alloc_new (w.alloc o) (.cells r 69)
  rw [show (w.alloc o).heap.size = w.heap.size + 1 by simp] at this
  exact this
theorem other_first (w : World) (s : Nat) (v x : Value) (hs : (s : Int) ≤ 1000000) :
    Calls Tryd.prog 53 #[.agg #[.int .i64 0, .int .i64 (s : Int), v, x]] w fun e w' => e = .returned (.agg #[.int .i64 (s : Int), .int .i64 ((s : Int) + (s : Int)), .slice none 0 0, .int .i64 (s : Int)]) ∧ Below w.heap.size w w' := by
  obtain ⟨W2, hW2⟩ : ∃ W2, W2 = (w.alloc (.cells #[.int .i64 0, .int .i64 (s : Int), v, x] 69)).alloc (.cells #[.int .i64 0, .int .i64 0, .slice none 0 0, .int .i64 0] 69) := ⟨_, rfl⟩
  have hb2 : Below w.heap.size w W2 := by rw [hW2]; exact ((Below.refl _ w).alloc (Nat.le_refl _) _).alloc (by simp) _
  have HN : Hid (W2.heap[w.heap.size + 1]? = some (.cells #[.int .i64 0, .int .i64 0, .slice none 0 0, .int .i64 0] 69 (0, 0))) := mkHid (by rw [hW2]; exact atwo_new w _ _)
  have HB := mkHid hb2
  clear hb2
  go_enter Tryd.func53, Tryd.ntmps53
  go_wp2_with (first
    | (go_at_call 50; rw [← hW2]; refine (empty_is W2 s s (by omega) hs).mono ?_; rintro e w2 ⟨rfl, hb2⟩; have hn3 := HN.out; rw [← hb2.block (w.heap.size + 1) (Array.getElem?_eq_some_iff.1 hn3).1] at hn3; obtain ⟨z0, z1, z2, z3, y0, y1, y2, y3⟩ := azero_facts hn3; have HN3 := mkHid hn3; have HB3 := mkHid (HB.out.trans (hb2.mono HB.out.size)); clear hn3 hb2))
  exact bodyPost_ret (area_leaves rfl (afour_leaves HN3.out _ _ _ _) _ rfl) rfl ⟨rfl, below_four HB3.out (Nat.le_succ _) _ _ _ _⟩
theorem other_second (w : World) (s : Nat) (v x : Value) (hs : (s : Int) ≤ 1000000) (h0 : 0 < s) :
    Calls Tryd.prog 53 #[.agg #[.int .i64 (s : Int), .int .i64 ((s : Int) + (s : Int)), v, x]] w fun e w' => e = .returned (.agg #[.int .i64 0, .int .i64 (s : Int), .slice none 0 0, .int .i64 0]) ∧ Below w.heap.size w w' := by
  obtain ⟨W2, hW2⟩ : ∃ W2, W2 = (w.alloc (.cells #[.int .i64 (s : Int), .int .i64 ((s : Int) + (s : Int)), v, x] 69)).alloc (.cells #[.int .i64 0, .int .i64 0, .slice none 0 0, .int .i64 0] 69) := ⟨_, rfl⟩
  have hb2 : Below w.heap.size w W2 := by rw [hW2]; exact ((Below.refl _ w).alloc (Nat.le_refl _) _).alloc (by simp) _
  have HN : Hid (W2.heap[w.heap.size + 1]? = some (.cells #[.int .i64 0, .int .i64 0, .slice none 0 0, .int .i64 0] 69 (0, 0))) := mkHid (by rw [hW2]; exact atwo_new w _ _)
  have HB := mkHid hb2
  clear hb2
  have h1 : ((s : Int) == 0) = false := by simp; omega
  go_enter Tryd.func53, Tryd.ntmps53
  go_wp2_with (first
    | (go_at_call 50; rw [← hW2]; refine (empty_is W2 0 s (by omega) hs).mono ?_; rintro e w2 ⟨rfl, hb2⟩; have hn3 := HN.out; rw [← hb2.block (w.heap.size + 1) (Array.getElem?_eq_some_iff.1 hn3).1] at hn3; obtain ⟨z0, z1, z2, z3, y0, y1, y2, y3⟩ := azero_facts hn3; have HN3 := mkHid hn3; have HB3 := mkHid (HB.out.trans (hb2.mono HB.out.size)); clear hn3 hb2))
  exact bodyPost_ret (area_leaves rfl (afour_leaves HN3.out _ _ _ _) _ rfl) rfl ⟨by simp, below_four HB3.out (Nat.le_succ _) _ _ _ _⟩
end Go.Proofs.YtcbimclgodkflaaDoor
