/- Package supply: a server's shape. -/
import Derived.Test.YtldfngkooilmnabDoorSup1
import Derived.Laws.ResultCell
import Derived.Laws.Rows
namespace Go.Proofs.YtldfngkooilmnabDoor
open Go.ChangeShapes Go.WideShapes Go.ChangeAt Go.RowKit

theorem cell_of_block {w : World} {p i : Nat} {c : Array Value} {t : TypeId} {v : Value} (h : w.heap[p]? = some (.cells c t (0, 0))) (hi : c[i]? = some v) : w.cell? ⟨p, i, none⟩ = some v := by
  rw [cell_of_row w p i c t (0, 0) h]; exact hi
theorem frozen_of_block {w : World} {p i : Nat} {c : Array Value} {t : TypeId} (h : w.heap[p]? = some (.cells c t (0, 0))) : w.frozen? ⟨p, i, none⟩ = false := by
  simp [World.frozen?, h]
theorem heap_set {w : World} {p i : Nat} {c : Array Value} {t : TypeId} {v : Value} (h : w.heap[p]? = some (.cells c t (0, 0))) : (w.setCell ⟨p, i, none⟩ v).heap[p]? = some (.cells (c.set! i v) t (0, 0)) := by
  simp [World.setCell, Array.getElem?_modify, h]
theorem new_last {w w3 : World} {o : Obj} (h : Below (w.alloc o).heap.size (w.alloc o) w3) : w3.heap[w.heap.size]? = some o ∧ Below w.heap.size w w3 := by
  have hz : (w.alloc o).heap.size = w.heap.size + 1 := by simp
  refine ⟨by rw [h.block _ (by omega)]; exact heap_alloc_new w o, ((Below.refl _ w).alloc (Nat.le_refl _) o).trans (h.mono (by omega))⟩
theorem new_two {w w3 : World} {o o2 : Obj} (h : Below ((w.alloc o).alloc o2).heap.size ((w.alloc o).alloc o2) w3) : w3.heap[w.heap.size]? = some o ∧ w3.heap[w.heap.size + 1]? = some o2 ∧ Below w.heap.size w w3 := by
  obtain ⟨h1, h2⟩ := new_last h
  obtain ⟨h3, h4⟩ := new_last h2
  exact ⟨h3, by rw [show w.heap.size + 1 = (w.alloc o).heap.size by simp]; exact h1, h4⟩
theorem size_shape : (Tryd.prog.info? 32).map (·.size) = some 3 := by kernel_rfl
theorem shape_leaves {W : World} {R : Nat} {a b c : Value} (hR : W.heap[R]? = some (.cells #[a, b, c] 32 (0, 0))) (tmps : Array Value) (h2 : tmps.getD 2 undef = .pointer (some ⟨R, 0, none⟩)) : (results Tryd.f8 tmps).run Tryd.prog W = .ok (.tuple #[.agg #[a, b, c], tmps.getD 3 undef]) W := by
  have hl := run_loadVar_row (P := Tryd.prog) W R 32 32 #[a, b, c] (0, 0) _ hR Tryd.underlying32 rfl size_shape
  rw [results_cell_tmp (p := 2) (u := 3) (ty := 32) rfl, h2]
  simp [asAddr, Result.andThen, hl]
theorem shape_whole (w : World) : Calls Tryd.prog 8 #[vS (0, 0, 0)] w fun e w' => e = .returned (.tuple #[vH 0 0 1, .nilIface]) ∧ Below w.heap.size w w' := by
  go_enter Tryd.func8, Tryd.ntmps8
  go_wp2
  exact bodyPost_ret (shape_leaves (heap_alloc_new _ _) _ (by simp)) rfl ⟨rfl, ba (ba (Below.refl _ _) _) _⟩
set_option maxHeartbeats 1600000 in
theorem shape_ok (w : World) (s : Sv) (h : okS s) : Calls Tryd.prog 8 #[vS s] w fun e w' => e = .returned (.tuple #[vH (gS s) (dS s) (qS s), .nilIface]) ∧ Below w.heap.size w w' := by
  obtain ⟨k, q, t⟩ := s
  have HO := mkHid h
  obtain ⟨h1, h2, h3, h4, h5⟩ := h
  simp only at h1 h2 h3 h4 h5
  have hk : ¬ k = 0 := by omega
  have hk1 : (0 : Int) ≠ k := by omega
  have hc : k = 3 ∨ ¬ k = 3 := by omega
  rcases hc with rfl | hc
  all_goals
    go_enter Tryd.func8, Tryd.ntmps8
    go_wp2_with (go_at_call 14; refine (check_ok _ (_, q, t) HO.out).mono ?_; rintro e w3 ⟨rfl, hb3⟩; obtain ⟨r0, r1, hb⟩ := new_two hb3; have HB := mkHid (And.intro r1 hb); have c0 := cell_of_block (i := 0) r0 rfl; have c1 := cell_of_block (i := 1) r0 rfl; have c2 := cell_of_block (i := 2) r0 rfl; have d0 := cell_of_block (i := 0) r1 rfl; have d1 := cell_of_block (i := 1) r1 rfl; have d2 := cell_of_block (i := 2) r1 rfl; have f0 := frozen_of_block (i := 0) r1; have f1 := frozen_of_block (i := 1) r1; have f2 := frozen_of_block (i := 2) r1; clear hb3 r0 r1 hb)
    obtain ⟨r1, hb⟩ := HB.out
    refine bodyPost_ret (shape_leaves (heap_set (heap_set (heap_set r1))) _ (by simp)) rfl ⟨?_, ((hb.setCell (p := ⟨_, _, none⟩) (by simp) _).setCell (p := ⟨_, _, none⟩) (by simp) _).setCell (p := ⟨_, _, none⟩) (by simp) _⟩
    first | simp [gS, dS, qS, hk, hc] | simp [gS, dS, qS]
theorem shape_no (w : World) (s : Sv) (h : ¬ okW s) (a : Addr) (he : w.cell? ⟨2, 0, none⟩ = some (vE a)) : Calls Tryd.prog 8 #[vS s] w fun e w' => e = .returned (.tuple #[vH 0 0 0, vE a]) ∧ Below w.heap.size w w' := by
  obtain ⟨k, q, t⟩ := s
  have HO : Hid (¬ okS (k, q, t)) := mkHid (fun e => h (.inr e))
  have HE := mkHid he
  clear he
  have hc : ¬ k = 0 ∨ (k = 0 ∧ ¬ q = 0) ∨ (k = 0 ∧ q = 0 ∧ ¬ t = 0) := by
    refine Decidable.byContradiction fun hn => h (.inl ?_)
    simp only [Prod.mk.injEq]; omega
  clear h
  rcases hc with h1 | ⟨rfl, h1⟩ | ⟨rfl, rfl, h1⟩
  all_goals
    go_enter Tryd.func8, Tryd.ntmps8
    go_wp2_with (go_at_call 14; refine (check_no _ (_, _, _) HO.out a (kl (kl HE.out _) _)).mono ?_; rintro e w3 ⟨rfl, hb3⟩; obtain ⟨r0, r1, hb⟩ := new_two hb3; have HB := mkHid (And.intro r1 hb); have d0 := cell_of_block (i := 0) r1 rfl; have d1 := cell_of_block (i := 1) r1 rfl; have d2 := cell_of_block (i := 2) r1 rfl; have f0 := frozen_of_block (i := 0) r1; have f1 := frozen_of_block (i := 1) r1; have f2 := frozen_of_block (i := 2) r1; clear hb3 r0 r1 hb)
    obtain ⟨r1, hb⟩ := HB.out
    exact bodyPost_ret (shape_leaves (heap_set (heap_set (heap_set r1))) _ (by simp)) rfl ⟨rfl, ((hb.setCell (p := ⟨_, _, none⟩) (by simp) _).setCell (p := ⟨_, _, none⟩) (by simp) _).setCell (p := ⟨_, _, none⟩) (by simp) _⟩
/-- A shape, whatever the legal server. -/
theorem shape_yes (w : World) (s : Sv) (h : okW s) : Calls Tryd.prog 8 #[vS s] w fun e w' => e = .returned (.tuple #[vH (gS s) (dS s) (qS s), .nilIface]) ∧ Below w.heap.size w w' := by
  rcases h with rfl | h
  · exact shape_whole w
  · exact shape_ok w s h
end Go.Proofs.YtldfngkooilmnabDoor
