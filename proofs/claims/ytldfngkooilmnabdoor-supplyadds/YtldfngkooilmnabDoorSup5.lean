/- The document's supply: Legal, Gap, At. -/
import Derived.Test.YtldfngkooilmnabDoorSup4
namespace Go.Proofs.YtldfngkooilmnabDoor
open Go.ChangeShapes Go.WideShapes Go.ChangeAt Go.RowKit

theorem reflegal_ok (w : World) (s : Sv) (h : okS s) : Calls Tryd.prog 13 #[vS s] w fun e w' => e = .returned (.bool true) ∧ Below w.heap.size w w' := by
  obtain ⟨k, q, t⟩ := s
  obtain ⟨h1, h2, h3, h4, h5⟩ := h
  simp only at h1 h2 h3 h4 h5
  have hk : k = 1 ∨ (¬ k = 1 ∧ k = 2) ∨ (¬ k = 1 ∧ ¬ k = 2 ∧ k = 3) := by omega
  rcases hk with rfl | ⟨_, rfl⟩ | ⟨_, _, rfl⟩
  all_goals
    clear h1 h2
    go_enter Tryd.func13, Tryd.ntmps13
    go_wp2
    go_ret
    exact ⟨rfl, ba (Below.refl _ _) _⟩
theorem reflegal_no (w : World) (s : Sv) (h : ¬ okS s) : Calls Tryd.prog 13 #[vS s] w fun e w' => e = .returned (.bool false) ∧ Below w.heap.size w w' := by
  obtain ⟨k, q, t⟩ := s
  have hc : (¬ k = 1 ∧ ¬ k = 2 ∧ ¬ k = 3) ∨ ((k = 1 ∨ k = 2 ∨ k = 3) ∧ (q < 1 ∨ (1 ≤ q ∧ t < q) ∨ (1 ≤ q ∧ q ≤ t ∧ ¬ t ≤ 256))) := by
    refine Decidable.byContradiction fun hn => h ?_
    refine ⟨?_, ?_, ?_, ?_, ?_⟩ <;> simp only <;> omega
  clear h
  rcases hc with ⟨h1, h2, h3⟩ | ⟨rfl | rfl | rfl, h4 | ⟨h3, h4⟩ | ⟨h3, h4, h5⟩⟩
  all_goals
    go_enter Tryd.func13, Tryd.ntmps13
    go_wp2
    go_ret
    exact ⟨rfl, ba (Below.refl _ _) _⟩
theorem legal_yes (w : World) (s : Sv) (h : okW s) : Calls Tryd.prog 6 #[vS s] w fun e w' => e = .returned (.bool true) ∧ Below w.heap.size w w' := by
  rcases h with rfl | h
  · go_enter Tryd.func6, Tryd.ntmps6
    go_wp2
    go_ret
    exact ⟨rfl, ba (Below.refl _ _) _⟩
  · obtain ⟨k, q, t⟩ := s
    have HO := mkHid h
    have hk : ¬ k = 0 := by have := h.1; simp only at this; omega
    clear h
    go_enter Tryd.func6, Tryd.ntmps6
    go_wp2_with (go_at_call 13; refine (reflegal_ok _ (k, q, t) HO.out).mono ?_; rintro e w3 ⟨rfl, hb3⟩)
    go_ret
    exact ⟨rfl, (new_last hb3).2⟩
theorem legal_no (w : World) (s : Sv) (h : ¬ okW s) : Calls Tryd.prog 6 #[vS s] w fun e w' => e = .returned (.bool false) ∧ Below w.heap.size w w' := by
  obtain ⟨k, q, t⟩ := s
  have HO : Hid (¬ okS (k, q, t)) := mkHid (fun e => h (.inr e))
  have hc : ¬ k = 0 ∨ (k = 0 ∧ ¬ q = 0) ∨ (k = 0 ∧ q = 0 ∧ ¬ t = 0) := by
    refine Decidable.byContradiction fun hn => h (.inl ?_)
    simp only [Prod.mk.injEq]; omega
  clear h
  rcases hc with h1 | ⟨rfl, h1⟩ | ⟨rfl, rfl, h1⟩
  all_goals
    go_enter Tryd.func6, Tryd.ntmps6
    go_wp2_with (go_at_call 13; refine (reflegal_no _ (_, _, _) HO.out).mono ?_; rintro e w3 ⟨rfl, hb3⟩)
    go_ret
    exact ⟨rfl, (new_last hb3).2⟩
end Go.Proofs.YtldfngkooilmnabDoor
