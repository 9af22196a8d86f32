/- The document's supply: Bound; and the chapter's example. -/
import Derived.Test.YtldfngkooilmnabDoorSup5
namespace Go.Proofs.YtldfngkooilmnabDoor
open Go.ChangeShapes Go.WideShapes Go.ChangeAt Go.RowKit

/-- The numbers of the document's Bound: whole periods that are taken off, and what is left. -/
theorem whole_off {g d q l : Int} (hd : 0 ≤ d) (hq : 1 ≤ q) (hg : g ≤ 3 * (d + q)) (h : 4 * (d + q) < l) : ∃ p L, (l - 3 * (d + q)) / (d + q) = p ∧ L = l - p * (d + q) ∧ 0 ≤ p ∧ 0 ≤ L ∧ L ≤ 4 * (d + q) ∧ p ≤ l ∧ sb g d q l = p * q + sb g d q L := by
  obtain ⟨a, r, ha, h0, h1, h2⟩ := parts0 (T := d + q) (l - 3 * (d + q)) (by omega) (by omega)
  have hp : a * 1 ≤ a * (d + q) := Int.mul_le_mul_of_nonneg_left (by omega) ha
  refine ⟨a, l - a * (d + q), (dm h0 h1 h2).1, rfl, ha, by omega, by omega, by omega, ?_⟩
  have := sb_period (g := g) (l := l - a * (d + q)) hd hq (by omega) a ha
  rw [show l - a * (d + q) + a * (d + q) = l by omega] at this
  omega
/-- The chapter's example. -/
theorem salive (w : World) : Calls Tryd.prog 4 #[] w fun e w' => e = .returned (.bool true) ∧ Below w.heap.size w w' := by
  have o1 : okW (3, 2, 5) := .inr (by unfold okS; decide)
  have o2 : okW (1, 2, 5) := .inr (by unfold okS; decide)
  have e1 : sb (gS (3, 2, 5)) (dS (3, 2, 5)) (qS (3, 2, 5)) 8 = 2 := by decide
  have e2 : sb (gS (1, 2, 5)) (dS (1, 2, 5)) (qS (1, 2, 5)) 8 = 1 := by decide
  have H1 : Hid (∀ w, Calls Tryd.prog 7 #[vS (3, 2, 5), .int .i64 8] w fun e w' => e = .returned (.tuple #[.int .i64 2, .nilIface]) ∧ Below w.heap.size w w') := mkHid (fun w => by rw [← e1]; exact bound_yes w (3, 2, 5) 8 o1 (by decide) (by decide))
  have H2 : Hid (∀ w, Calls Tryd.prog 7 #[vS (1, 2, 5), .int .i64 8] w fun e w' => e = .returned (.tuple #[.int .i64 1, .nilIface]) ∧ Below w.heap.size w w') := mkHid (fun w => by rw [← e2]; exact bound_yes w (1, 2, 5) 8 o2 (by decide) (by decide))
  clear e1 e2 o1 o2
  have M : Hid True := mkHid trivial
  go_enter Tryd.func4, Tryd.ntmps4
  go_wp2_with (first | (go_at_call 7; clear M; refine (H1.out _).mono ?_; rintro e w1 ⟨rfl, b1⟩; have HB1 := mkHid b1; clear b1) | (go_at_call 7; refine (H2.out _).mono ?_; rintro e w2 ⟨rfl, b2⟩; have HB2 := mkHid b2; clear b2))
  go_ret
  exact ⟨rfl, bt HB1.out HB2.out⟩
end Go.Proofs.YtldfngkooilmnabDoor
