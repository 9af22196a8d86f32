/- What the functions product and Cross of package wide answer. -/
import Derived.Test.YtpdehdomilnmeaaGreatDoorWide
namespace Go.Proofs.YtpdehdomilnmeaaGreatDoor
open Go.ChangeShapes Go.WideShapes Go.ChangeAt Go.RowKit
set_option maxRecDepth 100000

/-- A 64-bit integer. -/
structure I64 (x : Int) : Prop where
  lo : -9223372036854775808 ≤ x
  hi : x ≤ 9223372036854775807
theorem prod_halves {a b : Int} (ha : I64 a) (hb : I64 b) (a0 : 0 ≤ a) (b0 : 0 ≤ b) : ∃ H L : Int, Word H ∧ Word L ∧ H * 18446744073709551616 + L = a * b := by
  have h0 : 0 ≤ a * b := Int.mul_nonneg a0 b0
  have h1 : a * b ≤ 9223372036854775807 * 9223372036854775807 := Int.mul_le_mul ha.hi hb.hi b0 (by decide)
  obtain ⟨H, L, x, y, e⟩ := halves (a * b) h0 (by omega)
  exact ⟨H, L, x, y, e.symm⟩
/-- The answer of Cross. -/
structure CrossIs (a b c d x : Int) (ok : Bool) : Prop where
  yes : ok = true → (0 ≤ a ∧ 1 ≤ b ∧ 0 ≤ c ∧ 1 ≤ d) ∧ x = cmpI (a * d) (c * b)
  no : ok = false → (a < 0 ∨ c < 0 ∨ b < 1 ∨ d < 1) ∧ x = 0
theorem cross_ex (a b c d : Int) : ∃ x ok, CrossIs a b c d x ok := by
  by_cases h : 0 ≤ a ∧ 1 ≤ b ∧ 0 ≤ c ∧ 1 ≤ d
  · exact ⟨_, true, fun _ => ⟨h, rfl⟩, fun h => (by cases h)⟩
  · exact ⟨0, false, fun h => (by cases h), fun _ => ⟨by omega, rfl⟩⟩
end Go.Proofs.YtpdehdomilnmeaaGreatDoor
