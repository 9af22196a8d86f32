/- What Mul64 of math/bits and amount, signed, Mul of package tick answer. -/
import Derived.Test.YtilnchlnlnpkfaaDoorGcd
import Derived.Laws.MathBits
namespace Go.Proofs.YtilnchlnlnpkfaaDoor
open Go.ChangeShapes Go.WideShapes Go.ChangeAt Go.RowKit
set_option maxRecDepth 100000

theorem ret2u {a b c d : Int} (h1 : a = b) (h2 : c = d) : Ending.returned (.tuple #[.int .u64 a, .int .u64 c]) = .returned (.tuple #[.int .u64 b, .int .u64 d]) := by rw [h1, h2]
theorem natAbs_mul_pos {a b : Int} (h : a < 0 ↔ b < 0) : (a.natAbs : Int) * (b.natAbs : Int) = a * b := by
  by_cases ha : a < 0
  · have e1 : (a.natAbs : Int) = -a := by omega
    have e2 : (b.natAbs : Int) = -b := by have := h.mp ha; omega
    rw [e1, e2, Int.neg_mul_neg]
  · have e1 : (a.natAbs : Int) = a := by omega
    have e2 : (b.natAbs : Int) = b := by have := fun hb => ha (h.mpr hb); omega
    rw [e1, e2]
theorem natAbs_mul_neg {a b : Int} (h : ¬ (a < 0 ↔ b < 0)) : (a.natAbs : Int) * (b.natAbs : Int) = -(a * b) := by
  by_cases ha : a < 0
  · have e1 : (a.natAbs : Int) = -a := by omega
    have e2 : (b.natAbs : Int) = b := by have : ¬ b < 0 := fun hb => h ⟨fun _ => hb, fun _ => ha⟩; omega
    rw [e1, e2, Int.neg_mul]
  · have e1 : (a.natAbs : Int) = a := by omega
    have e2 : (b.natAbs : Int) = -b := by
      have : b < 0 := by
        refine Int.not_le.mp fun hb => h ⟨fun h' => absurd h' ha, fun h' => ?_⟩
        omega
      omega
    rw [e1, e2, Int.mul_neg]
end Go.Proofs.YtilnchlnlnpkfaaDoor
