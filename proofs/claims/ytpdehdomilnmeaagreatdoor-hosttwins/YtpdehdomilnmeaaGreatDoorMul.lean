/- What Mul64 of math/bits and amount, signed, Mul of package tick answer. -/
import Derived.Test.YtpdehdomilnmeaaGreatDoorGcd
import Derived.Laws.MathBits
namespace Go.Proofs.YtpdehdomilnmeaaGreatDoor
open Go.ChangeShapes Go.WideShapes Go.ChangeAt Go.RowKit
set_option maxRecDepth 100000

theorem ret2u {a b c d : Int} (h1 : a = b) (h2 : c = d) : Ending.returned (.tuple #[.int .u64 a, .int .u64 c]) = .returned (.tuple #[.int .u64 b, .int .u64 d]) := by rw [h1, h2]
theorem mul64_any (x y : Int) (w : World) (hx0 : 0 ≤ x) (hx : x < 18446744073709551616) (hy0 : 0 ≤ y) (hy : y < 18446744073709551616) :
    Calls Tryz.prog 219 #[.int .u64 x, .int .u64 y] w fun e w' => e = .returned (.tuple #[.int .u64 (x * y / 18446744073709551616), .int .u64 (x * y % 18446744073709551616)]) ∧ w' = w := by
  have e1 := and_low32 x hx0 hx
  have e2 := and_low32 y hy0 hy
  go_enter Tryz.func219, Tryz.ntmps219
  go_wp2
  go_ret2
  refine ⟨ret2u ?_ (IntKind.wrap_u64 _), rfl⟩
  rw [and_low32 (IntKind.u64.wrap _) (by rw [IntKind.wrap_u64]; omega) (by rw [IntKind.wrap_u64]; omega)]
  simp only [IntKind.wrap_u64]
  exact mul64_arith x y hx0 hx hy0 hy
theorem natAbs_mul_pos {a b : Int} (h : a < 0 ↔ b < 0) : (a.natAbs : Int) * (b.natAbs : Int) = a * b := by
  by_cases ha : a < 0
  · have e1 : (a.natAbs : Int) = -a := by omega
    have e2 : (b.natAbs : Int) = -b := by have := h.mp ha; omega
    rw [e1, e2, Int.neg_mul_neg]
  · have e1 : (a.natAbs : Int) = a := by omega
    have e2 : (b.natAbs : Int) = b := by have := fun hb => ha (h.mpr hb); omega
    rw [e1, e2]
theorem natAbs_mul_neg {a b : Int} (h : ¬ (a < 0 ↔ b < 0)) : (a.natAbs : Int) * (b.natAbs : Int) = -(a * b) := by
  by_cases ha : a < 0
  · have e1 : (a.natAbs : Int) = -a := by omega
    have e2 : (b.natAbs : Int) = b := by have : ¬ b < 0 := fun hb => h ⟨fun _ => hb, fun _ => ha⟩; omega
    rw [e1, e2, Int.neg_mul]
  · have e1 : (a.natAbs : Int) = a := by omega
    have e2 : (b.natAbs : Int) = -b := by
      have : b < 0 := by
        refine Int.not_le.mp fun hb => h ⟨fun h' => absurd h' ha, fun h' => ?_⟩
        omega
      omega
    rw [e1, e2, Int.mul_neg]
theorem mul64_is {x y H L : Int} {w : World} (hx0 : 0 ≤ x) (hx : x < 18446744073709551616) (hy0 : 0 ≤ y) (hy : y < 18446744073709551616) (hH : Hid (x * y / 18446744073709551616 = H)) (hL : Hid (x * y % 18446744073709551616 = L)) :
    Calls Tryz.prog 219 #[.int .u64 x, .int .u64 y] w fun e w' => e = .returned (.tuple #[.int .u64 H, .int .u64 L]) ∧ w' = w := by
  rw [← hH.out, ← hL.out]
  exact mul64_any x y w hx0 hx hy0 hy
end Go.Proofs.YtpdehdomilnmeaaGreatDoor
