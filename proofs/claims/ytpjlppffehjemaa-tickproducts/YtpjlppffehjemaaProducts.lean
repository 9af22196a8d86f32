/- TickProducts: Mul of package tick against the document's product, at all pairs of integers. -/
import Derived.Test.YtpjlppffehjemaaTimes
namespace Go.Proofs.Ytpjlppffehjemaa
open Go.ChangeShapes Go.WideShapes Go.ChangeAt Go.RowKit

theorem mul_is {a b P : Int} {w : World} (a1 : -9223372036854775808 ≤ a) (a2 : a ≤ 9223372036854775807) (b1 : -9223372036854775808 ≤ b) (b2 : b ≤ 9223372036854775807) (hP : Hid (P = a * b)) :
    Calls Try.prog 14 #[.int .i64 a, .int .i64 b] w fun e w' => e = .returned (.tuple #[.int .i64 (fitN P), .bool (fitB P)]) ∧ w' = w := by
  rw [hP.out]
  exact mul_any a b w a1 a2 b1 b2
theorem mulRef_is {a b P : Int} {w : World} (a1 : -9223372036854775808 ≤ a) (a2 : a ≤ 9223372036854775807) (b1 : -9223372036854775808 ≤ b) (b2 : b ≤ 9223372036854775807) (hP : Hid (P = a * b)) :
    Calls Try.prog 15 #[.int .i64 a, .int .i64 b] w fun e w' => e = .returned (.tuple #[.int .i64 (fitN P), .bool (fitB P)]) ∧ Below w.heap.size w w' := by
  rw [hP.out]
  exact mulRef_any a b w a1 a2 b1 b2
theorem products_any (a b : Int) (w : World) (a1 : -9223372036854775808 ≤ a) (a2 : a ≤ 9223372036854775807) (b1 : -9223372036854775808 ≤ b) (b2 : b ≤ 9223372036854775807) :
    Calls Try.prog 4 #[.int .i64 a, .int .i64 b] w fun e w' => e = .returned (.bool true) ∧ Below w.heap.size w w' := by
  obtain ⟨P, hP⟩ : ∃ P, P = a * b := ⟨_, rfl⟩
  have H1 : Hid (P = a * b) := hP
  have H2 : Hid (P = b * a) := by show P = b * a; rw [hP, Int.mul_comm]
  clear hP
  go_enter Try.func4, Try.ntmps4
  go_wp2_with (first | (go_at_call 9; refine (alive_any _).mono ?_; rintro e wx ⟨rfl, hw⟩; rw [hw]; clear hw) | (go_at_call 14; with_reducible refine (mul_is a1 a2 b1 b2 H1).mono ?_; rintro e wx ⟨rfl, hw⟩; rw [hw]; clear hw) | (go_at_call 14; with_reducible refine (mul_is b1 b2 a1 a2 H2).mono ?_; rintro e wx ⟨rfl, hw⟩; rw [hw]; clear hw) | (go_at_call 15; with_reducible refine (mulRef_is a1 a2 b1 b2 H1).mono ?_; rintro e w1 ⟨rfl, h1⟩))
  go_ret
  exact ⟨rfl, h1⟩
end Go.Proofs.Ytpjlppffehjemaa
