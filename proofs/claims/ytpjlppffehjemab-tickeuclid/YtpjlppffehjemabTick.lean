/- What the functions Add, Sub, Floor, Ceil, Mod of package tick answer, at every pair of 64-bit integers. -/
import Derived.Test.YtpjlppffehjemabMath
namespace Go.Proofs.Ytpjlppffehjemab
open Go.ChangeShapes Go.WideShapes Go.ChangeAt Go.RowKit

theorem add_any (a b : Int) (w : World) (a1 : -9223372036854775808 ≤ a) (a2 : a ≤ 9223372036854775807) (b1 : -9223372036854775808 ≤ b) (b2 : b ≤ 9223372036854775807) :
    Calls Try.prog 7 #[.int .i64 a, .int .i64 b] w fun e w' => e = .returned (.tuple #[.int .i64 (fitN (a + b)), .bool (fitB (a + b))]) ∧ w' = w := by
  go_enter Try.func7, Try.ntmps7
  go_wp2
  · rename_i h
    go_ret2
    have h' := (add_test a b a1 a2 b1 b2).mp h
    exact ⟨ret2 (fitN_of_not h').symm h'.symm, rfl⟩
  · rename_i h
    go_ret2
    have h' : fitB (a + b) = true := by
      cases e : fitB (a + b)
      · have := (add_test a b a1 a2 b1 b2).mpr e; omega
      · rfl
    have h2 : -9223372036854775808 ≤ a + b ∧ a + b ≤ 9223372036854775807 := by simpa [fitB] using h'
    exact ⟨ret2 (by rw [fitN_of_fitB h', wrap64_fit h2.1 h2.2]) h'.symm, rfl⟩
theorem alive_any (w : World) : Calls Try.prog 4 #[] w fun e w' => e = .returned (.bool true) ∧ w' = w := by
  have f5 : fitN 5 = 5 := by decide
  have g5 : fitB 5 = true := by decide
  have g6 : fitB 9223372036854775808 = false := by decide
  go_enter Try.func4, Try.ntmps4
  go_wp2_with (go_at_call 7; refine (add_any _ _ _ (by omega) (by omega) (by omega) (by omega)).mono ?_; rintro e w' ⟨rfl, rfl⟩)
  go_ret
  exact ⟨rfl, rfl⟩
theorem mod_no (a b : Int) (w : World) (h : b < 1) :
    Calls Try.prog 5 #[.int .i64 a, .int .i64 b] w fun e w' => e = .returned (.tuple #[.int .i64 0, .bool false]) ∧ w' = w := by
  go_enter Try.func5, Try.ntmps5
  go_wp2
  go_ret2
  exact ⟨rfl, rfl⟩
theorem mod_any (a b : Int) (w : World) (b1 : 1 ≤ b) (b2 : b ≤ 9223372036854775807) :
    Calls Try.prog 5 #[.int .i64 a, .int .i64 b] w fun e w' => e = .returned (.tuple #[.int .i64 (a % b), .bool true]) ∧ w' = w := by
  go_enter Try.func5, Try.ntmps5
  go_wp2
  all_goals
    go_ret2
    have h1 := tdm a b b1
    have h2 := Int.emod_lt_of_pos a (by omega : 0 < b)
    have h3 := Int.emod_nonneg a (by omega : b ≠ 0)
    refine ⟨ret2 ?_ rfl, rfl⟩
    try rw [wrap64_fit (by omega) (by omega)]
    omega
end Go.Proofs.Ytpjlppffehjemab
