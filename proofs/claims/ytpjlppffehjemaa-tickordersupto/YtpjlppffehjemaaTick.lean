/- What the functions Add, Sub, Floor, Ceil, Mod of package tick answer, at every pair of 64-bit integers. -/
import Derived.Test.YtpjlppffehjemaaMath
namespace Go.Proofs.Ytpjlppffehjemaa
open Go.ChangeShapes Go.WideShapes Go.ChangeAt Go.RowKit

theorem add_any (a b : Int) (w : World) (a1 : -9223372036854775808 ≤ a) (a2 : a ≤ 9223372036854775807) (b1 : -9223372036854775808 ≤ b) (b2 : b ≤ 9223372036854775807) :
    Calls Try.prog 10 #[.int .i64 a, .int .i64 b] w fun e w' => e = .returned (.tuple #[.int .i64 (fitN (a + b)), .bool (fitB (a + b))]) ∧ w' = w := by
  go_enter Try.func10, Try.ntmps10
  go_wp2
  · rename_i h
    go_ret2
    have h' := (add_test a b a1 a2 b1 b2).mp h
    exact ⟨ret2 (fitN_of_not h').symm h'.symm, rfl⟩
  · rename_i h
    go_ret2
    have h' : fitB (a + b) = true := by
      cases e : fitB (a + b)
      · have := (add_test a b a1 a2 b1 b2).mpr e; omega
      · rfl
    have h2 : -9223372036854775808 ≤ a + b ∧ a + b ≤ 9223372036854775807 := by simpa [fitB] using h'
    exact ⟨ret2 (by rw [fitN_of_fitB h', wrap64_fit h2.1 h2.2]) h'.symm, rfl⟩
theorem sub_any (a b : Int) (w : World) (a1 : -9223372036854775808 ≤ a) (a2 : a ≤ 9223372036854775807) (b1 : -9223372036854775808 ≤ b) (b2 : b ≤ 9223372036854775807) :
    Calls Try.prog 12 #[.int .i64 a, .int .i64 b] w fun e w' => e = .returned (.tuple #[.int .i64 (fitN (a - b)), .bool (fitB (a - b))]) ∧ w' = w := by
  go_enter Try.func12, Try.ntmps12
  go_wp2
  · rename_i h
    go_ret2
    have h' := (sub_test a b a1 a2 b1 b2).mp h
    exact ⟨ret2 (fitN_of_not h').symm h'.symm, rfl⟩
  · rename_i h
    go_ret2
    have h' : fitB (a - b) = true := by
      cases e : fitB (a - b)
      · have := (sub_test a b a1 a2 b1 b2).mpr e; omega
      · rfl
    have h2 : -9223372036854775808 ≤ a - b ∧ a - b ≤ 9223372036854775807 := by simpa [fitB] using h'
    exact ⟨ret2 (by rw [fitN_of_fitB h', wrap64_fit h2.1 h2.2]) h'.symm, rfl⟩
theorem alive_any (w : World) : Calls Try.prog 9 #[] w fun e w' => e = .returned (.bool true) ∧ w' = w := by
  have f5 : fitN 5 = 5 := by decide
  have g5 : fitB 5 = true := by decide
  have g6 : fitB 9223372036854775808 = false := by decide
  go_enter Try.func9, Try.ntmps9
  go_wp2_with (go_at_call 10; refine (add_any _ _ _ (by omega) (by omega) (by omega) (by omega)).mono ?_; rintro e w' ⟨rfl, rfl⟩)
  go_ret
  exact ⟨rfl, rfl⟩
theorem floor_no (a b : Int) (w : World) (h : b < 1) :
    Calls Try.prog 16 #[.int .i64 a, .int .i64 b] w fun e w' => e = .returned (.tuple #[.int .i64 0, .bool false]) ∧ w' = w := by
  go_enter Try.func16, Try.ntmps16
  go_wp2
  go_ret2
  exact ⟨rfl, rfl⟩
theorem ceil_no (a b : Int) (w : World) (h : b < 1) :
    Calls Try.prog 17 #[.int .i64 a, .int .i64 b] w fun e w' => e = .returned (.tuple #[.int .i64 0, .bool false]) ∧ w' = w := by
  go_enter Try.func17, Try.ntmps17
  go_wp2
  go_ret2
  exact ⟨rfl, rfl⟩
theorem mod_no (a b : Int) (w : World) (h : b < 1) :
    Calls Try.prog 18 #[.int .i64 a, .int .i64 b] w fun e w' => e = .returned (.tuple #[.int .i64 0, .bool false]) ∧ w' = w := by
  go_enter Try.func18, Try.ntmps18
  go_wp2
  go_ret2
  exact ⟨rfl, rfl⟩
theorem floor_any (a b : Int) (w : World) (a1 : -9223372036854775808 ≤ a) (a2 : a ≤ 9223372036854775807) (b1 : 1 ≤ b) (b2 : b ≤ 9223372036854775807) :
    Calls Try.prog 16 #[.int .i64 a, .int .i64 b] w fun e w' => e = .returned (.tuple #[.int .i64 (a / b), .bool true]) ∧ w' = w := by
  go_enter Try.func16, Try.ntmps16
  go_wp2
  all_goals
    go_ret2
    have h1 := tdm a b b1
    have h2 := div_range a b b1 a1 a2
    refine ⟨ret2 ?_ rfl, rfl⟩
    try rw [wrap64_fit (by omega) (by omega)]
    omega
theorem ceil_any (a b : Int) (w : World) (a1 : -9223372036854775808 ≤ a) (a2 : a ≤ 9223372036854775807) (b1 : 1 ≤ b) (b2 : b ≤ 9223372036854775807) :
    Calls Try.prog 17 #[.int .i64 a, .int .i64 b] w fun e w' => e = .returned (.tuple #[.int .i64 (ceilI a b), .bool true]) ∧ w' = w := by
  go_enter Try.func17, Try.ntmps17
  go_wp2
  all_goals
    go_ret2
    have h1 := tdm a b b1
    have h2 := div_range a b b1 a1 a2
    have h3 := Int.emod_nonneg a (by omega : b ≠ 0)
    have h4 : 2 ≤ b ∨ a % b = 0 := by
      by_cases e : b = 1
      · right; subst e; omega
      · left; omega
    have h5 : 2 ≤ b → a / b ≤ 4611686018427387904 := fun h => Int.ediv_le_of_le_mul (by omega) (by omega)
    refine ⟨ret2 ?_ rfl, rfl⟩
    unfold ceilI
    try rw [wrap64_fit (by omega) (by omega)]
    split <;> omega
theorem mod_any (a b : Int) (w : World) (b1 : 1 ≤ b) (b2 : b ≤ 9223372036854775807) :
    Calls Try.prog 18 #[.int .i64 a, .int .i64 b] w fun e w' => e = .returned (.tuple #[.int .i64 (a % b), .bool true]) ∧ w' = w := by
  go_enter Try.func18, Try.ntmps18
  go_wp2
  all_goals
    go_ret2
    have h1 := tdm a b b1
    have h2 := Int.emod_lt_of_pos a (by omega : 0 < b)
    have h3 := Int.emod_nonneg a (by omega : b ≠ 0)
    refine ⟨ret2 ?_ rfl, rfl⟩
    try rw [wrap64_fit (by omega) (by omega)]
    omega
theorem refFloor_any (a b : Int) (w : World) (a1 : -9223372036854775808 ≤ a) (a2 : a ≤ 9223372036854775807) (b1 : 1 ≤ b) (b2 : b ≤ 9223372036854775807) :
    Calls Try.prog 19 #[.int .i64 a, .int .i64 b] w fun e w' => e = .returned (.int .i64 (a / b)) ∧ w' = w := by
  go_enter Try.func19, Try.ntmps19
  go_wp2
  all_goals
    go_ret
    have h1 := tmul a b b1 a1 a2
    have h2 := div_range a b b1 a1 a2
    refine ⟨ret1 ?_, rfl⟩
    try rw [wrap64_fit (by omega) (by omega)]
    omega

theorem quot_no (a b : Int) (w : World) (h : b < 1) :
    Calls Try.prog 5 #[.int .i64 a, .int .i64 b] w fun e w' => e = .returned (.bool true) ∧ w' = w := by
  go_enter Try.func5, Try.ntmps5
  go_wp2_with (first | (go_at_call 9; refine (alive_any _).mono ?_; rintro e w' ⟨rfl, rfl⟩) | (go_at_call 16; refine (floor_no _ _ _ (by omega)).mono ?_; rintro e w' ⟨rfl, rfl⟩) | (go_at_call 17; refine (ceil_no _ _ _ (by omega)).mono ?_; rintro e w' ⟨rfl, rfl⟩) | (go_at_call 18; refine (mod_no _ _ _ (by omega)).mono ?_; rintro e w' ⟨rfl, rfl⟩))
  go_ret
  exact ⟨rfl, rfl⟩
theorem quot_any (a b : Int) (w : World) (a1 : -9223372036854775808 ≤ a) (a2 : a ≤ 9223372036854775807) (b1 : 1 ≤ b) (b2 : b ≤ 9223372036854775807) :
    Calls Try.prog 5 #[.int .i64 a, .int .i64 b] w fun e w' => e = .returned (.bool true) ∧ w' = w := by
  have h0 : 0 ≤ a % b := Int.emod_nonneg a (by omega : b ≠ 0)
  have h1 : a % b < b := Int.emod_lt_of_pos a (by omega : 0 < b)
  by_cases h3 : a % b = 0
  · have h4 : ceilI a b = a / b := by unfold ceilI; rw [if_pos h3]
    have h2 : wrap64 (wrap64 (a / b * b)) = a := by have := fwrap a b a1 a2; rw [h3] at this; simpa using this
    go_enter Try.func5, Try.ntmps5
    go_wp2_with (first | (go_at_call 9; refine (alive_any _).mono ?_; rintro e w' ⟨rfl, rfl⟩) | (go_at_call 16; refine (floor_any _ _ _ (by omega) (by omega) (by omega) (by omega)).mono ?_; rintro e w' ⟨rfl, rfl⟩) | (go_at_call 17; refine (ceil_any _ _ _ (by omega) (by omega) (by omega) (by omega)).mono ?_; rintro e w' ⟨rfl, rfl⟩) | (go_at_call 18; refine (mod_any _ _ _ (by omega) (by omega)).mono ?_; rintro e w' ⟨rfl, rfl⟩) | (go_at_call 19; refine (refFloor_any _ _ _ (by omega) (by omega) (by omega) (by omega)).mono ?_; rintro e w' ⟨rfl, rfl⟩))
    go_ret
    exact ⟨rfl, rfl⟩
  · have h4 : ceilI a b = a / b + 1 := by unfold ceilI; rw [if_neg h3]
    have h2 : wrap64 (wrap64 (a / b * b) + a % b) = a := fwrap a b a1 a2
    have h5 : 2 ≤ b := by
      by_cases e : b = 1
      · subst e; omega
      · omega
    have h6 : a / b ≤ 4611686018427387904 := Int.ediv_le_of_le_mul (by omega) (by omega)
    have h7 := (div_range a b b1 a1 a2).1
    have h8 : 0 < a % b := by omega
    have h9 : wrap64 (a / b + 1) = a / b + 1 := wrap64_fit (by omega) (by omega)
    have h10 : ¬ (a / b + 1 = a / b) := by omega
    go_enter Try.func5, Try.ntmps5
    go_wp2_with (first | (go_at_call 9; refine (alive_any _).mono ?_; rintro e w' ⟨rfl, rfl⟩) | (go_at_call 16; refine (floor_any _ _ _ (by omega) (by omega) (by omega) (by omega)).mono ?_; rintro e w' ⟨rfl, rfl⟩) | (go_at_call 17; refine (ceil_any _ _ _ (by omega) (by omega) (by omega) (by omega)).mono ?_; rintro e w' ⟨rfl, rfl⟩) | (go_at_call 18; refine (mod_any _ _ _ (by omega) (by omega)).mono ?_; rintro e w' ⟨rfl, rfl⟩) | (go_at_call 19; refine (refFloor_any _ _ _ (by omega) (by omega) (by omega) (by omega)).mono ?_; rintro e w' ⟨rfl, rfl⟩))
    go_ret
    exact ⟨rfl, rfl⟩
end Go.Proofs.Ytpjlppffehjemaa
