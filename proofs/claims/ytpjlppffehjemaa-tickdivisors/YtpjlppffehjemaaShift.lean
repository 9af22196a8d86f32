/- What the function Shift of package tick answers, at every pair of 64-bit integers. -/
import Derived.Test.YtpjlppffehjemaaTimes
namespace Go.Proofs.Ytpjlppffehjemaa
open Go.ChangeShapes Go.WideShapes Go.ChangeAt Go.RowKit

/-- 2 to the power k. -/
def two (k : Nat) : Int := 2 ^ k
theorem two_succ (k : Nat) : two (k + 1) = 2 * two k := by unfold two; rw [Int.pow_succ, Int.mul_comm]
theorem two_pos (k : Nat) : 0 < two k := by
  induction k with
  | zero => decide
  | succ k ih => rw [two_succ]; omega
theorem two_le {i j : Nat} (h : i ≤ j) : two i ≤ two j := by
  induction h with
  | refl => exact Int.le_refl _
  | step _ ih => rename_i k _; have := two_succ k; have := two_pos k; show _ ≤ two (k + 1); omega
theorem two_add (i j : Nat) : two (i + j) = two i * two j := by unfold two; rw [Int.pow_add]
theorem mul_two (a : Int) (k : Nat) : a * two (k + 1) = a * two k * 2 := by rw [two_succ]; rw [Int.mul_comm 2, Int.mul_assoc]
theorem fit_mono (a : Int) {k m : Nat} (h : k ≤ m) (hk : fitB (a * two k) = false) : fitB (a * two m) = false := by
  induction h with
  | refl => exact hk
  | step _ ih =>
    rename_i j _
    show fitB (a * two (j + 1)) = false
    rw [mul_two]
    simp only [fitB, decide_eq_false_iff_not] at ih ⊢
    omega
theorem fit_great (a : Int) (h : a ≠ 0) {m : Nat} (hm : 64 ≤ m) : fitB (a * two m) = false := by
  refine fit_mono a hm ?_
  have e : two 64 = 18446744073709551616 := by decide
  rw [e]
  simp only [fitB, decide_eq_false_iff_not]
  omega
/-- What comes back from a shift to the left lost nothing, and just then. -/
theorem back_yes (a P : Int) (hP : 0 < P) (h : fitB (a * P) = true) : wrap64 (a * P) / P = a ∧ wrap64 (a * P) = a * P := by
  simp only [fitB, decide_eq_true_eq] at h
  rw [wrap64_fit h.1 h.2]
  exact ⟨Int.mul_ediv_cancel _ (by omega), rfl⟩
theorem back_no (a P : Int) (hP : 0 < P) (hP' : P ≤ 18446744073709551616) (h : fitB (a * P) = false) : wrap64 (a * P) / P ≠ a := by
  intro he
  have h1 := Int.mul_ediv_add_emod (wrap64 (a * P)) P
  have h2 := Int.emod_nonneg (wrap64 (a * P)) (by omega : P ≠ 0)
  have h3 := Int.emod_lt_of_pos (wrap64 (a * P)) hP
  rw [he, Int.mul_comm P a] at h1
  simp only [fitB, decide_eq_false_iff_not] at h
  generalize wrap64 (a * P) % P = r at *
  have h4 : wrap64 (a * P) = (a * P + 9223372036854775808) % 18446744073709551616 - 9223372036854775808 := by unfold wrap64; rfl
  omega
theorem two_64 {k : Nat} (h : k ≤ 64) : two k ≤ 18446744073709551616 := by
  have := two_le h
  have e : two 64 = 18446744073709551616 := by decide
  omega
theorem shift_no (a : Int) (k : Nat) (h : (wrap64 (a * 2 ^ k) / 2 ^ k != a) = true) : fitB (a * 2 ^ k) = false := by
  cases e : fitB (a * 2 ^ k)
  · rfl
  · have := (back_yes a (two k) (two_pos k) e).1
    unfold two at this
    rw [this] at h
    simp at h
theorem shift_yes (a : Int) (k : Nat) (hk : k ≤ 64) (h : (wrap64 (a * 2 ^ k) / 2 ^ k != a) = false) : fitB (a * 2 ^ k) = true ∧ wrap64 (a * 2 ^ k) = a * 2 ^ k := by
  cases e : fitB (a * 2 ^ k)
  · have := back_no a (two k) (two_pos k) (two_64 hk) e
    unfold two at this
    simp at h
    exact absurd h this
  · exact ⟨rfl, (back_yes a (two k) (two_pos k) e).2⟩
/-- Where the shift ends: no further than 70 places. -/
def sh (a n : Int) : Int := a * two (min n.toNat 70)
theorem sh_64 (a n : Int) (h : n ≤ 64) : a * 2 ^ min n.toNat 64 = sh a n := by
  unfold sh two
  rw [show min n.toNat 64 = min n.toNat 70 by omega]
theorem sh_fit (a n : Int) : fitB (a * 2 ^ min n.toNat 64) = fitB (sh a n) ∧ fitN (a * 2 ^ min n.toNat 64) = fitN (sh a n) := by
  by_cases h : n ≤ 64
  · rw [sh_64 a n h]; exact ⟨rfl, rfl⟩
  · by_cases ha : a = 0
    · subst ha; unfold sh; simp
    · have e1 : fitB (sh a n) = false := fit_great a ha (by omega)
      have e2 : fitB (a * 2 ^ min n.toNat 64) = false := fit_great a ha (m := min n.toNat 64) (by omega)
      rw [e1, e2, fitN_of_not e1, fitN_of_not e2]
      exact ⟨rfl, rfl⟩
def sd (a n : Int) : Int := a / two (min n.toNat 70)
theorem div_far (a : Int) (a1 : -9223372036854775808 ≤ a) (a2 : a ≤ 9223372036854775807) (m : Nat) (hm : 64 ≤ m) : a / two m = if a < 0 then -1 else 0 := by
  have h := two_le hm
  have e : two 64 = 18446744073709551616 := by decide
  rw [e] at h
  split
  · refine Int.le_antisymm ?_ ?_
    · have := Int.ediv_neg_of_neg_of_pos (by omega : a < 0) (two_pos m); omega
    · exact Int.le_ediv_of_mul_le (two_pos m) (by omega)
  · exact Int.ediv_eq_zero_of_lt (by omega) (by omega)
theorem sd_64 (a n : Int) (a1 : -9223372036854775808 ≤ a) (a2 : a ≤ 9223372036854775807) : a / 2 ^ min n.toNat 64 = sd a n := by
  by_cases h : n ≤ 64
  · unfold sd two
    rw [show min n.toNat 64 = min n.toNat 70 by omega]
  · have e1 := div_far a a1 a2 (min n.toNat 64) (by omega)
    have e2 := div_far a a1 a2 (min n.toNat 70) (by omega)
    unfold sd
    rw [e2, ← e1]
    rfl
theorem amount_tick {n m : Int} {w : World} (a1 : -9223372036854775808 ≤ n) (a2 : n ≤ 9223372036854775807) (hm : Hid (m = (n.natAbs : Int))) :
    Calls Try.prog 33 #[.int .i64 n] w fun e w' => e = .returned (.int .u64 m) ∧ w' = w := by
  rw [hm.out]
  exact amount_any n w a1 a2
theorem shift_neg (a n : Int) (w : World) (a1 : -9223372036854775808 ≤ a) (a2 : a ≤ 9223372036854775807) (n1 : -9223372036854775808 ≤ n) (n2 : n ≤ 9223372036854775807) (hn : n < 0) :
    Calls Try.prog 27 #[.int .i64 a, .int .i64 n] w fun e w' => e = .returned (.tuple #[.int .i64 (sd a (-n)), .bool true]) ∧ w' = w := by
  obtain ⟨m, hm⟩ : ∃ m, m = (n.natAbs : Int) := ⟨_, rfl⟩
  have HM : Hid (m = (n.natAbs : Int)) := hm
  have m0 : 0 ≤ m := by omega
  clear hm
  go_enter Try.func27, Try.ntmps27
  go_wp2_with (go_at_call 33; refine (amount_tick n1 n2 HM).mono ?_; rintro e wx ⟨rfl, hw⟩; rw [hw]; clear hw)
  go_ret2
  have e : -n = m := by have := HM.out; omega
  exact ⟨ret2 (by rw [e]; exact sd_64 a m a1 a2) rfl, rfl⟩
theorem shift_pos (a n : Int) (w : World) (n1 : -9223372036854775808 ≤ n) (n2 : n ≤ 9223372036854775807) (hn : 0 ≤ n) :
    Calls Try.prog 27 #[.int .i64 a, .int .i64 n] w fun e w' => e = .returned (.tuple #[.int .i64 (fitN (sh a n)), .bool (fitB (sh a n))]) ∧ w' = w := by
  obtain ⟨m, hm⟩ : ∃ m, m = (n.natAbs : Int) := ⟨_, rfl⟩
  have HM : Hid (m = (n.natAbs : Int)) := hm
  have m0 : 0 ≤ m := by omega
  clear hm
  go_enter Try.func27, Try.ntmps27
  go_wp2_with (go_at_call 33; refine (amount_tick n1 n2 HM).mono ?_; rintro e wx ⟨rfl, hw⟩; rw [hw]; clear hw)
  · go_ret2
    have e : n = m := by have := HM.out; omega
    have h1 := shift_no a (min m.toNat 64) (by assumption)
    have h2 := sh_fit a m
    rw [h1, fitN_of_not h1] at h2
    exact ⟨ret2 (by rw [e]; exact h2.2) (by rw [e]; exact h2.1), rfl⟩
  · go_ret2
    have e : n = m := by have := HM.out; omega
    have h1 := shift_yes a (min m.toNat 64) (by omega) (by assumption)
    have h2 := sh_fit a m
    rw [h1.1, fitN_of_fitB h1.1] at h2
    exact ⟨ret2 (by rw [e, h1.2]; exact h2.2) (by rw [e]; exact h2.1), rfl⟩
end Go.Proofs.Ytpjlppffehjemaa
