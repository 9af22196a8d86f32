/- TickEuclid: Euclid by Mod comes down to Gcd within 100 rounds, at every pair of 64-bit integers. -/
import Derived.Test.YtpjlppffehjemabGcd
import Derived.Deep.QuietTactic
import Derived.BigQuiet
namespace Go.Proofs.Ytpjlppffehjemab
open Go.ChangeShapes Go.WideShapes Go.ChangeAt Go.RowKit
def fb : Nat → Nat
  | 0 => 0
  | 1 => 1
  | n + 2 => fb (n + 1) + fb n
theorem fb_mono (n : Nat) : fb n ≤ fb (n + 1) := by
  induction n using fb.induct with
  | case1 => decide
  | case2 => decide
  | case3 n _ _ => show fb (n + 1) + fb n ≤ fb (n + 2) + fb (n + 1); have : fb (n + 2) = fb (n + 1) + fb n := rfl; omega
theorem fb_le {m n : Nat} (h : m ≤ n) : fb m ≤ fb n := by
  induction h with
  | refl => exact Nat.le_refl _
  | step _ ih => exact Nat.le_trans ih (fb_mono _)
theorem fb_101 : 9223372036854775808 ≤ fb 101 := by decide +kernel
/-- Behind i rounds of Euclid's way the numbers have come down as fast as the row of sums tells. -/
def Low (a b i x y : Nat) : Prop := i = 0 ∧ x = a ∧ y = b ∨ 1 ≤ i ∧ y ≤ x ∧ x * fb i + y * fb (i - 1) ≤ 9223372036854775807
theorem Low.next {a b i x y : Nat} (h : Low a b i x y) (hb : b ≤ 9223372036854775807) (hy : 0 < y) : Low a b (i + 1) y (x % y) := by
  right
  have hm := Nat.mod_lt x hy
  refine ⟨by omega, by omega, ?_⟩
  rcases h with ⟨rfl, rfl, rfl⟩ | ⟨h1, h2, h3⟩
  · have : fb (0 + 1) = 1 := rfl
    have : fb (0 + 1 - 1) = 0 := rfl
    simp [*]
  · obtain ⟨j, rfl⟩ : ∃ j, i = j + 1 := ⟨i - 1, by omega⟩
    have e1 : fb (j + 1 + 1) = fb (j + 1) + fb j := rfl
    have e2 : j + 1 + 1 - 1 = j + 1 := by omega
    have e3 : j + 1 - 1 = j := by omega
    rw [e1, e2]
    rw [e3] at h3
    have h4 : y + x % y ≤ x := by
      have := Nat.mod_add_div x y
      have h5 : y * 1 ≤ y * (x / y) := Nat.mul_le_mul_left y (Nat.div_pos h2 hy)
      omega
    have h6 := Nat.mul_le_mul_right (fb (j + 1)) h4
    rw [Nat.add_mul] at h6
    rw [Nat.mul_add]
    omega
theorem Low.few {a b i x y : Nat} (h : Low a b i x y) (hy : 0 < y) : i ≤ 100 := by
  rcases h with ⟨rfl, _⟩ | ⟨h1, h2, h3⟩
  · omega
  · refine Nat.le_of_not_lt fun hi => ?_
    have h4 : fb 101 ≤ fb i := fb_le (by omega)
    have h5 : 1 * fb i ≤ x * fb i := Nat.mul_le_mul_right _ (by omega)
    have := fb_101
    omega
theorem euclid_no (a b : Int) (w : World) (h : a < 0 ∨ (¬ a < 0 ∧ b < 0)) :
    Calls Try.prog 3 #[.int .i64 a, .int .i64 b] w fun e w' => e = .returned (.bool true) ∧ ∃ k, w' = w.drewN k := by
  rcases h with h | ⟨h, h'⟩
  all_goals
    go_enter Try.func3, Try.ntmps3
    go_wp2_with (go_at_call 4; refine (alive_any _).mono ?_; rintro e w' ⟨rfl, rfl⟩)
    go_ret
    exact ⟨rfl, 0, rfl⟩
set_option maxHeartbeats 400000 in
theorem euclid_yes (a b : Nat) (w : World) (a2 : a ≤ 9223372036854775807) (b2 : b ≤ 9223372036854775807) :
    Calls Try.prog 3 #[.int .i64 a, .int .i64 b] w fun e w' => e = .returned (.bool true) ∧ ∃ k, w' = w.drewN k := by
  go_enter Try.func3, Try.ntmps3
  go_wp2_with (go_at_call 4; refine (alive_any _).mono ?_; rintro e w' ⟨rfl, rfl⟩)
  go_loop [5, 6, 7] (fun xv yv iv => ∃ (x y i : Nat), xv = .int .i64 x ∧ yv = .int .i64 y ∧ iv = .int .i64 i ∧ x ≤ 9223372036854775807 ∧ y ≤ 9223372036854775807 ∧ i ≤ 101 ∧ Low a b i x y ∧ Hid (Nat.gcd x y = Nat.gcd a b))
    (fun _ yv _ => (intOf yv).toNat)
  case atStart => exact ⟨a, b, 0, rfl, rfl, rfl, by omega, by omega, by omega, Or.inl ⟨rfl, rfl, rfl⟩, rfl⟩
  case round =>
    obtain ⟨x, y, i, rfl, rfl, rfl, hx, hy, hi, HL, HG⟩ := hrel
    by_cases h : y = 0
    · subst h
      have hg : Nat.gcd a b = x := by rw [← HG.out, Nat.gcd_zero_right]
      have hg1 : ((Nat.gcd a b : Nat) : Int) = x := by omega
      go_wp2_with (go_at_call 6; refine (gcd_any _ _ _ (by omega) (by omega) (by omega) (by omega)).mono ?_; rintro e wx ⟨rfl, k, rfl⟩)
      go_ret
      exact ⟨rfl, k, rfl⟩
    · have h0 : 0 < y := by omega
      have hm := Nat.mod_lt x h0
      have HG' : Hid (Nat.gcd y (x % y) = Nat.gcd a b) := by
        show Nat.gcd y (x % y) = Nat.gcd a b
        rw [Nat.gcd_comm y (x % y), ← Nat.gcd_rec y x, Nat.gcd_comm y x]
        exact HG.out
      have HN := HL.next b2 h0
      have hf := HL.few h0
      have m0 : 0 ≤ (x : Int) % y := by omega
      have m1 : (x : Int) % y < y := by omega
      go_wp2_with (go_at_call 5; refine (mod_any _ _ _ (by omega) (by omega)).mono ?_; rintro e wx ⟨rfl, rfl⟩)
      go_round
      case rel => exact ⟨y, x % y, i + 1, rfl, by go_num, by go_num, by omega, by omega, by omega, HN, HG'⟩
      case measure => simp [intOf]; omega
end Go.Proofs.Ytpjlppffehjemab
