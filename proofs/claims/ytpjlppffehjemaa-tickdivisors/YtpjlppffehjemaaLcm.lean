/- What the function Lcm of package tick answers, at every pair of 64-bit integers. -/
import Derived.Test.YtpjlppffehjemaaShift
import Derived.Deep.QuietTactic
import Derived.BigQuiet
namespace Go.Proofs.Ytpjlppffehjemaa
open Go.ChangeShapes Go.WideShapes Go.ChangeAt Go.RowKit

theorem gcd_is {a b G : Int} {w : World} (a1 : -9223372036854775808 ≤ a) (a2 : a ≤ 9223372036854775807) (b1 : -9223372036854775808 ≤ b) (b2 : b ≤ 9223372036854775807) (hG : Hid (G = (Nat.gcd a.natAbs b.natAbs : Nat))) :
    Calls Try.prog 21 #[.int .i64 a, .int .i64 b] w fun e w' => e = .returned (.int .u64 G) ∧ ∃ k, w' = w.drewN k := by
  rw [hG.out]
  exact gcd_any a b w a1 a2 b1 b2
theorem lcm_zero (a b : Int) (w : World) (h : a = 0 ∨ b = 0) :
    Calls Try.prog 22 #[.int .i64 a, .int .i64 b] w fun e w' => e = .returned (.tuple #[.int .i64 0, .bool true]) ∧ ∃ k, w' = w.drewN k := by
  by_cases ha : a = 0
  · subst ha
    go_enter Try.func22, Try.ntmps22
    go_wp2
    go_ret2
    exact ⟨rfl, 0, rfl⟩
  · have hb : b = 0 := by omega
    subst hb
    have ha' : (a == 0) = false := by simpa using ha
    go_enter Try.func22, Try.ntmps22
    go_wp2
    go_ret2
    exact ⟨rfl, 0, rfl⟩
set_option maxHeartbeats 1600000 in
theorem lcm_any (a b A B G P : Int) (w : World) (a1 : -9223372036854775808 ≤ a) (a2 : a ≤ 9223372036854775807) (b1 : -9223372036854775808 ≤ b) (b2 : b ≤ 9223372036854775807) (ha : a ≠ 0) (hb : b ≠ 0)
    (HA : Hid (A = (a.natAbs : Int))) (HB : Hid (B = (b.natAbs : Int))) (HG : Hid (G = (Nat.gcd a.natAbs b.natAbs : Nat))) (HP : Hid (P = A / G * B)) :
    Calls Try.prog 22 #[.int .i64 a, .int .i64 b] w fun e w' => e = .returned (.tuple #[.int .i64 (fitN P), .bool (fitB P)]) ∧ ∃ k, w' = w.drewN k := by
  have ha' : (a == 0) = false := by simpa using ha
  have hb' : (b == 0) = false := by simpa using hb
  have A0 : 0 ≤ A := by have := HA.out; omega
  have A1 : A < 18446744073709551616 := by have := HA.out; omega
  have B0 : 0 ≤ B := by have := HB.out; omega
  have B1 : B < 18446744073709551616 := by have := HB.out; omega
  have G0 : 0 < G := by have h := HG.out; have := Nat.gcd_pos_of_pos_left b.natAbs (by omega : 0 < a.natAbs); omega
  have Q0 : 0 ≤ A / G := Int.ediv_nonneg A0 (by omega)
  have Q1 : A / G < 18446744073709551616 := by have := Int.ediv_le_self G A0; omega
  have P0 : 0 ≤ P := by rw [HP.out]; exact Int.mul_nonneg Q0 B0
  clear ha hb
  by_cases hg : P < 18446744073709551616
  · have HH : Hid (A / G * B / 18446744073709551616 = 0) := by show A / G * B / 18446744073709551616 = 0; rw [← HP.out]; omega
    have HL : Hid (A / G * B % 18446744073709551616 = P) := by show A / G * B % 18446744073709551616 = P; rw [← HP.out]; omega
    go_enter Try.func22, Try.ntmps22
    go_wp2
    go_quiet ((first | (go_at_call 33; with_reducible refine Calls.quiet_of_same (amount_tick a1 a2 HA)) | (go_at_call 33; with_reducible refine Calls.quiet_of_same (amount_tick b1 b2 HB)) | (go_at_call 21; refine Calls.quiet_of (gcd_is a1 a2 b1 b2 HG)) | (go_at_call 32; refine Calls.quiet_of_same (mul64_is Q0 Q1 B0 B1 HH HL))))
    go_wp2_with (go_at_call 34; refine (signed_pos _ _ P0 hg).mono ?_; rintro e wx ⟨rfl, hw⟩; rw [hw]; clear hw)
    go_ret2
    exact ⟨rfl, nq, rfl⟩
  · rw [fitN_no (n := P) (by omega), fitB_no (n := P) (by omega)]
    obtain ⟨q, hq⟩ : ∃ q, q = P / 18446744073709551616 := ⟨_, rfl⟩
    have hq0 : 0 < q := by omega
    have HH : Hid (A / G * B / 18446744073709551616 = q) := by show A / G * B / 18446744073709551616 = q; rw [← HP.out, hq]
    have HL : Hid (A / G * B % 18446744073709551616 = P % 18446744073709551616) := by show A / G * B % 18446744073709551616 = P % 18446744073709551616; rw [← HP.out]
    clear hq
    go_enter Try.func22, Try.ntmps22
    go_wp2
    go_quiet ((first | (go_at_call 33; with_reducible refine Calls.quiet_of_same (amount_tick a1 a2 HA)) | (go_at_call 33; with_reducible refine Calls.quiet_of_same (amount_tick b1 b2 HB)) | (go_at_call 21; refine Calls.quiet_of (gcd_is a1 a2 b1 b2 HG)) | (go_at_call 32; refine Calls.quiet_of_same (mul64_is Q0 Q1 B0 B1 HH HL))))
    go_wp2
    go_ret2
    exact ⟨rfl, nq, rfl⟩
theorem gcdRef_any (x y : Nat) (G : Int) (w : World) (hx : x < 18446744073709551616) (hy : y < 18446744073709551616) (hG : Hid (G = (Nat.gcd x y : Nat))) :
    Calls Try.prog 23 #[.int .u64 x, .int .u64 y] w fun e w' => e = .returned (.int .u64 G) ∧ ∃ k, w' = w.drewN k := by
  go_enter Try.func23, Try.ntmps23
  go_wp2
  go_loopw [0, 1] (fun xv yv wq => ∃ (p q k : Nat), xv = .int .u64 p ∧ yv = .int .u64 q ∧ p < 18446744073709551616 ∧ q < 18446744073709551616 ∧ Hid (Nat.gcd p q = Nat.gcd x y) ∧ wq = w.drewN k)
    (fun _ yv _ => (intOf yv).toNat)
  case atStart => exact ⟨x, y, 0, rfl, rfl, hx, hy, rfl, rfl⟩
  case round =>
    obtain ⟨p, q, k, rfl, rfl, hp, hq, HQ, rfl⟩ := hrel
    by_cases h : q = 0
    · subst h
      go_wp2
      go_ret
      refine ⟨ret1 ?_, k, rfl⟩
      have := HQ.out
      rw [Nat.gcd_zero_right] at this
      rw [hG.out, this]
    · have h0 : 0 < q := by omega
      have hm := Nat.mod_lt p h0
      have HQ' : Hid (Nat.gcd q (p % q) = Nat.gcd x y) := by
        show Nat.gcd q (p % q) = Nat.gcd x y
        rw [Nat.gcd_comm q (p % q), ← Nat.gcd_rec q p, Nat.gcd_comm q p]
        exact HQ.out
      go_wp2
      go_region
      all_goals
        go_roundw
        case rel =>
          first | exact ⟨q, p % q, k + 1, rfl, by go_num, by omega, by omega, HQ', rfl⟩ | ((repeat apply Exists.intro); exact ⟨⟨q, p % q, k + 1, rfl, by go_num, by omega, by omega, HQ', rfl⟩, rfl⟩)
        case measure => simp [intOf]; omega
theorem gcdRef_is {A B G : Int} {w : World} (A0 : 0 ≤ A) (A1 : A < 18446744073709551616) (B0 : 0 ≤ B) (B1 : B < 18446744073709551616) (hG : Hid (G = (Nat.gcd A.natAbs B.natAbs : Nat))) :
    Calls Try.prog 23 #[.int .u64 A, .int .u64 B] w fun e w' => e = .returned (.int .u64 G) ∧ ∃ k, w' = w.drewN k := by
  obtain ⟨x, rfl⟩ := Int.eq_ofNat_of_zero_le A0
  obtain ⟨y, rfl⟩ := Int.eq_ofNat_of_zero_le B0
  exact gcdRef_any x y G w (by omega) (by omega) hG
theorem below_drewN {B : Nat} {a w : World} (h : Below B a w) (k : Nat) : Below B a (w.drewN k) := by
  induction k with
  | zero => exact h
  | succ k ih => exact Below.drew ih
end Go.Proofs.Ytpjlppffehjemaa
