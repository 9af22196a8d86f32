/- What Mul64 of math/bits and amount, signed, Mul of package tick answer. -/
import Derived.Test.YtpjlppffehjemaaGcd
import Derived.Laws.MathBits
namespace Go.Proofs.Ytpjlppffehjemaa
open Go.ChangeShapes Go.WideShapes Go.ChangeAt Go.RowKit

theorem ret2u {a b c d : Int} (h1 : a = b) (h2 : c = d) : Ending.returned (.tuple #[.int .u64 a, .int .u64 c]) = .returned (.tuple #[.int .u64 b, .int .u64 d]) := by rw [h1, h2]
theorem mul64_any (x y : Int) (w : World) (hx0 : 0 ≤ x) (hx : x < 18446744073709551616) (hy0 : 0 ≤ y) (hy : y < 18446744073709551616) :
    Calls Try.prog 32 #[.int .u64 x, .int .u64 y] w fun e w' => e = .returned (.tuple #[.int .u64 (x * y / 18446744073709551616), .int .u64 (x * y % 18446744073709551616)]) ∧ w' = w := by
  have e1 := and_low32 x hx0 hx
  have e2 := and_low32 y hy0 hy
  go_enter Try.func32, Try.ntmps32
  go_wp2
  go_ret2
  refine ⟨ret2u ?_ (IntKind.wrap_u64 _), rfl⟩
  rw [and_low32 (IntKind.u64.wrap _) (by rw [IntKind.wrap_u64]; omega) (by rw [IntKind.wrap_u64]; omega)]
  simp only [IntKind.wrap_u64]
  exact mul64_arith x y hx0 hx hy0 hy
theorem signed_neg (n : Int) (w : World) (h0 : 0 ≤ n) (h1 : n < 18446744073709551616) :
    Calls Try.prog 34 #[.int .u64 n, .bool true] w fun e w' => e = .returned (.tuple #[.int .i64 (fitN (-n)), .bool (fitB (-n))]) ∧ w' = w := by
  by_cases h : n ≤ 9223372036854775808
  · have f1 := fitN_yes (n := -n) (by omega) (by omega)
    have f2 := fitB_yes (n := -n) (by omega) (by omega)
    rw [f1, f2]
    clear f1 f2
    go_enter Try.func34, Try.ntmps34
    go_wp2
    go_ret2
    refine ⟨ret2 ?_ rfl, rfl⟩
    rw [IntKind.wrap_u64]
    unfold wrap64
    omega
  · have f1 := fitN_no (n := -n) (by omega)
    have f2 := fitB_no (n := -n) (by omega)
    rw [f1, f2]
    clear f1 f2
    go_enter Try.func34, Try.ntmps34
    go_wp2
    go_ret2
    exact ⟨rfl, rfl⟩
theorem signed_pos (n : Int) (w : World) (h0 : 0 ≤ n) (h1 : n < 18446744073709551616) :
    Calls Try.prog 34 #[.int .u64 n, .bool false] w fun e w' => e = .returned (.tuple #[.int .i64 (fitN n), .bool (fitB n)]) ∧ w' = w := by
  by_cases h : n ≤ 9223372036854775807
  · have f1 := fitN_yes (n := n) (by omega) (by omega)
    have f2 := fitB_yes (n := n) (by omega) (by omega)
    rw [f1, f2]
    clear f1 f2
    go_enter Try.func34, Try.ntmps34
    go_wp2
    go_ret2
    exact ⟨rfl, rfl⟩
  · have f1 := fitN_no (n := n) (by omega)
    have f2 := fitB_no (n := n) (by omega)
    rw [f1, f2]
    clear f1 f2
    go_enter Try.func34, Try.ntmps34
    go_wp2
    go_ret2
    exact ⟨rfl, rfl⟩
theorem natAbs_mul_pos {a b : Int} (h : a < 0 ↔ b < 0) : (a.natAbs : Int) * (b.natAbs : Int) = a * b := by
  by_cases ha : a < 0
  · have e1 : (a.natAbs : Int) = -a := by omega
    have e2 : (b.natAbs : Int) = -b := by have := h.mp ha; omega
    rw [e1, e2, Int.neg_mul_neg]
  · have e1 : (a.natAbs : Int) = a := by omega
    have e2 : (b.natAbs : Int) = b := by have := fun hb => ha (h.mpr hb); omega
    rw [e1, e2]
theorem natAbs_mul_neg {a b : Int} (h : ¬ (a < 0 ↔ b < 0)) : (a.natAbs : Int) * (b.natAbs : Int) = -(a * b) := by
  by_cases ha : a < 0
  · have e1 : (a.natAbs : Int) = -a := by omega
    have e2 : (b.natAbs : Int) = b := by have : ¬ b < 0 := fun hb => h ⟨fun _ => hb, fun _ => ha⟩; omega
    rw [e1, e2, Int.neg_mul]
  · have e1 : (a.natAbs : Int) = a := by omega
    have e2 : (b.natAbs : Int) = -b := by
      have : b < 0 := by
        refine Int.not_le.mp fun hb => h ⟨fun h' => absurd h' ha, fun h' => ?_⟩
        omega
      omega
    rw [e1, e2, Int.mul_neg]
theorem mul64_is {x y H L : Int} {w : World} (hx0 : 0 ≤ x) (hx : x < 18446744073709551616) (hy0 : 0 ≤ y) (hy : y < 18446744073709551616) (hH : Hid (x * y / 18446744073709551616 = H)) (hL : Hid (x * y % 18446744073709551616 = L)) :
    Calls Try.prog 32 #[.int .u64 x, .int .u64 y] w fun e w' => e = .returned (.tuple #[.int .u64 H, .int .u64 L]) ∧ w' = w := by
  rw [← hH.out, ← hL.out]
  exact mul64_any x y w hx0 hx hy0 hy
set_option maxHeartbeats 800000 in
theorem mul_any (a b : Int) (w : World) (a1 : -9223372036854775808 ≤ a) (a2 : a ≤ 9223372036854775807) (b1 : -9223372036854775808 ≤ b) (b2 : b ≤ 9223372036854775807) :
    Calls Try.prog 14 #[.int .i64 a, .int .i64 b] w fun e w' => e = .returned (.tuple #[.int .i64 (fitN (a * b)), .bool (fitB (a * b))]) ∧ w' = w := by
  have hx := xor_neg a b a1 a2 b1 b2
  obtain ⟨P, hP⟩ : ∃ P, P = (a.natAbs : Int) * (b.natAbs : Int) := ⟨_, rfl⟩
  have p0 : 0 ≤ P := by rw [hP]; exact Int.mul_nonneg (by omega) (by omega)
  by_cases hs : a < 0 ↔ b < 0
  · have hx' : decide (bits .xor .i64 a b < 0) = false := decide_eq_false fun h => hx.mp h hs
    have hm : a * b = P := by rw [hP, natAbs_mul_pos hs]
    rw [hm]
    clear hx hs hm
    by_cases hg : P < 18446744073709551616
    · have HH : Hid ((a.natAbs : Int) * (b.natAbs : Int) / 18446744073709551616 = 0) := by show (a.natAbs : Int) * (b.natAbs : Int) / 18446744073709551616 = 0; rw [← hP]; omega
      have HL : Hid ((a.natAbs : Int) * (b.natAbs : Int) % 18446744073709551616 = P) := by show (a.natAbs : Int) * (b.natAbs : Int) % 18446744073709551616 = P; rw [← hP]; omega
      clear hP
      go_enter Try.func14, Try.ntmps14
      go_wp2_with (first | (go_at_call 33; refine (amount_any _ _ (by omega) (by omega)).mono ?_; rintro e wx ⟨rfl, hw⟩; rw [hw]; clear hw) | (go_at_call 32; with_reducible refine (mul64_is (by omega) (by omega) (by omega) (by omega) HH HL).mono ?_; rintro e wx ⟨rfl, hw⟩; rw [hw]; clear hw) | (go_at_call 34; with_reducible refine (signed_pos _ _ p0 hg).mono ?_; rintro e wx ⟨rfl, hw⟩; rw [hw]; clear hw))
      go_ret2
      exact ⟨rfl, rfl⟩
    · have f1 := fitN_no (n := P) (by omega)
      have f2 := fitB_no (n := P) (by omega)
      rw [f1, f2]
      obtain ⟨q, hq⟩ : ∃ q, q = P / 18446744073709551616 := ⟨_, rfl⟩
      have hq0 : 0 < q := by omega
      have HH : Hid ((a.natAbs : Int) * (b.natAbs : Int) / 18446744073709551616 = q) := by show (a.natAbs : Int) * (b.natAbs : Int) / 18446744073709551616 = q; rw [← hP, hq]
      have HL : Hid ((a.natAbs : Int) * (b.natAbs : Int) % 18446744073709551616 = P % 18446744073709551616) := by show (a.natAbs : Int) * (b.natAbs : Int) % 18446744073709551616 = P % 18446744073709551616; rw [← hP]
      clear hP hq f1 f2
      go_enter Try.func14, Try.ntmps14
      go_wp2_with (first | (go_at_call 33; refine (amount_any _ _ (by omega) (by omega)).mono ?_; rintro e wx ⟨rfl, hw⟩; rw [hw]; clear hw) | (go_at_call 32; with_reducible refine (mul64_is (by omega) (by omega) (by omega) (by omega) HH HL).mono ?_; rintro e wx ⟨rfl, hw⟩; rw [hw]; clear hw))
      go_ret2
      exact ⟨rfl, rfl⟩
  · have hx' : bits .xor .i64 a b < 0 := hx.mpr hs
    have hm : a * b = -P := by rw [hP, natAbs_mul_neg hs]; omega
    rw [hm]
    clear hx hs hm
    by_cases hg : P < 18446744073709551616
    · have HH : Hid ((a.natAbs : Int) * (b.natAbs : Int) / 18446744073709551616 = 0) := by show (a.natAbs : Int) * (b.natAbs : Int) / 18446744073709551616 = 0; rw [← hP]; omega
      have HL : Hid ((a.natAbs : Int) * (b.natAbs : Int) % 18446744073709551616 = P) := by show (a.natAbs : Int) * (b.natAbs : Int) % 18446744073709551616 = P; rw [← hP]; omega
      clear hP
      go_enter Try.func14, Try.ntmps14
      go_wp2_with (first | (go_at_call 33; refine (amount_any _ _ (by omega) (by omega)).mono ?_; rintro e wx ⟨rfl, hw⟩; rw [hw]; clear hw) | (go_at_call 32; with_reducible refine (mul64_is (by omega) (by omega) (by omega) (by omega) HH HL).mono ?_; rintro e wx ⟨rfl, hw⟩; rw [hw]; clear hw) | (go_at_call 34; with_reducible refine (signed_neg _ _ p0 hg).mono ?_; rintro e wx ⟨rfl, hw⟩; rw [hw]; clear hw))
      go_ret2
      exact ⟨rfl, rfl⟩
    · have f1 := fitN_no (n := -P) (by omega)
      have f2 := fitB_no (n := -P) (by omega)
      rw [f1, f2]
      obtain ⟨q, hq⟩ : ∃ q, q = P / 18446744073709551616 := ⟨_, rfl⟩
      have hq0 : 0 < q := by omega
      have HH : Hid ((a.natAbs : Int) * (b.natAbs : Int) / 18446744073709551616 = q) := by show (a.natAbs : Int) * (b.natAbs : Int) / 18446744073709551616 = q; rw [← hP, hq]
      have HL : Hid ((a.natAbs : Int) * (b.natAbs : Int) % 18446744073709551616 = P % 18446744073709551616) := by show (a.natAbs : Int) * (b.natAbs : Int) % 18446744073709551616 = P % 18446744073709551616; rw [← hP]
      clear hP hq f1 f2
      go_enter Try.func14, Try.ntmps14
      go_wp2_with (first | (go_at_call 33; refine (amount_any _ _ (by omega) (by omega)).mono ?_; rintro e wx ⟨rfl, hw⟩; rw [hw]; clear hw) | (go_at_call 32; with_reducible refine (mul64_is (by omega) (by omega) (by omega) (by omega) HH HL).mono ?_; rintro e wx ⟨rfl, hw⟩; rw [hw]; clear hw))
      go_ret2
      exact ⟨rfl, rfl⟩
end Go.Proofs.Ytpjlppffehjemaa
