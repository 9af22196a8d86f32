import Derived.Test.YtpdehdomilnmeaaGreatDoorWide
import Derived.Deep.QuietTactic
import Derived.BigQuiet
/- What Len64, LeadingZeros64 and Div64 of math/bits and Bits and Div of package wide answer. -/
namespace Go.Proofs.YtpdehdomilnmeaaGreatDoor
open Go.ChangeShapes Go.WideShapes Go.ChangeAt Go.RowKit
set_option maxRecDepth 100000
/-- One digit of a long division: the guess q is too great, or it is the digit. -/
theorem guess_gt {U D A C Y q r Q : Int} (hY : Y = A * 4294967296 + C) (hU : U = q * A + r) (hQ : Q * Y ≤ U * 4294967296 + D) (Y0 : 0 < Y) (UY : U < Y) (D1 : D < 4294967296)
    (ht : 4294967296 ≤ q ∨ 4294967296 * r + D < q * C) : Q ≤ q - 1 := by
  have h : Q * Y < q * Y := by
    rcases ht with ht | ht
    · have : 4294967296 * Y ≤ q * Y := Int.mul_le_mul_of_nonneg_right ht (by omega)
      omega
    · have e : q * Y = q * A * 4294967296 + q * C := by rw [hY]; grind
      rw [e]
      generalize q * A = x at *
      generalize q * C = z at *
      generalize Q * Y = t at *
      omega
  have := Int.lt_of_mul_lt_mul_right h (by omega)
  omega
theorem guess_le {U D A C Y q r Q : Int} (hY : Y = A * 4294967296 + C) (hU : U = q * A + r) (hQ : U * 4294967296 + D < (Q + 1) * Y) (Y0 : 0 < Y)
    (ht : q * C ≤ 4294967296 * r + D) : q ≤ Q := by
  have h : q * Y < (Q + 1) * Y := by
    have e : q * Y = q * A * 4294967296 + q * C := by rw [hY]; grind
    rw [e]
    generalize q * A = x at *
    generalize q * C = z at *
    generalize (Q + 1) * Y = t at *
    omega
  have := Int.lt_of_mul_lt_mul_right h (by omega)
  omega
theorem guess_brk {U D A C Y q r Q : Int} (hY : Y = A * 4294967296 + C) (hU : U = q * A + r) (hQ : U * 4294967296 + D < (Q + 1) * Y) (UY : U < Y) (q0 : 0 ≤ q) (A0 : 0 < A) (C0 : 0 ≤ C) (C1 : C < 4294967296) (D0 : 0 ≤ D)
    (ht : 4294967296 ≤ r) : q ≤ Q := by
  have h1 : q * A < 4294967296 * A := by
    generalize q * A = x at *
    omega
  have h2 := Int.lt_of_mul_lt_mul_right h1 (by omega)
  have h3 : q * C ≤ 4294967296 * C := Int.mul_le_mul_of_nonneg_right (by omega) C0
  exact guess_le hY hU hQ (by omega) (by generalize q * C = z at *; omega)
theorem div_end {N y p q S : Int} (hp : 0 < p) (hy : 0 < y) (h : N * p = q * (y * p) + S) (S0 : 0 ≤ S) (S1 : S < y * p) : N / y = q ∧ S / p = N % y := by
  obtain ⟨r, hr⟩ : ∃ r, r = N - q * y := ⟨_, rfl⟩
  have e1 : S = r * p := by rw [hr]; grind
  have r0 : 0 ≤ r := by
    refine Int.not_lt.mp fun hn => ?_
    have : r * p < 0 := Int.mul_neg_of_neg_of_pos hn hp
    omega
  have r1 : r < y := by rw [e1] at S1; exact Int.lt_of_mul_lt_mul_right S1 (by omega)
  have e2 : N = r + y * q := by rw [hr]; grind
  constructor
  · rw [e2, Int.add_mul_ediv_left _ _ (by omega), Int.ediv_eq_zero_of_lt r0 r1]; omega
  · rw [e1, Int.mul_ediv_cancel _ (by omega), e2, Int.add_mul_emod_self_left, Int.emod_eq_of_lt r0 r1]
theorem digit {U D Y : Int} (Y0 : 0 < Y) (U0 : 0 ≤ U) (UY : U < Y) (D0 : 0 ≤ D) (D1 : D < 4294967296) :
    ∃ Q R : Int, 0 ≤ Q ∧ Q < 4294967296 ∧ 0 ≤ R ∧ R < Y ∧ U * 4294967296 + D = Q * Y + R := by
  refine ⟨(U * 4294967296 + D) / Y, (U * 4294967296 + D) % Y, Int.ediv_nonneg (by omega) (by omega), ?_, Int.emod_nonneg _ (by omega), Int.emod_lt_of_pos _ Y0, ?_⟩
  · exact Int.ediv_lt_of_lt_mul Y0 (by omega)
  · have := Int.mul_ediv_add_emod (U * 4294967296 + D) Y; rw [Int.mul_comm _ Y]; exact this.symm
theorem guess0 {U D A C Y Q R : Int} (hY : Y = A * 4294967296 + C) (A0 : 2147483648 ≤ A) (C0 : 0 ≤ C) (U0 : 0 ≤ U) (U1 : U < 18446744073709551616) (D1 : D < 4294967296) (Q0 : 0 ≤ Q) (R0 : 0 ≤ R) (h : U * 4294967296 + D = Q * Y + R) :
    U = U / A * A + IntKind.u64.wrap (U - IntKind.u64.wrap (U / A * A)) ∧ 0 ≤ IntKind.u64.wrap (U - IntKind.u64.wrap (U / A * A)) ∧ IntKind.u64.wrap (U - IntKind.u64.wrap (U / A * A)) < A ∧ 0 ≤ U / A ∧ U / A ≤ 8589934592 ∧ Q ≤ U / A := by
  have h1 := Int.mul_ediv_add_emod U A
  have h2 := Int.emod_nonneg U (by omega : A ≠ 0)
  have h3 := Int.emod_lt_of_pos U (by omega : 0 < A)
  have h4 : 0 ≤ U / A := Int.ediv_nonneg U0 (by omega)
  have h5 : 0 ≤ A * (U / A) := Int.mul_nonneg (by omega) h4
  have h6 : U / A ≤ 8589934592 := by
    have : 2147483648 * (U / A) ≤ A * (U / A) := Int.mul_le_mul_of_nonneg_right A0 h4
    omega
  have h7 : Q ≤ U / A := by
    apply Int.le_ediv_of_mul_le (by omega)
    have e : Q * Y = Q * A * 4294967296 + Q * C := by rw [hY]; grind
    have : 0 ≤ Q * C := Int.mul_nonneg Q0 C0
    rw [e] at h
    generalize Q * A = x at *
    generalize Q * C = z at *
    omega
  rw [Int.mul_comm (U / A) A, IntKind.wrap_u64, IntKind.wrap_u64]
  refine ⟨?_, ?_, ?_, h4, h6, h7⟩ <;> omega
theorem rest_wrap {U D Y Q R : Int} (R0 : 0 ≤ R) (R1 : R < 18446744073709551616) (h : U * 4294967296 + D = Q * Y + R) : IntKind.u64.wrap (IntKind.u64.wrap (IntKind.u64.wrap (U * 4294967296) + D) - IntKind.u64.wrap (Q * Y)) = R := by
  simp only [IntKind.wrap_u64]
  generalize Q * Y = z at *
  omega
theorem two_digits {U V Y D E Q R Q' R' : Int} (hV : V = D * 4294967296 + E) (h1 : U * 4294967296 + D = Q * Y + R) (h2 : R * 4294967296 + E = Q' * Y + R') : U * 18446744073709551616 + V = (Q * 4294967296 + Q') * Y + R' := by
  have e : (Q * 4294967296 + Q') * Y = Q * Y * 4294967296 + Q' * Y := by grind
  rw [e]
  generalize Q * Y = x at *
  generalize Q' * Y = z at *
  omega
theorem small_mul {q C : Int} (q0 : 0 ≤ q) (q1 : q < 4294967296) (C0 : 0 ≤ C) (C1 : C < 4294967296) : 0 ≤ q * C ∧ q * C < 18446744073709551616 := by
  have := prod_bound q C q0 (by omega) C0 (by omega)
  omega
theorem pow2_pos (k : Nat) : (0 : Int) < 2 ^ k := Int.pow_pos (by decide)
theorem pow2_split {k : Nat} (h : k ≤ 64) : (2 : Int) ^ k * 2 ^ (64 - k) = 18446744073709551616 := by
  rw [← Int.pow_add, show k + (64 - k) = 64 by omega]; rfl
theorem pow2_le {i j : Nat} (h : i ≤ j) : (2 : Int) ^ i ≤ 2 ^ j := by
  have := Nat.pow_le_pow_right (n := 2) (by decide) h
  exact_mod_cast this
theorem norm {y : Int} (y0 : 0 < y) (y1 : y < 18446744073709551616) : ∃ k : Nat, (k : Int) = 64 - bitLen y.toNat ∧ k ≤ 63 ∧ 9223372036854775808 ≤ y * 2 ^ k ∧ y * 2 ^ k < 18446744073709551616 := by
  obtain ⟨n, rfl⟩ := Int.eq_ofNat_of_zero_le (show 0 ≤ y by omega)
  have hs := bitLen_spec n
  have h2 := hs.2 (by omega)
  have h1 := hs.1
  simp only [Int.toNat_natCast]
  generalize bitLen n = b at *
  have hb : b ≤ 64 := by
    refine Nat.not_lt.mp fun hn => ?_
    have : 2 ^ 64 ≤ 2 ^ (b - 1) := Nat.pow_le_pow_right (by decide) (by omega)
    omega
  have hb0 : b ≠ 0 := by
    intro h0; subst h0; simp at h1; omega
  refine ⟨64 - b, by omega, by omega, ?_, ?_⟩
  · have : 2 ^ (b - 1) * 2 ^ (64 - b) ≤ n * 2 ^ (64 - b) := Nat.mul_le_mul_right _ h2
    rw [← Nat.pow_add, show b - 1 + (64 - b) = 63 by omega] at this
    have h3 : ((n * 2 ^ (64 - b) : Nat) : Int) = (n : Int) * 2 ^ (64 - b) := by push_cast; rfl
    omega
  · have : n * 2 ^ (64 - b) < 2 ^ b * 2 ^ (64 - b) := Nat.mul_lt_mul_of_pos_right h1 (Nat.two_pow_pos _)
    rw [← Nat.pow_add, show b + (64 - b) = 64 by omega] at this
    have h3 : ((n * 2 ^ (64 - b) : Nat) : Int) = (n : Int) * 2 ^ (64 - b) := by push_cast; rfl
    omega
theorem or_hi {a b : Int} {k : Nat} (a0 : 0 ≤ a) (a1 : a < 2 ^ k) (b0 : 0 ≤ b) (b1 : b * 2 ^ k < 18446744073709551616) (hk : k ≤ 63) : bits .or .u64 (b * 2 ^ k) a = b * 2 ^ k + a := by
  obtain ⟨a, rfl⟩ := Int.eq_ofNat_of_zero_le a0
  obtain ⟨b, rfl⟩ := Int.eq_ofNat_of_zero_le b0
  have e : ((b * 2 ^ k : Nat) : Int) = (b : Int) * 2 ^ k := by push_cast; rfl
  have e2 : ((2 ^ k : Nat) : Int) = (2 : Int) ^ k := by push_cast; rfl
  have h64 : 2 ^ k ≤ 2 ^ 63 := Nat.pow_le_pow_right (by decide) hk
  rw [← e] at b1 ⊢
  rw [← e2] at a1
  rw [bits_or_u64_nat (b * 2 ^ k) a (by omega) (by omega)]
  have := Nat.two_pow_add_eq_or_of_lt (show a < 2 ^ k by omega) b
  rw [Nat.mul_comm b, ← this]
  push_cast
  rfl
theorem shl_div {lo : Int} {k : Nat} (hk : k ≤ 64) : lo * 2 ^ k / 18446744073709551616 = lo / 2 ^ (64 - k) := by
  rw [← pow2_split hk, Int.mul_comm lo, Int.mul_ediv_mul_of_pos _ _ (pow2_pos k)]
theorem top_lt {lo : Int} {k : Nat} (hk : k ≤ 64) (l0 : 0 ≤ lo) (l1 : lo < 18446744073709551616) : 0 ≤ lo / 2 ^ (64 - k) ∧ lo / 2 ^ (64 - k) < 2 ^ k := by
  constructor
  · exact Int.ediv_nonneg l0 (Int.le_of_lt (pow2_pos _))
  · exact Int.ediv_lt_of_lt_mul (pow2_pos _) (by rw [pow2_split hk]; exact l1)
theorem shl_or {hi lo : Int} {k : Nat} (hk : k ≤ 63) (h0 : 0 ≤ hi) (h1 : hi * 2 ^ k < 18446744073709551616) (l0 : 0 ≤ lo) (l1 : lo < 18446744073709551616) :
    bits .or .u64 (IntKind.u64.wrap (hi * 2 ^ k)) (lo / 2 ^ (64 - k)) = hi * 2 ^ k + lo / 2 ^ (64 - k) ∧ (hi * 2 ^ k + lo / 2 ^ (64 - k)) * 18446744073709551616 + IntKind.u64.wrap (lo * 2 ^ k) = (hi * 18446744073709551616 + lo) * 2 ^ k := by
  have t := top_lt (k := k) (by omega) l0 l1
  have p := pow2_pos k
  have n0 : 0 ≤ hi * 2 ^ k := Int.mul_nonneg h0 (by omega)
  have e : IntKind.u64.wrap (hi * 2 ^ k) = hi * 2 ^ k := by rw [IntKind.wrap_u64]; omega
  constructor
  · rw [e, or_hi t.1 t.2 h0 h1 hk]
  · rw [IntKind.wrap_u64, ← shl_div (lo := lo) (k := k) (by omega)]
    have e2 : (hi * 18446744073709551616 + lo) * 2 ^ k = hi * 2 ^ k * 18446744073709551616 + lo * 2 ^ k := by grind
    rw [e2]
    generalize lo * 2 ^ k = z at *
    generalize hi * 2 ^ k = x at *
    omega
theorem len_glue (x y : Int) (b : Nat) (k : Int) (hk : k = b) (hy : y.toNat = x.toNat / 2 ^ b) (h8 : y.toNat < 256) (hz : b = 0 ∨ y.toNat ≠ 0) (hb : b ≤ 56) : wrap64 (k + wrap64 (bitLen y.toNat : Int)) = (bitLen x.toNat : Int) := by
  have h1 := bitLen_le8 y.toNat h8
  have h2 : bitLen x.toNat = b + bitLen y.toNat := by
    rcases hz with hz | hz
    · subst hz; simp at hy; rw [hy]; simp
    · rw [hy] at hz ⊢; exact bitLen_shift _ _ hz
  unfold wrap64
  omega
theorem len_glue0 (x y : Int) (hy : y.toNat = x.toNat) (h8 : y.toNat < 256) : wrap64 (wrap64 (bitLen y.toNat : Int)) = (bitLen x.toNat : Int) := by
  have h1 := bitLen_le8 y.toNat h8
  rw [hy] at h1 ⊢
  unfold wrap64
  omega
end Go.Proofs.YtpdehdomilnmeaaGreatDoor

/- What Div and Bits of package wide answer. -/
namespace Go.Proofs.YtpdehdomilnmeaaGreatDoor
open Go.ChangeShapes Go.WideShapes Go.ChangeAt Go.RowKit
set_option maxRecDepth 100000
theorem div_un {N y q r : Int} (hy : 0 < y) (h : N = q * y + r) (r0 : 0 ≤ r) (r1 : r < y) : N / y = q ∧ N % y = r := by
  constructor
  · rw [h, Int.add_comm, Int.add_mul_ediv_right _ _ (by omega), Int.ediv_eq_zero_of_lt r0 r1]; omega
  · rw [h, Int.add_comm, Int.add_mul_emod_self_right, Int.emod_eq_of_lt r0 r1]
theorem div_parts {ah al n H L r : Int} (a : Word ah) (b : Word al) (n0 : 0 < n) (h1 : Word H) (h2 : Word L) (h : ah * 18446744073709551616 + al = (H * 18446744073709551616 + L) * n + r) (r0 : 0 ≤ r) (r1 : r < n) :
    ah / n = H ∧ ah % n * 18446744073709551616 + al = L * n + r ∧ 0 ≤ ah % n ∧ ah % n < n := by
  obtain ⟨e1, e2⟩ := div_un n0 h r0 r1
  obtain ⟨u1, u2⟩ := a; obtain ⟨u3, u4⟩ := b; obtain ⟨u5, u6⟩ := h1; obtain ⟨u7, u8⟩ := h2
  have e3 : (ah * 18446744073709551616 + al) / 18446744073709551616 = ah := by omega
  have e4 : ah / n = H := by
    have e5 : (ah * 18446744073709551616 + al) / 18446744073709551616 / n = (ah * 18446744073709551616 + al) / n / 18446744073709551616 := by
      rw [Int.ediv_ediv_of_nonneg (by decide), Int.ediv_ediv_of_nonneg (by omega), Int.mul_comm n]
    rw [e3, e1] at e5
    omega
  have e6 := Int.mul_ediv_add_emod ah n
  refine ⟨e4, ?_, Int.emod_nonneg _ (by omega), Int.emod_lt_of_pos _ n0⟩
  rw [e4] at e6
  have e7 : (H * 18446744073709551616 + L) * n = n * H * 18446744073709551616 + L * n := by grind
  rw [e7] at h
  generalize n * H = x at *
  generalize L * n = z at *
  omega
theorem below_drewN {B : Nat} {a w : World} (h : Below B a w) (k : Nat) : Below B a (w.drewN k) := ⟨h.os, h.tape, h.output, h.size, h.block⟩
theorem bitLen_two {h l : Int} (a : Word h) (b : Word l) (h0 : 0 < h) : bitLen (h * 18446744073709551616 + l).toNat = 64 + bitLen h.toNat := by
  obtain ⟨u1, u2⟩ := a; obtain ⟨u3, u4⟩ := b
  have e : (h * 18446744073709551616 + l).toNat / 2 ^ 64 = h.toNat := by omega
  have := bitLen_shift (h * 18446744073709551616 + l).toNat 64 (by omega)
  rw [this, e]
theorem bitLen_le {n k : Nat} (h : n < 2 ^ k) : bitLen n ≤ k := by
  unfold bitLen
  split
  · omega
  · rename_i h0
    have := (Nat.log2_lt h0).2 h
    omega
end Go.Proofs.YtpdehdomilnmeaaGreatDoor

