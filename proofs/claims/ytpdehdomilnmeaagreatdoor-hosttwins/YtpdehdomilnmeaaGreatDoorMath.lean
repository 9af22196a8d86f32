/- Plain arithmetic of 64-bit integers: signs of bit operations, and the words fitN and fitB. -/
import Derived.Test.YtpdehdomilnmeaaGreatDoorRows
import Derived.WalkKit
import Derived.ProofKit
import Derived.OpenShut
namespace Go.Proofs.YtpdehdomilnmeaaGreatDoor
open Go.ChangeShapes Go.WideShapes Go.ChangeAt Go.RowKit
set_option maxRecDepth 100000

def fitB (n : Int) : Bool := decide (-9223372036854775808 ≤ n ∧ n ≤ 9223372036854775807)
def fitN (n : Int) : Int := if -9223372036854775808 ≤ n ∧ n ≤ 9223372036854775807 then n else 0

theorem fitB_yes {n : Int} (h1 : -9223372036854775808 ≤ n) (h2 : n ≤ 9223372036854775807) : fitB n = true := by simp [fitB]; omega
theorem fitB_no {n : Int} (h : n < -9223372036854775808 ∨ 9223372036854775807 < n) : fitB n = false := by simp [fitB]; omega
theorem fitN_yes {n : Int} (h1 : -9223372036854775808 ≤ n) (h2 : n ≤ 9223372036854775807) : fitN n = n := by unfold fitN; rw [if_pos ⟨h1, h2⟩]
theorem fitN_no {n : Int} (h : n < -9223372036854775808 ∨ 9223372036854775807 < n) : fitN n = 0 := by unfold fitN; rw [if_neg (by omega)]
theorem fitN_lo (n : Int) : -9223372036854775808 ≤ fitN n := by unfold fitN; split <;> omega
theorem fitN_hi (n : Int) : fitN n ≤ 9223372036854775807 := by unfold fitN; split <;> omega
theorem fitN_of_fitB {n : Int} (h : fitB n = true) : fitN n = n := by simp [fitB] at h; exact fitN_yes h.1 h.2
theorem fitN_of_not {n : Int} (h : fitB n = false) : fitN n = 0 := by simp [fitB] at h; exact fitN_no (by omega)

theorem wrap_i64 (v : BitVec 64) : IntKind.i64.wrap (v.toNat : Int) = v.toInt := by
  have := v.isLt
  rw [BitVec.toInt_eq_toNat_cond]
  have e : (v.toNat : Int) % 2 ^ 64 = v.toNat := by omega
  simp only [IntKind.wrap, IntKind.bits, IntKind.signed, e, Bool.true_and, decide_eq_true_eq]
  by_cases h : 2 * v.toNat < 2 ^ 64
  · rw [if_pos h, if_neg (by omega)]
  · rw [if_neg h, if_pos (by omega)]; omega
theorem ofInt_neg (x : Int) (h1 : -9223372036854775808 ≤ x) (h2 : x ≤ 9223372036854775807) : (BitVec.ofInt 64 x).msb = decide (x < 0) := by
  rw [BitVec.msb_eq_toInt, BitVec.toInt_ofInt, Int.bmod_def]
  congr 1
  simp
  omega
theorem and_neg (x y : Int) (x1 : -9223372036854775808 ≤ x) (x2 : x ≤ 9223372036854775807) (y1 : -9223372036854775808 ≤ y) (y2 : y ≤ 9223372036854775807) :
    bits .and .i64 x y < 0 ↔ (x < 0 ∧ y < 0) := by
  show IntKind.i64.wrap ((BitVec.ofInt 64 x &&& BitVec.ofInt 64 y).toNat : Int) < 0 ↔ _
  rw [wrap_i64]
  have h := BitVec.msb_eq_toInt (x := BitVec.ofInt 64 x &&& BitVec.ofInt 64 y)
  rw [BitVec.msb_and, ofInt_neg x x1 x2, ofInt_neg y y1 y2] at h
  generalize (BitVec.ofInt 64 x &&& BitVec.ofInt 64 y).toInt = z at h ⊢
  by_cases a : x < 0 <;> by_cases b : y < 0 <;> simp [a, b] at h ⊢ <;> omega
theorem xor_neg (x y : Int) (x1 : -9223372036854775808 ≤ x) (x2 : x ≤ 9223372036854775807) (y1 : -9223372036854775808 ≤ y) (y2 : y ≤ 9223372036854775807) :
    bits .xor .i64 x y < 0 ↔ ¬ (x < 0 ↔ y < 0) := by
  show IntKind.i64.wrap ((BitVec.ofInt 64 x ^^^ BitVec.ofInt 64 y).toNat : Int) < 0 ↔ _
  rw [wrap_i64]
  have h := BitVec.msb_eq_toInt (x := BitVec.ofInt 64 x ^^^ BitVec.ofInt 64 y)
  rw [BitVec.msb_xor, ofInt_neg x x1 x2, ofInt_neg y y1 y2] at h
  generalize (BitVec.ofInt 64 x ^^^ BitVec.ofInt 64 y).toInt = z at h ⊢
  by_cases a : x < 0 <;> by_cases b : y < 0 <;> simp [a, b] at h ⊢ <;> omega
theorem xor_range (x y : Int) : -9223372036854775808 ≤ bits .xor .i64 x y ∧ bits .xor .i64 x y ≤ 9223372036854775807 := by
  have e : bits .xor .i64 x y = (BitVec.ofInt 64 x ^^^ BitVec.ofInt 64 y).toInt := by
    show IntKind.i64.wrap ((BitVec.ofInt 64 x ^^^ BitVec.ofInt 64 y).toNat : Int) = _
    rw [wrap_i64]
  have h1 := BitVec.le_toInt (BitVec.ofInt 64 x ^^^ BitVec.ofInt 64 y)
  have h2 := BitVec.toInt_lt (x := BitVec.ofInt 64 x ^^^ BitVec.ofInt 64 y)
  rw [e]
  generalize (BitVec.ofInt 64 x ^^^ BitVec.ofInt 64 y).toInt = z at h1 h2 ⊢
  omega
theorem wrap64_range (n : Int) : -9223372036854775808 ≤ wrap64 n ∧ wrap64 n ≤ 9223372036854775807 := by unfold wrap64; omega
theorem wrap64_fit {n : Int} (h1 : -9223372036854775808 ≤ n) (h2 : n ≤ 9223372036854775807) : wrap64 n = n := by unfold wrap64; omega

/-- The test of Add: the wrapped sum has another sign than both parts just where the sum doesn't fit. -/
theorem add_test (a b : Int) (a1 : -9223372036854775808 ≤ a) (a2 : a ≤ 9223372036854775807) (b1 : -9223372036854775808 ≤ b) (b2 : b ≤ 9223372036854775807) :
    bits .and .i64 (bits .xor .i64 a (wrap64 (a + b))) (bits .xor .i64 b (wrap64 (a + b))) < 0 ↔ fitB (a + b) = false := by
  have w1 := wrap64_range (a + b)
  have u1 := xor_range a (wrap64 (a + b))
  have u2 := xor_range b (wrap64 (a + b))
  rw [and_neg _ _ u1.1 u1.2 u2.1 u2.2, xor_neg a _ a1 a2 w1.1 w1.2, xor_neg b _ b1 b2 w1.1 w1.2]
  simp only [fitB, decide_eq_false_iff_not]
  unfold wrap64
  omega
theorem sub_test (a b : Int) (a1 : -9223372036854775808 ≤ a) (a2 : a ≤ 9223372036854775807) (b1 : -9223372036854775808 ≤ b) (b2 : b ≤ 9223372036854775807) :
    bits .and .i64 (bits .xor .i64 a b) (bits .xor .i64 a (wrap64 (a - b))) < 0 ↔ fitB (a - b) = false := by
  have w1 := wrap64_range (a - b)
  have u1 := xor_range a b
  have u2 := xor_range a (wrap64 (a - b))
  rw [and_neg _ _ u1.1 u1.2 u2.1 u2.2, xor_neg a _ a1 a2 b1 b2, xor_neg a _ a1 a2 w1.1 w1.2]
  simp only [fitB, decide_eq_false_iff_not]
  unfold wrap64
  omega
theorem ret2 {a b : Int} {p q : Bool} (h1 : a = b) (h2 : p = q) : Ending.returned (.tuple #[.int .i64 a, .bool p]) = .returned (.tuple #[.int .i64 b, .bool q]) := by rw [h1, h2]
theorem ret1 {k : IntKind} {a b : Int} (h : a = b) : Ending.returned (.int k a) = .returned (.int k b) := by rw [h]
/-- Go's quotient and rest against the ones that round down, for a divisor from 1 on. -/
theorem tdm (a b : Int) (hb : 1 ≤ b) : (a.tmod b < 0 ∧ a.tdiv b = a / b + 1 ∧ a.tmod b = a % b - b ∧ 0 < a % b) ∨ (0 ≤ a.tmod b ∧ a.tdiv b = a / b ∧ a.tmod b = a % b) := by
  have h0 := Int.emod_nonneg a (by omega : b ≠ 0)
  have h1 := Int.emod_lt_of_pos a (by omega : 0 < b)
  rw [Int.tdiv_eq_ediv, Int.tmod_eq_emod]
  by_cases h : 0 ≤ a ∨ b ∣ a
  · rw [if_pos h, if_pos h]; right; omega
  · rw [if_neg h, if_neg h]
    have hs : b.sign = 1 := Int.sign_eq_one_of_pos (by omega)
    have hz : a % b ≠ 0 := fun e => h (Or.inr (Int.dvd_of_emod_eq_zero e))
    left; omega
theorem div_range (a b : Int) (hb : 1 ≤ b) (a1 : -9223372036854775808 ≤ a) (a2 : a ≤ 9223372036854775807) : -9223372036854775808 ≤ a / b ∧ a / b ≤ 9223372036854775807 := by
  constructor
  · apply Int.le_ediv_of_mul_le (by omega)
    omega
  · by_cases h : a < 0
    · have := Int.ediv_neg_of_neg_of_pos h (by omega : 0 < b); omega
    · have := Int.ediv_le_self b (by omega : 0 ≤ a); omega
theorem tmul (a b : Int) (hb : 1 ≤ b) (a1 : -9223372036854775808 ≤ a) (a2 : a ≤ 9223372036854775807) :
    (a < wrap64 (a.tdiv b * b) ∧ a.tdiv b = a / b + 1) ∨ (wrap64 (a.tdiv b * b) ≤ a ∧ a.tdiv b = a / b) := by
  have h0 := tdm a b hb
  have h1 := Int.mul_tdiv_add_tmod a b
  have h2 := Int.emod_lt_of_pos a (by omega : 0 < b)
  have h3 : b * a.tdiv b = a.tdiv b * b := Int.mul_comm _ _
  have h4 := Int.tmod_eq_emod (a := a) (b := b)
  have h5 : ¬ (0 ≤ a ∨ b ∣ a) → a.tdiv b * b ≤ 0 := by
    intro h
    have : a.tdiv b ≤ 0 := by
      have := Int.ediv_neg_of_neg_of_pos (by omega : a < 0) (by omega : 0 < b)
      rcases h0 with h0 | h0 <;> omega
    exact Int.mul_nonpos_of_nonpos_of_nonneg this (by omega)
  by_cases h : 0 ≤ a ∨ b ∣ a
  · rw [if_pos h] at h4
    have : a % b ≤ a ∨ a % b = 0 := by
      rcases h with h | h
      · have e1 := Int.mul_ediv_add_emod a b
        have e2 := Int.mul_nonneg (by omega : 0 ≤ b) (Int.ediv_nonneg h (by omega : 0 ≤ b))
        left; omega
      · exact Or.inr (Int.emod_eq_zero_of_dvd h)
    unfold wrap64
    omega
  · rw [if_neg h] at h4
    have := h5 h
    unfold wrap64
    omega
theorem fmul (a b : Int) : a / b * b + a % b = a := by rw [Int.mul_comm]; exact Int.mul_ediv_add_emod a b
theorem fwrap (a b : Int) (a1 : -9223372036854775808 ≤ a) (a2 : a ≤ 9223372036854775807) : wrap64 (wrap64 (a / b * b) + a % b) = a := by
  have := fmul a b; unfold wrap64; omega
def ceilI (a b : Int) : Int := if a % b = 0 then a / b else a / b + 1
end Go.Proofs.YtpdehdomilnmeaaGreatDoor
