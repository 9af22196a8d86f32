/- Plain arithmetic of four fractions put together from either end. -/
import Derived.Test.YtakdkoocbekbgaaParts2
namespace Go.Proofs.Ytakdkoocbekbgaa
open Go.ChangeShapes Go.WideShapes Go.ChangeAt Go.RowKit

theorem and_small (x : Int) : 0 ≤ bits .and .i64 x 1023 ∧ bits .and .i64 x 1023 ≤ 1023 := by
  have e : bits .and .i64 x 1023 = IntKind.i64.wrap ((BitVec.ofInt 64 x &&& BitVec.ofInt 64 1023).toNat : Int) := rfl
  have h : (BitVec.ofInt 64 x &&& BitVec.ofInt 64 1023).toNat ≤ 1023 := by
    rw [BitVec.toNat_and]
    have : (BitVec.ofInt 64 1023).toNat = 1023 := by decide
    rw [this]
    exact Nat.and_le_right
  rw [e, wrap_i64, BitVec.toInt_eq_toNat_cond, if_pos (by omega)]
  omega
/-- The lower and the upper number of the first k fractions m j / (1 + s j). -/
def fD (s : Nat → Int) : Nat → Int
  | 0 => 1
  | k + 1 => fD s k * (1 + s k)
def fN (m s : Nat → Int) : Nat → Int
  | 0 => 0
  | k + 1 => fN m s k * (1 + s k) + fD s k * m k
theorem f_inv {m s : Nat → Int} (hm : ∀ k, 0 ≤ m k ∧ m k ≤ 1023) (hs : ∀ k, 0 ≤ s k ∧ s k ≤ 1023) (k : Nat) : 1 ≤ fD s k ∧ fD s k ≤ 1024 ^ k ∧ 0 ≤ fN m s k ∧ fN m s k ≤ 1023 * k * fD s k := by
  induction k with
  | zero => simp [fD, fN]
  | succ k ih =>
    obtain ⟨h1, h2, h3, h4⟩ := ih
    obtain ⟨a1, a2⟩ := hm k
    obtain ⟨b1, b2⟩ := hs k
    have g1 : fD s (k + 1) = fD s k * (1 + s k) := rfl
    have g2 : fN m s (k + 1) = fN m s k * (1 + s k) + fD s k * m k := rfl
    have p1 : fD s k * 1 ≤ fD s k * (1 + s k) := Int.mul_le_mul_of_nonneg_left (by omega) (by omega)
    have p2 : fD s k * (1 + s k) ≤ 1024 ^ k * 1024 := Int.mul_le_mul h2 (by omega) (by omega) (by omega)
    have p3 : 0 ≤ fN m s k * (1 + s k) := Int.mul_nonneg h3 (by omega)
    have p4 : 0 ≤ fD s k * m k := Int.mul_nonneg (by omega) a1
    have p5 : fN m s k * (1 + s k) ≤ 1023 * k * fD s k * (1 + s k) := Int.mul_le_mul_of_nonneg_right h4 (by omega)
    have p6 : fD s k * m k ≤ fD s k * 1023 := Int.mul_le_mul_of_nonneg_left a2 (by omega)
    have e5 : 1023 * (k : Int) * fD s k * (1 + s k) = 1023 * k * (fD s k * (1 + s k)) := by grind
    rw [e5] at p5
    refine ⟨by omega, by rw [Int.pow_succ]; omega, by omega, ?_⟩
    rw [g1, g2]
    generalize fD s k * (1 + s k) = X at *
    have e6 : 1023 * ((k + 1 : Nat) : Int) * X = 1023 * k * X + 1023 * X := by push_cast; grind
    rw [e6]
    omega
theorem f_fit {m s : Nat → Int} (hm : ∀ k, 0 ≤ m k ∧ m k ≤ 1023) (hs : ∀ k, 0 ≤ s k ∧ s k ≤ 1023) {k : Nat} (hk : k ≤ 4) : 1 ≤ fD s k ∧ fD s k ≤ 1099511627776 ∧ 0 ≤ fN m s k ∧ fN m s k ≤ 4092 * fD s k := by
  obtain ⟨h1, h2, h3, h4⟩ := f_inv hm hs k
  have p : (1024 : Int) ^ k ≤ 1099511627776 := by
    have hc : k = 0 ∨ k = 1 ∨ k = 2 ∨ k = 3 ∨ k = 4 := by omega
    rcases hc with rfl | rfl | rfl | rfl | rfl <;> decide
  have q : 1023 * (k : Int) * fD s k ≤ 4092 * fD s k := Int.mul_le_mul_of_nonneg_right (by omega) (by omega)
  exact ⟨h1, by omega, h3, by omega⟩
/-- From the other end it is the same. -/
theorem f_turn (m s : Nat → Int) : fD (fun k => s (3 - k)) 4 = fD s 4 ∧ fN (fun k => m (3 - k)) (fun k => s (3 - k)) 4 = fN m s 4 := by
  simp only [fD, fN]
  generalize m 0 = m0
  generalize m 1 = m1
  generalize m 2 = m2
  generalize m 3 = m3
  generalize s 0 = s0
  generalize s 1 = s1
  generalize s 2 = s2
  generalize s 3 = s3
  constructor <;> grind
theorem plus_step {N D q t : Int} (N0 : 0 ≤ N) (D0 : 1 ≤ D) (q0 : 0 ≤ q) (t0 : 1 ≤ t) (h1 : N * t + D * q < 340282366920938463463374607431768211456) (h2 : D * t < 340282366920938463463374607431768211456) :
    ∃ A B C E, PlIs N D q t A B C E true ∧ wv A B = N * t + D * q ∧ wv C E = D * t := by
  obtain ⟨A, B, C, E, ok, h⟩ := pl_ex (N := N) (D := D) (q := q) (t := t) N0 (by omega)
  cases ok
  · exact absurd ⟨⟨by omega, q0, t0⟩, h1, h2⟩ (h.no rfl).1
  · obtain ⟨_, e1, e2⟩ := h.yes rfl
    exact ⟨A, B, C, E, h, e1, e2⟩
end Go.Proofs.Ytakdkoocbekbgaa
