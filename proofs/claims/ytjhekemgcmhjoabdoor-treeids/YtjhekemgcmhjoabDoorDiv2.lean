/- What Div and Bits of package wide answer. -/
import Derived.Test.YtjhekemgcmhjoabDoorDiv
namespace Go.Proofs.YtjhekemgcmhjoabDoor
open Go.ChangeShapes Go.WideShapes Go.ChangeAt Go.RowKit
set_option maxRecDepth 100000
theorem div_un {N y q r : Int} (hy : 0 < y) (h : N = q * y + r) (r0 : 0 ≤ r) (r1 : r < y) : N / y = q ∧ N % y = r := by
  constructor
  · rw [h, Int.add_comm, Int.add_mul_ediv_right _ _ (by omega), Int.ediv_eq_zero_of_lt r0 r1]; omega
  · rw [h, Int.add_comm, Int.add_mul_emod_self_right, Int.emod_eq_of_lt r0 r1]
theorem div_parts {ah al n H L r : Int} (a : Word ah) (b : Word al) (n0 : 0 < n) (h1 : Word H) (h2 : Word L) (h : ah * 18446744073709551616 + al = (H * 18446744073709551616 + L) * n + r) (r0 : 0 ≤ r) (r1 : r < n) :
    ah / n = H ∧ ah % n * 18446744073709551616 + al = L * n + r ∧ 0 ≤ ah % n ∧ ah % n < n := by
  obtain ⟨e1, e2⟩ := div_un n0 h r0 r1
  obtain ⟨u1, u2⟩ := a; obtain ⟨u3, u4⟩ := b; obtain ⟨u5, u6⟩ := h1; obtain ⟨u7, u8⟩ := h2
  have e3 : (ah * 18446744073709551616 + al) / 18446744073709551616 = ah := by omega
  have e4 : ah / n = H := by
    have e5 : (ah * 18446744073709551616 + al) / 18446744073709551616 / n = (ah * 18446744073709551616 + al) / n / 18446744073709551616 := by
      rw [Int.ediv_ediv_of_nonneg (by decide), Int.ediv_ediv_of_nonneg (by omega), Int.mul_comm n]
    rw [e3, e1] at e5
    omega
  have e6 := Int.mul_ediv_add_emod ah n
  refine ⟨e4, ?_, Int.emod_nonneg _ (by omega), Int.emod_lt_of_pos _ n0⟩
  rw [e4] at e6
  have e7 : (H * 18446744073709551616 + L) * n = n * H * 18446744073709551616 + L * n := by grind
  rw [e7] at h
  generalize n * H = x at *
  generalize L * n = z at *
  omega
theorem below_drewN {B : Nat} {a w : World} (h : Below B a w) (k : Nat) : Below B a (w.drewN k) := ⟨h.os, h.tape, h.output, h.size, h.block⟩
theorem bitLen_two {h l : Int} (a : Word h) (b : Word l) (h0 : 0 < h) : bitLen (h * 18446744073709551616 + l).toNat = 64 + bitLen h.toNat := by
  obtain ⟨u1, u2⟩ := a; obtain ⟨u3, u4⟩ := b
  have e : (h * 18446744073709551616 + l).toNat / 2 ^ 64 = h.toNat := by omega
  have := bitLen_shift (h * 18446744073709551616 + l).toNat 64 (by omega)
  rw [this, e]
theorem bitLen_le {n k : Nat} (h : n < 2 ^ k) : bitLen n ≤ k := by
  unfold bitLen
  split
  · omega
  · rename_i h0
    have := (Nat.log2_lt h0).2 h
    omega
end Go.Proofs.YtjhekemgcmhjoabDoor
