/- The word with which bytes begin. -/
import Derived.Test.YtdegekoobgoekaaDoorFrame
import Derived.Test.YtdegekoobgoekaaDoorCut
namespace Go.Proofs.YtdegekoobgoekaaDoor
open Go.ChangeShapes Go.WideShapes Go.ChangeAt Go.RowKit

theorem or_add (i a b : Nat) (h : b < 2 ^ i) : b ||| a * 2 ^ i = b + a * 2 ^ i := by
  have := Nat.two_pow_add_eq_or_of_lt h a
  rw [Nat.mul_comm] at this
  rw [Nat.or_comm, ← this, Nat.add_comm]
theorem or32 (i : Nat) (a b : Int) (ha : 0 ≤ a) (hb : 0 ≤ b) (hi : b < 2 ^ i) (hs : a * 2 ^ i < 4294967296) (hb2 : b < 4294967296) : bits .or .u32 b (a * 2 ^ i) = b + a * 2 ^ i := by
  have h0 : 0 ≤ a * 2 ^ i := Int.mul_nonneg ha (by exact Int.le_of_lt (Int.pow_pos (by omega)))
  have := u32_or b (a * 2 ^ i) hb hb2 h0 hs
  rw [this]
  obtain ⟨x, rfl⟩ := Int.eq_ofNat_of_zero_le ha
  obtain ⟨y, rfl⟩ := Int.eq_ofNat_of_zero_le hb
  have e : ((x : Int) * 2 ^ i).toNat = x * 2 ^ i := by
    rw [show ((x : Int) * 2 ^ i) = ((x * 2 ^ i : Nat) : Int) by simp]
    exact Int.toNat_natCast _
  have hy : y < 2 ^ i := by exact_mod_cast hi
  rw [e, Int.toNat_natCast, or_add i x y hy]
  simp
set_option maxHeartbeats 3200000 in
theorem wordof_any (w : World) (v : Value) (bs : List Int) (h : Rd w v bs) (hl : 4 ≤ bs.length) :
    Calls Tryd.prog 24 #[v] w fun e w' => e = .returned (.int .u32 (word bs)) ∧ ∃ k, w' = w.drewN k := by
  obtain ⟨hB, a, cap, rfl, hc, h0, hr⟩ := h
  obtain ⟨b, off, rfl, hlt, hcell⟩ := hr (by omega)
  have c0 := hcell 0 (by omega)
  have c1 := hcell 1 (by omega)
  have c2 := hcell 2 (by omega)
  have c3 := hcell 3 (by omega)
  rw [Nat.add_zero] at c0
  have q0 := hB.at 0
  have q1 := hB.at 1
  have q2 := hB.at 2
  have q3 := hB.at 3
  have HW : Hid (((word bs : Nat) : Int) = bs.getD 0 0 + bs.getD 1 0 * 256 + bs.getD 2 0 * 65536 + bs.getD 3 0 * 16777216) := mkHid (by unfold word; omega)
  generalize bs.getD 0 0 = x0 at *
  generalize bs.getD 1 0 = x1 at *
  generalize bs.getD 2 0 = x2 at *
  generalize bs.getD 3 0 = x3 at *
  have o1 : bits .or .u32 x0 (x1 * 256) = x0 + x1 * 256 := or32 8 x1 x0 q1.1 q0.1 (by omega) (by omega) (by omega)
  have o2 : bits .or .u32 (x0 + x1 * 256) (x2 * 65536) = x0 + x1 * 256 + x2 * 65536 := or32 16 x2 _ q2.1 (by omega) (by omega) (by omega) (by omega)
  have o3 : bits .or .u32 (x0 + x1 * 256 + x2 * 65536) (x3 * 16777216) = x0 + x1 * 256 + x2 * 65536 + x3 * 16777216 := or32 24 x3 _ q3.1 (by omega) (by omega) (by omega) (by omega)
  have hl0 : (0 : Int) < bs.length := by omega
  have hl1 : (1 : Int) < bs.length := by omega
  have hl2 : (2 : Int) < bs.length := by omega
  have hl3 : (3 : Int) < bs.length := by omega
  rw [HW.out]
  clear hcell hr HW hl
  go_enter Tryd.func24, Tryd.ntmps24
  go_wp2
  go_quiet (fail)
  go_wp2
  go_ret
  exact ⟨rfl, _, rfl⟩
end Go.Proofs.YtdegekoobgoekaaDoor
