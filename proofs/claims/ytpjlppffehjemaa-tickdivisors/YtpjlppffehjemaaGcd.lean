/- What amount and Gcd of package tick answer, at every pair of 64-bit integers. -/
import Derived.Test.YtpjlppffehjemaaTick
import Derived.Deep.QuietTactic
import Derived.BigQuiet
namespace Go.Proofs.Ytpjlppffehjemaa
open Go.ChangeShapes Go.WideShapes Go.ChangeAt Go.RowKit
theorem xor_ones (x : Int) (h0 : 0 ≤ x) (h1 : x < 18446744073709551616) : bits .xor .u64 x 18446744073709551615 = 18446744073709551615 - x := by
  show IntKind.u64.wrap ((BitVec.ofInt 64 x ^^^ BitVec.ofInt 64 18446744073709551615).toNat : Int) = _
  have e : BitVec.ofInt 64 18446744073709551615 = BitVec.allOnes 64 := by decide
  rw [e, BitVec.xor_allOnes, BitVec.toNat_not, BitVec.toNat_ofInt, IntKind.wrap_u64]
  omega
theorem xor_zero (x : Int) (h0 : 0 ≤ x) (h1 : x < 18446744073709551616) : bits .xor .u64 x 0 = x := by
  show IntKind.u64.wrap ((BitVec.ofInt 64 x ^^^ BitVec.ofInt 64 0).toNat : Int) = _
  have e : BitVec.ofInt 64 0 = 0#64 := by decide
  rw [e, BitVec.xor_zero, BitVec.toNat_ofInt, IntKind.wrap_u64]
  omega
theorem amount_any (n : Int) (w : World) (a1 : -9223372036854775808 ≤ n) (a2 : n ≤ 9223372036854775807) :
    Calls Try.prog 33 #[.int .i64 n] w fun e w' => e = .returned (.int .u64 (n.natAbs : Int)) ∧ w' = w := by
  by_cases h : n < 0
  · go_enter Try.func33, Try.ntmps33
    go_wp2
    go_ret
    refine ⟨ret1 ?_, rfl⟩
    have e1 : n / 9223372036854775808 = -1 := by omega
    have e2 : IntKind.u64.wrap n = n + 18446744073709551616 := by rw [IntKind.wrap_u64]; omega
    have e3 : IntKind.u64.wrap (-1) = 18446744073709551615 := by decide
    rw [e1, e2, e3, xor_ones _ (by omega) (by omega), IntKind.wrap_u64]
    omega
  · go_enter Try.func33, Try.ntmps33
    go_wp2
    go_ret
    refine ⟨ret1 ?_, rfl⟩
    have e1 : n / 9223372036854775808 = 0 := by omega
    rw [e1, xor_zero _ (by omega) (by omega), IntKind.wrap_u64]
    omega
theorem gcd_any (a b : Int) (w : World) (a1 : -9223372036854775808 ≤ a) (a2 : a ≤ 9223372036854775807) (b1 : -9223372036854775808 ≤ b) (b2 : b ≤ 9223372036854775807) :
    Calls Try.prog 21 #[.int .i64 a, .int .i64 b] w fun e w' => e = .returned (.int .u64 (Nat.gcd a.natAbs b.natAbs : Nat)) ∧ ∃ k, w' = w.drewN k := by
  go_enter Try.func21, Try.ntmps21
  go_wp2_with (go_at_call 33; refine (amount_any _ _ (by omega) (by omega)).mono ?_; rintro e w' ⟨rfl, rfl⟩)
  go_loopw [5, 6] (fun xv yv wq => ∃ (x y k : Nat), xv = .int .u64 x ∧ yv = .int .u64 y ∧ x < 18446744073709551616 ∧ y < 18446744073709551616 ∧ Hid (Nat.gcd x y = Nat.gcd a.natAbs b.natAbs) ∧ wq = w'.drewN k)
    (fun _ yv _ => (intOf yv).toNat)
  case atStart => exact ⟨_, _, 0, rfl, rfl, by omega, by omega, rfl, rfl⟩
  case round =>
    obtain ⟨x, y, k, rfl, rfl, hx, hy, HG, rfl⟩ := hrel
    by_cases h : y = 0
    · subst h
      go_wp2
      go_ret
      refine ⟨ret1 ?_, k, rfl⟩
      have := HG.out
      rw [Nat.gcd_zero_right] at this
      rw [this]
    · have h0 : 0 < y := by omega
      have hm := Nat.mod_lt x h0
      have HG' : Hid (Nat.gcd y (x % y) = Nat.gcd a.natAbs b.natAbs) := by
        show Nat.gcd y (x % y) = Nat.gcd a.natAbs b.natAbs
        rw [Nat.gcd_comm y (x % y), ← Nat.gcd_rec y x, Nat.gcd_comm y x]
        exact HG.out
      go_wp2
      go_region
      all_goals

        go_roundw
        case rel => 
          first | exact ⟨y, x % y, k + 1, rfl, by go_num, by omega, by omega, HG', rfl⟩ | ((repeat apply Exists.intro); exact ⟨⟨y, x % y, k + 1, rfl, by go_num, by omega, by omega, HG', rfl⟩, rfl⟩)
        case measure => simp [intOf]; omega
theorem grown_drewN (w : World) (k : Nat) : Grown w (w.drewN k) := by
  induction k with
  | zero => exact Grown.refl _
  | succ k ih => exact Grown.drew ih
end Go.Proofs.Ytpjlppffehjemaa
