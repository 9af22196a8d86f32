/- What Div and Bits of package wide answer. -/
import Derived.Test.YtakdkoocbekbgaaDiv
namespace Go.Proofs.Ytakdkoocbekbgaa
open Go.ChangeShapes Go.WideShapes Go.ChangeAt Go.RowKit
theorem div_un {N y q r : Int} (hy : 0 < y) (h : N = q * y + r) (r0 : 0 ≤ r) (r1 : r < y) : N / y = q ∧ N % y = r := by
  constructor
  · rw [h, Int.add_comm, Int.add_mul_ediv_right _ _ (by omega), Int.ediv_eq_zero_of_lt r0 r1]; omega
  · rw [h, Int.add_comm, Int.add_mul_emod_self_right, Int.emod_eq_of_lt r0 r1]
theorem div64_is {hi lo y q r : Int} {w : World} (h0 : 0 ≤ hi) (h1 : hi < y) (l : Word lo) (y1 : y < 18446744073709551616) (h : Hid (hi * 18446744073709551616 + lo = q * y + r)) (r0 : 0 ≤ r) (r1 : r < y) :
    Calls Try.prog 42 #[.int .u64 hi, .int .u64 lo, .int .u64 y] w fun e w' => e = .returned (.tuple #[.int .u64 q, .int .u64 r]) ∧ ∃ k, w' = w.drewN k := by
  obtain ⟨e1, e2⟩ := div_un (by omega) h.out r0 r1
  by_cases hz : hi = 0
  · subst hz
    have := div0 lo y w l.lo l.hi (by omega) y1
    rw [Int.zero_mul, Int.zero_add] at e1 e2
    rw [e1, e2] at this
    exact this
  · have := div1 hi lo y w (by omega) h1 l.lo l.hi y1
    rw [e1, e2] at this
    exact this
theorem div_parts {ah al n H L r : Int} (a : Word ah) (b : Word al) (n0 : 0 < n) (h1 : Word H) (h2 : Word L) (h : ah * 18446744073709551616 + al = (H * 18446744073709551616 + L) * n + r) (r0 : 0 ≤ r) (r1 : r < n) :
    ah / n = H ∧ ah % n * 18446744073709551616 + al = L * n + r ∧ 0 ≤ ah % n ∧ ah % n < n := by
  obtain ⟨e1, e2⟩ := div_un n0 h r0 r1
  obtain ⟨u1, u2⟩ := a; obtain ⟨u3, u4⟩ := b; obtain ⟨u5, u6⟩ := h1; obtain ⟨u7, u8⟩ := h2
  have e3 : (ah * 18446744073709551616 + al) / 18446744073709551616 = ah := by omega
  have e4 : ah / n = H := by
    have e5 : (ah * 18446744073709551616 + al) / 18446744073709551616 / n = (ah * 18446744073709551616 + al) / n / 18446744073709551616 := by
      rw [Int.ediv_ediv_of_nonneg (by decide), Int.ediv_ediv_of_nonneg (by omega), Int.mul_comm n]
    rw [e3, e1] at e5
    omega
  have e6 := Int.mul_ediv_add_emod ah n
  refine ⟨e4, ?_, Int.emod_nonneg _ (by omega), Int.emod_lt_of_pos _ n0⟩
  rw [e4] at e6
  have e7 : (H * 18446744073709551616 + L) * n = n * H * 18446744073709551616 + L * n := by grind
  rw [e7] at h
  generalize n * H = x at *
  generalize L * n = z at *
  omega
/-- wide.Div by 0. -/
theorem wdiv_no {ah al : Int} {w : World} :
    Calls Try.prog 20 #[.agg #[.int .u64 ah, .int .u64 al], .int .u64 0] w fun e w' => e = .returned (.tuple #[.agg #[.int .u64 0, .int .u64 0], .int .u64 0, .bool false]) ∧ Below w.heap.size w w' := by
  go_enter Try.func20, Try.ntmps20
  go_wp2
  exact bodyPost_ret (v := .tuple #[.agg #[.int .u64 0, .int .u64 0], .int .u64 0, .bool false]) (by simp [results, Try.results20, go_sem]) rfl ⟨rfl, ba (ba (Below.refl _ _) _) _⟩
theorem below_drewN {B : Nat} {a w : World} (h : Below B a w) (k : Nat) : Below B a (w.drewN k) := ⟨h.os, h.tape, h.output, h.size, h.block⟩
/-- wide.Div: the quotient's halves and the rest. -/
theorem wdiv_yes {ah al n H L r : Int} {w : World} (a : Word ah) (b : Word al) (n0 : 0 < n) (n1 : n < 18446744073709551616) (h1 : Word H) (h2 : Word L) (h : Hid (ah * 18446744073709551616 + al = (H * 18446744073709551616 + L) * n + r)) (r0 : 0 ≤ r) (r1 : r < n) :
    Calls Try.prog 20 #[.agg #[.int .u64 ah, .int .u64 al], .int .u64 n] w fun e w' => e = .returned (.tuple #[.agg #[.int .u64 H, .int .u64 L], .int .u64 r, .bool true]) ∧ Below w.heap.size w w' := by
  obtain ⟨e1, e2, e3, e4⟩ := div_parts a b n0 h1 h2 h.out r0 r1
  obtain ⟨u1, u2⟩ := id a; obtain ⟨u3, u4⟩ := id b
  obtain ⟨x, hx⟩ : ∃ x, ah % n = x := ⟨_, rfl⟩
  rw [hx] at e2 e3 e4
  have E2 : Hid (x * 18446744073709551616 + al = L * n + r) := e2
  clear h e2
  go_enter Try.func20, Try.ntmps20
  go_wp2
  go_quiet ((go_at_call 42; exact Calls.quiet_of (div64_is e3 e4 b n1 E2 r0 r1)))
  go_wp2
  exact bodyPost_ret (v := .tuple #[.agg #[.int .u64 H, .int .u64 L], .int .u64 r, .bool true]) (by simp [results, Try.results20, go_sem]) rfl ⟨rfl, ((below_drewN (ba (ba (Below.refl _ _) _) _) _).setCell (by simp) _).setCell (by simp) _⟩
theorem bitLen_two {h l : Int} (a : Word h) (b : Word l) (h0 : 0 < h) : bitLen (h * 18446744073709551616 + l).toNat = 64 + bitLen h.toNat := by
  obtain ⟨u1, u2⟩ := a; obtain ⟨u3, u4⟩ := b
  have e : (h * 18446744073709551616 + l).toNat / 2 ^ 64 = h.toNat := by omega
  have := bitLen_shift (h * 18446744073709551616 + l).toNat 64 (by omega)
  rw [this, e]
theorem bitLen_le {n k : Nat} (h : n < 2 ^ k) : bitLen n ≤ k := by
  unfold bitLen
  split
  · omega
  · rename_i h0
    have := (Nat.log2_lt h0).2 h
    omega
/-- wide.Bits. -/
theorem wbits {ah al k : Int} {w : World} (a : Word ah) (b : Word al) (h : Hid (k = bitLen (ah * 18446744073709551616 + al).toNat)) :
    Calls Try.prog 16 #[.agg #[.int .u64 ah, .int .u64 al]] w fun e w' => e = .returned (.int .i64 k) ∧ Below w.heap.size w w' := by
  rw [h.out]
  clear h
  obtain ⟨u1, u2⟩ := id a; obtain ⟨u3, u4⟩ := id b
  by_cases hz : ah = 0
  · subst hz
    rw [Int.zero_mul, Int.zero_add]
    go_enter Try.func16, Try.ntmps16
    go_wp2_with (go_at_call 37; refine (len_any al _ u3 u4).mono ?_; rintro e wx ⟨rfl, hw⟩; rw [hw]; clear hw)
    go_ret
    exact ⟨rfl, ba (Below.refl _ _) _⟩
  · rw [bitLen_two a b (by omega)]
    have hz' : (ah != 0) = true := by simpa using hz
    have hb : bitLen ah.toNat ≤ 64 := bitLen_le (by omega)
    clear hz
    go_enter Try.func16, Try.ntmps16
    go_wp2_with (go_at_call 37; refine (len_any ah _ u1 u2).mono ?_; rintro e wx ⟨rfl, hw⟩; rw [hw]; clear hw)
    go_ret
    exact ⟨ret1 (by omega), ba (Below.refl _ _) _⟩
end Go.Proofs.Ytakdkoocbekbgaa
