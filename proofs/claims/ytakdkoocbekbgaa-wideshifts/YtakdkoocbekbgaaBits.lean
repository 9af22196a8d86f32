/- What the document's Bit and Bits answer. -/
import Derived.Test.YtakdkoocbekbgaaRef2
namespace Go.Proofs.Ytakdkoocbekbgaa
open Go.ChangeShapes Go.WideShapes Go.ChangeAt Go.RowKit
attribute [local go_sem] World.cell?_alloc_some
def bitB (n : Int) (i : Nat) : Bool := n / 2 ^ i % 2 == 1
theorem and1 (z : Int) (h0 : 0 ≤ z) (h1 : z < 18446744073709551616) : bits .and .u64 z 1 = z % 2 := by go_bits2
theorem div_small {x : Int} {j : Nat} (h : Word x) : 0 ≤ x / 2 ^ j ∧ x / 2 ^ j < 18446744073709551616 :=
  ⟨Int.ediv_nonneg h.lo (Int.le_of_lt (pow2_pos j)), by have := Int.ediv_le_self (2 ^ j) h.lo; have := h.hi; omega⟩
theorem bit_hi {h l : Int} (j : Nat) (b : Word l) : wv h l / 2 ^ (64 + j) = h / 2 ^ j := by
  have e : (2 : Int) ^ (64 + j) = 18446744073709551616 * 2 ^ j := by rw [Int.pow_add]; rfl
  obtain ⟨u3, u4⟩ := b
  rw [e, ← Int.ediv_ediv_of_nonneg (by decide)]
  congr 1
  unfold wv
  omega
theorem bit_lo {h l : Int} (j : Nat) (hj : j < 64) : wv h l / 2 ^ j % 2 = l / 2 ^ j % 2 := by
  have e : (18446744073709551616 : Int) = 2 ^ j * (2 * 2 ^ (63 - j)) := by
    have := pow2_split (k := j) (by omega)
    rw [← this, show 64 - j = (63 - j) + 1 by omega, Int.pow_succ, Int.mul_comm (2 ^ (63 - j)) 2]
  unfold wv
  have e2 : h * 18446744073709551616 + l = l + 2 ^ j * (2 * (h * 2 ^ (63 - j))) := by
    rw [e]; generalize (2 : Int) ^ j = p; generalize (2 : Int) ^ (63 - j) = q; grind
  rw [e2, Int.add_mul_ediv_left _ _ (by have := pow2_pos j; omega)]
  omega
theorem refBit {ah al n : Int} {i : Nat} {t : Bool} {w : World} (a : Word ah) (b : Word al) (hn : n = i) (hi : i < 128) (h : Hid (bitB (wv ah al) i = t)) :
    Calls Try.prog 38 #[.agg #[.int .u64 ah, .int .u64 al], .int .i64 n] w fun e w' => e = .returned (.bool t) ∧ Below w.heap.size w w' := by
  subst hn
  rw [← h.out]
  clear h
  by_cases h64 : i < 64
  · obtain ⟨x, ex⟩ : ∃ x, al / 2 ^ i = x := ⟨_, rfl⟩
    have xb := div_small (j := i) b
    rw [ex] at xb
    have e1 := and1 x xb.1 xb.2
    have hr : bitB (wv ah al) i = (x % 2 == 1) := by unfold bitB; rw [bit_lo i h64, ex]
    rw [hr]
    clear hr
    go_enter Try.func38, Try.ntmps38
    go_wp2
    go_ret
    exact ⟨rfl, ba (Below.refl _ _) _⟩
  · obtain ⟨j, rfl⟩ : ∃ j, i = 64 + j := ⟨i - 64, by omega⟩
    obtain ⟨x, ex⟩ : ∃ x, ah / 2 ^ j = x := ⟨_, rfl⟩
    have xb := div_small (j := j) a
    rw [ex] at xb
    have e1 := and1 x xb.1 xb.2
    have hr : bitB (wv ah al) (64 + j) = (x % 2 == 1) := by unfold bitB; rw [bit_hi j b, ex]
    rw [hr]
    clear hr
    go_enter Try.func38, Try.ntmps38
    go_wp2
    go_ret
    exact ⟨rfl, ba (Below.refl _ _) _⟩
theorem bit_top {n : Int} {k : Nat} (h0 : 0 ≤ n) (h : n < 2 ^ (k + 1)) : bitB n k = decide ((2 : Int) ^ k ≤ n) := by
  unfold bitB
  have p := pow2_pos k
  rw [Int.pow_succ] at h
  by_cases hc : (2 : Int) ^ k ≤ n
  · have e : n / 2 ^ k = 1 := by
      have h1 : n / 2 ^ k < 2 := Int.ediv_lt_of_lt_mul p (by omega)
      have h2 : 1 ≤ n / 2 ^ k := Int.le_ediv_of_mul_le p (by omega)
      omega
    rw [e, decide_eq_true hc]; rfl
  · rw [Int.ediv_eq_zero_of_lt h0 (by omega), decide_eq_false hc]; rfl
theorem bitLen_eq {n : Int} {k : Nat} (h0 : 0 ≤ n) (h1 : n < 2 ^ (k + 1)) (h2 : (2 : Int) ^ k ≤ n) : bitLen n.toNat = k + 1 := by
  obtain ⟨m, rfl⟩ := Int.eq_ofNat_of_zero_le h0
  have e1 : ((2 ^ (k + 1) : Nat) : Int) = (2 : Int) ^ (k + 1) := by push_cast; rfl
  have e2 : ((2 ^ k : Nat) : Int) = (2 : Int) ^ k := by push_cast; rfl
  have p := Nat.two_pow_pos k
  simp only [Int.toNat_natCast]
  unfold bitLen
  have e : m.log2 = k := (Nat.log2_eq_iff (by omega)).2 ⟨by omega, by omega⟩
  rw [if_neg (by omega), e]
set_option maxHeartbeats 1600000 in
theorem refBits {ah al k : Int} {w : World} (a : Word ah) (b : Word al) (h : Hid (k = bitLen (wv ah al).toNat)) :
    Calls Try.prog 17 #[.agg #[.int .u64 ah, .int .u64 al]] w fun e w' => e = .returned (.int .i64 k) ∧ Below w.heap.size w w' := by
  rw [h.out]
  clear h
  have n0 := wv_lo a b
  go_enter Try.func17, Try.ntmps17
  go_wp2
  go_loopw [3] (fun nv wr => ∃ k : Nat, nv = .int .i64 k ∧ k ≤ 128 ∧ Hid (wv ah al < 2 ^ k) ∧ Below w.heap.size w wr ∧ wr.cell? ⟨w.heap.size, 0, none⟩ = some (.int .u64 ah) ∧ wr.cell? ⟨w.heap.size, 1, none⟩ = some (.int .u64 al)) (fun nv _ => (intOf nv).toNat)
  case atStart => exact ⟨128, rfl, by omega, wv_hi a b, ba (Below.refl _ _) _, by simp, by simp⟩
  case round =>
    obtain ⟨k, rfl, hk, HV, hbel, c0, c1⟩ := hrel
    by_cases hz : k = 0
    · subst hz
      have hv := HV.out
      have e : wv ah al = 0 := by omega
      go_wp2
      go_ret
      exact ⟨by rw [e]; rfl, hbel⟩
    · obtain ⟨j, rfl⟩ : ∃ j, k = j + 1 := ⟨k - 1, by omega⟩
      have ht := bit_top n0 HV.out
      by_cases hc : (2 : Int) ^ j ≤ wv ah al
      · rw [decide_eq_true hc] at ht
        have HT : Hid (bitB (wv ah al) j = true) := ht
        have HE : Hid (bitLen (wv ah al).toNat = j + 1) := bitLen_eq n0 HV.out hc
        clear ht hc HV
        go_wp2_with (go_at_call 38; refine (refBit (i := j) a b (by omega) (by omega) HT).mono ?_; rintro e w1 ⟨rfl, b1⟩)
        go_ret
        exact ⟨by rw [HE.out]; rfl, bt hbel b1⟩
      · rw [decide_eq_false hc] at ht
        have HT : Hid (bitB (wv ah al) j = false) := ht
        have HV' : Hid (wv ah al < 2 ^ j) := by show wv ah al < 2 ^ j; omega
        clear ht hc HV
        go_wp2_with (go_at_call 38; refine (refBit (i := j) a b (by omega) (by omega) HT).mono ?_; rintro e w1 ⟨rfl, b1⟩)
        go_roundw
        case rel => exact ⟨j, by go_num, by omega, HV', bt hbel b1, kc c0 b1, kc c1 b1⟩
        case measure => simp [intOf]
end Go.Proofs.Ytakdkoocbekbgaa
