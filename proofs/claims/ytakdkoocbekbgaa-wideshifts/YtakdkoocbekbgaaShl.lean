/- What the function Shift of package wide answers. -/
import Derived.Test.YtakdkoocbekbgaaBits
namespace Go.Proofs.Ytakdkoocbekbgaa
open Go.ChangeShapes Go.WideShapes Go.ChangeAt Go.RowKit

theorem or_zero (x : Int) (a : Word x) : bits .or .u64 x 0 = x := by
  obtain ⟨u1, u2⟩ := a
  obtain ⟨n, rfl⟩ := Int.eq_ofNat_of_zero_le u1
  have := bits_or_u64_nat n 0 (by omega) (by decide)
  simpa using this
theorem zero_or (x : Int) (a : Word x) : bits .or .u64 0 x = x := by
  obtain ⟨u1, u2⟩ := a
  obtain ⟨n, rfl⟩ := Int.eq_ofNat_of_zero_le u1
  have := bits_or_u64_nat 0 n (by decide) (by omega)
  simpa using this
theorem or_self (x : Int) (a : Word x) : bits .or .u64 x x = x := by
  obtain ⟨u1, u2⟩ := a
  obtain ⟨n, rfl⟩ := Int.eq_ofNat_of_zero_le u1
  have := bits_or_u64_nat n n (by omega) (by omega)
  simpa using this
theorem or_low {a b : Int} {k : Nat} (a0 : 0 ≤ a) (a1 : a < 2 ^ k) (b0 : 0 ≤ b) (b1 : b * 2 ^ k < 18446744073709551616) (hk : k ≤ 63) : bits .or .u64 a (b * 2 ^ k) = a + b * 2 ^ k := by
  obtain ⟨a, rfl⟩ := Int.eq_ofNat_of_zero_le a0
  obtain ⟨b, rfl⟩ := Int.eq_ofNat_of_zero_le b0
  have e : ((b * 2 ^ k : Nat) : Int) = (b : Int) * 2 ^ k := by push_cast; rfl
  have e2 : ((2 ^ k : Nat) : Int) = (2 : Int) ^ k := by push_cast; rfl
  have h64 : 2 ^ k ≤ 2 ^ 63 := Nat.pow_le_pow_right (by decide) hk
  rw [← e] at b1 ⊢
  rw [← e2] at a1
  rw [or_u64 a b k (by omega) (by omega) (by omega)]
  push_cast
  rfl
theorem gone {x : Int} (a : Word x) : x / 18446744073709551616 = 0 := Int.ediv_eq_zero_of_lt a.lo a.hi
theorem wrap_gone (x : Int) : IntKind.u64.wrap (x * 18446744073709551616) = 0 := by rw [IntKind.wrap_u64]; omega
theorem wrap_word {x : Int} (a : Word x) : IntKind.u64.wrap x = x := by have := a.lo; have := a.hi; rw [IntKind.wrap_u64]; omega
theorem cnt_lo {k : Nat} (h : k ≤ 63) : min (IntKind.u64.wrap ((k : Int) - 64)).toNat 64 = 64 := by rw [IntKind.wrap_u64]; omega
/-- The shift to the right by less than 64. -/
theorem shr_small {ah al : Int} {k : Nat} (a : Word ah) (b : Word al) (k1 : k ≤ 63) :
    bits .or .u64 (bits .or .u64 (al / 2 ^ k) (ah / 18446744073709551616)) (IntKind.u64.wrap (ah * 2 ^ (64 - k))) = (wv ah al / 2 ^ k) % 18446744073709551616 ∧ ah / 2 ^ k = (wv ah al / 2 ^ k) / 18446744073709551616 := by
  have p := pow2_pos k
  have q := pow2_pos (64 - k)
  have hs := pow2_split (k := k) (by omega)
  have hb := div_small (j := k) b
  have hlt : al / 2 ^ k < 2 ^ (64 - k) := Int.ediv_lt_of_lt_mul p (by rw [Int.mul_comm, hs]; exact b.hi)
  have hm0 := Int.emod_nonneg ah (show (2 : Int) ^ k ≠ 0 by omega)
  have hm1 := Int.emod_lt_of_pos ah p
  have hsp := Int.mul_ediv_add_emod ah (2 ^ k)
  have ev : wv ah al / 2 ^ k = ah * 2 ^ (64 - k) + al / 2 ^ k := by
    unfold wv
    have : ah * 18446744073709551616 + al = al + 2 ^ k * (ah * 2 ^ (64 - k)) := by rw [← hs]; grind
    rw [this, Int.add_mul_ediv_left _ _ (by omega)]
    omega
  have ea : ah * 2 ^ (64 - k) = ah / 2 ^ k * 18446744073709551616 + ah % 2 ^ k * 2 ^ (64 - k) := by
    generalize ah / 2 ^ k = d at *
    generalize ah % 2 ^ k = e at *
    rw [← hsp, ← hs]
    grind
  have hx1 : ah % 2 ^ k * 2 ^ (64 - k) + 2 ^ (64 - k) ≤ 18446744073709551616 := by
    rw [← hs]
    have := Int.mul_le_mul_of_nonneg_right (show ah % 2 ^ k + 1 ≤ 2 ^ k by omega) (Int.le_of_lt q)
    grind
  have hx0 : 0 ≤ ah % 2 ^ k * 2 ^ (64 - k) := Int.mul_nonneg hm0 (by omega)
  have ew : IntKind.u64.wrap (ah * 2 ^ (64 - k)) = ah % 2 ^ k * 2 ^ (64 - k) := by rw [IntKind.wrap_u64, ea]; omega
  have g := gone a
  rw [ew, g, or_zero _ ⟨hb.1, hb.2⟩, ev, ea]
  by_cases k0 : k = 0
  · subst k0
    simp at *
    rw [or_zero _ b]
    have := b.lo; have := b.hi
    omega
  · rw [or_low hb.1 hlt hm0 (by omega) (by omega)]
    omega
set_option maxHeartbeats 1600000 in
theorem right_is {ah al H L : Int} {k : Nat} {w : World} (a : Word ah) (b : Word al) (k0 : 1 ≤ k) (k1 : k ≤ 9223372036854775808) (h1 : Word H) (h2 : Word L) (h : wv H L = wv ah al / 2 ^ k) :
    Calls Try.prog 44 #[.agg #[.int .u64 ah, .int .u64 al], .int .u64 k] w fun e w' => e = .returned (.agg #[.int .u64 H, .int .u64 L]) ∧ Below w.heap.size w w' := by
  have hH : H = (wv ah al / 2 ^ k) / 18446744073709551616 := by rw [← h]; unfold wv; have := h2.lo; have := h2.hi; omega
  have hL : L = (wv ah al / 2 ^ k) % 18446744073709551616 := by rw [← h]; unfold wv; have := h2.lo; have := h2.hi; omega
  obtain ⟨u1, u2⟩ := id a; obtain ⟨u3, u4⟩ := id b
  by_cases c1 : k ≤ 63
  · obtain ⟨e1, e2⟩ := shr_small a b c1
    rw [← hL] at e1
    rw [← hH] at e2
    have e3 := cnt_lo c1
    clear hH hL h
    go_enter Try.func44, Try.ntmps44
    go_wp2
    exact bodyPost_ret (v := .agg #[.int .u64 H, .int .u64 L]) (by simp [results, Try.results44, go_sem]) rfl ⟨rfl, ba (ba (Below.refl _ _) _) _⟩
  · have g1 := gone a
    have g2 := gone b
    have hk : (64 : Int) ≤ k := by omega
    obtain ⟨j, hj⟩ : ∃ j, k = 64 + j := ⟨k - 64, by omega⟩
    have hd := div_small (j := j) a
    rw [hj, bit_hi j b] at hH hL
    have eH : H = 0 := by omega
    have eL : ah / 2 ^ j = L := by omega
    subst eH
    clear hH hL h
    by_cases j0 : j = 0
    · subst j0
      subst hj
      simp at eL
      subst eL
      have o1 := zero_or ah a
      have o2 := or_self ah a
      clear hk
      go_enter Try.func44, Try.ntmps44
      go_wp2
      exact bodyPost_ret (v := .agg #[.int .u64 0, .int .u64 ah]) (by simp [results, Try.results44, go_sem]) rfl ⟨rfl, ba (ba (Below.refl _ _) _) _⟩
    · have em : min k 64 = 64 := by omega
      have e3 : min (IntKind.u64.wrap (64 - (k : Int))).toNat 64 = 64 := by rw [IntKind.wrap_u64]; omega
      have w1 := wrap_gone ah
      obtain ⟨m, em2⟩ : ∃ m, min (k - 64) 64 = m := ⟨_, rfl⟩
      have eM : ah / 2 ^ m = L := by
        by_cases j1 : j ≤ 63
        · rw [← eL]; congr 2; omega
        · have : m = 64 := by omega
          subst this
          rw [← eL, Int.ediv_eq_zero_of_lt a.lo (show ah < 2 ^ j from Int.lt_of_lt_of_le a.hi (pow2_le (show 64 ≤ j by omega)))]
          exact gone a
      have o1 := zero_or L h2
      have o2 := or_zero L h2
      clear eL hj
      go_enter Try.func44, Try.ntmps44
      go_wp2
      exact bodyPost_ret (v := .agg #[.int .u64 0, .int .u64 L]) (by simp [results, Try.results44, go_sem]) rfl ⟨rfl, ba (ba (Below.refl _ _) _) _⟩
theorem mul_pow_lt {x : Int} {j : Nat} (x0 : 0 ≤ x) : x ≤ x * 2 ^ j := by
  have := Int.mul_le_mul_of_nonneg_left (show (1 : Int) ≤ 2 ^ j by have := pow2_pos j; omega) x0
  omega
set_option maxHeartbeats 1600000 in
theorem left_is {ah al H L : Int} {k : Nat} {w : World} (a : Word ah) (b : Word al) (k1 : k ≤ 127) (h1 : Word H) (h2 : Word L) (h : wv H L = wv ah al * 2 ^ k) :
    Calls Try.prog 45 #[.agg #[.int .u64 ah, .int .u64 al], .int .u64 k] w fun e w' => e = .returned (.agg #[.int .u64 H, .int .u64 L]) ∧ Below w.heap.size w w' := by
  have hv := wv_hi h1 h2
  have p := pow2_pos k
  rw [h] at hv
  have hH : H = (wv ah al * 2 ^ k) / 18446744073709551616 := by rw [← h]; unfold wv; have := h2.lo; have := h2.hi; omega
  have hL : L = (wv ah al * 2 ^ k) % 18446744073709551616 := by rw [← h]; unfold wv; have := h2.lo; have := h2.hi; omega
  obtain ⟨u1, u2⟩ := id a; obtain ⟨u3, u4⟩ := id b
  have es : wv ah al * 2 ^ k = ah * 2 ^ k * 18446744073709551616 + al * 2 ^ k := by unfold wv; grind
  have n1 : 0 ≤ ah * 2 ^ k := Int.mul_nonneg u1 (by omega)
  have n2 : 0 ≤ al * 2 ^ k := Int.mul_nonneg u3 (by omega)
  have g2 := gone b
  have w1 := wrap_gone al
  have w2 := wrap_gone ah
  by_cases c1 : k ≤ 63
  · obtain ⟨e1, e2⟩ := shl_or (hi := ah) (lo := al) (k := k) c1 u1 (by rw [es] at hv; omega) u3 u4
    have wn : Word (ah * 2 ^ k) := ⟨n1, by rw [es] at hv; omega⟩
    have e4 := wrap_word wn
    have hq : IntKind.u64.wrap (al * 2 ^ k) = L := by rw [hL, es, IntKind.wrap_u64]; omega
    have hx : ah * 2 ^ k + al / 2 ^ (64 - k) = H := by
      rw [hq] at e2
      have e5 : (ah * 18446744073709551616 + al) * 2 ^ k = wv H L := by rw [h]; rfl
      rw [e5] at e2
      unfold wv at e2
      omega
    rw [hx] at e1
    have e3 := cnt_lo c1
    have o1 := or_zero (IntKind.u64.wrap (ah * 2 ^ k)) (by rw [e4]; exact wn)
    clear hH hL h hv es e2 hx n1 n2 wn e4
    by_cases k0 : k = 0
    · subst k0
      simp at e1 hq o1
      rw [wrap_word a, g2, or_zero _ a] at e1
      rw [wrap_word b] at hq
      subst e1 hq
      have e0 : min (IntKind.u64.wrap (-64)).toNat 64 = 64 := by rw [IntKind.wrap_u64]; decide
      have o3 := or_zero ah a
      clear e3 o1 p
      go_enter Try.func45, Try.ntmps45
      go_wp2
      exact bodyPost_ret (v := .agg #[.int .u64 ah, .int .u64 al]) (by simp [results, Try.results45, go_sem]) rfl ⟨rfl, ba (ba (Below.refl _ _) _) _⟩
    · go_enter Try.func45, Try.ntmps45
      go_wp2
      exact bodyPost_ret (v := .agg #[.int .u64 H, .int .u64 L]) (by simp [results, Try.results45, go_sem]) rfl ⟨rfl, ba (ba (Below.refl _ _) _) _⟩
  · have hk : (64 : Int) ≤ k := by omega
    obtain ⟨j, hj⟩ : ∃ j, k = 64 + j := ⟨k - 64, by omega⟩
    have ep : (2 : Int) ^ k = 18446744073709551616 * 2 ^ j := by rw [hj, Int.pow_add]; rfl
    have ez : ah = 0 := by
      refine Int.le_antisymm (Int.not_lt.mp fun hn => ?_) u1
      rw [es] at hv
      have : ah ≤ ah * 2 ^ j := mul_pow_lt u1
      have e6 : ah * 2 ^ k = 18446744073709551616 * (ah * 2 ^ j) := by rw [ep]; grind
      rw [e6] at hv
      omega
    have e7 : al * 2 ^ k = 18446744073709551616 * (al * 2 ^ j) := by rw [ep]; grind
    rw [es, e7, ez] at hH hL
    have n3 : 0 ≤ al * 2 ^ j := Int.mul_nonneg u3 (by have := pow2_pos j; omega)
    have eH : al * 2 ^ j = H := by omega
    have eL : L = 0 := by omega
    subst eL
    clear hH hL h es n1 n2 e7 hv
    by_cases j0 : j = 0
    · subst j0
      subst hj
      simp at eH
      subst eH
      have o1 := zero_or al b
      have o2 := or_self al b
      clear hk ep
      go_enter Try.func45, Try.ntmps45
      go_wp2
      exact bodyPost_ret (v := .agg #[.int .u64 al, .int .u64 0]) (by simp [results, Try.results45, go_sem]) rfl ⟨rfl, ba (ba (Below.refl _ _) _) _⟩
    · have em : min k 64 = 64 := by omega
      have e3 : min (IntKind.u64.wrap (64 - (k : Int))).toNat 64 = 64 := by rw [IntKind.wrap_u64]; omega
      have em2 : k - 64 = j := by omega
      have eW : IntKind.u64.wrap (al * 2 ^ j) = H := by rw [eH]; exact wrap_word h1
      have o1 := zero_or H h1
      have o2 := or_zero H h1
      clear eH hj ep
      go_enter Try.func45, Try.ntmps45
      go_wp2
      exact bodyPost_ret (v := .agg #[.int .u64 H, .int .u64 0]) (by simp [results, Try.results45, go_sem]) rfl ⟨rfl, ba (ba (Below.refl _ _) _) _⟩
end Go.Proofs.Ytakdkoocbekbgaa
