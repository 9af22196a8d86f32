/- What the function Shift of package wide answers, by every amount. -/
import Derived.Test.YtakdkoocbekbgaaShl
import Derived.Test.YtakdkoocbekbgaaDiv2
namespace Go.Proofs.Ytakdkoocbekbgaa
open Go.ChangeShapes Go.WideShapes Go.ChangeAt Go.RowKit
attribute [local go_sem] World.cell?_alloc_some
theorem wshr {ah al H L : Int} {k : Nat} {w : World} (a : Word ah) (b : Word al) (k0 : 1 ≤ k) (k1 : k ≤ 9223372036854775808) (h : Is (wv ah al / 2 ^ k) H L true) :
    Calls Try.prog 23 #[.agg #[.int .u64 ah, .int .u64 al], .int .i64 (-(k : Int))] w fun e w' => e = .returned (.tuple #[.agg #[.int .u64 H, .int .u64 L], .bool true]) ∧ Below w.heap.size w w' := by
  have hn : -(k : Int) < 0 := by omega
  have eK : IntKind.u64.wrap (wrap64 (k : Int)) = k := by rw [IntKind.wrap_u64]; unfold wrap64; omega
  go_enter Try.func23, Try.ntmps23
  go_wp2_with (go_at_call 44; with_reducible refine (right_is (k := k) a b k0 k1 h.h h.l (h.yes rfl)).mono ?_; rintro e w1 ⟨rfl, b1⟩; have f0 := kc (a := ⟨w.heap.size + 1, 0, none⟩) (v := .int .u64 0) (by simp [go_sem]) b1; have f1 := kc (a := ⟨w.heap.size + 1, 1, none⟩) (v := .int .u64 0) (by simp [go_sem]) b1; have f2 := kf (a := ⟨w.heap.size + 1, 0, none⟩) (v := .int .u64 0) (by simp [go_sem]) b1 (by simp [go_sem]); have f3 := kf (a := ⟨w.heap.size + 1, 1, none⟩) (v := .int .u64 0) (by simp [go_sem]) b1 (by simp [go_sem]))
  exact bodyPost_ret (v := .tuple #[.agg #[.int .u64 H, .int .u64 L], .bool true]) (by simp [results, Try.results23, go_sem, f0, f1]) rfl ⟨rfl, ((bt (ba (ba (Below.refl _ _) _) _) b1).setCell (by simp) _).setCell (by simp) _⟩
theorem fits_iff {n : Int} {k B : Nat} (h1 : n < 2 ^ B) (h2 : (2 : Int) ^ (B - 1) ≤ n) (b0 : 1 ≤ B) (b1 : B ≤ 128) : (k ≤ 128 - B → n * 2 ^ k < 340282366920938463463374607431768211456) ∧ (128 - B < k → 340282366920938463463374607431768211456 ≤ n * 2 ^ k) := by
  have p := pow2_pos k
  constructor
  · intro hk
    have e1 : n * 2 ^ k < 2 ^ B * 2 ^ k := Int.mul_lt_mul_of_pos_right h1 p
    have e2 : (2 : Int) ^ B * 2 ^ k = 2 ^ (B + k) := (Int.pow_add 2 B k).symm
    have e3 : (2 : Int) ^ (B + k) ≤ 2 ^ 128 := pow2_le (by omega)
    have e4 : (2 : Int) ^ 128 = 340282366920938463463374607431768211456 := by decide
    omega
  · intro hk
    have e1 : (2 : Int) ^ (B - 1) * 2 ^ k ≤ n * 2 ^ k := Int.mul_le_mul_of_nonneg_right h2 (by omega)
    have e2 : (2 : Int) ^ (B - 1) * 2 ^ k = 2 ^ (B - 1 + k) := (Int.pow_add 2 (B - 1) k).symm
    have e3 : (2 : Int) ^ 128 ≤ 2 ^ (B - 1 + k) := pow2_le (by omega)
    have e4 : (2 : Int) ^ 128 = 340282366920938463463374607431768211456 := by decide
    omega
theorem bits_spec {n : Int} (n0 : 0 < n) (n1 : n < 340282366920938463463374607431768211456) : n < 2 ^ (bitLen n.toNat) ∧ (2 : Int) ^ (bitLen n.toNat - 1) ≤ n ∧ 1 ≤ bitLen n.toNat ∧ bitLen n.toNat ≤ 128 := by
  obtain ⟨m, rfl⟩ := Int.eq_ofNat_of_zero_le (show 0 ≤ n by omega)
  simp only [Int.toNat_natCast]
  have hs := bitLen_spec m
  have h2 := hs.2 (by omega)
  have hl : bitLen m ≤ 128 := bitLen_le (by have e : (2 : Nat) ^ 128 = 340282366920938463463374607431768211456 := by decide
                                            omega)
  have e1 : ((2 ^ bitLen m : Nat) : Int) = (2 : Int) ^ bitLen m := by push_cast; rfl
  have e2 : ((2 ^ (bitLen m - 1) : Nat) : Int) = (2 : Int) ^ (bitLen m - 1) := by push_cast; rfl
  refine ⟨by omega, by omega, ?_, hl⟩
  refine Nat.not_lt.mp fun hn => ?_
  have : bitLen m = 0 := by omega
  rw [this] at hs
  have := hs.1
  simp at this
  omega
set_option maxHeartbeats 1600000 in
theorem wshl {ah al H L : Int} {k : Nat} {ok : Bool} {w : World} (a : Word ah) (b : Word al) (k1 : k ≤ 9223372036854775807) (h : Is (wv ah al * 2 ^ k) H L ok) :
    Calls Try.prog 23 #[.agg #[.int .u64 ah, .int .u64 al], .int .i64 k] w fun e w' => e = .returned (.tuple #[.agg #[.int .u64 H, .int .u64 L], .bool ok]) ∧ Below w.heap.size w w' := by
  have hk0 : ¬ (k : Int) < 0 := by omega
  by_cases hz : wv ah al = 0
  · obtain ⟨e1, e2⟩ := wv_inj a b word0 word0 (by rw [hz]; rfl)
    subst e1 e2
    rw [hz, Int.zero_mul] at h
    obtain ⟨e1, e2, e3⟩ := h.un (is_of word0 word0 (by rfl))
    subst e1 e2 e3
    go_enter Try.func23, Try.ntmps23
    go_wp2
    exact bodyPost_ret (v := .tuple #[.agg #[.int .u64 0, .int .u64 0], .bool true]) (by simp [results, Try.results23, go_sem]) rfl ⟨rfl, ba (ba (Below.refl _ _) _) _⟩
  · have n0 : 0 < wv ah al := by have := wv_lo a b; omega
    obtain ⟨s1, s2, s3, s4⟩ := bits_spec n0 (wv_hi a b)
    obtain ⟨f1, f2⟩ := fits_iff (k := k) s1 s2 s3 s4
    obtain ⟨B, hB⟩ : ∃ B, B = bitLen (wv ah al).toNat := ⟨_, rfl⟩
    rw [← hB] at f1 f2 s3 s4
    obtain ⟨C, hC⟩ : ∃ C : Int, C = bitLen (wv ah al).toNat := ⟨_, rfl⟩
    have hCB : C = B := by rw [hC, hB]
    have HB : Hid (C = bitLen (wv ah al).toNat) := hC
    have hne : (ah = 0 ∧ ¬ al = 0) ∨ ¬ ah = 0 := by
      by_cases ha : ah = 0
      · exact .inl ⟨ha, fun y => hz (by rw [ha, y]; rfl)⟩
      · exact .inr ha
    clear hB s1 s2 hz hC
    by_cases c : k ≤ 128 - B
    · have hok : ok = true := by
        cases ok
        · obtain ⟨_, _, hn⟩ := h.no rfl
          exact absurd ⟨Int.mul_nonneg (by omega) (Int.le_of_lt (pow2_pos k)), f1 c⟩ hn
        · rfl
      subst hok
      have hc : ¬ (128 - C < k) := by omega
      have hC0 : 0 ≤ C := by omega
      have hC1 : C ≤ 128 := by omega
      have kk : k ≤ 127 := by omega
      clear f1 f2 hCB
      rcases hne with ⟨hA, hA'⟩ | hA
      · subst hA
        go_enter Try.func23, Try.ntmps23
        go_wp2_with (first | (go_at_call 16; refine (wbits a b HB).mono ?_; rintro e w1 ⟨rfl, b1⟩; have c0 := kc (a := ⟨w.heap.size, 0, none⟩) (v := .int .u64 0) (by simp [go_sem]) b1; have c1 := kc (a := ⟨w.heap.size, 1, none⟩) (v := .int .u64 al) (by simp [go_sem]) b1) | (go_at_call 45; with_reducible refine (left_is (k := k) a b kk h.h h.l (h.yes rfl)).mono ?_; rintro e w2 ⟨rfl, b2⟩; have T := bt b1 b2; have f0 := kc (a := ⟨w.heap.size + 1, 0, none⟩) (v := .int .u64 0) (by simp [go_sem]) T; have f1 := kc (a := ⟨w.heap.size + 1, 1, none⟩) (v := .int .u64 0) (by simp [go_sem]) T; have f2 := kf (a := ⟨w.heap.size + 1, 0, none⟩) (v := .int .u64 0) (by simp [go_sem]) T (by simp [go_sem]); have f3 := kf (a := ⟨w.heap.size + 1, 1, none⟩) (v := .int .u64 0) (by simp [go_sem]) T (by simp [go_sem])))
        exact bodyPost_ret (v := .tuple #[.agg #[.int .u64 H, .int .u64 L], .bool true]) (by simp [results, Try.results23, go_sem, f0, f1]) rfl ⟨rfl, ((bt (ba (ba (Below.refl _ _) _) _) T).setCell (by simp) _).setCell (by simp) _⟩
      · go_enter Try.func23, Try.ntmps23
        go_wp2_with (first | (go_at_call 16; refine (wbits a b HB).mono ?_; rintro e w1 ⟨rfl, b1⟩; have c0 := kc (a := ⟨w.heap.size, 0, none⟩) (v := .int .u64 ah) (by simp [go_sem]) b1; have c1 := kc (a := ⟨w.heap.size, 1, none⟩) (v := .int .u64 al) (by simp [go_sem]) b1) | (go_at_call 45; with_reducible refine (left_is (k := k) a b kk h.h h.l (h.yes rfl)).mono ?_; rintro e w2 ⟨rfl, b2⟩; have T := bt b1 b2; have f0 := kc (a := ⟨w.heap.size + 1, 0, none⟩) (v := .int .u64 0) (by simp [go_sem]) T; have f1 := kc (a := ⟨w.heap.size + 1, 1, none⟩) (v := .int .u64 0) (by simp [go_sem]) T; have f2 := kf (a := ⟨w.heap.size + 1, 0, none⟩) (v := .int .u64 0) (by simp [go_sem]) T (by simp [go_sem]); have f3 := kf (a := ⟨w.heap.size + 1, 1, none⟩) (v := .int .u64 0) (by simp [go_sem]) T (by simp [go_sem])))
        exact bodyPost_ret (v := .tuple #[.agg #[.int .u64 H, .int .u64 L], .bool true]) (by simp [results, Try.results23, go_sem, f0, f1]) rfl ⟨rfl, ((bt (ba (ba (Below.refl _ _) _) _) T).setCell (by simp) _).setCell (by simp) _⟩
    · have hok : ok = false := by
        cases ok
        · rfl
        · have := h.yes rfl
          have := wv_hi h.h h.l
          have := f2 (by omega)
          omega
      subst hok
      obtain ⟨rfl, rfl, _⟩ := h.no rfl
      have hc : 128 - C < k := by omega
      have hC0 : 0 ≤ C := by omega
      have hC1 : C ≤ 128 := by omega
      clear f1 f2 h hCB
      rcases hne with ⟨hA, hA'⟩ | hA
      · subst hA
        go_enter Try.func23, Try.ntmps23
        go_wp2_with (go_at_call 16; refine (wbits a b HB).mono ?_; rintro e w1 ⟨rfl, b1⟩; have f0 := kc (a := ⟨w.heap.size + 1, 0, none⟩) (v := .int .u64 0) (by simp [go_sem]) b1; have f1 := kc (a := ⟨w.heap.size + 1, 1, none⟩) (v := .int .u64 0) (by simp [go_sem]) b1; have f2 := kf (a := ⟨w.heap.size + 1, 0, none⟩) (v := .int .u64 0) (by simp [go_sem]) b1 (by simp [go_sem]); have f3 := kf (a := ⟨w.heap.size + 1, 1, none⟩) (v := .int .u64 0) (by simp [go_sem]) b1 (by simp [go_sem]))
        exact bodyPost_ret (v := .tuple #[.agg #[.int .u64 0, .int .u64 0], .bool false]) (by simp [results, Try.results23, go_sem, f0, f1]) rfl ⟨rfl, ((bt (ba (ba (Below.refl _ _) _) _) b1).setCell (by simp) _).setCell (by simp) _⟩
      · go_enter Try.func23, Try.ntmps23
        go_wp2_with (go_at_call 16; refine (wbits a b HB).mono ?_; rintro e w1 ⟨rfl, b1⟩; have f0 := kc (a := ⟨w.heap.size + 1, 0, none⟩) (v := .int .u64 0) (by simp [go_sem]) b1; have f1 := kc (a := ⟨w.heap.size + 1, 1, none⟩) (v := .int .u64 0) (by simp [go_sem]) b1; have f2 := kf (a := ⟨w.heap.size + 1, 0, none⟩) (v := .int .u64 0) (by simp [go_sem]) b1 (by simp [go_sem]); have f3 := kf (a := ⟨w.heap.size + 1, 1, none⟩) (v := .int .u64 0) (by simp [go_sem]) b1 (by simp [go_sem]))
        exact bodyPost_ret (v := .tuple #[.agg #[.int .u64 0, .int .u64 0], .bool false]) (by simp [results, Try.results23, go_sem, f0, f1]) rfl ⟨rfl, ((bt (ba (ba (Below.refl _ _) _) _) b1).setCell (by simp) _).setCell (by simp) _⟩
end Go.Proofs.Ytakdkoocbekbgaa
