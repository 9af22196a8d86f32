/- The walk of the law WideSpreads. -/
import Derived.Test.YtakdkoocbekbgaaIs
import Derived.Test.YtakdkoocbekbgaaDigits
namespace Go.Proofs.Ytakdkoocbekbgaa
open Go.ChangeShapes Go.WideShapes Go.ChangeAt Go.RowKit
attribute [local go_sem] World.cell?_alloc_some
theorem div_div {a m k QH QL r1 PH PL r2 RH RL r3 : Int} (h1 : DivIs a m QH QL r1) (h2 : DivIs (wv QH QL) k PH PL r2) (h3 : DivIs a (m * k) RH RL r3) : PH = RH ∧ PL = RL := by
  have m0 : 0 < m := by have := h1.lo; have := h1.hi; omega
  have k0 : 0 < k := by have := h2.lo; have := h2.hi; omega
  have e : a = wv PH PL * (m * k) + (r2 * m + r1) := by rw [h1.eq, h2.eq]; grind
  have r0 : 0 ≤ r2 * m := Int.mul_nonneg h2.lo (by omega)
  have r4 : r2 * m + m ≤ m * k := by
    have := Int.mul_le_mul_of_nonneg_right (show r2 + 1 ≤ k by have := h2.hi; omega) (show 0 ≤ m by omega)
    grind
  have := h1.lo; have := h1.hi
  have u1 := div_un (Int.mul_pos m0 k0) e (by omega) (by omega)
  have u2 := div_un (Int.mul_pos m0 k0) h3.eq h3.lo h3.hi
  exact wv_inj h2.h h2.l h3.h h3.l (by rw [← u1.1, ← u2.1])
set_option maxHeartbeats 4000000 in
theorem spreads_yes {ah al bh bl n : Int} {w : World} (a1 : Word ah) (a2 : Word al) (b1 : Word bh) (b2 : Word bl) (hn : Word n) {SH SL XH XL YH YL : Int}
    (hS : Is (wv ah al + wv bh bl) SH SL true) (hX : Is (wv ah al * n) XH XL true) (hY : Is (wv bh bl * n) YH YL true) :
    Calls Try.prog 8 #[.agg #[.int .u64 ah, .int .u64 al], .agg #[.int .u64 bh, .int .u64 bl], .int .u64 n] w fun e w' => e = .returned (.bool true) ∧ Below w.heap.size w w' := by
  obtain ⟨ZH, ZL, zb, hZ⟩ := is_ex (wv SH SL * n)
  have hW : Is (wv XH XL + wv YH YL) ZH ZL zb := by
    have e : wv XH XL + wv YH YL = wv SH SL * n := by rw [hX.yes rfl, hY.yes rfl, hS.yes rfl]; grind
    rw [e]; exact hZ
  obtain ⟨u1, u2⟩ := id hn
  obtain ⟨m, em⟩ : ∃ m, bits .and .u64 n 65535 = m := ⟨_, rfl⟩
  obtain ⟨k, ek⟩ : ∃ k, bits .and .u64 (n / 65536) 65535 = k := ⟨_, rfl⟩
  have m0 : 0 ≤ m ∧ m ≤ 65535 := by rw [← em, and16_u64 n u1 u2]; omega
  have k0 : 0 ≤ k ∧ k ≤ 65535 := by rw [← ek, and16_u64 (n / 65536) (by omega) (by omega)]; omega
  obtain ⟨m0, m1⟩ := m0
  obtain ⟨k0, k1⟩ := k0
  obtain ⟨M, hM⟩ : ∃ M, M = (m + 1) * (k + 1) := ⟨_, rfl⟩
  have M1 := prod_bound (m + 1) (k + 1) (by omega) (by omega) (by omega) (by omega)
  have M2 : 0 < (m + 1) * (k + 1) := Int.mul_pos (by omega) (by omega)
  have eM : IntKind.u64.wrap ((m + 1) * (k + 1)) = M := by rw [hM, IntKind.wrap_u64]; omega
  rw [← hM] at M1 M2
  obtain ⟨QH, QL, r1, hQ⟩ := div_ex (wv_lo a1 a2) (wv_hi a1 a2) (show 0 < m + 1 by omega)
  obtain ⟨PH, PL, r2, hP⟩ := div_ex (wv_lo hQ.h hQ.l) (wv_hi hQ.h hQ.l) (show 0 < k + 1 by omega)
  obtain ⟨RH, RL, r3, hR⟩ := div_ex (wv_lo a1 a2) (wv_hi a1 a2) M2
  obtain ⟨rfl, rfl⟩ := div_div hQ hP (by rw [← hM]; exact hR)
  clear hM
  go_enter Try.func8, Try.ntmps8
  go_wp2_with (first
    | (go_at_call 9; refine (alive_any).mono ?_; rintro e w0 ⟨rfl, B0⟩; have A0 := kc (a := ⟨w.heap.size, 0, none⟩) (v := .int .u64 ah) (by simp [go_sem]) B0; have A1 := kc (a := ⟨w.heap.size, 1, none⟩) (v := .int .u64 al) (by simp [go_sem]) B0; have C0 := kc (a := ⟨w.heap.size + 1, 0, none⟩) (v := .int .u64 bh) (by simp [go_sem]) B0; have C1 := kc (a := ⟨w.heap.size + 1, 1, none⟩) (v := .int .u64 bl) (by simp [go_sem]) B0)
    | (go_at_call 10; with_reducible refine (wadd_is a1 a2 b1 b2 hS).mono ?_; rintro e w1 ⟨rfl, B1⟩; have A2 := kc A0 B1; have A3 := kc A1 B1; have C2 := kc C0 B1; have C3 := kc C1 B1; clear A0 A1 C0 C1)
    | (go_at_call 18; with_reducible refine (wmul_is a1 a2 hn hX).mono ?_; rintro e w2 ⟨rfl, B2⟩; have A4 := kc (kl A2 _) B2; have A5 := kc (kl A3 _) B2; have C4 := kc (kl C2 _) B2; have C5 := kc (kl C3 _) B2; have S0 := kc (a := ⟨w1.heap.size, 0, none⟩) (v := .int .u64 SH) (by simp [go_sem]) B2; have S1 := kc (a := ⟨w1.heap.size, 1, none⟩) (v := .int .u64 SL) (by simp [go_sem]) B2; clear A2 A3 C2 C3)
    | (go_at_call 18; with_reducible refine (wmul_is b1 b2 hn hY).mono ?_; rintro e w3 ⟨rfl, B3⟩; have A6 := kc (kl A4 _) B3; have A7 := kc (kl A5 _) B3; have S2 := kc (kl S0 _) B3; have S3 := kc (kl S1 _) B3; have X0 := kc (a := ⟨w2.heap.size, 0, none⟩) (v := .int .u64 XH) (by simp [go_sem]) B3; have X1 := kc (a := ⟨w2.heap.size, 1, none⟩) (v := .int .u64 XL) (by simp [go_sem]) B3; clear A4 A5 C4 C5 S0 S1)
    | (go_at_call 18; with_reducible refine (wmul_is hS.h hS.l hn hZ).mono ?_; rintro e w4 ⟨rfl, B4⟩; have A8 := kc (kl A6 _) B4; have A9 := kc (kl A7 _) B4; have X2 := kc (kl X0 _) B4; have X3 := kc (kl X1 _) B4; have Y0 := kc (a := ⟨w3.heap.size, 0, none⟩) (v := .int .u64 YH) (by simp [go_sem]) B4; have Y1 := kc (a := ⟨w3.heap.size, 1, none⟩) (v := .int .u64 YL) (by simp [go_sem]) B4; clear A6 A7 S2 S3 X0 X1)
    | (go_at_call 10; with_reducible refine (wadd_is hX.h hX.l hY.h hY.l hW).mono ?_; rintro e w5 ⟨rfl, B5⟩; have A10 := kc (kl A8 _) B5; have A11 := kc (kl A9 _) B5; have Z0 := kc (a := ⟨w4.heap.size, 0, none⟩) (v := .int .u64 ZH) (by simp [go_sem]) B5; have Z1 := kc (a := ⟨w4.heap.size, 1, none⟩) (v := .int .u64 ZL) (by simp [go_sem]) B5; clear A8 A9 X2 X3 Y0 Y1)
    | (go_at_call 20; with_reducible refine (wdiv_is a1 a2 (by omega) hQ).mono ?_; rintro e w6 ⟨rfl, B6⟩; have A12 := kc (kl A10 _) B6; have A13 := kc (kl A11 _) B6; clear A10 A11 Z0 Z1)
    | (go_at_call 20; with_reducible refine (wdiv_is hQ.h hQ.l (by omega) hP).mono ?_; rintro e w7 ⟨rfl, B7⟩; have A14 := kc (kl A12 _) B7; have A15 := kc (kl A13 _) B7; have Q0 := kc (a := ⟨w6.heap.size, 0, none⟩) (v := .int .u64 QH) (by simp [go_sem]) B7; have Q1 := kc (a := ⟨w6.heap.size, 1, none⟩) (v := .int .u64 QL) (by simp [go_sem]) B7; have F0 : w7.frozen? ⟨w6.heap.size, 0, none⟩ = false := (by rw [B7.frozen (by simp)]; simp [go_sem]); have F1 : w7.frozen? ⟨w6.heap.size, 1, none⟩ = false := (by rw [B7.frozen (by simp)]; simp [go_sem]); have NE : w.heap.size ≠ w6.heap.size := Nat.ne_of_lt (cell_lt A12); clear A12 A13)
    | (go_at_call 20; with_reducible refine (wdiv_is a1 a2 (by omega) hR).mono ?_; rintro e w8 ⟨rfl, B8⟩; have Q2 := kc (a := ⟨w6.heap.size, 0, none⟩) (v := .int .u64 PH) (by simp [go_sem, Q0]) B8; have Q3 := kc (a := ⟨w6.heap.size, 1, none⟩) (v := .int .u64 PL) (by simp [go_sem, Q1]) B8))
  go_ret
  refine ⟨rfl, ?_⟩
  have T6 := bt (ba (bt (ba (bt (ba (bt (ba (bt (ba (bt (bt (ba (ba (Below.refl _ _) _) _) B0) B1) _) B2) _) B3) _) B4) _) B5) _) B6
  exact ba (bt (((bt (ba T6 _) B7).setCell T6.size _).setCell T6.size _) B8) _
set_option maxHeartbeats 16000000 in
theorem spreads_no {ah al bh bl n : Int} {w : World} (a1 : Word ah) (a2 : Word al) (b1 : Word bh) (b2 : Word bl) (hn : Word n) {SH SL XH XL YH YL : Int} {sb xb yb : Bool}
    (hS : Is (wv ah al + wv bh bl) SH SL sb) (hX : Is (wv ah al * n) XH XL xb) (hY : Is (wv bh bl * n) YH YL yb) (hno : ¬ (sb = true ∧ xb = true ∧ yb = true)) :
    Calls Try.prog 8 #[.agg #[.int .u64 ah, .int .u64 al], .agg #[.int .u64 bh, .int .u64 bl], .int .u64 n] w fun e w' => e = .returned (.bool true) ∧ Below w.heap.size w w' := by
  obtain ⟨u1, u2⟩ := id hn
  obtain ⟨m, em⟩ : ∃ m, bits .and .u64 n 65535 = m := ⟨_, rfl⟩
  obtain ⟨k, ek⟩ : ∃ k, bits .and .u64 (n / 65536) 65535 = k := ⟨_, rfl⟩
  have m0 : 0 ≤ m ∧ m ≤ 65535 := by rw [← em, and16_u64 n u1 u2]; omega
  have k0 : 0 ≤ k ∧ k ≤ 65535 := by rw [← ek, and16_u64 (n / 65536) (by omega) (by omega)]; omega
  obtain ⟨m0, m1⟩ := m0
  obtain ⟨k0, k1⟩ := k0
  obtain ⟨M, hM⟩ : ∃ M, M = (m + 1) * (k + 1) := ⟨_, rfl⟩
  have M1 := prod_bound (m + 1) (k + 1) (by omega) (by omega) (by omega) (by omega)
  have M2 : 0 < (m + 1) * (k + 1) := Int.mul_pos (by omega) (by omega)
  have eM : IntKind.u64.wrap ((m + 1) * (k + 1)) = M := by rw [hM, IntKind.wrap_u64]; omega
  rw [← hM] at M1 M2
  obtain ⟨QH, QL, r1, hQ⟩ := div_ex (wv_lo a1 a2) (wv_hi a1 a2) (show 0 < m + 1 by omega)
  obtain ⟨PH, PL, r2, hP⟩ := div_ex (wv_lo hQ.h hQ.l) (wv_hi hQ.h hQ.l) (show 0 < k + 1 by omega)
  obtain ⟨RH, RL, r3, hR⟩ := div_ex (wv_lo a1 a2) (wv_hi a1 a2) M2
  obtain ⟨rfl, rfl⟩ := div_div hQ hP (by rw [← hM]; exact hR)
  clear hM
  cases sb <;> cases xb <;> cases yb <;> (try exact absurd ⟨rfl, rfl, rfl⟩ hno) <;> clear hno
  all_goals
    go_enter Try.func8, Try.ntmps8
    go_wp2_with (first
      | (go_at_call 9; refine (alive_any).mono ?_; rintro e w0 ⟨rfl, B0⟩; have A0 := kc (a := ⟨w.heap.size, 0, none⟩) (v := .int .u64 ah) (by simp [go_sem]) B0; have A1 := kc (a := ⟨w.heap.size, 1, none⟩) (v := .int .u64 al) (by simp [go_sem]) B0; have C0 := kc (a := ⟨w.heap.size + 1, 0, none⟩) (v := .int .u64 bh) (by simp [go_sem]) B0; have C1 := kc (a := ⟨w.heap.size + 1, 1, none⟩) (v := .int .u64 bl) (by simp [go_sem]) B0)
      | (go_at_call 10; with_reducible refine (wadd_is a1 a2 b1 b2 hS).mono ?_; rintro e w1 ⟨rfl, B1⟩; have A2 := kc A0 B1; have A3 := kc A1 B1; have C2 := kc C0 B1; have C3 := kc C1 B1; clear A0 A1 C0 C1)
      | (go_at_call 18; with_reducible refine (wmul_is a1 a2 hn hX).mono ?_; rintro e w2 ⟨rfl, B2⟩; have A4 := kc (kl A2 _) B2; have A5 := kc (kl A3 _) B2; have C4 := kc (kl C2 _) B2; have C5 := kc (kl C3 _) B2; clear A2 A3 C2 C3)
      | (go_at_call 18; with_reducible refine (wmul_is b1 b2 hn hY).mono ?_; rintro e w3 ⟨rfl, B3⟩; have A10 := kc (kl A4 _) B3; have A11 := kc (kl A5 _) B3; clear A4 A5 C4 C5)
      | (go_at_call 20; with_reducible refine (wdiv_is a1 a2 (by omega) hQ).mono ?_; rintro e w6 ⟨rfl, B6⟩; have A12 := kc (kl A10 _) B6; have A13 := kc (kl A11 _) B6; clear A10 A11)
      | (go_at_call 20; with_reducible refine (wdiv_is hQ.h hQ.l (by omega) hP).mono ?_; rintro e w7 ⟨rfl, B7⟩; have A14 := kc (kl A12 _) B7; have A15 := kc (kl A13 _) B7; have Q0 := kc (a := ⟨w6.heap.size, 0, none⟩) (v := .int .u64 QH) (by simp [go_sem]) B7; have Q1 := kc (a := ⟨w6.heap.size, 1, none⟩) (v := .int .u64 QL) (by simp [go_sem]) B7; have F0 : w7.frozen? ⟨w6.heap.size, 0, none⟩ = false := (by rw [B7.frozen (by simp)]; simp [go_sem]); have F1 : w7.frozen? ⟨w6.heap.size, 1, none⟩ = false := (by rw [B7.frozen (by simp)]; simp [go_sem]); have NE : w.heap.size ≠ w6.heap.size := Nat.ne_of_lt (cell_lt A12); clear A12 A13)
      | (go_at_call 20; with_reducible refine (wdiv_is a1 a2 (by omega) hR).mono ?_; rintro e w8 ⟨rfl, B8⟩; have Q2 := kc (a := ⟨w6.heap.size, 0, none⟩) (v := .int .u64 PH) (by simp [go_sem, Q0]) B8; have Q3 := kc (a := ⟨w6.heap.size, 1, none⟩) (v := .int .u64 PL) (by simp [go_sem, Q1]) B8))
    go_ret
    refine ⟨rfl, ?_⟩
    have T6 := bt (ba (bt (ba (bt (ba (bt (bt (ba (ba (Below.refl _ _) _) _) B0) B1) _) B2) _) B3) _) B6
    exact ba (bt (((bt (ba T6 _) B7).setCell T6.size _).setCell T6.size _) B8) _
theorem spreads_any {ah al bh bl n : Int} (w : World) (a1 : Word ah) (a2 : Word al) (b1 : Word bh) (b2 : Word bl) (hn : Word n) :
    Calls Try.prog 8 #[.agg #[.int .u64 ah, .int .u64 al], .agg #[.int .u64 bh, .int .u64 bl], .int .u64 n] w fun e w' => e = .returned (.bool true) ∧ Below w.heap.size w w' := by
  obtain ⟨SH, SL, sb, hS⟩ := is_ex (wv ah al + wv bh bl)
  obtain ⟨XH, XL, xb, hX⟩ := is_ex (wv ah al * n)
  obtain ⟨YH, YL, yb, hY⟩ := is_ex (wv bh bl * n)
  by_cases h : sb = true ∧ xb = true ∧ yb = true
  · obtain ⟨rfl, rfl, rfl⟩ := h
    exact spreads_yes a1 a2 b1 b2 hn hS hX hY
  · exact spreads_no a1 a2 b1 b2 hn hS hX hY h
end Go.Proofs.Ytakdkoocbekbgaa
