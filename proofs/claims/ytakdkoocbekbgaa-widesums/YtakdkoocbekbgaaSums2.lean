/- The walk of the law WideSums. -/
import Derived.Test.YtakdkoocbekbgaaBits
namespace Go.Proofs.Ytakdkoocbekbgaa
open Go.ChangeShapes Go.WideShapes Go.ChangeAt Go.RowKit
attribute [local go_sem] World.cell?_alloc_some
theorem keep12 {W w1 : World} {a0 a1 a2 a3 a4 a5 a6 a7 a8 a9 a10 a11 : Addr} {v0 v1 v2 v3 v4 v5 v6 v7 v8 v9 v10 v11 : Value} (hb : Below W.heap.size W w1) (h : W.cell? a0 = some v0 ∧ W.cell? a1 = some v1 ∧ W.cell? a2 = some v2 ∧ W.cell? a3 = some v3 ∧ W.cell? a4 = some v4 ∧ W.cell? a5 = some v5 ∧ W.cell? a6 = some v6 ∧ W.cell? a7 = some v7 ∧ W.cell? a8 = some v8 ∧ W.cell? a9 = some v9 ∧ W.cell? a10 = some v10 ∧ W.cell? a11 = some v11) :
    w1.cell? a0 = some v0 ∧ w1.cell? a1 = some v1 ∧ w1.cell? a2 = some v2 ∧ w1.cell? a3 = some v3 ∧ w1.cell? a4 = some v4 ∧ w1.cell? a5 = some v5 ∧ w1.cell? a6 = some v6 ∧ w1.cell? a7 = some v7 ∧ w1.cell? a8 = some v8 ∧ w1.cell? a9 = some v9 ∧ w1.cell? a10 = some v10 ∧ w1.cell? a11 = some v11 :=
  ⟨kc (h.1) hb, kc (h.2.1) hb, kc (h.2.2.1) hb, kc (h.2.2.2.1) hb, kc (h.2.2.2.2.1) hb, kc (h.2.2.2.2.2.1) hb, kc (h.2.2.2.2.2.2.1) hb, kc (h.2.2.2.2.2.2.2.1) hb, kc (h.2.2.2.2.2.2.2.2.1) hb, kc (h.2.2.2.2.2.2.2.2.2.1) hb, kc (h.2.2.2.2.2.2.2.2.2.2.1) hb, kc (h.2.2.2.2.2.2.2.2.2.2.2) hb⟩
set_option maxHeartbeats 8000000 in
theorem wsums_any {ah al bh bl : Int} (w : World) (a1 : Word ah) (a2 : Word al) (b1 : Word bh) (b2 : Word bl) :
    Calls Try.prog 3 #[.agg #[.int .u64 ah, .int .u64 al], .agg #[.int .u64 bh, .int .u64 bl]] w fun e w' => e = .returned (.bool true) ∧ Below w.heap.size w w' := by
  obtain ⟨XH, XL, xb, hX⟩ := is_ex (wv ah al + wv bh bl)
  obtain ⟨YH, YL, yb, hY⟩ := is_ex (wv ah al - wv bh bl)
  obtain ⟨c, hc⟩ : ∃ c, c = cmpI (wv ah al) (wv bh bl) := ⟨_, rfl⟩
  obtain ⟨k, hk⟩ : ∃ k : Int, k = bitLen (wv ah al).toNat := ⟨_, rfl⟩
  have HC : Hid (c = cmpI (wv ah al) (wv bh bl)) := hc
  have HK : Hid (k = bitLen (wv ah al).toNat) := hk
  clear hc hk
  go_enter Try.func3, Try.ntmps3
  go_wp2_with (first
    | (go_at_call 9; refine (alive_any).mono ?_; rintro e w0 ⟨rfl, B0⟩; have A0 := kc (a := ⟨w.heap.size, 0, none⟩) (v := .int .u64 ah) (by simp [go_sem]) B0; have A1 := kc (a := ⟨w.heap.size, 1, none⟩) (v := .int .u64 al) (by simp [go_sem]) B0; have C0 := kc (a := ⟨w.heap.size + 1, 0, none⟩) (v := .int .u64 bh) (by simp [go_sem]) B0; have C1 := kc (a := ⟨w.heap.size + 1, 1, none⟩) (v := .int .u64 bl) (by simp [go_sem]) B0)
    | (go_at_call 10; with_reducible refine (wadd_is a1 a2 b1 b2 hX).mono ?_; rintro e w1 ⟨rfl, B1⟩; have A2 := kc A0 B1; have A3 := kc A1 B1; have C2 := kc C0 B1; have C3 := kc C1 B1; clear A0 A1 C0 C1)
    | (go_at_call 11; with_reducible refine (refAdd a1 a2 b1 b2 hX).mono ?_; rintro e w2 ⟨rfl, B2⟩; have A4 := kc (kl A2 _) B2; have A5 := kc (kl A3 _) B2; have C4 := kc (kl C2 _) B2; have C5 := kc (kl C3 _) B2; have X0 := kc (a := ⟨w1.heap.size, 0, none⟩) (v := .int .u64 XH) (by simp [go_sem]) B2; have X1 := kc (a := ⟨w1.heap.size, 1, none⟩) (v := .int .u64 XL) (by simp [go_sem]) B2; clear A2 A3 C2 C3)
    | (go_at_call 12; with_reducible refine (wsub_is a1 a2 b1 b2 hY).mono ?_; rintro e w3 ⟨rfl, B3⟩; have A6 := kc (kl A4 _) B3; have A7 := kc (kl A5 _) B3; have C6 := kc (kl C4 _) B3; have C7 := kc (kl C5 _) B3; have X2 := kc (kl X0 _) B3; have X3 := kc (kl X1 _) B3; have W0 := kc (a := ⟨w2.heap.size, 0, none⟩) (v := .int .u64 XH) (by simp [go_sem]) B3; have W1 := kc (a := ⟨w2.heap.size, 1, none⟩) (v := .int .u64 XL) (by simp [go_sem]) B3; clear A4 A5 C4 C5 X0 X1)
    | (go_at_call 13; with_reducible refine (refSub a1 a2 b1 b2 hY).mono ?_; rintro e w4 ⟨rfl, B4⟩; have A8 := kc (kl A6 _) B4; have A9 := kc (kl A7 _) B4; have C8 := kc (kl C6 _) B4; have C9 := kc (kl C7 _) B4; have X4 := kc (kl X2 _) B4; have X5 := kc (kl X3 _) B4; have W2 := kc (kl W0 _) B4; have W3 := kc (kl W1 _) B4; have Y0 := kc (a := ⟨w3.heap.size, 0, none⟩) (v := .int .u64 YH) (by simp [go_sem]) B4; have Y1 := kc (a := ⟨w3.heap.size, 1, none⟩) (v := .int .u64 YL) (by simp [go_sem]) B4; clear A6 A7 C6 C7 X2 X3 W0 W1))
  go_region_held3 (fun w' => w'.cell? ⟨w.heap.size, 0, none⟩ = some (.int .u64 ah) ∧ w'.cell? ⟨w.heap.size, 1, none⟩ = some (.int .u64 al) ∧ w'.cell? ⟨w.heap.size + 1, 0, none⟩ = some (.int .u64 bh) ∧ w'.cell? ⟨w.heap.size + 1, 1, none⟩ = some (.int .u64 bl) ∧ w'.cell? ⟨w1.heap.size, 0, none⟩ = some (.int .u64 XH) ∧ w'.cell? ⟨w1.heap.size, 1, none⟩ = some (.int .u64 XL) ∧ w'.cell? ⟨w2.heap.size, 0, none⟩ = some (.int .u64 XH) ∧ w'.cell? ⟨w2.heap.size, 1, none⟩ = some (.int .u64 XL) ∧ w'.cell? ⟨w3.heap.size, 0, none⟩ = some (.int .u64 YH) ∧ w'.cell? ⟨w3.heap.size, 1, none⟩ = some (.int .u64 YL) ∧ w'.cell? ⟨w4.heap.size, 0, none⟩ = some (.int .u64 YH) ∧ w'.cell? ⟨w4.heap.size, 1, none⟩ = some (.int .u64 YL))
    (first | assumption | (simp [go_sem, *]; done) | (exact keep12 (by assumption) (by assumption)))
    (first
      | (go_at_call 14; refine (wcmp a1 a2 b1 b2 HC).mono ?_; rintro e w5 ⟨rfl, B5⟩)
      | (go_at_call 15; refine (refCmp a1 a2 b1 b2 HC).mono ?_; rintro e w6 ⟨rfl, B6⟩)
      | (go_at_call 16; refine (wbits a1 a2 HK).mono ?_; rintro e w7 ⟨rfl, B7⟩)
      | (go_at_call 17; refine (refBits a1 a2 HK).mono ?_; rintro e w8 ⟨rfl, B8⟩))
  rename_i hh
  obtain ⟨p0, p1, p2, p3, p4, p5, p6, p7, p8, p9, p10, p11⟩ := hh
  clear A8 A9 C8 C9 X4 X5 W2 W3 Y0 Y1 p6 p7 p8 p9 p10 p11
  have T : Below w.heap.size w w8 := bt (bt (bt (bt (ba (bt (ba (bt (ba (bt (ba (bt (bt (ba (ba (Below.refl _ _) _) _) B0) B1) _) B2) _) B3) _) B4) _).drew B5) B6) B7) B8
  clear B0 B1 B2 B3 B4 B5 B6 B7 B8
  cases xb
  · go_wp2
    go_ret
    exact ⟨rfl, T⟩
  · have hZ : Is (wv XH XL - wv bh bl) ah al true := is_of a1 a2 (by rw [hX.yes rfl]; omega)
    go_wp2_with (go_at_call 12; refine (wsub_is hX.h hX.l b1 b2 hZ).mono ?_; rintro e w9 ⟨rfl, B9⟩; have q0 := kc p0 B9; have q1 := kc p1 B9)
    go_ret
    exact ⟨rfl, ba (bt T B9) _⟩
end Go.Proofs.Ytakdkoocbekbgaa
