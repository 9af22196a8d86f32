/- The walk of the law WideProducts. -/
import Derived.Test.YtakdkoocbekbgaaRDiv
namespace Go.Proofs.Ytakdkoocbekbgaa
open Go.ChangeShapes Go.WideShapes Go.ChangeAt Go.RowKit
attribute [local go_sem] World.cell?_alloc_some
theorem gen_world {W : World} {G : World → Prop} (S : World → Prop) (hS : S W) (h : ∀ x, S x → G x) : G W := h W hS
theorem kd {w w1 : World} {o : Obj} {a : Addr} {v : Value} (h : w.cell? a = some v) (hb : Below (w.alloc o).drew.heap.size (w.alloc o).drew w1) : w1.cell? a = some v :=
  kc (w := (w.alloc o).drew) (show (w.alloc o).drew.cell? a = some v from kl h o) hb
theorem keep2a {w : World} {b i j : Nat} {v0 v1 : Value} {o o' : Obj} (h : (w.alloc o).cell? ⟨b, i, none⟩ = some v0 ∧ (w.alloc o).cell? ⟨b, j, none⟩ = some v1) (hb : b < w.heap.size) : (w.alloc o').cell? ⟨b, i, none⟩ = some v0 ∧ (w.alloc o').cell? ⟨b, j, none⟩ = some v1 := by
  rw [World.cell?_alloc_lt _ _ _ hb, World.cell?_alloc_lt _ _ _ hb] at h ⊢
  exact h
theorem keep2s {w : World} {a0 a1 : Addr} {b : Nat} {v0 v1 x y : Value} (h : w.cell? a0 = some v0 ∧ w.cell? a1 = some v1) (hb : a0.block ≠ b ∧ a1.block ≠ b) :
    ((w.setCell ⟨b, 0, none⟩ x).setCell ⟨b, 1, none⟩ y).cell? a0 = some v0 ∧ ((w.setCell ⟨b, 0, none⟩ x).setCell ⟨b, 1, none⟩ y).cell? a1 = some v1 :=
  ⟨cs (cs h.1 hb.1) hb.1, cs (cs h.2 hb.2) hb.2⟩
set_option maxHeartbeats 8000000 in
theorem wprod_zero {ah al : Int} (w : World) (a1 : Word ah) (a2 : Word al) :
    Calls Try.prog 4 #[.agg #[.int .u64 ah, .int .u64 al], .int .u64 0] w fun e w' => e = .returned (.bool true) ∧ Below w.heap.size w w' := by
  obtain ⟨XH, XL, xb, hX⟩ := is_ex (wv ah al * 0)
  go_enter Try.func4, Try.ntmps4
  go_wp2_with (first
    | (go_at_call 9; refine (alive_any).mono ?_; rintro e w0 ⟨rfl, B0⟩; have A0 := kc (a := ⟨w.heap.size, 0, none⟩) (v := .int .u64 ah) (by simp [go_sem]) B0; have A1 := kc (a := ⟨w.heap.size, 1, none⟩) (v := .int .u64 al) (by simp [go_sem]) B0)
    | (go_at_call 18; with_reducible refine (wmul_is a1 a2 word0 hX).mono ?_; rintro e w1 ⟨rfl, B1⟩; have A2 := kc A0 B1; have A3 := kc A1 B1; clear A0 A1)
    | (go_at_call 19; with_reducible refine (refMul a1 a2 word0 hX).mono ?_; rintro e w2 ⟨rfl, B2⟩; have A4 := kc (kl A2 _) B2; have A5 := kc (kl A3 _) B2; have X0 := kc (a := ⟨w1.heap.size, 0, none⟩) (v := .int .u64 XH) (by simp [go_sem]) B2; have X1 := kc (a := ⟨w1.heap.size, 1, none⟩) (v := .int .u64 XL) (by simp [go_sem]) B2; clear A2 A3)
    | (go_at_call 20; with_reducible refine (wdiv_no).mono ?_; rintro e w3 ⟨rfl, B3⟩; have X2 := kc (kl X0 _) B3; have X3 := kc (kl X1 _) B3; have W0 := kc (a := ⟨w2.heap.size, 0, none⟩) (v := .int .u64 XH) (by simp [go_sem]) B3; have W1 := kc (a := ⟨w2.heap.size, 1, none⟩) (v := .int .u64 XL) (by simp [go_sem]) B3; clear A4 A5 X0 X1)
    | (go_at_call 21; with_reducible refine (wof).mono ?_; rintro e w4 ⟨rfl, B4⟩; have Q0 := kc (a := ⟨w3.heap.size, 0, none⟩) (v := .int .u64 0) (by simp [go_sem]) B4; have Q1 := kc (a := ⟨w3.heap.size, 1, none⟩) (v := .int .u64 0) (by simp [go_sem]) B4; clear X2 X3 W0 W1))
  go_ret
  refine ⟨rfl, ?_⟩
  exact bt (ba (bt (ba (bt (ba (bt (bt (ba (Below.refl _ _) _) B0) B1) _) B2) _) B3) _) B4
set_option maxHeartbeats 8000000 in
theorem wprod_pos {ah al n : Int} (w : World) (a1 : Word ah) (a2 : Word al) (hn : Word n) (n0 : 0 < n) :
    Calls Try.prog 4 #[.agg #[.int .u64 ah, .int .u64 al], .int .u64 n] w fun e w' => e = .returned (.bool true) ∧ Below w.heap.size w w' := by
  obtain ⟨XH, XL, xb, hX⟩ := is_ex (wv ah al * n)
  obtain ⟨QH, QL, r, hQ⟩ := div_ex (wv_lo a1 a2) (wv_hi a1 a2) n0
  have hq0 : 0 ≤ wv QH QL * n := Int.mul_nonneg (wv_lo hQ.h hQ.l) (by omega)
  obtain ⟨YH, YL, y1, y2, hy⟩ := halves (wv QH QL * n) hq0 (by have := hQ.eq; have := hQ.lo; have := wv_hi a1 a2; omega)
  have hY : Is (wv QH QL * n) YH YL true := is_of y1 y2 (by unfold wv; unfold wv at hy; omega)
  have wr : Word r := ⟨hQ.lo, by have := hQ.hi; have := hn.hi; omega⟩
  have hZ : Is (wv YH YL + wv 0 r) ah al true := is_of a1 a2 (by rw [hY.yes rfl, hQ.eq]; unfold wv; omega)
  have rlt := hQ.hi
  have n1 := hn.hi
  clear hy hq0
  go_enter Try.func4, Try.ntmps4
  go_wp2_with (first
    | (go_at_call 9; refine (alive_any).mono ?_; rintro e w0 ⟨rfl, B0⟩; have A0 := kc (a := ⟨w.heap.size, 0, none⟩) (v := .int .u64 ah) (by simp [go_sem]) B0; have A1 := kc (a := ⟨w.heap.size, 1, none⟩) (v := .int .u64 al) (by simp [go_sem]) B0)
    | (go_at_call 18; with_reducible refine (wmul_is a1 a2 hn hX).mono ?_; rintro e w1 ⟨rfl, B1⟩; have A2 := kc A0 B1; have A3 := kc A1 B1; clear A0 A1)
    | (go_at_call 19; with_reducible refine (refMul a1 a2 hn hX).mono ?_; rintro e w2 ⟨rfl, B2⟩; have A4 := kc (kl A2 _) B2; have A5 := kc (kl A3 _) B2; have X0 := kc (a := ⟨w1.heap.size, 0, none⟩) (v := .int .u64 XH) (by simp [go_sem]) B2; have X1 := kc (a := ⟨w1.heap.size, 1, none⟩) (v := .int .u64 XL) (by simp [go_sem]) B2; clear A2 A3)
    | (go_at_call 20; with_reducible refine (wdiv_is a1 a2 n1 hQ).mono ?_; rintro e w3 ⟨rfl, B3⟩; have A6 := kc (kl A4 _) B3; have A7 := kc (kl A5 _) B3; have X2 := kc (kl X0 _) B3; have X3 := kc (kl X1 _) B3; have W0 := kc (a := ⟨w2.heap.size, 0, none⟩) (v := .int .u64 XH) (by simp [go_sem]) B3; have W1 := kc (a := ⟨w2.heap.size, 1, none⟩) (v := .int .u64 XL) (by simp [go_sem]) B3; clear A4 A5 X0 X1)
    | (go_at_call 21; with_reducible refine (wof).mono ?_; rintro e w4 ⟨rfl, B4⟩; have A8 := kc (kl A6 _) B4; have A9 := kc (kl A7 _) B4; have Q0 := kc (a := ⟨w3.heap.size, 0, none⟩) (v := .int .u64 QH) (by simp [go_sem]) B4; have Q1 := kc (a := ⟨w3.heap.size, 1, none⟩) (v := .int .u64 QL) (by simp [go_sem]) B4; clear A6 A7 X2 X3 W0 W1)
    | (go_at_call 22; with_reducible refine (refDiv a1 a2 n1 hQ).mono ?_; rintro e w5 ⟨rfl, B5⟩; have A10 := kc A8 B5; have A11 := kc A9 B5; have Q2 := kc Q0 B5; have Q3 := kc Q1 B5; clear A8 A9 Q0 Q1)
    | (go_at_call 18; with_reducible refine (wmul_is hQ.h hQ.l hn hY).mono ?_; rintro e w6 ⟨rfl, B6⟩; have A12 := kc (kl A10 _) B6; have A13 := kc (kl A11 _) B6; have Q4 := kc (kl Q2 _) B6; have Q5 := kc (kl Q3 _) B6; have V0 := kc (a := ⟨w5.heap.size, 0, none⟩) (v := .int .u64 QH) (by simp [go_sem]) B6; have V1 := kc (a := ⟨w5.heap.size, 1, none⟩) (v := .int .u64 QL) (by simp [go_sem]) B6; clear A10 A11 Q2 Q3))
  go_region_held3 (fun w' => w'.cell? ⟨w6.heap.size, 0, none⟩ = some (.int .u64 YH) ∧ w'.cell? ⟨w6.heap.size, 1, none⟩ = some (.int .u64 YL))
    (first | assumption | (simp [go_sem, *]; done) | (exact keep2 B8 (by assumption)) | (exact keep2 B7 (by assumption)) | (exact keep2a (by assumption) z8) | (exact keep2s (by assumption) (by omega)))
    (first
      | (go_at_call 21; refine (wof).mono ?_; rintro e w7 ⟨rfl, B7⟩; have z7 : w6.heap.size < w7.heap.size := (by have := B7.size; (try simp at this); omega); try (have z7' : w6.heap.size + 1 < w7.heap.size := (by have := B7.size; (try simp at this); omega); have g0 := kc (a := ⟨w6.heap.size + 1, 0, none⟩) (v := .int .u64 0) (by simp [go_sem]) B7; have g1 := kc (a := ⟨w6.heap.size + 1, 1, none⟩) (v := .int .u64 0) (by simp [go_sem]) B7; have g2 := kf (a := ⟨w6.heap.size + 1, 0, none⟩) (v := .int .u64 0) (by simp [go_sem]) B7 (by simp [go_sem]); have g3 := kf (a := ⟨w6.heap.size + 1, 1, none⟩) (v := .int .u64 0) (by simp [go_sem]) B7 (by simp [go_sem])))
      | (go_at_call 10; refine (wadd_is y1 y2 word0 wr hZ).mono ?_; rintro e w8 ⟨rfl, B8⟩; have z8 : w6.heap.size < w8.heap.size := (by have := B8.size; (try simp at this); omega); (try (have f0 := kc (a := ⟨w7.heap.size, 0, none⟩) (v := .int .u64 0) (by simp [go_sem]) B8; have f1 := kc (a := ⟨w7.heap.size, 1, none⟩) (v := .int .u64 0) (by simp [go_sem]) B8; have f2 := kf (a := ⟨w7.heap.size, 0, none⟩) (v := .int .u64 0) (by simp [go_sem]) B8 (by simp [go_sem]); have f3 := kf (a := ⟨w7.heap.size, 1, none⟩) (v := .int .u64 0) (by simp [go_sem]) B8 (by simp [go_sem]))); (try (have f0 := kc g0 B8; have f1 := kc g1 B8; have f2 := kf g0 B8 g2; have f3 := kf g1 B8 g3)); have e1 := cell_lt A12; have e2 := cell_lt Q4; have e3 := cell_lt V0; have T : Below (w6.alloc (Obj.cells #[Value.int IntKind.u64 YH, Value.int IntKind.u64 YL] 24)).drew.heap.size (w6.alloc (Obj.cells #[Value.int IntKind.u64 YH, Value.int IntKind.u64 YL] 24)).drew w8 := (by first | exact bt B7 B8 | exact bt (ba B7 _) B8 | exact bt (bt (ba (Below.refl _ _) _) B7) B8); have D : Below w.heap.size w w8 := bt (ba (bt (ba (bt (bt (ba (bt (ba (bt (ba (bt (bt (ba (Below.refl _ _) _) B0) B1) _) B2) _) B3) _) B4) B5) _) B6) _).drew T; have p0 := kd A12 T; have p1 := kd A13 T; have q0 := kd Q4 T; have q1 := kd Q5 T; have v0 := kd V0 T; have v1 := kd V1 T; clear T))
  · refine gen_world (G := fun x => Exit.then _ _ _ _ x) (fun x => (x.cell? ⟨w.heap.size, 0, none⟩ = some (.int .u64 ah) ∧ x.cell? ⟨w.heap.size, 1, none⟩ = some (.int .u64 al) ∧ x.cell? ⟨w3.heap.size, 0, none⟩ = some (.int .u64 QH) ∧ x.cell? ⟨w3.heap.size, 1, none⟩ = some (.int .u64 QL) ∧ x.cell? ⟨w5.heap.size, 0, none⟩ = some (.int .u64 QH) ∧ x.cell? ⟨w5.heap.size, 1, none⟩ = some (.int .u64 QL)) ∧ (x.cell? ⟨w8.heap.size, 0, none⟩ = some (.int .u64 ah) ∧ x.cell? ⟨w8.heap.size, 1, none⟩ = some (.int .u64 al)) ∧ Below w.heap.size w x) ?_ ?_
    · exact ⟨⟨kl p0 _, kl p1 _, kl q0 _, kl q1 _, kl v0 _, kl v1 _⟩, ⟨by simp [go_sem], by simp [go_sem]⟩, ba D _⟩
    · rintro x ⟨⟨y0, y1, y2, y3, y4, y5⟩, ⟨y6, y7⟩, y8⟩
      clear p0 p1 q0 q1 v0 v1 D A12 A13 Q4 Q5 V0 V1 z7 z8 e1 e2 e3 B0 B1 B2 B3 B4 B5 B6 B7 B8
      go_wp2
      go_ret
      exact ⟨rfl, y8⟩
  · refine gen_world (G := fun x => Exit.then _ _ _ _ x) (fun x => (x.cell? ⟨w.heap.size, 0, none⟩ = some (.int .u64 ah) ∧ x.cell? ⟨w.heap.size, 1, none⟩ = some (.int .u64 al) ∧ x.cell? ⟨w3.heap.size, 0, none⟩ = some (.int .u64 QH) ∧ x.cell? ⟨w3.heap.size, 1, none⟩ = some (.int .u64 QL) ∧ x.cell? ⟨w5.heap.size, 0, none⟩ = some (.int .u64 QH) ∧ x.cell? ⟨w5.heap.size, 1, none⟩ = some (.int .u64 QL)) ∧ (x.cell? ⟨w7.heap.size, 0, none⟩ = some (.int .u64 ah) ∧ x.cell? ⟨w7.heap.size, 1, none⟩ = some (.int .u64 al)) ∧ Below w.heap.size w x) ?_ ?_
    · have ds := D.size
      exact ⟨⟨cs (cs p0 (by simp at *; omega)) (by simp at *; omega), cs (cs p1 (by simp at *; omega)) (by simp at *; omega), cs (cs q0 (by simp at *; omega)) (by simp at *; omega), cs (cs q1 (by simp at *; omega)) (by simp at *; omega), cs (cs v0 (by simp at *; omega)) (by simp at *; omega), cs (cs v1 (by simp at *; omega)) (by simp at *; omega)⟩, ⟨by simp [go_sem, f0], by simp [go_sem, f1]⟩, (D.setCell (by simp at *; omega) _).setCell (by simp at *; omega) _⟩
    · rintro x ⟨⟨y0, y1, y2, y3, y4, y5⟩, ⟨y6, y7⟩, y8⟩
      clear p0 p1 q0 q1 v0 v1 D A12 A13 Q4 Q5 V0 V1 z7 z8 e1 e2 e3 B0 B1 B2 B3 B4 B5 B6 B7 B8
      go_wp2
      go_ret
      exact ⟨rfl, y8⟩
  · refine gen_world (G := fun x => Exit.then _ _ _ _ x) (fun x => (x.cell? ⟨w.heap.size, 0, none⟩ = some (.int .u64 ah) ∧ x.cell? ⟨w.heap.size, 1, none⟩ = some (.int .u64 al) ∧ x.cell? ⟨w3.heap.size, 0, none⟩ = some (.int .u64 QH) ∧ x.cell? ⟨w3.heap.size, 1, none⟩ = some (.int .u64 QL) ∧ x.cell? ⟨w5.heap.size, 0, none⟩ = some (.int .u64 QH) ∧ x.cell? ⟨w5.heap.size, 1, none⟩ = some (.int .u64 QL)) ∧ (x.cell? ⟨w6.heap.size + 1, 0, none⟩ = some (.int .u64 ah) ∧ x.cell? ⟨w6.heap.size + 1, 1, none⟩ = some (.int .u64 al)) ∧ Below w.heap.size w x) ?_ ?_
    · have ds := D.size
      exact ⟨⟨cs (cs p0 (by simp at *; omega)) (by simp at *; omega), cs (cs p1 (by simp at *; omega)) (by simp at *; omega), cs (cs q0 (by simp at *; omega)) (by simp at *; omega), cs (cs q1 (by simp at *; omega)) (by simp at *; omega), cs (cs v0 (by simp at *; omega)) (by simp at *; omega), cs (cs v1 (by simp at *; omega)) (by simp at *; omega)⟩, ⟨by simp [go_sem, f0], by simp [go_sem, f1]⟩, (D.setCell (by simp at *; omega) _).setCell (by simp at *; omega) _⟩
    · rintro x ⟨⟨y0, y1, y2, y3, y4, y5⟩, ⟨y6, y7⟩, y8⟩
      clear p0 p1 q0 q1 v0 v1 D A12 A13 Q4 Q5 V0 V1 z7 z8 e1 e2 e3 B0 B1 B2 B3 B4 B5 B6 B7 B8
      go_wp2
      go_ret
      exact ⟨rfl, y8⟩
theorem wprod_any {ah al n : Int} (w : World) (a1 : Word ah) (a2 : Word al) (hn : Word n) :
    Calls Try.prog 4 #[.agg #[.int .u64 ah, .int .u64 al], .int .u64 n] w fun e w' => e = .returned (.bool true) ∧ Below w.heap.size w w' := by
  by_cases h : n = 0
  · subst h; exact wprod_zero w a1 a2
  · exact wprod_pos w a1 a2 hn (by have := hn.lo; omega)
end Go.Proofs.Ytakdkoocbekbgaa
