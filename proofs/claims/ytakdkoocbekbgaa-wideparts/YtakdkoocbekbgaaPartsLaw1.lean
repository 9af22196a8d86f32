/- The walk of the law WideParts, case 1. -/
import Derived.Test.YtakdkoocbekbgaaParts3
namespace Go.Proofs.Ytakdkoocbekbgaa
open Go.ChangeShapes Go.WideShapes Go.ChangeAt Go.RowKit
attribute [local go_sem] World.cell?_alloc_some frozen_alloc_some

theorem cross_ag {a b q t x : Int} {ok : Bool} (h : CrossIs a b q t x ok) (ha : I64 a) (hb : I64 b) (hq : I64 q) (ht : I64 t) (a0 : 0 ≤ a) (b0 : 1 ≤ b) : AgIs (wv 0 a) (wv 0 b) q t x ok := by
  have ea : wv 0 a = a := by unfold wv; omega
  have eb : wv 0 b = b := by unfold wv; omega
  rw [ea, eb]
  constructor
  · intro hk
    obtain ⟨⟨_, _, q0, t0⟩, hx⟩ := h.yes hk
    have m1 : a * t ≤ 9223372036854775807 * 9223372036854775807 := Int.mul_le_mul ha.hi ht.hi (by omega) (by decide)
    have m2 : b * q ≤ 9223372036854775807 * 9223372036854775807 := Int.mul_le_mul hb.hi hq.hi q0 (by decide)
    exact ⟨⟨by omega, q0, t0⟩, by omega, by omega, by rw [hx, Int.mul_comm q b]⟩
  · intro hk
    obtain ⟨hn, hx⟩ := h.no hk
    refine ⟨fun hl => ?_, hx⟩
    have := hl.1.q; have := hl.1.t
    omega
set_option maxRecDepth 20000 in
set_option maxHeartbeats 16000000 in
theorem parts_1 {nh nl dh dl q t a b : Int} (w : World) (a1 : Word nh) (a2 : Word nl) (a3 : Word dh) (a4 : Word dl) (hq : I64 q) (ht : I64 t) (ha : I64 a) (hb : I64 b) (c1 : 0 ≤ a) (c2 : 1 ≤ b) :
    Calls Try.prog 6 #[.agg #[.int .u64 nh, .int .u64 nl, .int .u64 dh, .int .u64 dl, .int .i64 q, .int .i64 t, .int .i64 a, .int .i64 b]] w fun r w' => r = .returned (.bool true) ∧ Below w.heap.size w w' := by
  obtain ⟨A, B, C, E, pb, hP⟩ := pl_ex (q := q) (t := t) (wv_lo a1 a2) (wv_lo a3 a4)
  obtain ⟨x, xb, hA⟩ := ag_ex (wv nh nl) (wv dh dl) q t
  obtain ⟨e, eb, hX⟩ := cross_ex a b q t
  obtain ⟨u1, u2⟩ := id ha
  obtain ⟨u3, u4⟩ := id hb
  go_enter Try.func6, Try.ntmps6
  go_wp2
  go_region_held3 (fun w' => w'.cell? ⟨w.heap.size, 0, none⟩ = some (.int .u64 nh) ∧ w'.cell? ⟨w.heap.size, 1, none⟩ = some (.int .u64 nl) ∧ w'.cell? ⟨w.heap.size, 2, none⟩ = some (.int .u64 dh) ∧ w'.cell? ⟨w.heap.size, 3, none⟩ = some (.int .u64 dl) ∧ w'.cell? ⟨w.heap.size, 4, none⟩ = some (.int .i64 q) ∧ w'.cell? ⟨w.heap.size, 5, none⟩ = some (.int .i64 t) ∧ w'.cell? ⟨w.heap.size, 6, none⟩ = some (.int .i64 a) ∧ w'.cell? ⟨w.heap.size, 7, none⟩ = some (.int .i64 b))
    (first | assumption | (simp [go_sem]; done) | go_keep) (fail)
  refine gw (G := fun x => Exit.then _ _ _ _ x) (fun x => (x.cell? ⟨w.heap.size + 1, 0, none⟩ = some (.int .u64 nh) ∧ x.cell? ⟨w.heap.size + 1, 1, none⟩ = some (.int .u64 nl) ∧ x.cell? ⟨w.heap.size + 1, 2, none⟩ = some (.int .u64 dh) ∧ x.cell? ⟨w.heap.size + 1, 3, none⟩ = some (.int .u64 dl)) ∧ Below w.heap.size w x) ?_ ?_
  · exact ⟨⟨by simp [go_sem], by simp [go_sem], by simp [go_sem], by simp [go_sem]⟩, (ba (ba (Below.refl _ _) _) _).drew⟩
  rintro wz ⟨⟨k0, k1, k2, k3⟩, D⟩
  have wa : Word a := ⟨c1, by omega⟩
  have wb : Word b := ⟨by omega, by omega⟩
  have hY := cross_ag hX ha hb hq ht c1 c2
  go_wp2_with (first
    | (go_at_call 9; refine (alive_any).mono ?_; rintro r w0 ⟨rfl, B0⟩; have p0 := kc k0 B0; have p1 := kc k1 B0; have p2 := kc k2 B0; have p3 := kc k3 B0; clear k0 k1 k2 k3)
    | (go_at_call 24; with_reducible refine (plus_is a1 a2 a3 a4 hq ht hP).mono ?_; rintro r w1 ⟨rfl, B1⟩; have q0 := kc p0 B1; have q1 := kc p1 B1; have q2 := kc p2 B1; have q3 := kc p3 B1; clear p0 p1 p2 p3)
    | (go_at_call 25; with_reducible refine (refPlus a1 a2 a3 a4 hq ht hP).mono ?_; rintro r w2 ⟨rfl, B2⟩; have r0 := kc (kl q0 _) B2; have r1 := kc (kl q1 _) B2; have r2 := kc (kl q2 _) B2; have r3 := kc (kl q3 _) B2; clear q0 q1 q2 q3; have x0 := kc (a := ⟨w1.heap.size, 0, none⟩) (v := .int .u64 A) (by simp [go_sem]) B2; have x1 := kc (a := ⟨w1.heap.size, 1, none⟩) (v := .int .u64 B) (by simp [go_sem]) B2; have x2 := kc (a := ⟨w1.heap.size, 2, none⟩) (v := .int .u64 C) (by simp [go_sem]) B2; have x3 := kc (a := ⟨w1.heap.size, 3, none⟩) (v := .int .u64 E) (by simp [go_sem]) B2)
    | (go_at_call 26; with_reducible refine (against_is a1 a2 a3 a4 hq ht hA).mono ?_; rintro r w3 ⟨rfl, B3⟩; have s0 := kc (kl r0 _) B3; have s1 := kc (kl r1 _) B3; have s2 := kc (kl r2 _) B3; have s3 := kc (kl r3 _) B3; clear r0 r1 r2 r3; have y0 := kc (kl x0 _) B3; have y1 := kc (kl x1 _) B3; have y2 := kc (kl x2 _) B3; have y3 := kc (kl x3 _) B3; clear x0 x1 x2 x3; have v0 := kc (a := ⟨w2.heap.size, 0, none⟩) (v := .int .u64 A) (by simp [go_sem]) B3; have v1 := kc (a := ⟨w2.heap.size, 1, none⟩) (v := .int .u64 B) (by simp [go_sem]) B3; have v2 := kc (a := ⟨w2.heap.size, 2, none⟩) (v := .int .u64 C) (by simp [go_sem]) B3; have v3 := kc (a := ⟨w2.heap.size, 3, none⟩) (v := .int .u64 E) (by simp [go_sem]) B3)
    | (go_at_call 27; with_reducible refine (refAgainst a1 a2 a3 a4 hq ht hA).mono ?_; rintro r w4 ⟨rfl, B4⟩; clear s0 s1 s2 s3; have z0 := kc y0 B4; have z1 := kc y1 B4; have z2 := kc y2 B4; have z3 := kc y3 B4; clear y0 y1 y2 y3; have u0 := kc v0 B4; have u1 := kc v1 B4; have u2 := kc v2 B4; have u3 := kc v3 B4; clear v0 v1 v2 v3)
    | (go_at_call 28; with_reducible refine (cross_is ha hb hq ht hX).mono ?_; rintro r w5 ⟨rfl, B5⟩; have g0 := kc z0 B5; have g1 := kc z1 B5; have g2 := kc z2 B5; have g3 := kc z3 B5; clear z0 z1 z2 z3; have h0 := kc u0 B5; have h1 := kc u1 B5; have h2 := kc u2 B5; have h3 := kc u3 B5; clear u0 u1 u2 u3)
    | (go_at_call 27; with_reducible refine (refAgainst word0 wa word0 wb hq ht hY).mono ?_; rintro r w6 ⟨rfl, B6⟩; have i0 := kc g0 B6; have i1 := kc g1 B6; have i2 := kc g2 B6; have i3 := kc g3 B6; clear g0 g1 g2 g3; have j0 := kc h0 B6; have j1 := kc h1 B6; have j2 := kc h2 B6; have j3 := kc h3 B6; clear h0 h1 h2 h3))
  go_ret
  exact ⟨rfl, bt (bt (bt (bt (ba (bt (ba (bt (bt D B0) B1) _) B2) _) B3) B4) B5) B6⟩
end Go.Proofs.Ytakdkoocbekbgaa
