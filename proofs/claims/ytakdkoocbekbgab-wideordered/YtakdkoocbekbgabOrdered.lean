/- The walk of the law WideOrdered. -/
import Derived.Test.YtakdkoocbekbgabCross
import Derived.Deep.RegionHeld
namespace Go.Proofs.Ytakdkoocbekbgab
open Go.ChangeShapes Go.WideShapes Go.ChangeAt Go.RowKit

theorem cell_lt {w : World} {a : Addr} {v : Value} (h : w.cell? a = some v) : a.block < w.heap.size := by
  refine Nat.not_le.mp fun hn => ?_
  unfold World.cell? at h
  rw [Array.getElem?_eq_none hn] at h
  simp at h
theorem kc {w w1 : World} {a : Addr} {v : Value} (h : w.cell? a = some v) (hb : Below w.heap.size w w1) : w1.cell? a = some v := by
  rw [hb.cell (cell_lt h)]; exact h
theorem cmpI_refl (x : Int) : cmpI x x = 0 := by unfold cmpI; rw [if_neg (by omega), if_neg (by omega)]
theorem cmpI_turn (x y : Int) : cmpI x y = -cmpI y x := by unfold cmpI; split <;> split <;> (try split) <;> omega
theorem cmpI_le {x y : Int} : cmpI x y ≤ 0 ↔ x ≤ y := by unfold cmpI; split <;> (try split) <;> omega
theorem cmpI_range (x y : Int) : -1 ≤ cmpI x y ∧ cmpI x y ≤ 1 := by unfold cmpI; split <;> (try split) <;> omega
/-- What the four answers have to do with one another. -/
theorem four {a b c d e f x y z u : Int} {o1 o2 o3 o4 : Bool} (h1 : CrossIs a b c d x o1) (h2 : CrossIs c d a b y o2) (h3 : CrossIs c d e f z o3) (h4 : CrossIs a b e f u o4) :
    o2 = o1 ∧ (o1 = true → x = -y) ∧ (o1 = true → o3 = true → o4 = true) ∧ (o1 = true → o3 = true → x ≤ 0 → z ≤ 0 → u ≤ 0) := by
  have e1 : o2 = o1 := by
    cases o1 <;> cases o2
    · rfl
    · obtain ⟨p, _⟩ := h1.no rfl; obtain ⟨q, _⟩ := h2.yes rfl; omega
    · obtain ⟨p, _⟩ := h1.yes rfl; obtain ⟨q, _⟩ := h2.no rfl; omega
    · rfl
  have e2 : o1 = true → o3 = true → o4 = true := by
    intro p q
    cases o4
    · obtain ⟨r, _⟩ := h4.no rfl; obtain ⟨s, _⟩ := h1.yes p; obtain ⟨t, _⟩ := h3.yes q; omega
    · rfl
  refine ⟨e1, fun p => ?_, e2, fun p q r s => ?_⟩
  · rw [(h1.yes p).2, (h2.yes (by rw [e1]; exact p)).2]; exact cmpI_turn _ _
  · obtain ⟨⟨a0, b0, c0, d0⟩, ex⟩ := h1.yes p
    obtain ⟨⟨_, _, g0, k0⟩, ez⟩ := h3.yes q
    obtain ⟨_, eu⟩ := h4.yes (e2 p q)
    rw [ex, cmpI_le] at r
    rw [ez, cmpI_le] at s
    rw [eu, cmpI_le]
    have m1 := Int.mul_le_mul_of_nonneg_right r (show 0 ≤ f by omega)
    have m2 := Int.mul_le_mul_of_nonneg_right s (show 0 ≤ b by omega)
    have m3 : a * f * d ≤ e * b * d := by
      have t1 : a * d * f = a * f * d := by grind
      have t2 : c * b * f = c * f * b := by grind
      have t3 : e * d * b = e * b * d := by grind
      omega
    exact Int.le_of_mul_le_mul_right m3 (by omega)
set_option maxRecDepth 20000 in
set_option maxHeartbeats 16000000 in
theorem ordered_any {a b c d e f : Int} (w : World) (ha : I64 a) (hb : I64 b) (hc : I64 c) (hd : I64 d) (he : I64 e) (hf : I64 f) :
    Calls Try.prog 3 #[.agg #[.int .i64 a, .int .i64 b], .agg #[.int .i64 c, .int .i64 d], .agg #[.int .i64 e, .int .i64 f]] w fun r w' => r = .returned (.bool true) ∧ Below w.heap.size w w' := by
  obtain ⟨x, o1, h1⟩ := cross_ex a b c d
  obtain ⟨y, o2, h2⟩ := cross_ex c d a b
  obtain ⟨z, o3, h3⟩ := cross_ex c d e f
  obtain ⟨u, o4, h4⟩ := cross_ex a b e f
  obtain ⟨e1, e2, e3, e4⟩ := four h1 h2 h3 h4
  subst e1
  have H0 : Hid (0 = cmpI (a * (7 * b)) (7 * a * b)) := by show 0 = _; rw [show a * (7 * b) = 7 * a * b by grind, cmpI_refl]
  have yr : -1 ≤ y ∧ y ≤ 1 := by
    cases o2
    · have := (h2.no rfl).2; omega
    · rw [(h2.yes rfl).2]; exact cmpI_range _ _
  obtain ⟨y1, y2⟩ := yr
  obtain ⟨a1, a2⟩ := id ha; obtain ⟨b1, b2⟩ := id hb
  have hcase : o2 = false ∨ (o2 = true ∧ o3 = false) ∨ (o2 = true ∧ o3 = true ∧ ¬ x ≤ 0) ∨ (o2 = true ∧ o3 = true ∧ x ≤ 0 ∧ ¬ z ≤ 0) ∨ (o2 = true ∧ o3 = true ∧ x ≤ 0 ∧ z ≤ 0) := by
    cases o2 <;> cases o3 <;> simp <;> omega
  rcases hcase with p1 | ⟨p1, p2⟩ | ⟨p1, p2, p3⟩ | ⟨p1, p2, p3, p4⟩ | ⟨p1, p2, p3, p4⟩
  · subst p1
    clear e2 e3 e4
    go_enter Try.func3, Try.ntmps3
    go_wp2_with (first
      | (go_at_call 4; refine (alive_any).mono ?_; rintro r w0 ⟨rfl, B0⟩; have p00 := kc (a := ⟨w.heap.size, 0, none⟩) (v := .int .i64 a) (by simp [go_sem]) B0; have p10 := kc (a := ⟨w.heap.size, 1, none⟩) (v := .int .i64 b) (by simp [go_sem]) B0; have q00 := kc (a := ⟨w.heap.size + 1, 0, none⟩) (v := .int .i64 c) (by simp [go_sem]) B0; have q10 := kc (a := ⟨w.heap.size + 1, 1, none⟩) (v := .int .i64 d) (by simp [go_sem]) B0; have r00 := kc (a := ⟨w.heap.size + 2, 0, none⟩) (v := .int .i64 e) (by simp [go_sem]) B0; have r10 := kc (a := ⟨w.heap.size + 2, 1, none⟩) (v := .int .i64 f) (by simp [go_sem]) B0)
      | (go_at_call 5; with_reducible refine (cross_is ha hb hc hd h1).mono ?_; rintro r w1 ⟨rfl, B1⟩; have p01 := kc p00 B1; have p11 := kc p10 B1; have q01 := kc q00 B1; have q11 := kc q10 B1; have r01 := kc r00 B1; have r11 := kc r10 B1; clear p00 p10 q00 q10 r00 r10)
      | (go_at_call 5; with_reducible refine (cross_is hc hd ha hb h2).mono ?_; rintro r w2 ⟨rfl, B2⟩; have p02 := kc p01 B2; have p12 := kc p11 B2; have q02 := kc q01 B2; have q12 := kc q11 B2; have r02 := kc r01 B2; have r12 := kc r11 B2; clear p01 p11 q01 q11 r01 r11)
      | (go_at_call 5; with_reducible refine (cross_is hc hd he hf h3).mono ?_; rintro r w3 ⟨rfl, B3⟩; have p03 := kc p02 B3; have p13 := kc p12 B3; have q03 := kc q02 B3; have q13 := kc q12 B3; have r03 := kc r02 B3; have r13 := kc r12 B3; clear p02 p12 q02 q12 r02 r12)
      | (go_at_call 5; with_reducible refine (cross_is ha hb he hf h4).mono ?_; rintro r w4 ⟨rfl, B4⟩; have p04 := kc p03 B4; have p14 := kc p13 B4; have q04 := kc q03 B4; have q14 := kc q13 B4; have r04 := kc r03 B4; have r14 := kc r13 B4; clear p03 p13 q03 q13 r03 r13)
      | (go_at_call 5; with_reducible refine (cross_yes ha hb ⟨by omega, by omega⟩ ⟨by omega, by omega⟩ (by omega) (by omega) (by omega) (by omega) H0).mono ?_; rintro r w5 ⟨rfl, B5⟩))
    all_goals (go_ret; exact ⟨rfl, (by first | exact bt (bt (bt (bt (bt (ba (ba (ba (Below.refl _ _) _) _) _) B0) B1) B2) B3) B4 | exact bt (bt (bt (bt (bt (bt (ba (ba (ba (Below.refl _ _) _) _) _) B0) B1) B2) B3) B4) B5)⟩)
  · subst p1 p2
    have e2 := e2 rfl
    subst e2
    clear e3 e4
    go_enter Try.func3, Try.ntmps3
    go_wp2_with (first
      | (go_at_call 4; refine (alive_any).mono ?_; rintro r w0 ⟨rfl, B0⟩; have p00 := kc (a := ⟨w.heap.size, 0, none⟩) (v := .int .i64 a) (by simp [go_sem]) B0; have p10 := kc (a := ⟨w.heap.size, 1, none⟩) (v := .int .i64 b) (by simp [go_sem]) B0; have q00 := kc (a := ⟨w.heap.size + 1, 0, none⟩) (v := .int .i64 c) (by simp [go_sem]) B0; have q10 := kc (a := ⟨w.heap.size + 1, 1, none⟩) (v := .int .i64 d) (by simp [go_sem]) B0; have r00 := kc (a := ⟨w.heap.size + 2, 0, none⟩) (v := .int .i64 e) (by simp [go_sem]) B0; have r10 := kc (a := ⟨w.heap.size + 2, 1, none⟩) (v := .int .i64 f) (by simp [go_sem]) B0)
      | (go_at_call 5; with_reducible refine (cross_is ha hb hc hd h1).mono ?_; rintro r w1 ⟨rfl, B1⟩; have p01 := kc p00 B1; have p11 := kc p10 B1; have q01 := kc q00 B1; have q11 := kc q10 B1; have r01 := kc r00 B1; have r11 := kc r10 B1; clear p00 p10 q00 q10 r00 r10)
      | (go_at_call 5; with_reducible refine (cross_is hc hd ha hb h2).mono ?_; rintro r w2 ⟨rfl, B2⟩; have p02 := kc p01 B2; have p12 := kc p11 B2; have q02 := kc q01 B2; have q12 := kc q11 B2; have r02 := kc r01 B2; have r12 := kc r11 B2; clear p01 p11 q01 q11 r01 r11)
      | (go_at_call 5; with_reducible refine (cross_is hc hd he hf h3).mono ?_; rintro r w3 ⟨rfl, B3⟩; have p03 := kc p02 B3; have p13 := kc p12 B3; have q03 := kc q02 B3; have q13 := kc q12 B3; have r03 := kc r02 B3; have r13 := kc r12 B3; clear p02 p12 q02 q12 r02 r12)
      | (go_at_call 5; with_reducible refine (cross_is ha hb he hf h4).mono ?_; rintro r w4 ⟨rfl, B4⟩; have p04 := kc p03 B4; have p14 := kc p13 B4; have q04 := kc q03 B4; have q14 := kc q13 B4; have r04 := kc r03 B4; have r14 := kc r13 B4; clear p03 p13 q03 q13 r03 r13)
      | (go_at_call 5; with_reducible refine (cross_yes ha hb ⟨by omega, by omega⟩ ⟨by omega, by omega⟩ (by omega) (by omega) (by omega) (by omega) H0).mono ?_; rintro r w5 ⟨rfl, B5⟩))
    all_goals (go_ret; exact ⟨rfl, (by first | exact bt (bt (bt (bt (bt (ba (ba (ba (Below.refl _ _) _) _) _) B0) B1) B2) B3) B4 | exact bt (bt (bt (bt (bt (bt (ba (ba (ba (Below.refl _ _) _) _) _) B0) B1) B2) B3) B4) B5)⟩)
  · subst p1 p2
    have e2 := e2 rfl
    have e3 := e3 rfl rfl
    subst e2 e3
    clear e4
    go_enter Try.func3, Try.ntmps3
    go_wp2_with (first
      | (go_at_call 4; refine (alive_any).mono ?_; rintro r w0 ⟨rfl, B0⟩; have p00 := kc (a := ⟨w.heap.size, 0, none⟩) (v := .int .i64 a) (by simp [go_sem]) B0; have p10 := kc (a := ⟨w.heap.size, 1, none⟩) (v := .int .i64 b) (by simp [go_sem]) B0; have q00 := kc (a := ⟨w.heap.size + 1, 0, none⟩) (v := .int .i64 c) (by simp [go_sem]) B0; have q10 := kc (a := ⟨w.heap.size + 1, 1, none⟩) (v := .int .i64 d) (by simp [go_sem]) B0; have r00 := kc (a := ⟨w.heap.size + 2, 0, none⟩) (v := .int .i64 e) (by simp [go_sem]) B0; have r10 := kc (a := ⟨w.heap.size + 2, 1, none⟩) (v := .int .i64 f) (by simp [go_sem]) B0)
      | (go_at_call 5; with_reducible refine (cross_is ha hb hc hd h1).mono ?_; rintro r w1 ⟨rfl, B1⟩; have p01 := kc p00 B1; have p11 := kc p10 B1; have q01 := kc q00 B1; have q11 := kc q10 B1; have r01 := kc r00 B1; have r11 := kc r10 B1; clear p00 p10 q00 q10 r00 r10)
      | (go_at_call 5; with_reducible refine (cross_is hc hd ha hb h2).mono ?_; rintro r w2 ⟨rfl, B2⟩; have p02 := kc p01 B2; have p12 := kc p11 B2; have q02 := kc q01 B2; have q12 := kc q11 B2; have r02 := kc r01 B2; have r12 := kc r11 B2; clear p01 p11 q01 q11 r01 r11)
      | (go_at_call 5; with_reducible refine (cross_is hc hd he hf h3).mono ?_; rintro r w3 ⟨rfl, B3⟩; have p03 := kc p02 B3; have p13 := kc p12 B3; have q03 := kc q02 B3; have q13 := kc q12 B3; have r03 := kc r02 B3; have r13 := kc r12 B3; clear p02 p12 q02 q12 r02 r12)
      | (go_at_call 5; with_reducible refine (cross_is ha hb he hf h4).mono ?_; rintro r w4 ⟨rfl, B4⟩; have p04 := kc p03 B4; have p14 := kc p13 B4; have q04 := kc q03 B4; have q14 := kc q13 B4; have r04 := kc r03 B4; have r14 := kc r13 B4; clear p03 p13 q03 q13 r03 r13)
      | (go_at_call 5; with_reducible refine (cross_yes ha hb ⟨by omega, by omega⟩ ⟨by omega, by omega⟩ (by omega) (by omega) (by omega) (by omega) H0).mono ?_; rintro r w5 ⟨rfl, B5⟩))
    all_goals (go_ret; exact ⟨rfl, (by first | exact bt (bt (bt (bt (bt (ba (ba (ba (Below.refl _ _) _) _) _) B0) B1) B2) B3) B4 | exact bt (bt (bt (bt (bt (bt (ba (ba (ba (Below.refl _ _) _) _) _) B0) B1) B2) B3) B4) B5)⟩)
  · subst p1 p2
    have e2 := e2 rfl
    have e3 := e3 rfl rfl
    subst e2 e3
    clear e4
    go_enter Try.func3, Try.ntmps3
    go_wp2_with (first
      | (go_at_call 4; refine (alive_any).mono ?_; rintro r w0 ⟨rfl, B0⟩; have p00 := kc (a := ⟨w.heap.size, 0, none⟩) (v := .int .i64 a) (by simp [go_sem]) B0; have p10 := kc (a := ⟨w.heap.size, 1, none⟩) (v := .int .i64 b) (by simp [go_sem]) B0; have q00 := kc (a := ⟨w.heap.size + 1, 0, none⟩) (v := .int .i64 c) (by simp [go_sem]) B0; have q10 := kc (a := ⟨w.heap.size + 1, 1, none⟩) (v := .int .i64 d) (by simp [go_sem]) B0; have r00 := kc (a := ⟨w.heap.size + 2, 0, none⟩) (v := .int .i64 e) (by simp [go_sem]) B0; have r10 := kc (a := ⟨w.heap.size + 2, 1, none⟩) (v := .int .i64 f) (by simp [go_sem]) B0)
      | (go_at_call 5; with_reducible refine (cross_is ha hb hc hd h1).mono ?_; rintro r w1 ⟨rfl, B1⟩; have p01 := kc p00 B1; have p11 := kc p10 B1; have q01 := kc q00 B1; have q11 := kc q10 B1; have r01 := kc r00 B1; have r11 := kc r10 B1; clear p00 p10 q00 q10 r00 r10)
      | (go_at_call 5; with_reducible refine (cross_is hc hd ha hb h2).mono ?_; rintro r w2 ⟨rfl, B2⟩; have p02 := kc p01 B2; have p12 := kc p11 B2; have q02 := kc q01 B2; have q12 := kc q11 B2; have r02 := kc r01 B2; have r12 := kc r11 B2; clear p01 p11 q01 q11 r01 r11)
      | (go_at_call 5; with_reducible refine (cross_is hc hd he hf h3).mono ?_; rintro r w3 ⟨rfl, B3⟩; have p03 := kc p02 B3; have p13 := kc p12 B3; have q03 := kc q02 B3; have q13 := kc q12 B3; have r03 := kc r02 B3; have r13 := kc r12 B3; clear p02 p12 q02 q12 r02 r12)
      | (go_at_call 5; with_reducible refine (cross_is ha hb he hf h4).mono ?_; rintro r w4 ⟨rfl, B4⟩; have p04 := kc p03 B4; have p14 := kc p13 B4; have q04 := kc q03 B4; have q14 := kc q13 B4; have r04 := kc r03 B4; have r14 := kc r13 B4; clear p03 p13 q03 q13 r03 r13)
      | (go_at_call 5; with_reducible refine (cross_yes ha hb ⟨by omega, by omega⟩ ⟨by omega, by omega⟩ (by omega) (by omega) (by omega) (by omega) H0).mono ?_; rintro r w5 ⟨rfl, B5⟩))
    all_goals (go_ret; exact ⟨rfl, (by first | exact bt (bt (bt (bt (bt (ba (ba (ba (Below.refl _ _) _) _) _) B0) B1) B2) B3) B4 | exact bt (bt (bt (bt (bt (bt (ba (ba (ba (Below.refl _ _) _) _) _) B0) B1) B2) B3) B4) B5)⟩)
  · subst p1 p2
    have e2 := e2 rfl
    have e3 := e3 rfl rfl
    have e4 := e4 rfl rfl p3 p4
    subst e2 e3
    go_enter Try.func3, Try.ntmps3
    go_wp2_with (first
      | (go_at_call 4; refine (alive_any).mono ?_; rintro r w0 ⟨rfl, B0⟩; have p00 := kc (a := ⟨w.heap.size, 0, none⟩) (v := .int .i64 a) (by simp [go_sem]) B0; have p10 := kc (a := ⟨w.heap.size, 1, none⟩) (v := .int .i64 b) (by simp [go_sem]) B0; have q00 := kc (a := ⟨w.heap.size + 1, 0, none⟩) (v := .int .i64 c) (by simp [go_sem]) B0; have q10 := kc (a := ⟨w.heap.size + 1, 1, none⟩) (v := .int .i64 d) (by simp [go_sem]) B0; have r00 := kc (a := ⟨w.heap.size + 2, 0, none⟩) (v := .int .i64 e) (by simp [go_sem]) B0; have r10 := kc (a := ⟨w.heap.size + 2, 1, none⟩) (v := .int .i64 f) (by simp [go_sem]) B0)
      | (go_at_call 5; with_reducible refine (cross_is ha hb hc hd h1).mono ?_; rintro r w1 ⟨rfl, B1⟩; have p01 := kc p00 B1; have p11 := kc p10 B1; have q01 := kc q00 B1; have q11 := kc q10 B1; have r01 := kc r00 B1; have r11 := kc r10 B1; clear p00 p10 q00 q10 r00 r10)
      | (go_at_call 5; with_reducible refine (cross_is hc hd ha hb h2).mono ?_; rintro r w2 ⟨rfl, B2⟩; have p02 := kc p01 B2; have p12 := kc p11 B2; have q02 := kc q01 B2; have q12 := kc q11 B2; have r02 := kc r01 B2; have r12 := kc r11 B2; clear p01 p11 q01 q11 r01 r11)
      | (go_at_call 5; with_reducible refine (cross_is hc hd he hf h3).mono ?_; rintro r w3 ⟨rfl, B3⟩; have p03 := kc p02 B3; have p13 := kc p12 B3; have q03 := kc q02 B3; have q13 := kc q12 B3; have r03 := kc r02 B3; have r13 := kc r12 B3; clear p02 p12 q02 q12 r02 r12)
      | (go_at_call 5; with_reducible refine (cross_is ha hb he hf h4).mono ?_; rintro r w4 ⟨rfl, B4⟩; have p04 := kc p03 B4; have p14 := kc p13 B4; have q04 := kc q03 B4; have q14 := kc q13 B4; have r04 := kc r03 B4; have r14 := kc r13 B4; clear p03 p13 q03 q13 r03 r13)
      | (go_at_call 5; with_reducible refine (cross_yes ha hb ⟨by omega, by omega⟩ ⟨by omega, by omega⟩ (by omega) (by omega) (by omega) (by omega) H0).mono ?_; rintro r w5 ⟨rfl, B5⟩))
    all_goals (go_ret; exact ⟨rfl, (by first | exact bt (bt (bt (bt (bt (ba (ba (ba (Below.refl _ _) _) _) _) B0) B1) B2) B3) B4 | exact bt (bt (bt (bt (bt (bt (ba (ba (ba (Below.refl _ _) _) _) _) B0) B1) B2) B3) B4) B5)⟩)
end Go.Proofs.Ytakdkoocbekbgab
