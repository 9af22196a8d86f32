/- The walk of the law WideOrders. -/
import Derived.Test.YtakdkoocbekbgaaOrdMath
import Derived.Deep.QuietTactic
import Derived.BigQuiet
namespace Go.Proofs.Ytakdkoocbekbgaa
open Go.ChangeShapes Go.WideShapes Go.ChangeAt Go.RowKit
attribute [local go_sem] World.cell?_alloc_some frozen_alloc_some

/-- Where the sum stands behind k fractions. -/
structure Ust (m s : Nat → Int) (k : Nat) (A B C E : Int) : Prop where
  a : Word A
  b : Word B
  c : Word C
  e : Word E
  n : wv A B = fN m s k
  d : wv C E = fD s k

theorem cs1 {w : World} {a : Addr} {b i : Nat} {v x : Value} (h : w.cell? a = some v) (hn : a.block ≠ b) : (w.setCell ⟨b, i, none⟩ x).cell? a = some v := by
  rw [World.cell?_of_block (w := w) (Below.heap_setCell _ ⟨b, i, none⟩ x a.block hn)]; exact h
theorem cell_drew {w : World} {a : Addr} {v : Value} (h : w.cell? a = some v) : w.drew.cell? a = some v := h
theorem cs8 {w : World} {a : Addr} {v : Value} {b c : Nat} {x0 x1 x2 x3 x4 x5 x6 x7 : Value} (h : w.cell? a = some v) (n1 : a.block ≠ b) (n2 : a.block ≠ c) :
    ((((((((w.setCell ⟨b, 0, none⟩ x0).setCell ⟨b, 1, none⟩ x1).setCell ⟨b, 2, none⟩ x2).setCell ⟨b, 3, none⟩ x3).setCell ⟨c, 0, none⟩ x4).setCell ⟨c, 1, none⟩ x5).setCell ⟨c, 2, none⟩ x6).setCell ⟨c, 3, none⟩ x7).drew.cell? a = some v :=
  cell_drew (cs1 (cs1 (cs1 (cs1 (cs1 (cs1 (cs1 (cs1 h n1) n1) n1) n1) n2) n2) n2) n2)
theorem below8 {B : Nat} {o w : World} {b c : Nat} {x0 x1 x2 x3 x4 x5 x6 x7 : Value} (h : Below B o w) (n1 : B ≤ b) (n2 : B ≤ c) :
    Below B o ((((((((w.setCell ⟨b, 0, none⟩ x0).setCell ⟨b, 1, none⟩ x1).setCell ⟨b, 2, none⟩ x2).setCell ⟨b, 3, none⟩ x3).setCell ⟨c, 0, none⟩ x4).setCell ⟨c, 1, none⟩ x5).setCell ⟨c, 2, none⟩ x6).setCell ⟨c, 3, none⟩ x7).drew :=
  ((((((((h.setCell n1 _).setCell n1 _).setCell n1 _).setCell n1 _).setCell n2 _).setCell n2 _).setCell n2 _).setCell n2 _).drew
theorem ust_step {m s : Nat → Int} (hm : ∀ k, 0 ≤ m k ∧ m k ≤ 1023) (hs : ∀ k, 0 ≤ s k ∧ s k ≤ 1023) {k : Nat} (hk : k < 4) {A B C E : Int} (h : Ust m s k A B C E) :
    ∃ A' B' C' E', PlIs (wv A B) (wv C E) (m k) (1 + s k) A' B' C' E' true ∧ Ust m s (k + 1) A' B' C' E' := by
  obtain ⟨f1, f2, f3, f4⟩ := f_fit hm hs (k := k) (by omega)
  obtain ⟨g1, g2, g3, g4⟩ := f_fit hm hs (k := k + 1) (by omega)
  have hmk := hm k; have hsk := hs k
  have e1 : fN m s (k + 1) = fN m s k * (1 + s k) + fD s k * m k := rfl
  have e2 : fD s (k + 1) = fD s k * (1 + s k) := rfl
  obtain ⟨A', B', C', E', hP, p1, p2⟩ := plus_step (N := wv A B) (D := wv C E) (q := m k) (t := 1 + s k) (by rw [h.n]; exact f3) (by rw [h.d]; exact f1) hmk.1 (by omega) (by rw [h.n, h.d, ← e1]; omega) (by rw [h.d, ← e2]; omega)
  exact ⟨A', B', C', E', hP, hP.a, hP.b, hP.c, hP.e, by rw [p1, h.n, h.d, e1], by rw [p2, h.d, e2]⟩
theorem ust_ag {m s : Nat → Int} (hm : ∀ k, 0 ≤ m k ∧ m k ≤ 1023) (hs : ∀ k, 0 ≤ s k ∧ s k ≤ 1023) {k : Nat} (hk : k ≤ 4) {A B C E : Int} (h : Ust m s k A B C E) : AgIs (wv A B) (wv C E) 1048576 1 (-1) true := by
  obtain ⟨f1, f2, f3, f4⟩ := f_fit hm hs hk
  refine ⟨fun _ => ⟨⟨by rw [h.d]; omega, by decide, by decide⟩, by rw [h.n]; omega, by rw [h.d]; omega, ?_⟩, fun h => (by cases h)⟩
  rw [h.n, h.d]
  unfold cmpI
  rw [if_pos (by omega)]
theorem ord_end {m s : Nat → Int} (hm : ∀ k, 0 ≤ m k ∧ m k ≤ 1023) (hs : ∀ k, 0 ≤ s k ∧ s k ≤ 1023) {UA UB UC UE VA VB VC VE : Int} (hU : Ust m s 4 UA UB UC UE) (hV : Ust (fun j => m (3 - j)) (fun j => s (3 - j)) 4 VA VB VC VE) :
    (VA = UA ∧ VB = UB ∧ VC = UC ∧ VE = UE ∧ UC = 0) ∧ ∃ A B C E Q r x : Int, PlIs (wv UA UB) (wv UC UE) 1 1 A B C E true ∧ DivIs (wv UA UB) UE 0 Q r ∧ AgIs (wv UA UB) (wv UC UE) Q 1 x true ∧ AgIs (wv A B) (wv C E) Q 1 1 true ∧ (0 ≤ Q ∧ Q ≤ 4092) ∧ (0 ≤ r ∧ r < UE) ∧ ((r = 0 ∧ x = 0) ∨ (0 < r ∧ x = 1)) := by
  obtain ⟨f1, f2, f3, f4⟩ := f_fit hm hs (k := 4) (by omega)
  obtain ⟨t1, t2⟩ := f_turn m s
  obtain ⟨e1, e2⟩ := wv_inj hV.a hV.b hU.a hU.b (by rw [hV.n, hU.n, t2])
  obtain ⟨e3, e4⟩ := wv_inj hV.c hV.e hU.c hU.e (by rw [hV.d, hU.d, t1])
  have hD : wv UC UE = fD s 4 := hU.d
  have hN : wv UA UB = fN m s 4 := hU.n
  have ez : UC = 0 := by unfold wv at hD; have := hU.c.lo; have := hU.e.lo; omega
  refine ⟨⟨e1, e2, e3, e4, ez⟩, ?_⟩
  have hE : UE = wv UC UE := by rw [ez]; unfold wv; omega
  obtain ⟨A, B, C, E, hP, p1, p2⟩ := plus_step (N := wv UA UB) (D := wv UC UE) (q := 1) (t := 1) (by omega) (by omega) (by decide) (by decide) (by omega) (by omega)
  have n0 : 0 < wv UC UE := by omega
  have q0 : 0 ≤ wv UA UB / wv UC UE := Int.ediv_nonneg (by omega) (by omega)
  have q1 : wv UA UB / wv UC UE ≤ 4092 := by
    have : wv UA UB / wv UC UE < 4093 := Int.ediv_lt_of_lt_mul n0 (by omega)
    omega
  have r0 := Int.emod_nonneg (wv UA UB) (show wv UC UE ≠ 0 by omega)
  have r1 := Int.emod_lt_of_pos (wv UA UB) n0
  have hq := Int.mul_ediv_add_emod (wv UA UB) (wv UC UE)
  obtain ⟨Q, hQ⟩ : ∃ Q, Q = wv UA UB / wv UC UE := ⟨_, rfl⟩
  obtain ⟨r, hr⟩ : ∃ r, r = wv UA UB % wv UC UE := ⟨_, rfl⟩
  rw [← hQ] at q0 q1 hq
  rw [← hr] at r0 r1 hq
  have hQD : Q * wv UC UE = wv UC UE * Q := Int.mul_comm _ _
  have hb : wv UC UE * Q ≤ wv UA UB := by omega
  refine ⟨A, B, C, E, Q, r, if r = 0 then 0 else 1, hP, ⟨word0, ⟨q0, by omega⟩, ?_, r0, by rw [hE]; exact r1⟩, ?_, ?_, ⟨q0, q1⟩, ⟨r0, by rw [hE]; exact r1⟩, ?_⟩
  · have : wv 0 Q = Q := by unfold wv; omega
    rw [this, hE, hQD]
    exact hq.symm
  · refine ⟨fun _ => ⟨⟨by omega, q0, by decide⟩, by omega, by omega, ?_⟩, fun h => (by cases h)⟩
    unfold cmpI
    by_cases hz : r = 0
    · rw [if_pos hz, if_neg (by omega), if_neg (by omega)]
    · rw [if_neg hz, if_neg (by omega), if_pos (by omega)]
  · rw [p1, p2]
    have e7 : wv UC UE * 1 * Q = wv UC UE * Q := by rw [Int.mul_one]
    refine ⟨fun _ => ⟨⟨by omega, q0, by decide⟩, by omega, by rw [e7]; omega, ?_⟩, fun h => (by cases h)⟩
    rw [e7]
    unfold cmpI
    rw [if_neg (by omega), if_pos (by omega)]
  · by_cases hz : r = 0
    · rw [if_pos hz]; exact .inl ⟨hz, rfl⟩
    · rw [if_neg hz]; exact .inr ⟨by omega, rfl⟩
set_option maxRecDepth 20000 in
set_option maxHeartbeats 16000000 in
theorem orders_any {a0 a1 a2 a3 b0 b1 b2 b3 : Int} (w : World) (_x0 : I64 a0) (_x1 : I64 a1) (_x2 : I64 a2) (_x3 : I64 a3) (_y0 : I64 b0) (_y1 : I64 b1) (_y2 : I64 b2) (_y3 : I64 b3) :
    Calls Try.prog 7 #[.agg #[.int .i64 a0, .int .i64 a1, .int .i64 a2, .int .i64 a3], .agg #[.int .i64 b0, .int .i64 b1, .int .i64 b2, .int .i64 b3]] w fun r w' => r = .returned (.bool true) ∧ Below w.heap.size w w' := by
  obtain ⟨m, hm0, hm1, hm2, hm3, hm⟩ : ∃ m : Nat → Int, bits .and .i64 a0 1023 = m 0 ∧ bits .and .i64 a1 1023 = m 1 ∧ bits .and .i64 a2 1023 = m 2 ∧ bits .and .i64 a3 1023 = m 3 ∧ ∀ k, 0 ≤ m k ∧ m k ≤ 1023 :=
    ⟨fun k => bits .and .i64 (match k with | 0 => a0 | 1 => a1 | 2 => a2 | _ => a3) 1023, rfl, rfl, rfl, rfl, fun k => and_small _⟩
  obtain ⟨s, hs0, hs1, hs2, hs3, hs⟩ : ∃ s : Nat → Int, bits .and .i64 b0 1023 = s 0 ∧ bits .and .i64 b1 1023 = s 1 ∧ bits .and .i64 b2 1023 = s 2 ∧ bits .and .i64 b3 1023 = s 3 ∧ ∀ k, 0 ≤ s k ∧ s k ≤ 1023 :=
    ⟨fun k => bits .and .i64 (match k with | 0 => b0 | 1 => b1 | 2 => b2 | _ => b3) 1023, rfl, rfl, rfl, rfl, fun k => and_small _⟩
  have HM : Hid (∀ k, 0 ≤ m k ∧ m k ≤ 1023) := hm
  have HS : Hid (∀ k, 0 ≤ s k ∧ s k ≤ 1023) := hs
  clear hm hs
  go_enter Try.func7, Try.ntmps7
  go_wp2_with (first
    | (go_at_call 9; refine (alive_any).mono ?_; rintro r w0 ⟨rfl, B0⟩)
    | (go_at_call 21; with_reducible refine (wof).mono ?_; rintro r w1 ⟨rfl, B1⟩))
  have T := bt B0 B1
  have iq0 := kc (a := ⟨w.heap.size, 0, none⟩) (v := .int .i64 a0) (by simp [go_sem]) T
  have iq1 := kc (a := ⟨w.heap.size, 1, none⟩) (v := .int .i64 a1) (by simp [go_sem]) T
  have iq2 := kc (a := ⟨w.heap.size, 2, none⟩) (v := .int .i64 a2) (by simp [go_sem]) T
  have iq3 := kc (a := ⟨w.heap.size, 3, none⟩) (v := .int .i64 a3) (by simp [go_sem]) T
  have it0 := kc (a := ⟨w.heap.size + 1, 0, none⟩) (v := .int .i64 b0) (by simp [go_sem]) T
  have it1 := kc (a := ⟨w.heap.size + 1, 1, none⟩) (v := .int .i64 b1) (by simp [go_sem]) T
  have it2 := kc (a := ⟨w.heap.size + 1, 2, none⟩) (v := .int .i64 b2) (by simp [go_sem]) T
  have it3 := kc (a := ⟨w.heap.size + 1, 3, none⟩) (v := .int .i64 b3) (by simp [go_sem]) T
  have D0 : Below w.heap.size w w1 := bt (ba (ba (Below.refl _ _) _) _) T
  have z0 : w.heap.size + 1 < w1.heap.size := cell_lt it0
  clear T B0 B1
  go_loopw [7] (fun iv wr => ∃ (k : Nat) (UA UB UC UE VA VB VC VE : Int), iv = .int .i64 k ∧ k ≤ 4 ∧ Ust m s k UA UB UC UE ∧ Ust (fun j => m (3 - j)) (fun j => s (3 - j)) k VA VB VC VE ∧ Below w.heap.size w wr ∧ (wr.cell? ⟨w.heap.size, 0, none⟩ = some (.int .i64 a0) ∧ wr.cell? ⟨w.heap.size, 1, none⟩ = some (.int .i64 a1) ∧ wr.cell? ⟨w.heap.size, 2, none⟩ = some (.int .i64 a2) ∧ wr.cell? ⟨w.heap.size, 3, none⟩ = some (.int .i64 a3)) ∧ (wr.cell? ⟨w.heap.size + 1, 0, none⟩ = some (.int .i64 b0) ∧ wr.cell? ⟨w.heap.size + 1, 1, none⟩ = some (.int .i64 b1) ∧ wr.cell? ⟨w.heap.size + 1, 2, none⟩ = some (.int .i64 b2) ∧ wr.cell? ⟨w.heap.size + 1, 3, none⟩ = some (.int .i64 b3)) ∧ (wr.cell? ⟨w1.heap.size, 0, none⟩ = some (.int .u64 UA) ∧ wr.cell? ⟨w1.heap.size, 1, none⟩ = some (.int .u64 UB) ∧ wr.cell? ⟨w1.heap.size, 2, none⟩ = some (.int .u64 UC) ∧ wr.cell? ⟨w1.heap.size, 3, none⟩ = some (.int .u64 UE)) ∧ (wr.frozen? ⟨w1.heap.size, 0, none⟩ = false ∧ wr.frozen? ⟨w1.heap.size, 1, none⟩ = false ∧ wr.frozen? ⟨w1.heap.size, 2, none⟩ = false ∧ wr.frozen? ⟨w1.heap.size, 3, none⟩ = false) ∧ (wr.cell? ⟨w1.heap.size + 1, 0, none⟩ = some (.int .u64 VA) ∧ wr.cell? ⟨w1.heap.size + 1, 1, none⟩ = some (.int .u64 VB) ∧ wr.cell? ⟨w1.heap.size + 1, 2, none⟩ = some (.int .u64 VC) ∧ wr.cell? ⟨w1.heap.size + 1, 3, none⟩ = some (.int .u64 VE)) ∧ (wr.frozen? ⟨w1.heap.size + 1, 0, none⟩ = false ∧ wr.frozen? ⟨w1.heap.size + 1, 1, none⟩ = false ∧ wr.frozen? ⟨w1.heap.size + 1, 2, none⟩ = false ∧ wr.frozen? ⟨w1.heap.size + 1, 3, none⟩ = false)) (fun iv _ => 4 - (intOf iv).toNat)
  case atStart =>
    refine ⟨0, 0, 0, 0, 1, 0, 0, 0, 1, rfl, by omega, ⟨word0, word0, word0, word1, rfl, rfl⟩, ⟨word0, word0, word0, word1, rfl, rfl⟩, ba (ba D0 _) _, ⟨kl (kl iq0 _) _, kl (kl iq1 _) _, kl (kl iq2 _) _, kl (kl iq3 _) _⟩, ⟨kl (kl it0 _) _, kl (kl it1 _) _, kl (kl it2 _) _, kl (kl it3 _) _⟩, ⟨by simp [go_sem], by simp [go_sem], by simp [go_sem], by simp [go_sem]⟩, ⟨by simp [go_sem], by simp [go_sem], by simp [go_sem], by simp [go_sem]⟩, ⟨by simp [go_sem], by simp [go_sem], by simp [go_sem], by simp [go_sem]⟩, by simp [go_sem], by simp [go_sem], by simp [go_sem], by simp [go_sem]⟩
  case round =>
    obtain ⟨k, UA, UB, UC, UE, VA, VB, VC, VE, rfl, hk, hU, hV, D, ⟨qa0, qa1, qa2, qa3⟩, ⟨ta0, ta1, ta2, ta3⟩, ⟨ua0, ua1, ua2, ua3⟩, ⟨uf0, uf1, uf2, uf3⟩, ⟨va0, va1, va2, va3⟩, vf0, vf1, vf2, vf3⟩ := hrel
    clear iq0 iq1 iq2 iq3 it0 it1 it2 it3 D0
    by_cases h4 : k = 4
    · subst h4
      obtain ⟨⟨rfl, rfl, rfl, rfl, rfl⟩, A, B, C, E, Q, r, x, hP, hD, hL, hH, ⟨Q0, Q1⟩, ⟨r0, r1⟩, hx⟩ := ord_end HM.out HS.out hU hV
      have i6 : I64 1 := ⟨by decide, by decide⟩
      have iQ : I64 Q := ⟨by omega, by omega⟩
      clear qa0 qa1 qa2 qa3 ta0 ta1 ta2 ta3 uf0 uf1 uf2 uf3 vf0 vf1 vf2 vf3 hm0 hm1 hm2 hm3 hs0 hs1 hs2 hs3
      rcases hx with ⟨e1, e2⟩ | ⟨e1, e2⟩
      · subst e1 e2
        go_wp2_with (first
          | (go_at_call 24; with_reducible refine (plus_is hU.a hU.b hU.c hU.e i6 i6 hP).mono ?_; rintro rr w2 ⟨rfl, B2⟩; have p0 := kc ua0 B2; have p1 := kc ua1 B2; have p2 := kc ua2 B2; have p3 := kc ua3 B2; clear ua0 ua1 ua2 ua3 va0 va1 va2 va3)
          | (go_at_call 20; with_reducible refine (wdiv_is hU.a hU.b hU.e.hi hD).mono ?_; rintro rr w3 ⟨rfl, B3⟩; have l0 := kc (kl p0 _) B3; have l1 := kc (kl p1 _) B3; have l2 := kc (kl p2 _) B3; have l3 := kc (kl p3 _) B3; clear p0 p1 p2 p3; have g0 := kc (a := ⟨w2.heap.size, 0, none⟩) (v := .int .u64 A) (by simp [go_sem]) B3; have g1 := kc (a := ⟨w2.heap.size, 1, none⟩) (v := .int .u64 B) (by simp [go_sem]) B3; have g2 := kc (a := ⟨w2.heap.size, 2, none⟩) (v := .int .u64 C) (by simp [go_sem]) B3; have g3 := kc (a := ⟨w2.heap.size, 3, none⟩) (v := .int .u64 E) (by simp [go_sem]) B3)
          | (go_at_call 26; with_reducible refine (against_is hU.a hU.b hU.c hU.e iQ i6 hL).mono ?_; rintro rr w4 ⟨rfl, B4⟩; have h0 := kc (kl g0 _) B4; have h1 := kc (kl g1 _) B4; have h2 := kc (kl g2 _) B4; have h3 := kc (kl g3 _) B4; clear l0 l1 l2 l3 g0 g1 g2 g3; have v0 := kc (a := ⟨w3.heap.size, 0, none⟩) (v := .int .u64 0) (by simp [go_sem]) B4; have v1 := kc (a := ⟨w3.heap.size, 1, none⟩) (v := .int .u64 Q) (by simp [go_sem]) B4)
          | (go_at_call 26; with_reducible refine (against_is hP.a hP.b hP.c hP.e iQ i6 hH).mono ?_; rintro rr w5 ⟨rfl, B5⟩))
        go_ret
        exact ⟨rfl, bt (bt (ba (bt (ba (bt D B2) _) B3) _) B4) B5⟩
      · subst e2
        have e3 : ¬ r = 0 := by omega
        have e4 : (r == 0) = false := by simpa using e3
        go_wp2_with (first
          | (go_at_call 24; with_reducible refine (plus_is hU.a hU.b hU.c hU.e i6 i6 hP).mono ?_; rintro rr w2 ⟨rfl, B2⟩; have p0 := kc ua0 B2; have p1 := kc ua1 B2; have p2 := kc ua2 B2; have p3 := kc ua3 B2; clear ua0 ua1 ua2 ua3 va0 va1 va2 va3)
          | (go_at_call 20; with_reducible refine (wdiv_is hU.a hU.b hU.e.hi hD).mono ?_; rintro rr w3 ⟨rfl, B3⟩; have l0 := kc (kl p0 _) B3; have l1 := kc (kl p1 _) B3; have l2 := kc (kl p2 _) B3; have l3 := kc (kl p3 _) B3; clear p0 p1 p2 p3; have g0 := kc (a := ⟨w2.heap.size, 0, none⟩) (v := .int .u64 A) (by simp [go_sem]) B3; have g1 := kc (a := ⟨w2.heap.size, 1, none⟩) (v := .int .u64 B) (by simp [go_sem]) B3; have g2 := kc (a := ⟨w2.heap.size, 2, none⟩) (v := .int .u64 C) (by simp [go_sem]) B3; have g3 := kc (a := ⟨w2.heap.size, 3, none⟩) (v := .int .u64 E) (by simp [go_sem]) B3)
          | (go_at_call 26; with_reducible refine (against_is hU.a hU.b hU.c hU.e iQ i6 hL).mono ?_; rintro rr w4 ⟨rfl, B4⟩; have h0 := kc (kl g0 _) B4; have h1 := kc (kl g1 _) B4; have h2 := kc (kl g2 _) B4; have h3 := kc (kl g3 _) B4; clear l0 l1 l2 l3 g0 g1 g2 g3; have v0 := kc (a := ⟨w3.heap.size, 0, none⟩) (v := .int .u64 0) (by simp [go_sem]) B4; have v1 := kc (a := ⟨w3.heap.size, 1, none⟩) (v := .int .u64 Q) (by simp [go_sem]) B4)
          | (go_at_call 26; with_reducible refine (against_is hP.a hP.b hP.c hP.e iQ i6 hH).mono ?_; rintro rr w5 ⟨rfl, B5⟩))
        go_ret
        exact ⟨rfl, bt (bt (ba (bt (ba (bt D B2) _) B3) _) B4) B5⟩
    · obtain ⟨A, B, C, E, hP, hU'⟩ := ust_step HM.out HS.out (show k < 4 by omega) hU
      obtain ⟨F, G, H, I, hR, hV'⟩ := ust_step (m := fun j => m (3 - j)) (s := fun j => s (3 - j)) (fun j => HM.out _) (fun j => HS.out _) (show k < 4 by omega) hV
      have hA := ust_ag HM.out HS.out (show k + 1 ≤ 4 by omega) hU'
      have hc : k = 0 ∨ k = 1 ∨ k = 2 ∨ k = 3 := by omega
      rcases hc with rfl | rfl | rfl | rfl
      · have mb := HM.out 0; have sb := HS.out 0
        have mb' := HM.out 3; have sb' := HS.out 3
        have hR' : PlIs (wv VA VB) (wv VC VE) (m 3) (1 + s 3) F G H I true := hR
        have i1 : I64 (m 0) := ⟨by omega, by omega⟩
        have i2 : I64 (1 + s 0) := ⟨by omega, by omega⟩
        have i3 : I64 (m 3) := ⟨by omega, by omega⟩
        have i4 : I64 (1 + s 3) := ⟨by omega, by omega⟩
        have i5 : I64 1048576 := ⟨by decide, by decide⟩
        have i6 : I64 1 := ⟨by decide, by decide⟩
        clear hR
        go_wp2
        go_quiet (fail)
        go_wp2
        go_quiet (fail)
        refine gw (G := fun x => Exit.then _ _ _ _ x) (fun x => Below wr.heap.size wr x) ?_ ?_
        · exact below_drewN (below_drewN (Below.refl _ _) _) _
        rintro wq Bq
        have p0 := kc ua0 Bq
        have p1 := kc ua1 Bq
        have p2 := kc ua2 Bq
        have p3 := kc ua3 Bq
        have r0 := kc va0 Bq
        have r1 := kc va1 Bq
        have r2 := kc va2 Bq
        have r3 := kc va3 Bq
        go_wp2_with (first
          | (go_at_call 24; with_reducible refine (plus_is hU.a hU.b hU.c hU.e i1 i2 hP).mono ?_; rintro rr w2 ⟨rfl, B2⟩; have l0 := kc r0 B2; have l1 := kc r1 B2; have l2 := kc r2 B2; have l3 := kc r3 B2; clear p0 p1 p2 p3 r0 r1 r2 r3)
          | (go_at_call 24; with_reducible refine (plus_is hV.a hV.b hV.c hV.e i3 i4 hR').mono ?_; rintro rr w3 ⟨rfl, B3⟩; have s2 : w1.heap.size + 1 < w2.heap.size := cell_lt l0; clear l0 l1 l2 l3; have g0 := kc (a := ⟨w2.heap.size, 0, none⟩) (v := .int .u64 A) (by simp [go_sem]) B3; have g1 := kc (a := ⟨w2.heap.size, 1, none⟩) (v := .int .u64 B) (by simp [go_sem]) B3; have g2 := kc (a := ⟨w2.heap.size, 2, none⟩) (v := .int .u64 C) (by simp [go_sem]) B3; have g3 := kc (a := ⟨w2.heap.size, 3, none⟩) (v := .int .u64 E) (by simp [go_sem]) B3)
          | (go_at_call 26; with_reducible refine (against_is hU'.a hU'.b hU'.c hU'.e i5 i6 hA).mono ?_; rintro rr w4 ⟨rfl, B4⟩; have s3 : w2.heap.size < w3.heap.size := cell_lt g0; have ne0 : w1.heap.size ≠ w2.heap.size := (by omega); have ne1 : w2.heap.size ≠ w1.heap.size := (by omega); have ne2 : w1.heap.size ≠ w3.heap.size := (by omega); have ne3 : w3.heap.size ≠ w1.heap.size := (by omega); have ne4 : w1.heap.size + 1 ≠ w2.heap.size := (by omega); have ne5 : w2.heap.size ≠ w1.heap.size + 1 := (by omega); have ne6 : w1.heap.size + 1 ≠ w3.heap.size := (by omega); have ne7 : w3.heap.size ≠ w1.heap.size + 1 := (by omega); have h0 := kc (kl g0 _) B4; have h1 := kc (kl g1 _) B4; have h2 := kc (kl g2 _) B4; have h3 := kc (kl g3 _) B4; have j0 := kc (a := ⟨w3.heap.size, 0, none⟩) (v := .int .u64 F) (by simp [go_sem]) B4; have j1 := kc (a := ⟨w3.heap.size, 1, none⟩) (v := .int .u64 G) (by simp [go_sem]) B4; have j2 := kc (a := ⟨w3.heap.size, 2, none⟩) (v := .int .u64 H) (by simp [go_sem]) B4; have j3 := kc (a := ⟨w3.heap.size, 3, none⟩) (v := .int .u64 I) (by simp [go_sem]) B4; clear g0 g1 g2 g3; have T := bt (ba (bt (ba (bt Bq B2) _) B3) _) B4; have ub0 := kc ua0 T; have ub1 := kc ua1 T; have ub2 := kc ua2 T; have ub3 := kc ua3 T; have vb0 := kc va0 T; have vb1 := kc va1 T; have vb2 := kc va2 T; have vb3 := kc va3 T; have ug0 := kf ua0 T uf0; have ug1 := kf ua1 T uf1; have ug2 := kf ua2 T uf2; have ug3 := kf ua3 T uf3; have vg0 := kf va0 T vf0; have vg1 := kf va1 T vf1; have vg2 := kf va2 T vf2; have vg3 := kf va3 T vf3; have qb0 := kc qa0 T; have qb1 := kc qa1 T; have qb2 := kc qa2 T; have qb3 := kc qa3 T; have tb0 := kc ta0 T; have tb1 := kc ta1 T; have tb2 := kc ta2 T; have tb3 := kc ta3 T; have D4 := bt D T; clear T Bq B2 B3 B4 D ua0 ua1 ua2 ua3 va0 va1 va2 va3 uf0 uf1 uf2 uf3 vf0 vf1 vf2 vf3 qa0 qa1 qa2 qa3 ta0 ta1 ta2 ta3))
        go_region
        refine gw (G := fun x => Exit.inBlock _ _ _ _ x) (fun x => (x.cell? ⟨w.heap.size, 0, none⟩ = some (.int .i64 a0) ∧ x.cell? ⟨w.heap.size, 1, none⟩ = some (.int .i64 a1) ∧ x.cell? ⟨w.heap.size, 2, none⟩ = some (.int .i64 a2) ∧ x.cell? ⟨w.heap.size, 3, none⟩ = some (.int .i64 a3)) ∧ (x.cell? ⟨w.heap.size + 1, 0, none⟩ = some (.int .i64 b0) ∧ x.cell? ⟨w.heap.size + 1, 1, none⟩ = some (.int .i64 b1) ∧ x.cell? ⟨w.heap.size + 1, 2, none⟩ = some (.int .i64 b2) ∧ x.cell? ⟨w.heap.size + 1, 3, none⟩ = some (.int .i64 b3)) ∧ (x.cell? ⟨w1.heap.size, 0, none⟩ = some (.int .u64 A) ∧ x.cell? ⟨w1.heap.size, 1, none⟩ = some (.int .u64 B) ∧ x.cell? ⟨w1.heap.size, 2, none⟩ = some (.int .u64 C) ∧ x.cell? ⟨w1.heap.size, 3, none⟩ = some (.int .u64 E)) ∧ (x.frozen? ⟨w1.heap.size, 0, none⟩ = false ∧ x.frozen? ⟨w1.heap.size, 1, none⟩ = false ∧ x.frozen? ⟨w1.heap.size, 2, none⟩ = false ∧ x.frozen? ⟨w1.heap.size, 3, none⟩ = false) ∧ (x.cell? ⟨w1.heap.size + 1, 0, none⟩ = some (.int .u64 F) ∧ x.cell? ⟨w1.heap.size + 1, 1, none⟩ = some (.int .u64 G) ∧ x.cell? ⟨w1.heap.size + 1, 2, none⟩ = some (.int .u64 H) ∧ x.cell? ⟨w1.heap.size + 1, 3, none⟩ = some (.int .u64 I)) ∧ (x.frozen? ⟨w1.heap.size + 1, 0, none⟩ = false ∧ x.frozen? ⟨w1.heap.size + 1, 1, none⟩ = false ∧ x.frozen? ⟨w1.heap.size + 1, 2, none⟩ = false ∧ x.frozen? ⟨w1.heap.size + 1, 3, none⟩ = false) ∧ Below w.heap.size w x) ?_ ?_
        · exact ⟨⟨cs8 qb0 (show w.heap.size ≠ w1.heap.size by omega) (show w.heap.size ≠ w1.heap.size + 1 by omega), cs8 qb1 (show w.heap.size ≠ w1.heap.size by omega) (show w.heap.size ≠ w1.heap.size + 1 by omega), cs8 qb2 (show w.heap.size ≠ w1.heap.size by omega) (show w.heap.size ≠ w1.heap.size + 1 by omega), cs8 qb3 (show w.heap.size ≠ w1.heap.size by omega) (show w.heap.size ≠ w1.heap.size + 1 by omega)⟩, ⟨cs8 tb0 (show w.heap.size + 1 ≠ w1.heap.size by omega) (show w.heap.size + 1 ≠ w1.heap.size + 1 by omega), cs8 tb1 (show w.heap.size + 1 ≠ w1.heap.size by omega) (show w.heap.size + 1 ≠ w1.heap.size + 1 by omega), cs8 tb2 (show w.heap.size + 1 ≠ w1.heap.size by omega) (show w.heap.size + 1 ≠ w1.heap.size + 1 by omega), cs8 tb3 (show w.heap.size + 1 ≠ w1.heap.size by omega) (show w.heap.size + 1 ≠ w1.heap.size + 1 by omega)⟩, ⟨by simp [go_sem, ub0], by simp [go_sem, ub1], by simp [go_sem, ub2], by simp [go_sem, ub3]⟩, ⟨by simp [ug0], by simp [ug1], by simp [ug2], by simp [ug3]⟩, ⟨by simp [go_sem, vb0], by simp [go_sem, vb1], by simp [go_sem, vb2], by simp [go_sem, vb3]⟩, ⟨by simp [vg0], by simp [vg1], by simp [vg2], by simp [vg3]⟩, below8 D4 (show w.heap.size ≤ w1.heap.size by omega) (show w.heap.size ≤ w1.heap.size + 1 by omega)⟩
        rintro x ⟨fq, ft, fu, fuf, fv, fvf, fD⟩
        go_wp2
        go_roundw
        case rel => exact ⟨1, A, B, C, E, F, G, H, I, rfl, by omega, hU', hV', fD, fq, ft, fu, fuf, fv, fvf⟩
        case measure => simp [intOf]
      · have mb := HM.out 1; have sb := HS.out 1
        have mb' := HM.out 2; have sb' := HS.out 2
        have hR' : PlIs (wv VA VB) (wv VC VE) (m 2) (1 + s 2) F G H I true := hR
        have i1 : I64 (m 1) := ⟨by omega, by omega⟩
        have i2 : I64 (1 + s 1) := ⟨by omega, by omega⟩
        have i3 : I64 (m 2) := ⟨by omega, by omega⟩
        have i4 : I64 (1 + s 2) := ⟨by omega, by omega⟩
        have i5 : I64 1048576 := ⟨by decide, by decide⟩
        have i6 : I64 1 := ⟨by decide, by decide⟩
        clear hR
        go_wp2
        go_quiet (fail)
        go_wp2
        go_quiet (fail)
        refine gw (G := fun x => Exit.then _ _ _ _ x) (fun x => Below wr.heap.size wr x) ?_ ?_
        · exact below_drewN (below_drewN (Below.refl _ _) _) _
        rintro wq Bq
        have p0 := kc ua0 Bq
        have p1 := kc ua1 Bq
        have p2 := kc ua2 Bq
        have p3 := kc ua3 Bq
        have r0 := kc va0 Bq
        have r1 := kc va1 Bq
        have r2 := kc va2 Bq
        have r3 := kc va3 Bq
        go_wp2_with (first
          | (go_at_call 24; with_reducible refine (plus_is hU.a hU.b hU.c hU.e i1 i2 hP).mono ?_; rintro rr w2 ⟨rfl, B2⟩; have l0 := kc r0 B2; have l1 := kc r1 B2; have l2 := kc r2 B2; have l3 := kc r3 B2; clear p0 p1 p2 p3 r0 r1 r2 r3)
          | (go_at_call 24; with_reducible refine (plus_is hV.a hV.b hV.c hV.e i3 i4 hR').mono ?_; rintro rr w3 ⟨rfl, B3⟩; have s2 : w1.heap.size + 1 < w2.heap.size := cell_lt l0; clear l0 l1 l2 l3; have g0 := kc (a := ⟨w2.heap.size, 0, none⟩) (v := .int .u64 A) (by simp [go_sem]) B3; have g1 := kc (a := ⟨w2.heap.size, 1, none⟩) (v := .int .u64 B) (by simp [go_sem]) B3; have g2 := kc (a := ⟨w2.heap.size, 2, none⟩) (v := .int .u64 C) (by simp [go_sem]) B3; have g3 := kc (a := ⟨w2.heap.size, 3, none⟩) (v := .int .u64 E) (by simp [go_sem]) B3)
          | (go_at_call 26; with_reducible refine (against_is hU'.a hU'.b hU'.c hU'.e i5 i6 hA).mono ?_; rintro rr w4 ⟨rfl, B4⟩; have s3 : w2.heap.size < w3.heap.size := cell_lt g0; have ne0 : w1.heap.size ≠ w2.heap.size := (by omega); have ne1 : w2.heap.size ≠ w1.heap.size := (by omega); have ne2 : w1.heap.size ≠ w3.heap.size := (by omega); have ne3 : w3.heap.size ≠ w1.heap.size := (by omega); have ne4 : w1.heap.size + 1 ≠ w2.heap.size := (by omega); have ne5 : w2.heap.size ≠ w1.heap.size + 1 := (by omega); have ne6 : w1.heap.size + 1 ≠ w3.heap.size := (by omega); have ne7 : w3.heap.size ≠ w1.heap.size + 1 := (by omega); have h0 := kc (kl g0 _) B4; have h1 := kc (kl g1 _) B4; have h2 := kc (kl g2 _) B4; have h3 := kc (kl g3 _) B4; have j0 := kc (a := ⟨w3.heap.size, 0, none⟩) (v := .int .u64 F) (by simp [go_sem]) B4; have j1 := kc (a := ⟨w3.heap.size, 1, none⟩) (v := .int .u64 G) (by simp [go_sem]) B4; have j2 := kc (a := ⟨w3.heap.size, 2, none⟩) (v := .int .u64 H) (by simp [go_sem]) B4; have j3 := kc (a := ⟨w3.heap.size, 3, none⟩) (v := .int .u64 I) (by simp [go_sem]) B4; clear g0 g1 g2 g3; have T := bt (ba (bt (ba (bt Bq B2) _) B3) _) B4; have ub0 := kc ua0 T; have ub1 := kc ua1 T; have ub2 := kc ua2 T; have ub3 := kc ua3 T; have vb0 := kc va0 T; have vb1 := kc va1 T; have vb2 := kc va2 T; have vb3 := kc va3 T; have ug0 := kf ua0 T uf0; have ug1 := kf ua1 T uf1; have ug2 := kf ua2 T uf2; have ug3 := kf ua3 T uf3; have vg0 := kf va0 T vf0; have vg1 := kf va1 T vf1; have vg2 := kf va2 T vf2; have vg3 := kf va3 T vf3; have qb0 := kc qa0 T; have qb1 := kc qa1 T; have qb2 := kc qa2 T; have qb3 := kc qa3 T; have tb0 := kc ta0 T; have tb1 := kc ta1 T; have tb2 := kc ta2 T; have tb3 := kc ta3 T; have D4 := bt D T; clear T Bq B2 B3 B4 D ua0 ua1 ua2 ua3 va0 va1 va2 va3 uf0 uf1 uf2 uf3 vf0 vf1 vf2 vf3 qa0 qa1 qa2 qa3 ta0 ta1 ta2 ta3))
        go_region
        refine gw (G := fun x => Exit.inBlock _ _ _ _ x) (fun x => (x.cell? ⟨w.heap.size, 0, none⟩ = some (.int .i64 a0) ∧ x.cell? ⟨w.heap.size, 1, none⟩ = some (.int .i64 a1) ∧ x.cell? ⟨w.heap.size, 2, none⟩ = some (.int .i64 a2) ∧ x.cell? ⟨w.heap.size, 3, none⟩ = some (.int .i64 a3)) ∧ (x.cell? ⟨w.heap.size + 1, 0, none⟩ = some (.int .i64 b0) ∧ x.cell? ⟨w.heap.size + 1, 1, none⟩ = some (.int .i64 b1) ∧ x.cell? ⟨w.heap.size + 1, 2, none⟩ = some (.int .i64 b2) ∧ x.cell? ⟨w.heap.size + 1, 3, none⟩ = some (.int .i64 b3)) ∧ (x.cell? ⟨w1.heap.size, 0, none⟩ = some (.int .u64 A) ∧ x.cell? ⟨w1.heap.size, 1, none⟩ = some (.int .u64 B) ∧ x.cell? ⟨w1.heap.size, 2, none⟩ = some (.int .u64 C) ∧ x.cell? ⟨w1.heap.size, 3, none⟩ = some (.int .u64 E)) ∧ (x.frozen? ⟨w1.heap.size, 0, none⟩ = false ∧ x.frozen? ⟨w1.heap.size, 1, none⟩ = false ∧ x.frozen? ⟨w1.heap.size, 2, none⟩ = false ∧ x.frozen? ⟨w1.heap.size, 3, none⟩ = false) ∧ (x.cell? ⟨w1.heap.size + 1, 0, none⟩ = some (.int .u64 F) ∧ x.cell? ⟨w1.heap.size + 1, 1, none⟩ = some (.int .u64 G) ∧ x.cell? ⟨w1.heap.size + 1, 2, none⟩ = some (.int .u64 H) ∧ x.cell? ⟨w1.heap.size + 1, 3, none⟩ = some (.int .u64 I)) ∧ (x.frozen? ⟨w1.heap.size + 1, 0, none⟩ = false ∧ x.frozen? ⟨w1.heap.size + 1, 1, none⟩ = false ∧ x.frozen? ⟨w1.heap.size + 1, 2, none⟩ = false ∧ x.frozen? ⟨w1.heap.size + 1, 3, none⟩ = false) ∧ Below w.heap.size w x) ?_ ?_
        · exact ⟨⟨cs8 qb0 (show w.heap.size ≠ w1.heap.size by omega) (show w.heap.size ≠ w1.heap.size + 1 by omega), cs8 qb1 (show w.heap.size ≠ w1.heap.size by omega) (show w.heap.size ≠ w1.heap.size + 1 by omega), cs8 qb2 (show w.heap.size ≠ w1.heap.size by omega) (show w.heap.size ≠ w1.heap.size + 1 by omega), cs8 qb3 (show w.heap.size ≠ w1.heap.size by omega) (show w.heap.size ≠ w1.heap.size + 1 by omega)⟩, ⟨cs8 tb0 (show w.heap.size + 1 ≠ w1.heap.size by omega) (show w.heap.size + 1 ≠ w1.heap.size + 1 by omega), cs8 tb1 (show w.heap.size + 1 ≠ w1.heap.size by omega) (show w.heap.size + 1 ≠ w1.heap.size + 1 by omega), cs8 tb2 (show w.heap.size + 1 ≠ w1.heap.size by omega) (show w.heap.size + 1 ≠ w1.heap.size + 1 by omega), cs8 tb3 (show w.heap.size + 1 ≠ w1.heap.size by omega) (show w.heap.size + 1 ≠ w1.heap.size + 1 by omega)⟩, ⟨by simp [go_sem, ub0], by simp [go_sem, ub1], by simp [go_sem, ub2], by simp [go_sem, ub3]⟩, ⟨by simp [ug0], by simp [ug1], by simp [ug2], by simp [ug3]⟩, ⟨by simp [go_sem, vb0], by simp [go_sem, vb1], by simp [go_sem, vb2], by simp [go_sem, vb3]⟩, ⟨by simp [vg0], by simp [vg1], by simp [vg2], by simp [vg3]⟩, below8 D4 (show w.heap.size ≤ w1.heap.size by omega) (show w.heap.size ≤ w1.heap.size + 1 by omega)⟩
        rintro x ⟨fq, ft, fu, fuf, fv, fvf, fD⟩
        go_wp2
        go_roundw
        case rel => exact ⟨2, A, B, C, E, F, G, H, I, rfl, by omega, hU', hV', fD, fq, ft, fu, fuf, fv, fvf⟩
        case measure => simp [intOf]
      · have mb := HM.out 2; have sb := HS.out 2
        have mb' := HM.out 1; have sb' := HS.out 1
        have hR' : PlIs (wv VA VB) (wv VC VE) (m 1) (1 + s 1) F G H I true := hR
        have i1 : I64 (m 2) := ⟨by omega, by omega⟩
        have i2 : I64 (1 + s 2) := ⟨by omega, by omega⟩
        have i3 : I64 (m 1) := ⟨by omega, by omega⟩
        have i4 : I64 (1 + s 1) := ⟨by omega, by omega⟩
        have i5 : I64 1048576 := ⟨by decide, by decide⟩
        have i6 : I64 1 := ⟨by decide, by decide⟩
        clear hR
        go_wp2
        go_quiet (fail)
        go_wp2
        go_quiet (fail)
        refine gw (G := fun x => Exit.then _ _ _ _ x) (fun x => Below wr.heap.size wr x) ?_ ?_
        · exact below_drewN (below_drewN (Below.refl _ _) _) _
        rintro wq Bq
        have p0 := kc ua0 Bq
        have p1 := kc ua1 Bq
        have p2 := kc ua2 Bq
        have p3 := kc ua3 Bq
        have r0 := kc va0 Bq
        have r1 := kc va1 Bq
        have r2 := kc va2 Bq
        have r3 := kc va3 Bq
        go_wp2_with (first
          | (go_at_call 24; with_reducible refine (plus_is hU.a hU.b hU.c hU.e i1 i2 hP).mono ?_; rintro rr w2 ⟨rfl, B2⟩; have l0 := kc r0 B2; have l1 := kc r1 B2; have l2 := kc r2 B2; have l3 := kc r3 B2; clear p0 p1 p2 p3 r0 r1 r2 r3)
          | (go_at_call 24; with_reducible refine (plus_is hV.a hV.b hV.c hV.e i3 i4 hR').mono ?_; rintro rr w3 ⟨rfl, B3⟩; have s2 : w1.heap.size + 1 < w2.heap.size := cell_lt l0; clear l0 l1 l2 l3; have g0 := kc (a := ⟨w2.heap.size, 0, none⟩) (v := .int .u64 A) (by simp [go_sem]) B3; have g1 := kc (a := ⟨w2.heap.size, 1, none⟩) (v := .int .u64 B) (by simp [go_sem]) B3; have g2 := kc (a := ⟨w2.heap.size, 2, none⟩) (v := .int .u64 C) (by simp [go_sem]) B3; have g3 := kc (a := ⟨w2.heap.size, 3, none⟩) (v := .int .u64 E) (by simp [go_sem]) B3)
          | (go_at_call 26; with_reducible refine (against_is hU'.a hU'.b hU'.c hU'.e i5 i6 hA).mono ?_; rintro rr w4 ⟨rfl, B4⟩; have s3 : w2.heap.size < w3.heap.size := cell_lt g0; have ne0 : w1.heap.size ≠ w2.heap.size := (by omega); have ne1 : w2.heap.size ≠ w1.heap.size := (by omega); have ne2 : w1.heap.size ≠ w3.heap.size := (by omega); have ne3 : w3.heap.size ≠ w1.heap.size := (by omega); have ne4 : w1.heap.size + 1 ≠ w2.heap.size := (by omega); have ne5 : w2.heap.size ≠ w1.heap.size + 1 := (by omega); have ne6 : w1.heap.size + 1 ≠ w3.heap.size := (by omega); have ne7 : w3.heap.size ≠ w1.heap.size + 1 := (by omega); have h0 := kc (kl g0 _) B4; have h1 := kc (kl g1 _) B4; have h2 := kc (kl g2 _) B4; have h3 := kc (kl g3 _) B4; have j0 := kc (a := ⟨w3.heap.size, 0, none⟩) (v := .int .u64 F) (by simp [go_sem]) B4; have j1 := kc (a := ⟨w3.heap.size, 1, none⟩) (v := .int .u64 G) (by simp [go_sem]) B4; have j2 := kc (a := ⟨w3.heap.size, 2, none⟩) (v := .int .u64 H) (by simp [go_sem]) B4; have j3 := kc (a := ⟨w3.heap.size, 3, none⟩) (v := .int .u64 I) (by simp [go_sem]) B4; clear g0 g1 g2 g3; have T := bt (ba (bt (ba (bt Bq B2) _) B3) _) B4; have ub0 := kc ua0 T; have ub1 := kc ua1 T; have ub2 := kc ua2 T; have ub3 := kc ua3 T; have vb0 := kc va0 T; have vb1 := kc va1 T; have vb2 := kc va2 T; have vb3 := kc va3 T; have ug0 := kf ua0 T uf0; have ug1 := kf ua1 T uf1; have ug2 := kf ua2 T uf2; have ug3 := kf ua3 T uf3; have vg0 := kf va0 T vf0; have vg1 := kf va1 T vf1; have vg2 := kf va2 T vf2; have vg3 := kf va3 T vf3; have qb0 := kc qa0 T; have qb1 := kc qa1 T; have qb2 := kc qa2 T; have qb3 := kc qa3 T; have tb0 := kc ta0 T; have tb1 := kc ta1 T; have tb2 := kc ta2 T; have tb3 := kc ta3 T; have D4 := bt D T; clear T Bq B2 B3 B4 D ua0 ua1 ua2 ua3 va0 va1 va2 va3 uf0 uf1 uf2 uf3 vf0 vf1 vf2 vf3 qa0 qa1 qa2 qa3 ta0 ta1 ta2 ta3))
        go_region
        refine gw (G := fun x => Exit.inBlock _ _ _ _ x) (fun x => (x.cell? ⟨w.heap.size, 0, none⟩ = some (.int .i64 a0) ∧ x.cell? ⟨w.heap.size, 1, none⟩ = some (.int .i64 a1) ∧ x.cell? ⟨w.heap.size, 2, none⟩ = some (.int .i64 a2) ∧ x.cell? ⟨w.heap.size, 3, none⟩ = some (.int .i64 a3)) ∧ (x.cell? ⟨w.heap.size + 1, 0, none⟩ = some (.int .i64 b0) ∧ x.cell? ⟨w.heap.size + 1, 1, none⟩ = some (.int .i64 b1) ∧ x.cell? ⟨w.heap.size + 1, 2, none⟩ = some (.int .i64 b2) ∧ x.cell? ⟨w.heap.size + 1, 3, none⟩ = some (.int .i64 b3)) ∧ (x.cell? ⟨w1.heap.size, 0, none⟩ = some (.int .u64 A) ∧ x.cell? ⟨w1.heap.size, 1, none⟩ = some (.int .u64 B) ∧ x.cell? ⟨w1.heap.size, 2, none⟩ = some (.int .u64 C) ∧ x.cell? ⟨w1.heap.size, 3, none⟩ = some (.int .u64 E)) ∧ (x.frozen? ⟨w1.heap.size, 0, none⟩ = false ∧ x.frozen? ⟨w1.heap.size, 1, none⟩ = false ∧ x.frozen? ⟨w1.heap.size, 2, none⟩ = false ∧ x.frozen? ⟨w1.heap.size, 3, none⟩ = false) ∧ (x.cell? ⟨w1.heap.size + 1, 0, none⟩ = some (.int .u64 F) ∧ x.cell? ⟨w1.heap.size + 1, 1, none⟩ = some (.int .u64 G) ∧ x.cell? ⟨w1.heap.size + 1, 2, none⟩ = some (.int .u64 H) ∧ x.cell? ⟨w1.heap.size + 1, 3, none⟩ = some (.int .u64 I)) ∧ (x.frozen? ⟨w1.heap.size + 1, 0, none⟩ = false ∧ x.frozen? ⟨w1.heap.size + 1, 1, none⟩ = false ∧ x.frozen? ⟨w1.heap.size + 1, 2, none⟩ = false ∧ x.frozen? ⟨w1.heap.size + 1, 3, none⟩ = false) ∧ Below w.heap.size w x) ?_ ?_
        · exact ⟨⟨cs8 qb0 (show w.heap.size ≠ w1.heap.size by omega) (show w.heap.size ≠ w1.heap.size + 1 by omega), cs8 qb1 (show w.heap.size ≠ w1.heap.size by omega) (show w.heap.size ≠ w1.heap.size + 1 by omega), cs8 qb2 (show w.heap.size ≠ w1.heap.size by omega) (show w.heap.size ≠ w1.heap.size + 1 by omega), cs8 qb3 (show w.heap.size ≠ w1.heap.size by omega) (show w.heap.size ≠ w1.heap.size + 1 by omega)⟩, ⟨cs8 tb0 (show w.heap.size + 1 ≠ w1.heap.size by omega) (show w.heap.size + 1 ≠ w1.heap.size + 1 by omega), cs8 tb1 (show w.heap.size + 1 ≠ w1.heap.size by omega) (show w.heap.size + 1 ≠ w1.heap.size + 1 by omega), cs8 tb2 (show w.heap.size + 1 ≠ w1.heap.size by omega) (show w.heap.size + 1 ≠ w1.heap.size + 1 by omega), cs8 tb3 (show w.heap.size + 1 ≠ w1.heap.size by omega) (show w.heap.size + 1 ≠ w1.heap.size + 1 by omega)⟩, ⟨by simp [go_sem, ub0], by simp [go_sem, ub1], by simp [go_sem, ub2], by simp [go_sem, ub3]⟩, ⟨by simp [ug0], by simp [ug1], by simp [ug2], by simp [ug3]⟩, ⟨by simp [go_sem, vb0], by simp [go_sem, vb1], by simp [go_sem, vb2], by simp [go_sem, vb3]⟩, ⟨by simp [vg0], by simp [vg1], by simp [vg2], by simp [vg3]⟩, below8 D4 (show w.heap.size ≤ w1.heap.size by omega) (show w.heap.size ≤ w1.heap.size + 1 by omega)⟩
        rintro x ⟨fq, ft, fu, fuf, fv, fvf, fD⟩
        go_wp2
        go_roundw
        case rel => exact ⟨3, A, B, C, E, F, G, H, I, rfl, by omega, hU', hV', fD, fq, ft, fu, fuf, fv, fvf⟩
        case measure => simp [intOf]
      · have mb := HM.out 3; have sb := HS.out 3
        have mb' := HM.out 0; have sb' := HS.out 0
        have hR' : PlIs (wv VA VB) (wv VC VE) (m 0) (1 + s 0) F G H I true := hR
        have i1 : I64 (m 3) := ⟨by omega, by omega⟩
        have i2 : I64 (1 + s 3) := ⟨by omega, by omega⟩
        have i3 : I64 (m 0) := ⟨by omega, by omega⟩
        have i4 : I64 (1 + s 0) := ⟨by omega, by omega⟩
        have i5 : I64 1048576 := ⟨by decide, by decide⟩
        have i6 : I64 1 := ⟨by decide, by decide⟩
        clear hR
        go_wp2
        go_quiet (fail)
        go_wp2
        go_quiet (fail)
        refine gw (G := fun x => Exit.then _ _ _ _ x) (fun x => Below wr.heap.size wr x) ?_ ?_
        · exact below_drewN (below_drewN (Below.refl _ _) _) _
        rintro wq Bq
        have p0 := kc ua0 Bq
        have p1 := kc ua1 Bq
        have p2 := kc ua2 Bq
        have p3 := kc ua3 Bq
        have r0 := kc va0 Bq
        have r1 := kc va1 Bq
        have r2 := kc va2 Bq
        have r3 := kc va3 Bq
        go_wp2_with (first
          | (go_at_call 24; with_reducible refine (plus_is hU.a hU.b hU.c hU.e i1 i2 hP).mono ?_; rintro rr w2 ⟨rfl, B2⟩; have l0 := kc r0 B2; have l1 := kc r1 B2; have l2 := kc r2 B2; have l3 := kc r3 B2; clear p0 p1 p2 p3 r0 r1 r2 r3)
          | (go_at_call 24; with_reducible refine (plus_is hV.a hV.b hV.c hV.e i3 i4 hR').mono ?_; rintro rr w3 ⟨rfl, B3⟩; have s2 : w1.heap.size + 1 < w2.heap.size := cell_lt l0; clear l0 l1 l2 l3; have g0 := kc (a := ⟨w2.heap.size, 0, none⟩) (v := .int .u64 A) (by simp [go_sem]) B3; have g1 := kc (a := ⟨w2.heap.size, 1, none⟩) (v := .int .u64 B) (by simp [go_sem]) B3; have g2 := kc (a := ⟨w2.heap.size, 2, none⟩) (v := .int .u64 C) (by simp [go_sem]) B3; have g3 := kc (a := ⟨w2.heap.size, 3, none⟩) (v := .int .u64 E) (by simp [go_sem]) B3)
          | (go_at_call 26; with_reducible refine (against_is hU'.a hU'.b hU'.c hU'.e i5 i6 hA).mono ?_; rintro rr w4 ⟨rfl, B4⟩; have s3 : w2.heap.size < w3.heap.size := cell_lt g0; have ne0 : w1.heap.size ≠ w2.heap.size := (by omega); have ne1 : w2.heap.size ≠ w1.heap.size := (by omega); have ne2 : w1.heap.size ≠ w3.heap.size := (by omega); have ne3 : w3.heap.size ≠ w1.heap.size := (by omega); have ne4 : w1.heap.size + 1 ≠ w2.heap.size := (by omega); have ne5 : w2.heap.size ≠ w1.heap.size + 1 := (by omega); have ne6 : w1.heap.size + 1 ≠ w3.heap.size := (by omega); have ne7 : w3.heap.size ≠ w1.heap.size + 1 := (by omega); have h0 := kc (kl g0 _) B4; have h1 := kc (kl g1 _) B4; have h2 := kc (kl g2 _) B4; have h3 := kc (kl g3 _) B4; have j0 := kc (a := ⟨w3.heap.size, 0, none⟩) (v := .int .u64 F) (by simp [go_sem]) B4; have j1 := kc (a := ⟨w3.heap.size, 1, none⟩) (v := .int .u64 G) (by simp [go_sem]) B4; have j2 := kc (a := ⟨w3.heap.size, 2, none⟩) (v := .int .u64 H) (by simp [go_sem]) B4; have j3 := kc (a := ⟨w3.heap.size, 3, none⟩) (v := .int .u64 I) (by simp [go_sem]) B4; clear g0 g1 g2 g3; have T := bt (ba (bt (ba (bt Bq B2) _) B3) _) B4; have ub0 := kc ua0 T; have ub1 := kc ua1 T; have ub2 := kc ua2 T; have ub3 := kc ua3 T; have vb0 := kc va0 T; have vb1 := kc va1 T; have vb2 := kc va2 T; have vb3 := kc va3 T; have ug0 := kf ua0 T uf0; have ug1 := kf ua1 T uf1; have ug2 := kf ua2 T uf2; have ug3 := kf ua3 T uf3; have vg0 := kf va0 T vf0; have vg1 := kf va1 T vf1; have vg2 := kf va2 T vf2; have vg3 := kf va3 T vf3; have qb0 := kc qa0 T; have qb1 := kc qa1 T; have qb2 := kc qa2 T; have qb3 := kc qa3 T; have tb0 := kc ta0 T; have tb1 := kc ta1 T; have tb2 := kc ta2 T; have tb3 := kc ta3 T; have D4 := bt D T; clear T Bq B2 B3 B4 D ua0 ua1 ua2 ua3 va0 va1 va2 va3 uf0 uf1 uf2 uf3 vf0 vf1 vf2 vf3 qa0 qa1 qa2 qa3 ta0 ta1 ta2 ta3))
        go_region
        refine gw (G := fun x => Exit.inBlock _ _ _ _ x) (fun x => (x.cell? ⟨w.heap.size, 0, none⟩ = some (.int .i64 a0) ∧ x.cell? ⟨w.heap.size, 1, none⟩ = some (.int .i64 a1) ∧ x.cell? ⟨w.heap.size, 2, none⟩ = some (.int .i64 a2) ∧ x.cell? ⟨w.heap.size, 3, none⟩ = some (.int .i64 a3)) ∧ (x.cell? ⟨w.heap.size + 1, 0, none⟩ = some (.int .i64 b0) ∧ x.cell? ⟨w.heap.size + 1, 1, none⟩ = some (.int .i64 b1) ∧ x.cell? ⟨w.heap.size + 1, 2, none⟩ = some (.int .i64 b2) ∧ x.cell? ⟨w.heap.size + 1, 3, none⟩ = some (.int .i64 b3)) ∧ (x.cell? ⟨w1.heap.size, 0, none⟩ = some (.int .u64 A) ∧ x.cell? ⟨w1.heap.size, 1, none⟩ = some (.int .u64 B) ∧ x.cell? ⟨w1.heap.size, 2, none⟩ = some (.int .u64 C) ∧ x.cell? ⟨w1.heap.size, 3, none⟩ = some (.int .u64 E)) ∧ (x.frozen? ⟨w1.heap.size, 0, none⟩ = false ∧ x.frozen? ⟨w1.heap.size, 1, none⟩ = false ∧ x.frozen? ⟨w1.heap.size, 2, none⟩ = false ∧ x.frozen? ⟨w1.heap.size, 3, none⟩ = false) ∧ (x.cell? ⟨w1.heap.size + 1, 0, none⟩ = some (.int .u64 F) ∧ x.cell? ⟨w1.heap.size + 1, 1, none⟩ = some (.int .u64 G) ∧ x.cell? ⟨w1.heap.size + 1, 2, none⟩ = some (.int .u64 H) ∧ x.cell? ⟨w1.heap.size + 1, 3, none⟩ = some (.int .u64 I)) ∧ (x.frozen? ⟨w1.heap.size + 1, 0, none⟩ = false ∧ x.frozen? ⟨w1.heap.size + 1, 1, none⟩ = false ∧ x.frozen? ⟨w1.heap.size + 1, 2, none⟩ = false ∧ x.frozen? ⟨w1.heap.size + 1, 3, none⟩ = false) ∧ Below w.heap.size w x) ?_ ?_
        · exact ⟨⟨cs8 qb0 (show w.heap.size ≠ w1.heap.size by omega) (show w.heap.size ≠ w1.heap.size + 1 by omega), cs8 qb1 (show w.heap.size ≠ w1.heap.size by omega) (show w.heap.size ≠ w1.heap.size + 1 by omega), cs8 qb2 (show w.heap.size ≠ w1.heap.size by omega) (show w.heap.size ≠ w1.heap.size + 1 by omega), cs8 qb3 (show w.heap.size ≠ w1.heap.size by omega) (show w.heap.size ≠ w1.heap.size + 1 by omega)⟩, ⟨cs8 tb0 (show w.heap.size + 1 ≠ w1.heap.size by omega) (show w.heap.size + 1 ≠ w1.heap.size + 1 by omega), cs8 tb1 (show w.heap.size + 1 ≠ w1.heap.size by omega) (show w.heap.size + 1 ≠ w1.heap.size + 1 by omega), cs8 tb2 (show w.heap.size + 1 ≠ w1.heap.size by omega) (show w.heap.size + 1 ≠ w1.heap.size + 1 by omega), cs8 tb3 (show w.heap.size + 1 ≠ w1.heap.size by omega) (show w.heap.size + 1 ≠ w1.heap.size + 1 by omega)⟩, ⟨by simp [go_sem, ub0], by simp [go_sem, ub1], by simp [go_sem, ub2], by simp [go_sem, ub3]⟩, ⟨by simp [ug0], by simp [ug1], by simp [ug2], by simp [ug3]⟩, ⟨by simp [go_sem, vb0], by simp [go_sem, vb1], by simp [go_sem, vb2], by simp [go_sem, vb3]⟩, ⟨by simp [vg0], by simp [vg1], by simp [vg2], by simp [vg3]⟩, below8 D4 (show w.heap.size ≤ w1.heap.size by omega) (show w.heap.size ≤ w1.heap.size + 1 by omega)⟩
        rintro x ⟨fq, ft, fu, fuf, fv, fvf, fD⟩
        go_wp2
        go_roundw
        case rel => exact ⟨4, A, B, C, E, F, G, H, I, rfl, by omega, hU', hV', fD, fq, ft, fu, fuf, fv, fvf⟩
        case measure => simp [intOf]
end Go.Proofs.Ytakdkoocbekbgaa
