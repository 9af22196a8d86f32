/- The document's server. -/
import Derived.Test.YtdkjoedebjinkaaDoorSrv5
namespace Go.Proofs.YtdkjoedebjinkaaDoor
open Go.ChangeShapes Go.WideShapes Go.ChangeAt Go.RowKit
set_option linter.unusedVariables false

/-- The document's server in its block. -/
def MB (w : World) (b : Nat) (s : Sv) (m : Int) (wk : Bool) (x : Ss) : Prop := w.heap[b]? = some (.cells #[.int .i64 s.1, .int .i64 s.2.1, .int .i64 s.2.2, .int .i64 m, .int .i64 x.bud, .int .i64 x.dl, .bool x.on, .bool wk] 41 (0, 0))
theorem MB.lt {w : World} {b : Nat} {s : Sv} {m : Int} {wk : Bool} {x : Ss} (h : MB w b s m wk x) : b < w.heap.size := (Array.getElem?_eq_some_iff.1 h).1
theorem MB.kb {w w' : World} {b b' : Nat} {s : Sv} {m : Int} {wk : Bool} {x : Ss} (h : MB w b s m wk x) (hk : Kb b' w w') (hn : ¬ b = b') : MB w' b s m wk x := (hk.block b h.lt hn).trans h
theorem MB.hold {w w' : World} {b : Nat} {s : Sv} {m : Int} {wk : Bool} {x : Ss} (h : MB w b s m wk x) (hb : Below w.heap.size w w') : MB w' b s m wk x := (hb.block b h.lt).trans h
theorem MB.fz {w : World} {b : Nat} {s : Sv} {m : Int} {wk : Bool} {x : Ss} (h : MB w b s m wk x) (i : Nat) : w.frozen? ⟨b, i, none⟩ = false := frozen_of_block h
theorem MB.c0 {w : World} {b : Nat} {s : Sv} {m : Int} {wk : Bool} {x : Ss} (h : MB w b s m wk x) : w.cell? ⟨b, 0, none⟩ = some (.int .i64 s.1) := cell_of_block (i := 0) h rfl
theorem MB.c1 {w : World} {b : Nat} {s : Sv} {m : Int} {wk : Bool} {x : Ss} (h : MB w b s m wk x) : w.cell? ⟨b, 1, none⟩ = some (.int .i64 s.2.1) := cell_of_block (i := 1) h rfl
theorem MB.c2 {w : World} {b : Nat} {s : Sv} {m : Int} {wk : Bool} {x : Ss} (h : MB w b s m wk x) : w.cell? ⟨b, 2, none⟩ = some (.int .i64 s.2.2) := cell_of_block (i := 2) h rfl
theorem MB.c3 {w : World} {b : Nat} {s : Sv} {m : Int} {wk : Bool} {x : Ss} (h : MB w b s m wk x) : w.cell? ⟨b, 3, none⟩ = some (.int .i64 m) := cell_of_block (i := 3) h rfl
theorem MB.c4 {w : World} {b : Nat} {s : Sv} {m : Int} {wk : Bool} {x : Ss} (h : MB w b s m wk x) : w.cell? ⟨b, 4, none⟩ = some (.int .i64 x.bud) := cell_of_block (i := 4) h rfl
theorem MB.c5 {w : World} {b : Nat} {s : Sv} {m : Int} {wk : Bool} {x : Ss} (h : MB w b s m wk x) : w.cell? ⟨b, 5, none⟩ = some (.int .i64 x.dl) := cell_of_block (i := 5) h rfl
theorem MB.c6 {w : World} {b : Nat} {s : Sv} {m : Int} {wk : Bool} {x : Ss} (h : MB w b s m wk x) : w.cell? ⟨b, 6, none⟩ = some (.bool x.on) := cell_of_block (i := 6) h rfl
theorem MB.c7 {w : World} {b : Nat} {s : Sv} {m : Int} {wk : Bool} {x : Ss} (h : MB w b s m wk x) : w.cell? ⟨b, 7, none⟩ = some (.bool wk) := cell_of_block (i := 7) h rfl
theorem MB.fill {w : World} {b : Nat} {s : Sv} {m : Int} {wk : Bool} {x : Ss} (h : MB w b s m wk x) (on : Bool) (bud dl : Int) : MB (((w.setCell ⟨b, 6, none⟩ (.bool on)).setCell ⟨b, 4, none⟩ (.int .i64 bud)).setCell ⟨b, 5, none⟩ (.int .i64 dl)) b s m wk ⟨on, bud, dl⟩ := by
  unfold MB at *
  rw [heap_set (heap_set (heap_set h))]; rfl
theorem MB.drop {w : World} {b : Nat} {s : Sv} {m : Int} {wk : Bool} {x : Ss} (h : MB w b s m wk x) (on : Bool) (bud : Int) : MB ((w.setCell ⟨b, 6, none⟩ (.bool on)).setCell ⟨b, 4, none⟩ (.int .i64 bud)) b s m wk ⟨on, bud, x.dl⟩ := by
  unfold MB at *
  rw [heap_set (heap_set h)]; rfl
theorem MB.put1 {w : World} {b : Nat} {s : Sv} {m : Int} {wk : Bool} {x : Ss} (h : MB w b s m wk x) (bud : Int) : MB (w.setCell ⟨b, 4, none⟩ (.int .i64 bud)) b s m wk ⟨x.on, bud, x.dl⟩ := by
  unfold MB at *
  rw [heap_set h]; rfl
theorem MB.putw {w : World} {b : Nat} {s : Sv} {m : Int} {wk : Bool} {x : Ss} (h : MB w b s m wk x) (wk' : Bool) : MB (w.setCell ⟨b, 7, none⟩ (.bool wk')) b s m wk' x := by
  unfold MB at *
  rw [heap_set h]; rfl
theorem MB.set6 {w : World} {b : Nat} {s : Sv} {m : Int} {wk : Bool} {x : Ss} (h : MB w b s m wk x) (on : Bool) : MB (w.setCell ⟨b, 6, none⟩ (.bool on)) b s m wk ⟨on, x.bud, x.dl⟩ := by
  unfold MB at *
  rw [heap_set h]; rfl
theorem mready_is (w : World) (b : Nat) (s : Sv) (m : Int) (wk : Bool) (x : Ss) (h : MB w b s m wk x) (h0 : 0 ≤ x.bud) : Calls Tryd.prog 18 #[.pointer (some ⟨b, 0, none⟩)] w fun e w' => e = .returned (.bool (rdyS wk x)) ∧ w' = w := by
  have c4 := h.c4
  have c7 := h.c7
  clear h
  obtain ⟨on, bud, dl⟩ := x
  simp only at c4 h0
  have hc : wk = false ∨ (wk = true ∧ bud = 0) ∨ (wk = true ∧ 0 < bud) := by cases wk <;> simp; omega
  rcases hc with rfl | ⟨rfl, rfl⟩ | ⟨rfl, hb⟩
  · go_enter Tryd.func18, Tryd.ntmps18
    go_wp2
    go_ret
    exact ⟨by simp [rdyS], rfl⟩
  · go_enter Tryd.func18, Tryd.ntmps18
    go_wp2
    go_ret
    exact ⟨by simp [rdyS], rfl⟩
  · have e : rdyS true ⟨on, bud, dl⟩ = true := by simp [rdyS]; omega
    rw [e]
    go_enter Tryd.func18, Tryd.ntmps18
    go_wp2
    go_ret
    exact ⟨rfl, rfl⟩
theorem mnew_is (w : World) (s : Sv) (now : Int) : Calls Tryd.prog 14 #[vS s, .int .i64 now] w fun e w' => ∃ b, e = .returned (.pointer (some ⟨b, 0, none⟩)) ∧ w.heap.size ≤ b ∧ MB w' b s now false ⟨false, 0, now⟩ ∧ Below w.heap.size w w' := by
  obtain ⟨k, q, t⟩ := s
  go_enter Tryd.func14, Tryd.ntmps14
  go_wp2
  go_ret
  refine ⟨w.heap.size + 1, rfl, by omega, ?_, ba (ba (Below.refl _ _) _) _⟩
  unfold MB
  rw [show w.heap.size + 1 = (w.alloc (.cells #[.int .i64 k, .int .i64 q, .int .i64 t] 23)).heap.size by simp]
  exact heap_alloc_new _ _
set_option maxHeartbeats 3200000 in
theorem mbeg_p1 (w : World) (b : Nat) (q t m now : Int) (wk0 : Bool) (on : Bool) (bud dl : Int) (h : MB w b (1, q, t) m wk0 ⟨on, bud, dl⟩) (m0 : 0 ≤ m) (hm : m ≤ now) (n1 : now ≤ 1099511727776) (t1 : 1 ≤ t) (t2 : t ≤ 256) (q0 : 0 ≤ q) (b0 : 0 ≤ bud) (hb : (now - m) % t = 0) : Calls Tryd.prog 16 #[.pointer (some ⟨b, 0, none⟩), .int .i64 now, .bool true] w fun e w' => e = .returned (.bool (rdyS true ⟨true, q, now + t⟩)) ∧ MB w' b (1, q, t) m true ⟨true, q, now + t⟩ ∧ Kb b w w' := by
  have f7 := h.fz 7
  have c7 := h.c7
  have h7 := h.putw true
  have HK := mkHid (kb_set (Kept.refl (fun k => k = b) w) 7 (.bool true))
  have c2 := h7.c2
  have c3 := h7.c3
  obtain ⟨X, hX⟩ : ∃ X, X = now - m := ⟨_, rfl⟩
  obtain ⟨R, hR⟩ : ∃ R, R = X % t := ⟨_, rfl⟩
  have ex : IntKind.i64.wrap (now - m) = X := by rw [hX]; exact wfit (by omega) (by omega)
  have er : X.tmod t = R := by rw [hR]; exact Int.tmod_eq_emod_of_nonneg (by omega)
  have hR0 : 0 ≤ R := by rw [hR]; exact Int.emod_nonneg _ (by omega)
  have hR1 : R < t := by rw [hR]; exact Int.emod_lt_of_pos _ (by omega)
  have ew : IntKind.i64.wrap R = R := wfit (by omega) (by omega)
  have t0 : ¬ t = 0 := by omega
  have eT : IntKind.i64.wrap (now + t) = now + t := wfit (by omega) (by omega)
  have hbb : R = 0 := by rw [← hX, ← hR] at hb; exact hb
  clear hb
  clear hX hR
  subst hbb
  have HM := mkHid h7
  clear h h7
  go_enter Tryd.func16, Tryd.ntmps16
  go_wp2
  go_quiet (fail)
  obtain ⟨w2, hw2⟩ : ∃ W5, (w.setCell ⟨b, 7, none⟩ (.bool true)).drewN nq = W5 := ⟨_, rfl⟩
  have HM2 : Hid (MB ((w.setCell ⟨b, 7, none⟩ (.bool true)).drewN nq) b (1, q, t) m true ⟨on, bud, dl⟩) := mkHid HM.out
  have HK2 : Hid (Kb b w ((w.setCell ⟨b, 7, none⟩ (.bool true)).drewN nq)) := mkHid (Kb.trans HK.out (kb_drewN b _ nq))
  rw [hw2] at HM2 HK2 ⊢
  clear hw2 c2 c3 c7 f7 HM HK
  have d0 := HM2.out.c0
  have d1 := HM2.out.c1
  have d2 := HM2.out.c2
  have d4 := HM2.out.c4
  have d5 := HM2.out.c5
  have d6 := HM2.out.c6
  have k4 := HM2.out.fz 4
  have k5 := HM2.out.fz 5
  have k6 := HM2.out.fz 6
  skip
  all_goals
    go_wp2
    have HA := HM2.out.set6 true
    have HB := HM2.out.drop true q
    have HC := HM2.out.fill true q (now + t)
    have HAA := mkHid HA
    have HBB := mkHid HB
    have HCC := mkHid HC
    clear HA HB HC
    go_region_held3 (fun w' => w'.cell? ⟨b, 1, none⟩ = some (.int .i64 q) ∧ w'.cell? ⟨b, 2, none⟩ = some (.int .i64 t)) (first | exact ⟨HAA.out.c1, HAA.out.c2⟩ | exact ⟨HBB.out.c1, HBB.out.c2⟩ | exact ⟨HCC.out.c1, HCC.out.c2⟩ | go_keep) (fail)
    go_wp2_with (go_at_call 18; refine (mready_is (((w2.setCell ⟨b, 6, none⟩ (.bool true)).setCell ⟨b, 4, none⟩ (.int .i64 q)).setCell ⟨b, 5, none⟩ (.int .i64 (now + t))).drew b (1, q, t) m true ⟨true, q, now + t⟩ HCC.out (by simp only; omega)).mono ?_; rintro e w5 ⟨rfl, hw⟩; rw [hw]; clear hw)
    go_ret
    exact ⟨rfl, HCC.out, Kb.trans HK2.out (Kb.trans (kb_set (kb_set (kb_set (Kept.refl _ w2) _ _) _ _) _ _) (Kept.drew _ _))⟩
set_option maxHeartbeats 3200000 in
theorem mbeg_p2 (w : World) (b : Nat) (q t m now : Int) (wk0 : Bool) (on : Bool) (bud dl : Int) (h : MB w b (1, q, t) m wk0 ⟨on, bud, dl⟩) (m0 : 0 ≤ m) (hm : m ≤ now) (n1 : now ≤ 1099511727776) (t1 : 1 ≤ t) (t2 : t ≤ 256) (q0 : 0 ≤ q) (b0 : 0 ≤ bud) (hb : ¬ (now - m) % t = 0) : Calls Tryd.prog 16 #[.pointer (some ⟨b, 0, none⟩), .int .i64 now, .bool true] w fun e w' => e = .returned (.bool (rdyS true ⟨on, bud, dl⟩)) ∧ MB w' b (1, q, t) m true ⟨on, bud, dl⟩ ∧ Kb b w w' := by
  have f7 := h.fz 7
  have c7 := h.c7
  have h7 := h.putw true
  have HK := mkHid (kb_set (Kept.refl (fun k => k = b) w) 7 (.bool true))
  have c2 := h7.c2
  have c3 := h7.c3
  obtain ⟨X, hX⟩ : ∃ X, X = now - m := ⟨_, rfl⟩
  obtain ⟨R, hR⟩ : ∃ R, R = X % t := ⟨_, rfl⟩
  have ex : IntKind.i64.wrap (now - m) = X := by rw [hX]; exact wfit (by omega) (by omega)
  have er : X.tmod t = R := by rw [hR]; exact Int.tmod_eq_emod_of_nonneg (by omega)
  have hR0 : 0 ≤ R := by rw [hR]; exact Int.emod_nonneg _ (by omega)
  have hR1 : R < t := by rw [hR]; exact Int.emod_lt_of_pos _ (by omega)
  have ew : IntKind.i64.wrap R = R := wfit (by omega) (by omega)
  have t0 : ¬ t = 0 := by omega
  have eT : IntKind.i64.wrap (now + t) = now + t := wfit (by omega) (by omega)
  have hbb : (R == 0) = false := by rw [← hX, ← hR] at hb; simpa using hb
  clear hb
  clear hX hR
  have HM := mkHid h7
  clear h h7
  go_enter Tryd.func16, Tryd.ntmps16
  go_wp2
  go_quiet (fail)
  obtain ⟨w2, hw2⟩ : ∃ W5, (w.setCell ⟨b, 7, none⟩ (.bool true)).drewN nq = W5 := ⟨_, rfl⟩
  have HM2 : Hid (MB ((w.setCell ⟨b, 7, none⟩ (.bool true)).drewN nq) b (1, q, t) m true ⟨on, bud, dl⟩) := mkHid HM.out
  have HK2 : Hid (Kb b w ((w.setCell ⟨b, 7, none⟩ (.bool true)).drewN nq)) := mkHid (Kb.trans HK.out (kb_drewN b _ nq))
  rw [hw2] at HM2 HK2 ⊢
  clear hw2 c2 c3 c7 f7 HM HK
  have d0 := HM2.out.c0
  have d1 := HM2.out.c1
  have d2 := HM2.out.c2
  have d4 := HM2.out.c4
  have d5 := HM2.out.c5
  have d6 := HM2.out.c6
  have k4 := HM2.out.fz 4
  have k5 := HM2.out.fz 5
  have k6 := HM2.out.fz 6
  go_wp2_with (first | (go_at_call 18; refine (mready_is _ b (1, q, t) m true _ HM2.out (by simp only; omega)).mono ?_; rintro e w5 ⟨rfl, hw⟩; rw [hw]; clear hw))
  all_goals
    go_ret
    exact ⟨rfl, HM2.out, HK2.out⟩
set_option maxHeartbeats 3200000 in
theorem mbeg_p3 (w : World) (b : Nat) (q t m now : Int) (wk0 : Bool) (on : Bool) (bud dl : Int) (h : MB w b (1, q, t) m wk0 ⟨on, bud, dl⟩) (m0 : 0 ≤ m) (hm : m ≤ now) (n1 : now ≤ 1099511727776) (t1 : 1 ≤ t) (t2 : t ≤ 256) (q0 : 0 ≤ q) (b0 : 0 ≤ bud) (hb : (now - m) % t = 0) : Calls Tryd.prog 16 #[.pointer (some ⟨b, 0, none⟩), .int .i64 now, .bool false] w fun e w' => e = .returned (.bool (rdyS false ⟨false, 0, dl⟩)) ∧ MB w' b (1, q, t) m false ⟨false, 0, dl⟩ ∧ Kb b w w' := by
  have f7 := h.fz 7
  have c7 := h.c7
  have h7 := h.putw false
  have HK := mkHid (kb_set (Kept.refl (fun k => k = b) w) 7 (.bool false))
  have c2 := h7.c2
  have c3 := h7.c3
  obtain ⟨X, hX⟩ : ∃ X, X = now - m := ⟨_, rfl⟩
  obtain ⟨R, hR⟩ : ∃ R, R = X % t := ⟨_, rfl⟩
  have ex : IntKind.i64.wrap (now - m) = X := by rw [hX]; exact wfit (by omega) (by omega)
  have er : X.tmod t = R := by rw [hR]; exact Int.tmod_eq_emod_of_nonneg (by omega)
  have hR0 : 0 ≤ R := by rw [hR]; exact Int.emod_nonneg _ (by omega)
  have hR1 : R < t := by rw [hR]; exact Int.emod_lt_of_pos _ (by omega)
  have ew : IntKind.i64.wrap R = R := wfit (by omega) (by omega)
  have t0 : ¬ t = 0 := by omega
  have eT : IntKind.i64.wrap (now + t) = now + t := wfit (by omega) (by omega)
  have hbb : R = 0 := by rw [← hX, ← hR] at hb; exact hb
  clear hb
  clear hX hR
  subst hbb
  have HM := mkHid h7
  clear h h7
  go_enter Tryd.func16, Tryd.ntmps16
  go_wp2
  go_quiet (fail)
  obtain ⟨w2, hw2⟩ : ∃ W5, (w.setCell ⟨b, 7, none⟩ (.bool false)).drewN nq = W5 := ⟨_, rfl⟩
  have HM2 : Hid (MB ((w.setCell ⟨b, 7, none⟩ (.bool false)).drewN nq) b (1, q, t) m false ⟨on, bud, dl⟩) := mkHid HM.out
  have HK2 : Hid (Kb b w ((w.setCell ⟨b, 7, none⟩ (.bool false)).drewN nq)) := mkHid (Kb.trans HK.out (kb_drewN b _ nq))
  rw [hw2] at HM2 HK2 ⊢
  clear hw2 c2 c3 c7 f7 HM HK
  have d0 := HM2.out.c0
  have d1 := HM2.out.c1
  have d2 := HM2.out.c2
  have d4 := HM2.out.c4
  have d5 := HM2.out.c5
  have d6 := HM2.out.c6
  have k4 := HM2.out.fz 4
  have k5 := HM2.out.fz 5
  have k6 := HM2.out.fz 6
  go_wp2_with (first | (go_at_call 18; refine (mready_is _ b (1, q, t) m false _ (HM2.out.drop false 0) (by simp only; omega)).mono ?_; rintro e w5 ⟨rfl, hw⟩; rw [hw]; clear hw))
  all_goals
    go_ret
    exact ⟨rfl, HM2.out.drop false 0, kb_set (kb_set HK2.out _ _) _ _⟩
set_option maxHeartbeats 3200000 in
theorem mbeg_p4 (w : World) (b : Nat) (q t m now : Int) (wk0 : Bool) (on : Bool) (bud dl : Int) (h : MB w b (1, q, t) m wk0 ⟨on, bud, dl⟩) (m0 : 0 ≤ m) (hm : m ≤ now) (n1 : now ≤ 1099511727776) (t1 : 1 ≤ t) (t2 : t ≤ 256) (q0 : 0 ≤ q) (b0 : 0 ≤ bud) (hb : ¬ (now - m) % t = 0) (ho : on = true) : Calls Tryd.prog 16 #[.pointer (some ⟨b, 0, none⟩), .int .i64 now, .bool false] w fun e w' => e = .returned (.bool (rdyS false ⟨false, 0, dl⟩)) ∧ MB w' b (1, q, t) m false ⟨false, 0, dl⟩ ∧ Kb b w w' := by
  have f7 := h.fz 7
  have c7 := h.c7
  have h7 := h.putw false
  have HK := mkHid (kb_set (Kept.refl (fun k => k = b) w) 7 (.bool false))
  have c2 := h7.c2
  have c3 := h7.c3
  obtain ⟨X, hX⟩ : ∃ X, X = now - m := ⟨_, rfl⟩
  obtain ⟨R, hR⟩ : ∃ R, R = X % t := ⟨_, rfl⟩
  have ex : IntKind.i64.wrap (now - m) = X := by rw [hX]; exact wfit (by omega) (by omega)
  have er : X.tmod t = R := by rw [hR]; exact Int.tmod_eq_emod_of_nonneg (by omega)
  have hR0 : 0 ≤ R := by rw [hR]; exact Int.emod_nonneg _ (by omega)
  have hR1 : R < t := by rw [hR]; exact Int.emod_lt_of_pos _ (by omega)
  have ew : IntKind.i64.wrap R = R := wfit (by omega) (by omega)
  have t0 : ¬ t = 0 := by omega
  have eT : IntKind.i64.wrap (now + t) = now + t := wfit (by omega) (by omega)
  have hbb : (R == 0) = false := by rw [← hX, ← hR] at hb; simpa using hb
  clear hb
  clear hX hR
  subst ho
  have HM := mkHid h7
  clear h h7
  go_enter Tryd.func16, Tryd.ntmps16
  go_wp2
  go_quiet (fail)
  obtain ⟨w2, hw2⟩ : ∃ W5, (w.setCell ⟨b, 7, none⟩ (.bool false)).drewN nq = W5 := ⟨_, rfl⟩
  have HM2 : Hid (MB ((w.setCell ⟨b, 7, none⟩ (.bool false)).drewN nq) b (1, q, t) m false ⟨true, bud, dl⟩) := mkHid HM.out
  have HK2 : Hid (Kb b w ((w.setCell ⟨b, 7, none⟩ (.bool false)).drewN nq)) := mkHid (Kb.trans HK.out (kb_drewN b _ nq))
  rw [hw2] at HM2 HK2 ⊢
  clear hw2 c2 c3 c7 f7 HM HK
  have d0 := HM2.out.c0
  have d1 := HM2.out.c1
  have d2 := HM2.out.c2
  have d4 := HM2.out.c4
  have d5 := HM2.out.c5
  have d6 := HM2.out.c6
  have k4 := HM2.out.fz 4
  have k5 := HM2.out.fz 5
  have k6 := HM2.out.fz 6
  go_wp2_with (first | (go_at_call 18; refine (mready_is _ b (1, q, t) m false _ (HM2.out.drop false 0) (by simp only; omega)).mono ?_; rintro e w5 ⟨rfl, hw⟩; rw [hw]; clear hw))
  all_goals
    go_ret
    exact ⟨rfl, HM2.out.drop false 0, kb_set (kb_set HK2.out _ _) _ _⟩
set_option maxHeartbeats 3200000 in
theorem mbeg_p5 (w : World) (b : Nat) (q t m now : Int) (wk0 : Bool) (on : Bool) (bud dl : Int) (h : MB w b (1, q, t) m wk0 ⟨on, bud, dl⟩) (m0 : 0 ≤ m) (hm : m ≤ now) (n1 : now ≤ 1099511727776) (t1 : 1 ≤ t) (t2 : t ≤ 256) (q0 : 0 ≤ q) (b0 : 0 ≤ bud) (hb : ¬ (now - m) % t = 0) (ho : on = false) : Calls Tryd.prog 16 #[.pointer (some ⟨b, 0, none⟩), .int .i64 now, .bool false] w fun e w' => e = .returned (.bool (rdyS false ⟨on, bud, dl⟩)) ∧ MB w' b (1, q, t) m false ⟨on, bud, dl⟩ ∧ Kb b w w' := by
  have f7 := h.fz 7
  have c7 := h.c7
  have h7 := h.putw false
  have HK := mkHid (kb_set (Kept.refl (fun k => k = b) w) 7 (.bool false))
  have c2 := h7.c2
  have c3 := h7.c3
  obtain ⟨X, hX⟩ : ∃ X, X = now - m := ⟨_, rfl⟩
  obtain ⟨R, hR⟩ : ∃ R, R = X % t := ⟨_, rfl⟩
  have ex : IntKind.i64.wrap (now - m) = X := by rw [hX]; exact wfit (by omega) (by omega)
  have er : X.tmod t = R := by rw [hR]; exact Int.tmod_eq_emod_of_nonneg (by omega)
  have hR0 : 0 ≤ R := by rw [hR]; exact Int.emod_nonneg _ (by omega)
  have hR1 : R < t := by rw [hR]; exact Int.emod_lt_of_pos _ (by omega)
  have ew : IntKind.i64.wrap R = R := wfit (by omega) (by omega)
  have t0 : ¬ t = 0 := by omega
  have eT : IntKind.i64.wrap (now + t) = now + t := wfit (by omega) (by omega)
  have hbb : (R == 0) = false := by rw [← hX, ← hR] at hb; simpa using hb
  clear hb
  clear hX hR
  subst ho
  have HM := mkHid h7
  clear h h7
  go_enter Tryd.func16, Tryd.ntmps16
  go_wp2
  go_quiet (fail)
  obtain ⟨w2, hw2⟩ : ∃ W5, (w.setCell ⟨b, 7, none⟩ (.bool false)).drewN nq = W5 := ⟨_, rfl⟩
  have HM2 : Hid (MB ((w.setCell ⟨b, 7, none⟩ (.bool false)).drewN nq) b (1, q, t) m false ⟨false, bud, dl⟩) := mkHid HM.out
  have HK2 : Hid (Kb b w ((w.setCell ⟨b, 7, none⟩ (.bool false)).drewN nq)) := mkHid (Kb.trans HK.out (kb_drewN b _ nq))
  rw [hw2] at HM2 HK2 ⊢
  clear hw2 c2 c3 c7 f7 HM HK
  have d0 := HM2.out.c0
  have d1 := HM2.out.c1
  have d2 := HM2.out.c2
  have d4 := HM2.out.c4
  have d5 := HM2.out.c5
  have d6 := HM2.out.c6
  have k4 := HM2.out.fz 4
  have k5 := HM2.out.fz 5
  have k6 := HM2.out.fz 6
  go_wp2_with (first | (go_at_call 18; refine (mready_is _ b (1, q, t) m false _ HM2.out (by simp only; omega)).mono ?_; rintro e w5 ⟨rfl, hw⟩; rw [hw]; clear hw))
  all_goals
    go_ret
    exact ⟨rfl, HM2.out, HK2.out⟩
set_option maxHeartbeats 3200000 in
theorem mbeg_s1 (w : World) (b : Nat) (q t m now : Int) (wk0 : Bool) (on : Bool) (bud dl : Int) (h : MB w b (2, q, t) m wk0 ⟨on, bud, dl⟩) (m0 : 0 ≤ m) (hm : m ≤ now) (n1 : now ≤ 1099511727776) (t1 : 1 ≤ t) (t2 : t ≤ 256) (q0 : 0 ≤ q) (b0 : 0 ≤ bud) (hd : dl ≤ now) : Calls Tryd.prog 16 #[.pointer (some ⟨b, 0, none⟩), .int .i64 now, .bool true] w fun e w' => e = .returned (.bool (rdyS true ⟨true, q, now + t⟩)) ∧ MB w' b (2, q, t) m true ⟨true, q, now + t⟩ ∧ Kb b w w' := by
  have f7 := h.fz 7
  have c7 := h.c7
  have h7 := h.putw true
  have HK := mkHid (kb_set (Kept.refl (fun k => k = b) w) 7 (.bool true))
  have c2 := h7.c2
  have c3 := h7.c3
  obtain ⟨X, hX⟩ : ∃ X, X = now - m := ⟨_, rfl⟩
  obtain ⟨R, hR⟩ : ∃ R, R = X % t := ⟨_, rfl⟩
  have ex : IntKind.i64.wrap (now - m) = X := by rw [hX]; exact wfit (by omega) (by omega)
  have er : X.tmod t = R := by rw [hR]; exact Int.tmod_eq_emod_of_nonneg (by omega)
  have hR0 : 0 ≤ R := by rw [hR]; exact Int.emod_nonneg _ (by omega)
  have hR1 : R < t := by rw [hR]; exact Int.emod_lt_of_pos _ (by omega)
  have ew : IntKind.i64.wrap R = R := wfit (by omega) (by omega)
  have t0 : ¬ t = 0 := by omega
  have eT : IntKind.i64.wrap (now + t) = now + t := wfit (by omega) (by omega)
  clear hX hR
  have HM := mkHid h7
  clear h h7
  go_enter Tryd.func16, Tryd.ntmps16
  go_wp2
  go_quiet (fail)
  obtain ⟨w2, hw2⟩ : ∃ W5, (w.setCell ⟨b, 7, none⟩ (.bool true)).drewN nq = W5 := ⟨_, rfl⟩
  have HM2 : Hid (MB ((w.setCell ⟨b, 7, none⟩ (.bool true)).drewN nq) b (2, q, t) m true ⟨on, bud, dl⟩) := mkHid HM.out
  have HK2 : Hid (Kb b w ((w.setCell ⟨b, 7, none⟩ (.bool true)).drewN nq)) := mkHid (Kb.trans HK.out (kb_drewN b _ nq))
  rw [hw2] at HM2 HK2 ⊢
  clear hw2 c2 c3 c7 f7 HM HK
  have d0 := HM2.out.c0
  have d1 := HM2.out.c1
  have d2 := HM2.out.c2
  have d4 := HM2.out.c4
  have d5 := HM2.out.c5
  have d6 := HM2.out.c6
  have k4 := HM2.out.fz 4
  have k5 := HM2.out.fz 5
  have k6 := HM2.out.fz 6
  cases on
  all_goals
    go_wp2
    have HA := HM2.out.set6 true
    have HB := HM2.out.drop true q
    have HC := HM2.out.fill true q (now + t)
    have HAA := mkHid HA
    have HBB := mkHid HB
    have HCC := mkHid HC
    clear HA HB HC
    go_region_held3 (fun w' => w'.cell? ⟨b, 1, none⟩ = some (.int .i64 q) ∧ w'.cell? ⟨b, 2, none⟩ = some (.int .i64 t)) (first | exact ⟨HAA.out.c1, HAA.out.c2⟩ | exact ⟨HBB.out.c1, HBB.out.c2⟩ | exact ⟨HCC.out.c1, HCC.out.c2⟩ | go_keep) (fail)
    go_wp2_with (go_at_call 18; refine (mready_is (((w2.setCell ⟨b, 6, none⟩ (.bool true)).setCell ⟨b, 4, none⟩ (.int .i64 q)).setCell ⟨b, 5, none⟩ (.int .i64 (now + t))).drew b (2, q, t) m true ⟨true, q, now + t⟩ HCC.out (by simp only; omega)).mono ?_; rintro e w5 ⟨rfl, hw⟩; rw [hw]; clear hw)
    go_ret
    exact ⟨rfl, HCC.out, Kb.trans HK2.out (Kb.trans (kb_set (kb_set (kb_set (Kept.refl _ w2) _ _) _ _) _ _) (Kept.drew _ _))⟩
set_option maxHeartbeats 3200000 in
theorem mbeg_s2 (w : World) (b : Nat) (q t m now : Int) (wk0 : Bool) (on : Bool) (bud dl : Int) (h : MB w b (2, q, t) m wk0 ⟨on, bud, dl⟩) (m0 : 0 ≤ m) (hm : m ≤ now) (n1 : now ≤ 1099511727776) (t1 : 1 ≤ t) (t2 : t ≤ 256) (q0 : 0 ≤ q) (b0 : 0 ≤ bud) (hd : ¬ dl ≤ now) : Calls Tryd.prog 16 #[.pointer (some ⟨b, 0, none⟩), .int .i64 now, .bool true] w fun e w' => e = .returned (.bool (rdyS true ⟨on, bud, dl⟩)) ∧ MB w' b (2, q, t) m true ⟨on, bud, dl⟩ ∧ Kb b w w' := by
  have f7 := h.fz 7
  have c7 := h.c7
  have h7 := h.putw true
  have HK := mkHid (kb_set (Kept.refl (fun k => k = b) w) 7 (.bool true))
  have c2 := h7.c2
  have c3 := h7.c3
  obtain ⟨X, hX⟩ : ∃ X, X = now - m := ⟨_, rfl⟩
  obtain ⟨R, hR⟩ : ∃ R, R = X % t := ⟨_, rfl⟩
  have ex : IntKind.i64.wrap (now - m) = X := by rw [hX]; exact wfit (by omega) (by omega)
  have er : X.tmod t = R := by rw [hR]; exact Int.tmod_eq_emod_of_nonneg (by omega)
  have hR0 : 0 ≤ R := by rw [hR]; exact Int.emod_nonneg _ (by omega)
  have hR1 : R < t := by rw [hR]; exact Int.emod_lt_of_pos _ (by omega)
  have ew : IntKind.i64.wrap R = R := wfit (by omega) (by omega)
  have t0 : ¬ t = 0 := by omega
  have eT : IntKind.i64.wrap (now + t) = now + t := wfit (by omega) (by omega)
  clear hX hR
  have hd' : decide (dl ≤ now) = false := decide_eq_false hd
  have HM := mkHid h7
  clear h h7
  go_enter Tryd.func16, Tryd.ntmps16
  go_wp2
  go_quiet (fail)
  obtain ⟨w2, hw2⟩ : ∃ W5, (w.setCell ⟨b, 7, none⟩ (.bool true)).drewN nq = W5 := ⟨_, rfl⟩
  have HM2 : Hid (MB ((w.setCell ⟨b, 7, none⟩ (.bool true)).drewN nq) b (2, q, t) m true ⟨on, bud, dl⟩) := mkHid HM.out
  have HK2 : Hid (Kb b w ((w.setCell ⟨b, 7, none⟩ (.bool true)).drewN nq)) := mkHid (Kb.trans HK.out (kb_drewN b _ nq))
  rw [hw2] at HM2 HK2 ⊢
  clear hw2 c2 c3 c7 f7 HM HK
  have d0 := HM2.out.c0
  have d1 := HM2.out.c1
  have d2 := HM2.out.c2
  have d4 := HM2.out.c4
  have d5 := HM2.out.c5
  have d6 := HM2.out.c6
  have k4 := HM2.out.fz 4
  have k5 := HM2.out.fz 5
  have k6 := HM2.out.fz 6
  go_wp2_with (first | (go_at_call 18; refine (mready_is _ b (2, q, t) m true _ HM2.out (by simp only; omega)).mono ?_; rintro e w5 ⟨rfl, hw⟩; rw [hw]; clear hw))
  all_goals
    go_ret
    exact ⟨rfl, HM2.out, HK2.out⟩
set_option maxHeartbeats 3200000 in
theorem mbeg_s3 (w : World) (b : Nat) (q t m now : Int) (wk0 : Bool) (on : Bool) (bud dl : Int) (h : MB w b (2, q, t) m wk0 ⟨on, bud, dl⟩) (m0 : 0 ≤ m) (hm : m ≤ now) (n1 : now ≤ 1099511727776) (t1 : 1 ≤ t) (t2 : t ≤ 256) (q0 : 0 ≤ q) (b0 : 0 ≤ bud) (ho : on = true) : Calls Tryd.prog 16 #[.pointer (some ⟨b, 0, none⟩), .int .i64 now, .bool false] w fun e w' => e = .returned (.bool (rdyS false ⟨false, 0, dl⟩)) ∧ MB w' b (2, q, t) m false ⟨false, 0, dl⟩ ∧ Kb b w w' := by
  have f7 := h.fz 7
  have c7 := h.c7
  have h7 := h.putw false
  have HK := mkHid (kb_set (Kept.refl (fun k => k = b) w) 7 (.bool false))
  have c2 := h7.c2
  have c3 := h7.c3
  obtain ⟨X, hX⟩ : ∃ X, X = now - m := ⟨_, rfl⟩
  obtain ⟨R, hR⟩ : ∃ R, R = X % t := ⟨_, rfl⟩
  have ex : IntKind.i64.wrap (now - m) = X := by rw [hX]; exact wfit (by omega) (by omega)
  have er : X.tmod t = R := by rw [hR]; exact Int.tmod_eq_emod_of_nonneg (by omega)
  have hR0 : 0 ≤ R := by rw [hR]; exact Int.emod_nonneg _ (by omega)
  have hR1 : R < t := by rw [hR]; exact Int.emod_lt_of_pos _ (by omega)
  have ew : IntKind.i64.wrap R = R := wfit (by omega) (by omega)
  have t0 : ¬ t = 0 := by omega
  have eT : IntKind.i64.wrap (now + t) = now + t := wfit (by omega) (by omega)
  clear hX hR
  subst ho
  have HM := mkHid h7
  clear h h7
  go_enter Tryd.func16, Tryd.ntmps16
  go_wp2
  go_quiet (fail)
  obtain ⟨w2, hw2⟩ : ∃ W5, (w.setCell ⟨b, 7, none⟩ (.bool false)).drewN nq = W5 := ⟨_, rfl⟩
  have HM2 : Hid (MB ((w.setCell ⟨b, 7, none⟩ (.bool false)).drewN nq) b (2, q, t) m false ⟨true, bud, dl⟩) := mkHid HM.out
  have HK2 : Hid (Kb b w ((w.setCell ⟨b, 7, none⟩ (.bool false)).drewN nq)) := mkHid (Kb.trans HK.out (kb_drewN b _ nq))
  rw [hw2] at HM2 HK2 ⊢
  clear hw2 c2 c3 c7 f7 HM HK
  have d0 := HM2.out.c0
  have d1 := HM2.out.c1
  have d2 := HM2.out.c2
  have d4 := HM2.out.c4
  have d5 := HM2.out.c5
  have d6 := HM2.out.c6
  have k4 := HM2.out.fz 4
  have k5 := HM2.out.fz 5
  have k6 := HM2.out.fz 6
  go_wp2_with (first | (go_at_call 18; refine (mready_is _ b (2, q, t) m false _ (HM2.out.drop false 0) (by simp only; omega)).mono ?_; rintro e w5 ⟨rfl, hw⟩; rw [hw]; clear hw))
  all_goals
    go_ret
    exact ⟨rfl, HM2.out.drop false 0, kb_set (kb_set HK2.out _ _) _ _⟩
set_option maxHeartbeats 3200000 in
theorem mbeg_s4 (w : World) (b : Nat) (q t m now : Int) (wk0 : Bool) (on : Bool) (bud dl : Int) (h : MB w b (2, q, t) m wk0 ⟨on, bud, dl⟩) (m0 : 0 ≤ m) (hm : m ≤ now) (n1 : now ≤ 1099511727776) (t1 : 1 ≤ t) (t2 : t ≤ 256) (q0 : 0 ≤ q) (b0 : 0 ≤ bud) (ho : on = false) : Calls Tryd.prog 16 #[.pointer (some ⟨b, 0, none⟩), .int .i64 now, .bool false] w fun e w' => e = .returned (.bool (rdyS false ⟨on, bud, dl⟩)) ∧ MB w' b (2, q, t) m false ⟨on, bud, dl⟩ ∧ Kb b w w' := by
  have f7 := h.fz 7
  have c7 := h.c7
  have h7 := h.putw false
  have HK := mkHid (kb_set (Kept.refl (fun k => k = b) w) 7 (.bool false))
  have c2 := h7.c2
  have c3 := h7.c3
  obtain ⟨X, hX⟩ : ∃ X, X = now - m := ⟨_, rfl⟩
  obtain ⟨R, hR⟩ : ∃ R, R = X % t := ⟨_, rfl⟩
  have ex : IntKind.i64.wrap (now - m) = X := by rw [hX]; exact wfit (by omega) (by omega)
  have er : X.tmod t = R := by rw [hR]; exact Int.tmod_eq_emod_of_nonneg (by omega)
  have hR0 : 0 ≤ R := by rw [hR]; exact Int.emod_nonneg _ (by omega)
  have hR1 : R < t := by rw [hR]; exact Int.emod_lt_of_pos _ (by omega)
  have ew : IntKind.i64.wrap R = R := wfit (by omega) (by omega)
  have t0 : ¬ t = 0 := by omega
  have eT : IntKind.i64.wrap (now + t) = now + t := wfit (by omega) (by omega)
  clear hX hR
  subst ho
  have HM := mkHid h7
  clear h h7
  go_enter Tryd.func16, Tryd.ntmps16
  go_wp2
  go_quiet (fail)
  obtain ⟨w2, hw2⟩ : ∃ W5, (w.setCell ⟨b, 7, none⟩ (.bool false)).drewN nq = W5 := ⟨_, rfl⟩
  have HM2 : Hid (MB ((w.setCell ⟨b, 7, none⟩ (.bool false)).drewN nq) b (2, q, t) m false ⟨false, bud, dl⟩) := mkHid HM.out
  have HK2 : Hid (Kb b w ((w.setCell ⟨b, 7, none⟩ (.bool false)).drewN nq)) := mkHid (Kb.trans HK.out (kb_drewN b _ nq))
  rw [hw2] at HM2 HK2 ⊢
  clear hw2 c2 c3 c7 f7 HM HK
  have d0 := HM2.out.c0
  have d1 := HM2.out.c1
  have d2 := HM2.out.c2
  have d4 := HM2.out.c4
  have d5 := HM2.out.c5
  have d6 := HM2.out.c6
  have k4 := HM2.out.fz 4
  have k5 := HM2.out.fz 5
  have k6 := HM2.out.fz 6
  go_wp2_with (first | (go_at_call 18; refine (mready_is _ b (2, q, t) m false _ HM2.out (by simp only; omega)).mono ?_; rintro e w5 ⟨rfl, hw⟩; rw [hw]; clear hw))
  all_goals
    go_ret
    exact ⟨rfl, HM2.out, HK2.out⟩
set_option maxHeartbeats 3200000 in
theorem mbeg_d1 (w : World) (b : Nat) (q t m now : Int) (wk0 : Bool) (wk : Bool) (on : Bool) (bud dl : Int) (h : MB w b (3, q, t) m wk0 ⟨on, bud, dl⟩) (m0 : 0 ≤ m) (hm : m ≤ now) (n1 : now ≤ 1099511727776) (t1 : 1 ≤ t) (t2 : t ≤ 256) (q0 : 0 ≤ q) (b0 : 0 ≤ bud) (hb : (now - m) % t = 0) : Calls Tryd.prog 16 #[.pointer (some ⟨b, 0, none⟩), .int .i64 now, .bool wk] w fun e w' => e = .returned (.bool (rdyS wk ⟨true, q, now + t⟩)) ∧ MB w' b (3, q, t) m wk ⟨true, q, now + t⟩ ∧ Kb b w w' := by
  have f7 := h.fz 7
  have c7 := h.c7
  have h7 := h.putw wk
  have HK := mkHid (kb_set (Kept.refl (fun k => k = b) w) 7 (.bool wk))
  have c2 := h7.c2
  have c3 := h7.c3
  obtain ⟨X, hX⟩ : ∃ X, X = now - m := ⟨_, rfl⟩
  obtain ⟨R, hR⟩ : ∃ R, R = X % t := ⟨_, rfl⟩
  have ex : IntKind.i64.wrap (now - m) = X := by rw [hX]; exact wfit (by omega) (by omega)
  have er : X.tmod t = R := by rw [hR]; exact Int.tmod_eq_emod_of_nonneg (by omega)
  have hR0 : 0 ≤ R := by rw [hR]; exact Int.emod_nonneg _ (by omega)
  have hR1 : R < t := by rw [hR]; exact Int.emod_lt_of_pos _ (by omega)
  have ew : IntKind.i64.wrap R = R := wfit (by omega) (by omega)
  have t0 : ¬ t = 0 := by omega
  have eT : IntKind.i64.wrap (now + t) = now + t := wfit (by omega) (by omega)
  have hbb : R = 0 := by rw [← hX, ← hR] at hb; exact hb
  clear hb
  clear hX hR
  subst hbb
  have HM := mkHid h7
  clear h h7
  go_enter Tryd.func16, Tryd.ntmps16
  go_wp2
  go_quiet (fail)
  obtain ⟨w2, hw2⟩ : ∃ W5, (w.setCell ⟨b, 7, none⟩ (.bool wk)).drewN nq = W5 := ⟨_, rfl⟩
  have HM2 : Hid (MB ((w.setCell ⟨b, 7, none⟩ (.bool wk)).drewN nq) b (3, q, t) m wk ⟨on, bud, dl⟩) := mkHid HM.out
  have HK2 : Hid (Kb b w ((w.setCell ⟨b, 7, none⟩ (.bool wk)).drewN nq)) := mkHid (Kb.trans HK.out (kb_drewN b _ nq))
  rw [hw2] at HM2 HK2 ⊢
  clear hw2 c2 c3 c7 f7 HM HK
  have d0 := HM2.out.c0
  have d1 := HM2.out.c1
  have d2 := HM2.out.c2
  have d4 := HM2.out.c4
  have d5 := HM2.out.c5
  have d6 := HM2.out.c6
  have k4 := HM2.out.fz 4
  have k5 := HM2.out.fz 5
  have k6 := HM2.out.fz 6
  skip
  all_goals
    go_wp2
    have HA := HM2.out.set6 true
    have HB := HM2.out.drop true q
    have HC := HM2.out.fill true q (now + t)
    have HAA := mkHid HA
    have HBB := mkHid HB
    have HCC := mkHid HC
    clear HA HB HC
    go_region_held3 (fun w' => w'.cell? ⟨b, 1, none⟩ = some (.int .i64 q) ∧ w'.cell? ⟨b, 2, none⟩ = some (.int .i64 t)) (first | exact ⟨HAA.out.c1, HAA.out.c2⟩ | exact ⟨HBB.out.c1, HBB.out.c2⟩ | exact ⟨HCC.out.c1, HCC.out.c2⟩ | go_keep) (fail)
    go_wp2_with (go_at_call 18; refine (mready_is (((w2.setCell ⟨b, 6, none⟩ (.bool true)).setCell ⟨b, 4, none⟩ (.int .i64 q)).setCell ⟨b, 5, none⟩ (.int .i64 (now + t))).drew b (3, q, t) m wk ⟨true, q, now + t⟩ HCC.out (by simp only; omega)).mono ?_; rintro e w5 ⟨rfl, hw⟩; rw [hw]; clear hw)
    go_ret
    exact ⟨rfl, HCC.out, Kb.trans HK2.out (Kb.trans (kb_set (kb_set (kb_set (Kept.refl _ w2) _ _) _ _) _ _) (Kept.drew _ _))⟩
set_option maxHeartbeats 3200000 in
theorem mbeg_d2 (w : World) (b : Nat) (q t m now : Int) (wk0 : Bool) (wk : Bool) (on : Bool) (bud dl : Int) (h : MB w b (3, q, t) m wk0 ⟨on, bud, dl⟩) (m0 : 0 ≤ m) (hm : m ≤ now) (n1 : now ≤ 1099511727776) (t1 : 1 ≤ t) (t2 : t ≤ 256) (q0 : 0 ≤ q) (b0 : 0 ≤ bud) (hb : ¬ (now - m) % t = 0) : Calls Tryd.prog 16 #[.pointer (some ⟨b, 0, none⟩), .int .i64 now, .bool wk] w fun e w' => e = .returned (.bool (rdyS wk ⟨on, bud, dl⟩)) ∧ MB w' b (3, q, t) m wk ⟨on, bud, dl⟩ ∧ Kb b w w' := by
  have f7 := h.fz 7
  have c7 := h.c7
  have h7 := h.putw wk
  have HK := mkHid (kb_set (Kept.refl (fun k => k = b) w) 7 (.bool wk))
  have c2 := h7.c2
  have c3 := h7.c3
  obtain ⟨X, hX⟩ : ∃ X, X = now - m := ⟨_, rfl⟩
  obtain ⟨R, hR⟩ : ∃ R, R = X % t := ⟨_, rfl⟩
  have ex : IntKind.i64.wrap (now - m) = X := by rw [hX]; exact wfit (by omega) (by omega)
  have er : X.tmod t = R := by rw [hR]; exact Int.tmod_eq_emod_of_nonneg (by omega)
  have hR0 : 0 ≤ R := by rw [hR]; exact Int.emod_nonneg _ (by omega)
  have hR1 : R < t := by rw [hR]; exact Int.emod_lt_of_pos _ (by omega)
  have ew : IntKind.i64.wrap R = R := wfit (by omega) (by omega)
  have t0 : ¬ t = 0 := by omega
  have eT : IntKind.i64.wrap (now + t) = now + t := wfit (by omega) (by omega)
  have hbb : (R == 0) = false := by rw [← hX, ← hR] at hb; simpa using hb
  clear hb
  clear hX hR
  have HM := mkHid h7
  clear h h7
  go_enter Tryd.func16, Tryd.ntmps16
  go_wp2
  go_quiet (fail)
  obtain ⟨w2, hw2⟩ : ∃ W5, (w.setCell ⟨b, 7, none⟩ (.bool wk)).drewN nq = W5 := ⟨_, rfl⟩
  have HM2 : Hid (MB ((w.setCell ⟨b, 7, none⟩ (.bool wk)).drewN nq) b (3, q, t) m wk ⟨on, bud, dl⟩) := mkHid HM.out
  have HK2 : Hid (Kb b w ((w.setCell ⟨b, 7, none⟩ (.bool wk)).drewN nq)) := mkHid (Kb.trans HK.out (kb_drewN b _ nq))
  rw [hw2] at HM2 HK2 ⊢
  clear hw2 c2 c3 c7 f7 HM HK
  have d0 := HM2.out.c0
  have d1 := HM2.out.c1
  have d2 := HM2.out.c2
  have d4 := HM2.out.c4
  have d5 := HM2.out.c5
  have d6 := HM2.out.c6
  have k4 := HM2.out.fz 4
  have k5 := HM2.out.fz 5
  have k6 := HM2.out.fz 6
  go_wp2_with (first | (go_at_call 18; refine (mready_is _ b (3, q, t) m wk _ HM2.out (by simp only; omega)).mono ?_; rintro e w5 ⟨rfl, hw⟩; rw [hw]; clear hw))
  all_goals
    go_ret
    exact ⟨rfl, HM2.out, HK2.out⟩
theorem mbegin_is (w : World) (b : Nat) (s : Sv) (m now : Int) (wk0 wk : Bool) (x : Ss) (h : MB w b s m wk0 x) (m0 : 0 ≤ m) (hm : m ≤ now) (n1 : now ≤ 1099511727776) (hs : okS s) (b0 : 0 ≤ x.bud) (ho : x.on = false → x.bud = 0) : Calls Tryd.prog 16 #[.pointer (some ⟨b, 0, none⟩), .int .i64 now, .bool wk] w fun e w' => e = .returned (.bool (rdyS wk (begS s m now wk x))) ∧ MB w' b s m wk (begS s m now wk x) ∧ Kb b w w' := by
  obtain ⟨k, q, t⟩ := s
  obtain ⟨on, bud, dl⟩ := x
  obtain ⟨h1, h2, h3, h4, h5⟩ := hs
  simp only at h1 h2 h3 h4 h5 b0 ho
  have hk : k = 1 ∨ k = 2 ∨ k = 3 := by omega
  rcases hk with rfl | rfl | rfl
  · by_cases hb : (now - m) % t = 0
    · cases wk
      · have e : begS (1, q, t) m now false ⟨on, bud, dl⟩ = ⟨false, 0, dl⟩ := by simp [begS, flS, dropS]
        rw [e]; exact mbeg_p3 w b q t m now wk0 on bud dl h m0 hm n1 (by omega) h5 (by omega) b0 hb
      · have e : begS (1, q, t) m now true ⟨on, bud, dl⟩ = ⟨true, q, now + t⟩ := by simp [begS, flS, fillS, hb]
        rw [e]; exact mbeg_p1 w b q t m now wk0 on bud dl h m0 hm n1 (by omega) h5 (by omega) b0 hb
    · cases wk
      · have e : begS (1, q, t) m now false ⟨on, bud, dl⟩ = ⟨false, 0, dl⟩ := by simp [begS, flS, dropS]
        rw [e]
        cases on
        · obtain rfl := ho rfl
          exact mbeg_p5 w b q t m now wk0 false 0 dl h m0 hm n1 (by omega) h5 (by omega) b0 hb rfl
        · exact mbeg_p4 w b q t m now wk0 true bud dl h m0 hm n1 (by omega) h5 (by omega) b0 hb rfl
      · have e : begS (1, q, t) m now true ⟨on, bud, dl⟩ = ⟨on, bud, dl⟩ := by simp [begS, flS, hb]
        rw [e]; exact mbeg_p2 w b q t m now wk0 on bud dl h m0 hm n1 (by omega) h5 (by omega) b0 hb
  · cases wk
    · have e : begS (2, q, t) m now false ⟨on, bud, dl⟩ = ⟨false, 0, dl⟩ := by simp [begS, flS, dropS]
      rw [e]
      cases on
      · obtain rfl := ho rfl
        exact mbeg_s4 w b q t m now wk0 false 0 dl h m0 hm n1 (by omega) h5 (by omega) b0 rfl
      · exact mbeg_s3 w b q t m now wk0 true bud dl h m0 hm n1 (by omega) h5 (by omega) b0 rfl
    · by_cases hd : dl ≤ now
      · have e : begS (2, q, t) m now true ⟨on, bud, dl⟩ = ⟨true, q, now + t⟩ := by simp [begS, flS, fillS, hd]
        rw [e]; exact mbeg_s1 w b q t m now wk0 on bud dl h m0 hm n1 (by omega) h5 (by omega) b0 hd
      · have e : begS (2, q, t) m now true ⟨on, bud, dl⟩ = ⟨on, bud, dl⟩ := by simp [begS, flS, hd]
        rw [e]; exact mbeg_s2 w b q t m now wk0 on bud dl h m0 hm n1 (by omega) h5 (by omega) b0 hd
  · by_cases hb : (now - m) % t = 0
    · have e : begS (3, q, t) m now wk ⟨on, bud, dl⟩ = ⟨true, q, now + t⟩ := by simp [begS, flS, fillS, hb]
      rw [e]; exact mbeg_d1 w b q t m now wk0 wk on bud dl h m0 hm n1 (by omega) h5 (by omega) b0 hb
    · have e : begS (3, q, t) m now wk ⟨on, bud, dl⟩ = ⟨on, bud, dl⟩ := by simp [begS, flS, hb]
      rw [e]; exact mbeg_d2 w b q t m now wk0 wk on bud dl h m0 hm n1 (by omega) h5 (by omega) b0 hb
end Go.Proofs.YtdkjoedebjinkaaDoor
