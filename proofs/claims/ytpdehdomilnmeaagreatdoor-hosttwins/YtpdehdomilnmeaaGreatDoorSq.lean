import Derived.Test.YtpdehdomilnmeaaGreatDoorSp
import Derived.Deep.RegionHeld3
import Derived.BigQuiet
/- Package supply: Bound, Silence, Slope, Least. -/
namespace Go.Proofs.YtpdehdomilnmeaaGreatDoor
open Go.ChangeShapes Go.WideShapes Go.ChangeAt Go.RowKit
set_option maxRecDepth 100000

theorem ret_int {a b : Int} (h : a = b) : Ending.returned (.tuple #[.int .i64 a, .nilIface]) = .returned (.tuple #[.int .i64 b, .nilIface]) := by rw [h]
theorem split_to (w : World) (n z A R : Int) (h0 : 0 ≤ n) (h1 : n ≤ 9223372036854775807) (z0 : 1 ≤ z) (z1 : z ≤ 9223372036854775807) (hA : Hid (n / z = A)) (hR : Hid (n % z = R)) : Calls Tryz.prog 211 #[.int .i64 n, .int .i64 z] w fun e w' => e = .returned (.tuple #[.int .i64 A, .int .i64 R]) ∧ w' = w := by
  rw [← hA.out, ← hR.out]; exact split_is w n z h0 h1 z0 z1
theorem split_0 (w : World) (n z A R : Int) (hn : n = 0) (z0 : 1 ≤ z) (z1 : z ≤ 9223372036854775807) (hA : Hid (0 / z = A)) (hR : Hid (0 % z = R)) : Calls Tryz.prog 211 #[.int .i64 n, .int .i64 z] w fun e w' => e = .returned (.tuple #[.int .i64 A, .int .i64 R]) ∧ w' = w := by
  subst hn
  exact split_to w 0 z A R (by omega) (by omega) z0 z1 hA hR
end Go.Proofs.YtpdehdomilnmeaaGreatDoor

/- Package supply: Silence, Slope, Least. -/
namespace Go.Proofs.YtpdehdomilnmeaaGreatDoor
open Go.ChangeShapes Go.WideShapes Go.ChangeAt Go.RowKit
set_option maxRecDepth 100000

/-- What shapeOf answers of a server, in every memory above w. -/
def ShapeIs (w : World) (s : Sv) (G D Q : Int) (ev : Value) : Prop := ∀ o, Calls Tryz.prog 209 #[vS s] (w.alloc o) fun e w' => e = .returned (.tuple #[vH G D Q, ev]) ∧ Below (w.alloc o).heap.size (w.alloc o) w'
theorem shapeIs_yes (w : World) (s : Sv) (h : okW s) : ShapeIs w s (gS s) (dS s) (qS s) .nilIface := fun _ => shape_yes _ s h
theorem shapeIs_no (w : World) (s : Sv) (h : ¬ okW s) (a : Addr) (he : w.cell? ⟨9, 0, none⟩ = some (vE a)) : ShapeIs w s 0 0 0 (vE a) := fun o => shape_no _ s h a (kl he o)
/-- Numbers of a shape. -/
def Small (G D Q : Int) : Prop := 0 ≤ G ∧ G ≤ 255 ∧ 0 ≤ D ∧ D ≤ 256 ∧ 0 ≤ Q ∧ Q ≤ 256
theorem small_yes {s : Sv} (h : okW s) : Small (gS s) (dS s) (qS s) := by obtain ⟨h1, h2, h3, h4, h5⟩ := h.nums; exact ⟨by omega, by omega, by omega, by omega, by omega, by omega⟩
theorem small_no : Small 0 0 0 := by unfold Small; omega
theorem ret4 {fn : Func} {a b c d : Tmp} (h : fn.results = #[.tmp a, .tmp b, .tmp c, .tmp d]) (tmps : Array Value) (P : Program) (w : World) : (results fn tmps).run P w = .ok (.tuple #[tmps.getD a undef, tmps.getD b undef, tmps.getD c undef, tmps.getD d undef]) w := by
  simp only [results, h]
  simp
set_option maxHeartbeats 1600000 in
theorem slope_is (w : World) (s : Sv) (G D Q : Int) (ev : Value) (hs : Small G D Q) (H : ShapeIs w s G D Q ev) : Calls Tryz.prog 207 #[vS s] w fun e w' => e = .returned (.tuple #[.int .i64 Q, .int .i64 (D + Q), .int .i64 (G + D), ev]) ∧ Below w.heap.size w w' := by
  obtain ⟨k, q, t⟩ := s
  obtain ⟨n1, n2, n3, n4, n5, n6⟩ := hs
  have HS := mkHid H
  clear H
  go_enter Tryz.func207, Tryz.ntmps207
  go_wp2_with (first | (go_at_call 209; refine (HS.out _).mono ?_; rintro e w3 ⟨rfl, hb3⟩; have HB := mkHid (new_last hb3).2; clear hb3))
  obtain ⟨W1, hW1⟩ : ∃ W1, W1 = w3.alloc (.cells #[.int .i64 G, .int .i64 D, .int .i64 Q] 276) := ⟨_, rfl⟩
  have r1 : W1.heap[w3.heap.size]? = some (.cells #[.int .i64 G, .int .i64 D, .int .i64 Q] 276 (0, 0)) := by rw [hW1]; exact heap_alloc_new _ _
  have HB1 : Hid (Below w.heap.size w W1) := mkHid (by rw [hW1]; exact ba HB.out _)
  rw [← hW1]
  generalize w3.heap.size = B at *
  have c0 : W1.cell? ⟨B, 0, none⟩ = some (.int .i64 G) := cell_of_block (i := 0) r1 rfl
  have c1 : W1.cell? ⟨B, 1, none⟩ = some (.int .i64 D) := cell_of_block (i := 1) r1 rfl
  have c2 : W1.cell? ⟨B, 2, none⟩ = some (.int .i64 Q) := cell_of_block (i := 2) r1 rfl
  clear hW1 r1
  go_region_held3 (fun w' => w'.cell? ⟨B, 0, none⟩ = some (.int .i64 G) ∧ w'.cell? ⟨B, 1, none⟩ = some (.int .i64 D) ∧ w'.cell? ⟨B, 2, none⟩ = some (.int .i64 Q)) (go_keep) (first | (go_at_call 213; refine (period_is W1.drew G D Q (by omega) (by omega) (by omega) (by omega)).mono ?_; rintro e w5 ⟨rfl, hb5⟩; have HB5 := mkHid hb5; have q0 : w5.cell? ⟨B, 0, none⟩ = some (.int .i64 G) := kc (w := W1.drew) (a := ⟨B, 0, none⟩) c0 hb5; have q1 : w5.cell? ⟨B, 1, none⟩ = some (.int .i64 D) := kc (w := W1.drew) (a := ⟨B, 1, none⟩) c1 hb5; have q2 : w5.cell? ⟨B, 2, none⟩ = some (.int .i64 Q) := kc (w := W1.drew) (a := ⟨B, 2, none⟩) c2 hb5; clear hb5) | (go_at_call 212; refine (silence_is w5 G D Q (by omega) (by omega) (by omega) (by omega)).mono ?_; rintro e w6 ⟨rfl, hb6⟩; have HB6 := mkHid hb6; have p0 : w6.cell? ⟨B, 0, none⟩ = some (.int .i64 G) := kc q0 hb6; have p1 : w6.cell? ⟨B, 1, none⟩ = some (.int .i64 D) := kc q1 hb6; have p2 : w6.cell? ⟨B, 2, none⟩ = some (.int .i64 Q) := kc q2 hb6; clear hb6))
  all_goals
    go_wp2
    exact bodyPost_ret (ret4 Tryz.results207 _ _ _) rfl ⟨rfl, bt (bt HB1.out.drew HB5.out) HB6.out⟩
theorem least_no (w : World) (s : Sv) (x : Int) (h : ¬ okW s) (a : Addr) (he : w.cell? ⟨9, 0, none⟩ = some (vE a)) : Calls Tryz.prog 197 #[vS s, .int .i64 x] w fun e w' => e = .returned (.tuple #[.int .i64 0, vE a]) ∧ Below w.heap.size w w' := by
  obtain ⟨k, q, t⟩ := s
  have HE := mkHid he
  clear he
  go_enter Tryz.func197, Tryz.ntmps197
  go_wp2_with (go_at_call 209; refine (shape_no _ (_, _, _) h a (kl HE.out _)).mono ?_; rintro e w3 ⟨rfl, hb3⟩)
  go_ret2
  exact ⟨rfl, ba (new_last hb3).2 _⟩
theorem least_num (w : World) (s : Sv) (l : Int) (h : okW s) (hl : l < 0 ∨ (0 ≤ l ∧ 1099511627776 < l)) (a : Addr) (he : w.cell? ⟨0, 0, none⟩ = some (vE a)) : Calls Tryz.prog 197 #[vS s, .int .i64 l] w fun e w' => e = .returned (.tuple #[.int .i64 0, vE a]) ∧ Below w.heap.size w w' := by
  obtain ⟨k, q, t⟩ := s
  have HE := mkHid he
  have HL := mkHid hl
  clear he hl
  go_enter Tryz.func197, Tryz.ntmps197
  go_wp2_with (first | (go_at_call 209; refine (shape_yes _ (_, _, _) h).mono ?_; rintro e w3 ⟨rfl, hb3⟩; have HB := mkHid (new_last hb3).2; have he3 := kc (kl HE.out _) hb3; clear hb3) | (go_at_call 210; refine (range_no _ _ HL.out).mono ?_; rintro e w4 ⟨rfl, hw⟩; rw [hw]; clear hw))
  have he4 := kl he3 (.cells #[.int .i64 (gS (k, q, t)), .int .i64 (dS (k, q, t)), .int .i64 (qS (k, q, t))] 276)
  go_quiet (fail)
  go_wp2
  go_ret2
  exact ⟨rfl, bdN (ba HB.out _) _⟩
theorem least_zero (w : World) (s : Sv) (h : okW s) : Calls Tryz.prog 197 #[vS s, .int .i64 0] w fun e w' => e = .returned (.tuple #[.int .i64 0, .nilIface]) ∧ Below w.heap.size w w' := by
  obtain ⟨k, q, t⟩ := s
  go_enter Tryz.func197, Tryz.ntmps197
  go_wp2_with (first | (go_at_call 209; refine (shape_yes _ (_, _, _) h).mono ?_; rintro e w3 ⟨rfl, hb3⟩; have HB := mkHid (new_last hb3).2; clear hb3) | (go_at_call 210; refine (range_ok _ _ (by decide) (by decide)).mono ?_; rintro e w4 ⟨rfl, hw⟩; rw [hw]; clear hw))
  go_ret2
  exact ⟨rfl, ba HB.out _⟩
/-- What Least answers of an amount from 1 on: the interval, or that it is too long. -/
def LeastE (v : Int) (a : Addr) : Value := if v ≤ 1099511627776 then .tuple #[.int .i64 v, .nilIface] else .tuple #[.int .i64 0, vE a]
set_option maxHeartbeats 3200000 in
theorem least_pos (w : World) (s : Sv) (x : Int) (h : okW s) (h0 : 1 ≤ x) (h1 : x ≤ 1099511627776) (a : Addr) (he : w.cell? ⟨1, 0, none⟩ = some (vE a)) : Calls Tryz.prog 197 #[vS s, .int .i64 x] w fun e w' => e = .returned (LeastE (lsF (gS s) (dS s) (qS s) x) a) ∧ Below w.heap.size w w' := by
  obtain ⟨k, q, t⟩ := s
  obtain ⟨n1, n2, n3, n4, n5⟩ := h.nums
  have HO := mkHid h
  have HE := mkHid he
  clear h he
  generalize hg : gS (k, q, t) = G at *
  generalize hd : dS (k, q, t) = D at *
  generalize hq : qS (k, q, t) = Q at *
  have HS : Hid (∀ w, Calls Tryz.prog 209 #[vS (k, q, t)] w fun e w' => e = .returned (.tuple #[vH G D Q, .nilIface]) ∧ Below w.heap.size w w') := mkHid (by rw [← hg, ← hd, ← hq]; exact fun w => shape_yes w _ HO.out)
  clear hg hd hq HO
  obtain ⟨X, hX⟩ : ∃ X, X = x - 1 := ⟨_, rfl⟩
  have ex : IntKind.i64.wrap (x - 1) = X := by rw [hX]; exact wfit (by omega) (by omega)
  obtain ⟨A, hA⟩ : ∃ A, X / Q = A := ⟨_, rfl⟩
  obtain ⟨R, hR⟩ : ∃ R, X % Q = R := ⟨_, rfl⟩
  obtain ⟨P, hP⟩ : ∃ P, P = A * (D + Q) := ⟨_, rfl⟩
  have hR0 : 0 ≤ R := by rw [← hR]; exact Int.emod_nonneg _ (by omega)
  have hR1 : R < Q := by rw [← hR]; exact Int.emod_lt_of_pos _ (by omega)
  have hA0 : 0 ≤ A := by rw [← hA]; exact Int.ediv_nonneg (by omega) (by omega)
  have hA1 : A ≤ X := by rw [← hA]; exact Int.ediv_le_self _ (by omega)
  have hP0 : 0 ≤ P := by rw [hP]; exact Int.mul_nonneg hA0 (by omega)
  have hP1 : P ≤ 1099511627776 * 256 := by rw [hP]; exact Int.mul_le_mul (by omega) (by omega) (by omega) (by omega)
  have ep : IntKind.i64.wrap (A * (D + Q)) = P := by rw [hP] at hP0 hP1 ⊢; exact wfit (by omega) (by omega)
  obtain ⟨V, hV⟩ : ∃ V, V = G + D + P + R + 1 := ⟨_, rfl⟩
  obtain ⟨V1, hV1⟩ : ∃ V1, V1 = G + D + P := ⟨_, rfl⟩
  obtain ⟨V2, hV2⟩ : ∃ V2, V2 = V1 + R := ⟨_, rfl⟩
  have e1 : IntKind.i64.wrap (G + D + P) = V1 := by rw [hV1]; exact wfit (by omega) (by omega)
  have e2 : IntKind.i64.wrap (V1 + R) = V2 := by rw [hV2]; exact wfit (by omega) (by omega)
  have e3 : IntKind.i64.wrap (V2 + 1) = V := by rw [hV]; rw [hV2, hV1]; exact wfit (by omega) (by omega)
  have HV : Hid (lsF G D Q x = V) := mkHid (by unfold lsF; rw [if_neg (by omega), ← hX, hA, hR, ← hP, hV])
  have HA := mkHid hA
  have HR := mkHid hR
  have X0 : 0 ≤ X := by omega
  have X1 : X ≤ 1099511627776 := by omega
  have x0 : ¬ x = 0 := by omega
  have hc : V ≤ 1099511627776 ∨ 1099511627776 < V := by omega
  clear hX hA hR hP hV hV1 hV2 hR0 hR1 hA0 hA1 hP0 hP1
  rcases hc with hc | hc
  all_goals
    go_enter Tryz.func197, Tryz.ntmps197
    go_wp2_with (first | (go_at_call 209; refine (HS.out _).mono ?_; rintro e w3 ⟨rfl, hb3⟩; have HB := mkHid (new_last hb3).2; have HE3 := mkHid (kc (kl HE.out _) hb3); clear hb3) | (go_at_call 210; refine (range_ok _ _ (by omega) (by omega)).mono ?_; rintro e w4 ⟨rfl, hw⟩; rw [hw]; clear hw) | (go_at_call 211; refine (split_to _ X Q A R (by omega) (by omega) (by omega) (by omega) HA HR).mono ?_; rintro e w6 ⟨rfl, hw⟩; rw [hw]; clear hw))
    obtain ⟨W1, hW1⟩ : ∃ W1, W1 = w3.alloc (.cells #[.int .i64 G, .int .i64 D, .int .i64 Q] 276) := ⟨_, rfl⟩
    have r1 : W1.heap[w3.heap.size]? = some (.cells #[.int .i64 G, .int .i64 D, .int .i64 Q] 276 (0, 0)) := by rw [hW1]; exact heap_alloc_new _ _
    have HB1 : Hid (Below w.heap.size w W1) := mkHid (by rw [hW1]; exact ba HB.out _)
    have HE1 : Hid (W1.cell? ⟨1, 0, none⟩ = some (vE a)) := mkHid (by rw [hW1]; exact kl HE3.out _)
    rw [← hW1]
    generalize w3.heap.size = B at *
    have c0 : W1.cell? ⟨B, 0, none⟩ = some (.int .i64 G) := cell_of_block (i := 0) r1 rfl
    have c1 : W1.cell? ⟨B, 1, none⟩ = some (.int .i64 D) := cell_of_block (i := 1) r1 rfl
    have c2 : W1.cell? ⟨B, 2, none⟩ = some (.int .i64 Q) := cell_of_block (i := 2) r1 rfl
    clear hW1 r1
    go_region_held3 (fun w' => w'.cell? ⟨B, 0, none⟩ = some (.int .i64 G) ∧ w'.cell? ⟨B, 1, none⟩ = some (.int .i64 D) ∧ w'.cell? ⟨B, 2, none⟩ = some (.int .i64 Q)) (go_keep) (first | (go_at_call 212; refine (silence_is W1.drew G D Q (by omega) (by omega) (by omega) (by omega)).mono ?_; rintro e w5 ⟨rfl, hb5⟩; have HB5 := mkHid hb5; have q0 : w5.cell? ⟨B, 0, none⟩ = some (.int .i64 G) := kc (w := W1.drew) (a := ⟨B, 0, none⟩) c0 hb5; have q1 : w5.cell? ⟨B, 1, none⟩ = some (.int .i64 D) := kc (w := W1.drew) (a := ⟨B, 1, none⟩) c1 hb5; have q2 : w5.cell? ⟨B, 2, none⟩ = some (.int .i64 Q) := kc (w := W1.drew) (a := ⟨B, 2, none⟩) c2 hb5; clear hb5) | (go_at_call 213; refine (period_is w5 G D Q (by omega) (by omega) (by omega) (by omega)).mono ?_; rintro e w6 ⟨rfl, hb6⟩; have HB6 := mkHid hb6; have p0 : w6.cell? ⟨B, 0, none⟩ = some (.int .i64 G) := kc q0 hb6; have p1 : w6.cell? ⟨B, 1, none⟩ = some (.int .i64 D) := kc q1 hb6; have p2 : w6.cell? ⟨B, 2, none⟩ = some (.int .i64 Q) := kc q2 hb6; clear hb6))
    all_goals
      have he6 : w6.cell? ⟨1, 0, none⟩ = some (vE a) := kc (kc (w := W1.drew) (a := ⟨1, 0, none⟩) HE1.out HB5.out) HB6.out
      go_wp2
      try (go_quiet (fail); go_wp2)
      go_ret2
      first | exact ⟨by rw [HV.out]; unfold LeastE; rw [if_pos (by omega)]; rfl, bt (bt HB1.out.drew HB5.out) HB6.out⟩ | exact ⟨by rw [HV.out]; unfold LeastE; rw [if_neg (by omega)]; rfl, bdN (bt (bt HB1.out.drew HB5.out) HB6.out) _⟩
end Go.Proofs.YtpdehdomilnmeaaGreatDoor

/- The document's supply: Legal, Gap, At. -/
namespace Go.Proofs.YtpdehdomilnmeaaGreatDoor
open Go.ChangeShapes Go.WideShapes Go.ChangeAt Go.RowKit
set_option maxRecDepth 100000

theorem rlegal_yes (w : World) (s : Sv) (h : okW s) : Calls Tryz.prog 111 #[vS s] w fun e w' => e = .returned (.bool true) ∧ Below w.heap.size w w' := by
  rcases h with rfl | h
  · go_enter Tryz.func111, Tryz.ntmps111
    go_wp2
    go_ret
    exact ⟨rfl, ba (Below.refl _ _) _⟩
  · obtain ⟨k, q, t⟩ := s
    have HO := mkHid h
    have hk : ¬ k = 0 := by have := h.1; simp only at this; omega
    clear h
    go_enter Tryz.func111, Tryz.ntmps111
    go_wp2_with (go_at_call 83; refine (reflegal_ok _ (k, q, t) HO.out).mono ?_; rintro e w3 ⟨rfl, hb3⟩)
    go_ret
    exact ⟨rfl, (new_last hb3).2⟩
theorem rlegal_no (w : World) (s : Sv) (h : ¬ okW s) : Calls Tryz.prog 111 #[vS s] w fun e w' => e = .returned (.bool false) ∧ Below w.heap.size w w' := by
  obtain ⟨k, q, t⟩ := s
  have HO : Hid (¬ okS (k, q, t)) := mkHid (fun e => h (.inr e))
  have hc : ¬ k = 0 ∨ (k = 0 ∧ ¬ q = 0) ∨ (k = 0 ∧ q = 0 ∧ ¬ t = 0) := by
    refine Decidable.byContradiction fun hn => h (.inl ?_)
    simp only [Prod.mk.injEq]; omega
  clear h
  rcases hc with h1 | ⟨rfl, h1⟩ | ⟨rfl, rfl, h1⟩
  all_goals
    go_enter Tryz.func111, Tryz.ntmps111
    go_wp2_with (go_at_call 83; refine (reflegal_no _ (_, _, _) HO.out).mono ?_; rintro e w3 ⟨rfl, hb3⟩)
    go_ret
    exact ⟨rfl, (new_last hb3).2⟩
theorem gap_is (w : World) (s : Sv) (h : okS s) : Calls Tryz.prog 133 #[vS s] w fun e w' => e = .returned (.int .i64 (gS s)) ∧ Below w.heap.size w w' := by
  obtain ⟨k, q, t⟩ := s
  obtain ⟨h1, h2, h3, h4, h5⟩ := h
  simp only at h1 h2 h3 h4 h5
  have hk : ¬ k = 0 := by omega
  have hc : k = 3 ∨ ¬ k = 3 := by omega
  rcases hc with rfl | hc
  all_goals
    go_enter Tryz.func133, Tryz.ntmps133
    go_wp2
    go_ret
    exact ⟨by first | simp [gS, hk, hc] | simp [gS], ba (Below.refl _ _) _⟩
theorem at_whole (w : World) (i : Int) : Calls Tryz.prog 109 #[vS (0, 0, 0), .int .i64 i] w fun e w' => e = .returned (.bool true) ∧ Below w.heap.size w w' := by
  go_enter Tryz.func109, Tryz.ntmps109
  go_wp2
  go_ret
  exact ⟨rfl, ba (Below.refl _ _) _⟩
set_option maxHeartbeats 1600000 in
theorem at_ok (w : World) (s : Sv) (i : Int) (h : okS s) (i0 : 0 ≤ i) (i1 : i ≤ 1099511627776) : Calls Tryz.prog 109 #[vS s, .int .i64 i] w fun e w' => e = .returned (.bool (sbAt (gS s) (dS s) (qS s) i)) ∧ Below w.heap.size w w' := by
  obtain ⟨k, q, t⟩ := s
  obtain ⟨n1, n2, n3, n4, n5⟩ := (show okW (k, q, t) from .inr h).nums
  have HO := mkHid h
  obtain ⟨h1, h2, h3, h4, h5⟩ := h
  simp only at h1 h2 h3 h4 h5
  have hk : ¬ k = 0 := by omega
  have hd : dS (k, q, t) = t - q := by simp [dS, hk]
  have hq : qS (k, q, t) = q := by simp [qS, hk]
  have HG : Hid (∀ w, Calls Tryz.prog 133 #[vS (k, q, t)] w fun e w' => e = .returned (.int .i64 (gS (k, q, t))) ∧ Below w.heap.size w w') := mkHid (fun w => gap_is w _ HO.out)
  clear HO
  rw [hd, hq] at *
  generalize gS (k, q, t) = G at *
  have ht : t - q + q = t := by omega
  by_cases hc : i < G
  · have hs : sbAt G (t - q) q i = false := decide_eq_false (by omega)
    rw [hs]
    clear hs
    go_enter Tryz.func109, Tryz.ntmps109
    go_wp2_with (go_at_call 133; refine (HG.out _).mono ?_; rintro e w3 ⟨rfl, hb3⟩; have HB := mkHid (new_last hb3).2; clear hb3)
    go_ret
    exact ⟨rfl, HB.out⟩
  · obtain ⟨X, hX⟩ : ∃ X, X = i - G := ⟨_, rfl⟩
    obtain ⟨R, hR⟩ : ∃ R, R = X % t := ⟨_, rfl⟩
    obtain ⟨D, hD⟩ : ∃ D, D = t - q := ⟨_, rfl⟩
    have ex : IntKind.i64.wrap (i - G) = X := by rw [hX]; exact wfit (by omega) (by omega)
    have hR0 : 0 ≤ R := by rw [hR]; exact Int.emod_nonneg _ (by omega)
    have hR1 : R < t := by rw [hR]; exact Int.emod_lt_of_pos _ (by omega)
    have er : X.tmod t = R := by rw [hR]; exact Int.tmod_eq_emod_of_nonneg (by omega)
    have ew : IntKind.i64.wrap R = R := wfit (by omega) (by omega)
    have ed : IntKind.i64.wrap (t - q) = D := by rw [hD]; exact wfit (by omega) (by omega)
    have HV : Hid (sbAt G (t - q) q i = decide (D ≤ R)) := mkHid (by
      unfold sbAt
      rw [ht, ← hX, ← hR, ← hD]
      by_cases e : D ≤ R
      · rw [decide_eq_true e, decide_eq_true ⟨by omega, e⟩]
      · rw [decide_eq_false e, decide_eq_false (fun h => e h.2)])
    have t0 : ¬ t = 0 := by omega
    have hlt : G ≤ i := by omega
    clear hX hR hD ht hd hq n1 n2 n3 n4 n5 hR0 hR1 hc
    go_enter Tryz.func109, Tryz.ntmps109
    go_wp2_with (go_at_call 133; refine (HG.out _).mono ?_; rintro e w3 ⟨rfl, hb3⟩; obtain ⟨r0, hb⟩ := new_last hb3; have HB := mkHid hb; have c0 : w3.cell? ⟨w.heap.size, 0, none⟩ = some (.int .i64 k) := cell_of_block (i := 0) r0 rfl; have c1 : w3.cell? ⟨w.heap.size, 1, none⟩ = some (.int .i64 q) := cell_of_block (i := 1) r0 rfl; have c2 : w3.cell? ⟨w.heap.size, 2, none⟩ = some (.int .i64 t) := cell_of_block (i := 2) r0 rfl; clear hb3 r0 hb)
    generalize w.heap.size = B at c0 c1 c2 ⊢
    go_region_held3 (fun w' => w'.cell? ⟨B, 0, none⟩ = some (.int .i64 k) ∧ w'.cell? ⟨B, 1, none⟩ = some (.int .i64 q) ∧ w'.cell? ⟨B, 2, none⟩ = some (.int .i64 t)) (go_keep) (first | (go_at_call 133; refine (HG.out w3.drew).mono ?_; rintro e w5 ⟨rfl, hb5⟩; have HB5 := mkHid hb5; have q0 : w5.cell? ⟨B, 0, none⟩ = some (.int .i64 k) := kc (w := w3.drew) (a := ⟨B, 0, none⟩) c0 hb5; have q1 : w5.cell? ⟨B, 1, none⟩ = some (.int .i64 q) := kc (w := w3.drew) (a := ⟨B, 1, none⟩) c1 hb5; have q2 : w5.cell? ⟨B, 2, none⟩ = some (.int .i64 t) := kc (w := w3.drew) (a := ⟨B, 2, none⟩) c2 hb5; clear hb5))
    all_goals
      go_wp2
      go_ret
      exact ⟨by rw [HV.out]; rfl, bt HB.out.drew HB5.out⟩
/-- Is a tick given? Whatever the legal server. -/
theorem at_yes (w : World) (s : Sv) (i : Int) (h : okW s) (i0 : 0 ≤ i) (i1 : i ≤ 1099511627776) : Calls Tryz.prog 109 #[vS s, .int .i64 i] w fun e w' => e = .returned (.bool (sbAt (gS s) (dS s) (qS s) i)) ∧ Below w.heap.size w w' := by
  rcases h with rfl | h
  · have e : sbAt (gS (0, 0, 0)) (dS (0, 0, 0)) (qS (0, 0, 0)) i = true := decide_eq_true ⟨i0, by simp [gS, dS, qS]⟩
    rw [e]; exact at_whole w i
  · exact at_ok w s i h i0 i1
end Go.Proofs.YtpdehdomilnmeaaGreatDoor

/- The document's supply: Bound; and the chapter's example. -/
namespace Go.Proofs.YtpdehdomilnmeaaGreatDoor
open Go.ChangeShapes Go.WideShapes Go.ChangeAt Go.RowKit
set_option maxRecDepth 100000

theorem rbound_whole (w : World) (l : Int) : Calls Tryz.prog 93 #[vS (0, 0, 0), .int .i64 l] w fun e w' => e = .returned (.int .i64 l) ∧ Below w.heap.size w w' := by
  go_enter Tryz.func93, Tryz.ntmps93
  go_wp2
  go_ret
  exact ⟨rfl, ba (Below.refl _ _) _⟩
/-- The numbers of the document's Bound: whole periods that are taken off, and what is left. -/
theorem whole_off {g d q l : Int} (hd : 0 ≤ d) (hq : 1 ≤ q) (hg : g ≤ 3 * (d + q)) (h : 4 * (d + q) < l) : ∃ p L, (l - 3 * (d + q)) / (d + q) = p ∧ L = l - p * (d + q) ∧ 0 ≤ p ∧ 0 ≤ L ∧ L ≤ 4 * (d + q) ∧ p ≤ l ∧ sb g d q l = p * q + sb g d q L := by
  obtain ⟨a, r, ha, h0, h1, h2⟩ := parts0 (T := d + q) (l - 3 * (d + q)) (by omega) (by omega)
  have hp : a * 1 ≤ a * (d + q) := Int.mul_le_mul_of_nonneg_left (by omega) ha
  refine ⟨a, l - a * (d + q), (dm h0 h1 h2).1, rfl, ha, by omega, by omega, by omega, ?_⟩
  have := sb_period (g := g) (l := l - a * (d + q)) hd hq (by omega) a ha
  rw [show l - a * (d + q) + a * (d + q) = l by omega] at this
  omega
set_option maxHeartbeats 3200000 in
theorem rbound_ok (w : World) (s : Sv) (l : Int) (h : okS s) (l0 : 0 ≤ l) (l1 : l ≤ 1099511627776) : Calls Tryz.prog 93 #[vS s, .int .i64 l] w fun e w' => e = .returned (.int .i64 (sb (gS s) (dS s) (qS s) l)) ∧ Below w.heap.size w w' := by
  obtain ⟨k, q, t⟩ := s
  obtain ⟨n1, n2, n3, n4, n5⟩ := (show okW (k, q, t) from .inr h).nums
  have HO : Hid (okW (k, q, t)) := mkHid (.inr h)
  obtain ⟨h1, h2, h3, h4, h5⟩ := h
  simp only at h1 h2 h3 h4 h5
  have hk : ¬ k = 0 := by omega
  have hd : dS (k, q, t) = t - q := by simp [dS, hk]
  have hq : qS (k, q, t) = q := by simp [qS, hk]
  have hg : gS (k, q, t) ≤ t := by simp only [gS, hk, if_false]; split <;> omega
  have HA : Hid (∀ w i, 0 ≤ i → i ≤ 1099511627776 → Calls Tryz.prog 109 #[vS (k, q, t), .int .i64 i] w fun e w' => e = .returned (.bool (sbAt (gS (k, q, t)) (dS (k, q, t)) (qS (k, q, t)) i)) ∧ Below w.heap.size w w') := mkHid (fun w i i0 i1 => at_yes w _ i HO.out i0 i1)
  clear HO
  rw [hd, hq] at *
  generalize gS (k, q, t) = G at *
  generalize hD : t - q = D at *
  have ht : D + q = t := by omega
  have HN : Hid (0 ≤ G ∧ 0 ≤ D ∧ 1 ≤ q) := mkHid ⟨by omega, by omega, by omega⟩
  have t0 : ¬ t = 0 := by omega
  have e4 : IntKind.i64.wrap (4 * t) = 4 * t := wfit (by omega) (by omega)
  have e3 : IntKind.i64.wrap (3 * t) = 3 * t := wfit (by omega) (by omega)
  by_cases hl : 4 * t < l
  · obtain ⟨p, L, f1, f2, f3, f4, f5, f6, f7⟩ := whole_off (g := G) (d := D) (q := q) (l := l) (by omega) (by omega) (by omega) (by omega)
    rw [ht] at f1 f2 f5
    have e5 : IntKind.i64.wrap (l - 3 * t) = l - 3 * t := wfit (by omega) (by omega)
    have e6 : (l - 3 * t).tdiv t = p := by rw [Int.tdiv_eq_ediv_of_nonneg (by omega), f1]
    have e7 : IntKind.i64.wrap p = p := wfit (by omega) (by omega)
    obtain ⟨N, hN⟩ : ∃ N, N = p * q := ⟨_, rfl⟩
    obtain ⟨M, hM⟩ : ∃ M, M = p * t := ⟨_, rfl⟩
    have hN0 : 0 ≤ N := by rw [hN]; exact Int.mul_nonneg f3 (by omega)
    have hN1 : N ≤ 1099511627776 * 256 := by rw [hN]; exact Int.mul_le_mul (by omega) (by omega) (by omega) (by omega)
    have e8 : IntKind.i64.wrap (p * q) = N := by rw [hN] at hN0 hN1 ⊢; exact wfit (by omega) (by omega)
    have e9 : IntKind.i64.wrap (p * t) = M := by rw [← hM]; exact wfit (by omega) (by omega)
    have e10 : IntKind.i64.wrap (l - M) = L := by rw [f2, hM]; exact wfit (by omega) (by omega)
    have HF : Hid (sb G D q l = N + sb G D q L) := mkHid (by rw [hN]; exact f7)
    obtain ⟨m, rfl⟩ := Int.eq_ofNat_of_zero_le f4
    clear f7 f2 f1 hN hM f3 f6
    go_enter Tryz.func93, Tryz.ntmps93
    go_wp2
    clear hq hd n1 n2 n3 n4 n5 hg
    go_loopw [5, 7] (fun nv iv wr => ∃ (j : Nat) (V : Int), nv = .int .i64 V ∧ iv = .int .i64 (j : Int) ∧ j ≤ m ∧ Hid (V = N + sb G D q (j : Int)) ∧ Hid (Below w.heap.size w wr) ∧ Hid (wr.heap[w.heap.size]? = some (.cells #[.int .i64 k, .int .i64 q, .int .i64 t] 37 (0, 0)))) (fun _ iv _ => m - (intOf iv).toNat)
    case atStart => exact ⟨0, N, rfl, rfl, Nat.zero_le _, mkHid (by rw [show ((0 : Nat) : Int) = 0 from rfl, sb_zero HN.out.1 HN.out.2.1 HN.out.2.2]; omega), mkHid (ba (Below.refl _ _) _), mkHid (heap_alloc_new _ _)⟩
    case round =>
      obtain ⟨j, V, rfl, rfl, hj, HV, HB, HR⟩ := hrel
      have hV0 : 0 ≤ V := by rw [HV.out]; have := sb_nonneg (g := G) (d := D) (q := q) (l := (j : Int)) HN.out.1 HN.out.2.1 HN.out.2.2; omega
      have hV1 : V ≤ 1099511627776 * 256 + 1024 := by rw [HV.out]; have := sb_room (g := G) (d := D) (q := q) (l := (j : Int)) HN.out.1 HN.out.2.1 HN.out.2.2 (by omega); omega
      by_cases hlt : j < m
      · have c0 : wr.cell? ⟨w.heap.size, 0, none⟩ = some (.int .i64 k) := cell_of_block (i := 0) HR.out rfl
        have c1 : wr.cell? ⟨w.heap.size, 1, none⟩ = some (.int .i64 q) := cell_of_block (i := 1) HR.out rfl
        have c2 : wr.cell? ⟨w.heap.size, 2, none⟩ = some (.int .i64 t) := cell_of_block (i := 2) HR.out rfl
        have hji : (j : Int) < m := by omega
        have HC := mkHid (HA.out wr (j : Int) (by omega) (by omega))
        cases hb : sbAt G D q (j : Int)
        · have HS := mkHid (sb_no HN.out.2.1 HN.out.2.2 hb)
          rw [hb] at HC
          clear hb
          go_wp2_with (go_at_call 109; refine HC.out.mono ?_; rintro e w1 ⟨rfl, b1⟩; have HB1 := mkHid b1; clear b1)
          go_roundw
          case rel => exact ⟨j + 1, V, by go_num, by go_num, by omega, mkHid (by rw [HV.out, ← HS.out]; rfl), mkHid (bt HB.out HB1.out), mkHid (by rw [HB1.out.block _ (Array.getElem?_eq_some_iff.1 HR.out).1]; exact HR.out)⟩
          case measure => simp [intOf]; omega
        · have HS := mkHid (sb_yes HN.out.2.1 HN.out.2.2 hb)
          rw [hb] at HC
          clear hb
          go_wp2_with (go_at_call 109; refine HC.out.mono ?_; rintro e w1 ⟨rfl, b1⟩; have HB1 := mkHid b1; clear b1)
          go_roundw
          case rel => exact ⟨j + 1, V + 1, by go_num, by go_num, by omega, mkHid (by rw [show ((j + 1 : Nat) : Int) = (j : Int) + 1 from rfl, HS.out]; have := HV.out; omega), mkHid (bt HB.out HB1.out), mkHid (by rw [HB1.out.block _ (Array.getElem?_eq_some_iff.1 HR.out).1]; exact HR.out)⟩
          case measure => simp [intOf]; omega
      · obtain rfl : j = m := by omega
        go_wp2
        go_ret
        exact ⟨by rw [HF.out, ← HV.out]; rfl, HB.out⟩
  · obtain ⟨m, rfl⟩ := Int.eq_ofNat_of_zero_le l0
    have hle : (m : Int) ≤ 4 * t := by omega
    have HF : Hid (sb G D q m = 0 + sb G D q m) := mkHid (by omega)
    go_enter Tryz.func93, Tryz.ntmps93
    go_wp2
    clear hq hd n1 n2 n3 n4 n5 hg
    go_loopw [5, 7] (fun nv iv wr => ∃ (j : Nat) (V : Int), nv = .int .i64 V ∧ iv = .int .i64 (j : Int) ∧ j ≤ m ∧ Hid (V = 0 + sb G D q (j : Int)) ∧ Hid (Below w.heap.size w wr) ∧ Hid (wr.heap[w.heap.size]? = some (.cells #[.int .i64 k, .int .i64 q, .int .i64 t] 37 (0, 0)))) (fun _ iv _ => m - (intOf iv).toNat)
    case atStart => exact ⟨0, 0, rfl, rfl, Nat.zero_le _, mkHid (by rw [show ((0 : Nat) : Int) = 0 from rfl, sb_zero HN.out.1 HN.out.2.1 HN.out.2.2]; omega), mkHid (ba (Below.refl _ _) _), mkHid (heap_alloc_new _ _)⟩
    case round =>
      obtain ⟨j, V, rfl, rfl, hj, HV, HB, HR⟩ := hrel
      have hV0 : 0 ≤ V := by rw [HV.out]; have := sb_nonneg (g := G) (d := D) (q := q) (l := (j : Int)) HN.out.1 HN.out.2.1 HN.out.2.2; omega
      have hV1 : V ≤ 1099511627776 * 256 + 1024 := by rw [HV.out]; have := sb_room (g := G) (d := D) (q := q) (l := (j : Int)) HN.out.1 HN.out.2.1 HN.out.2.2 (by omega); omega
      by_cases hlt : j < m
      · have c0 : wr.cell? ⟨w.heap.size, 0, none⟩ = some (.int .i64 k) := cell_of_block (i := 0) HR.out rfl
        have c1 : wr.cell? ⟨w.heap.size, 1, none⟩ = some (.int .i64 q) := cell_of_block (i := 1) HR.out rfl
        have c2 : wr.cell? ⟨w.heap.size, 2, none⟩ = some (.int .i64 t) := cell_of_block (i := 2) HR.out rfl
        have hji : (j : Int) < m := by omega
        have HC := mkHid (HA.out wr (j : Int) (by omega) (by omega))
        cases hb : sbAt G D q (j : Int)
        · have HS := mkHid (sb_no HN.out.2.1 HN.out.2.2 hb)
          rw [hb] at HC
          clear hb
          go_wp2_with (go_at_call 109; refine HC.out.mono ?_; rintro e w1 ⟨rfl, b1⟩; have HB1 := mkHid b1; clear b1)
          go_roundw
          case rel => exact ⟨j + 1, V, by go_num, by go_num, by omega, mkHid (by rw [HV.out, ← HS.out]; rfl), mkHid (bt HB.out HB1.out), mkHid (by rw [HB1.out.block _ (Array.getElem?_eq_some_iff.1 HR.out).1]; exact HR.out)⟩
          case measure => simp [intOf]; omega
        · have HS := mkHid (sb_yes HN.out.2.1 HN.out.2.2 hb)
          rw [hb] at HC
          clear hb
          go_wp2_with (go_at_call 109; refine HC.out.mono ?_; rintro e w1 ⟨rfl, b1⟩; have HB1 := mkHid b1; clear b1)
          go_roundw
          case rel => exact ⟨j + 1, V + 1, by go_num, by go_num, by omega, mkHid (by rw [show ((j + 1 : Nat) : Int) = (j : Int) + 1 from rfl, HS.out]; have := HV.out; omega), mkHid (bt HB.out HB1.out), mkHid (by rw [HB1.out.block _ (Array.getElem?_eq_some_iff.1 HR.out).1]; exact HR.out)⟩
          case measure => simp [intOf]; omega
      · obtain rfl : j = m := by omega
        go_wp2
        go_ret
        exact ⟨by rw [HF.out, ← HV.out]; rfl, HB.out⟩
/-- The document's supply, whatever the legal server. -/
theorem rbound_yes (w : World) (s : Sv) (l : Int) (h : okW s) (l0 : 0 ≤ l) (l1 : l ≤ 1099511627776) : Calls Tryz.prog 93 #[vS s, .int .i64 l] w fun e w' => e = .returned (.int .i64 (sb (gS s) (dS s) (qS s) l)) ∧ Below w.heap.size w w' := by
  rcases h with rfl | h
  · have e : sb (gS (0, 0, 0)) (dS (0, 0, 0)) (qS (0, 0, 0)) l = l := sb_whole l0
    rw [e]; exact rbound_whole w l
  · exact rbound_ok w s l h l0 l1
end Go.Proofs.YtpdehdomilnmeaaGreatDoor

