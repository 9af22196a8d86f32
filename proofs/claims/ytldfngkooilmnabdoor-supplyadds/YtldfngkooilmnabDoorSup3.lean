/- Package supply: Bound, Silence, Slope, Least. -/
import Derived.Test.YtldfngkooilmnabDoorSup2
import Derived.Deep.RegionHeld3
import Derived.BigQuiet
namespace Go.Proofs.YtldfngkooilmnabDoor
open Go.ChangeShapes Go.WideShapes Go.ChangeAt Go.RowKit

theorem wfit {n : Int} (h1 : -9223372036854775808 ≤ n) (h2 : n ≤ 9223372036854775807) : IntKind.i64.wrap n = n := by rw [IntKind.wrap_i64]; omega
theorem ret_int {a b : Int} (h : a = b) : Ending.returned (.tuple #[.int .i64 a, .nilIface]) = .returned (.tuple #[.int .i64 b, .nilIface]) := by rw [h]
theorem split_to (w : World) (n z A R : Int) (h0 : 0 ≤ n) (h1 : n ≤ 9223372036854775807) (z0 : 1 ≤ z) (z1 : z ≤ 9223372036854775807) (hA : Hid (n / z = A)) (hR : Hid (n % z = R)) : Calls Tryd.prog 10 #[.int .i64 n, .int .i64 z] w fun e w' => e = .returned (.tuple #[.int .i64 A, .int .i64 R]) ∧ w' = w := by
  rw [← hA.out, ← hR.out]; exact split_is w n z h0 h1 z0 z1
theorem split_0 (w : World) (n z A R : Int) (hn : n = 0) (z0 : 1 ≤ z) (z1 : z ≤ 9223372036854775807) (hA : Hid (0 / z = A)) (hR : Hid (0 % z = R)) : Calls Tryd.prog 10 #[.int .i64 n, .int .i64 z] w fun e w' => e = .returned (.tuple #[.int .i64 A, .int .i64 R]) ∧ w' = w := by
  subst hn
  exact split_to w 0 z A R (by omega) (by omega) z0 z1 hA hR
theorem bdN {B : Nat} {a w : World} (h : Below B a w) (n : Nat) : Below B a (w.drewN n) := ⟨h.os, h.tape, h.output, h.size, h.block⟩
theorem bound_no (w : World) (s : Sv) (l : Int) (h : ¬ okW s) (a : Addr) (he : w.cell? ⟨2, 0, none⟩ = some (vE a)) : Calls Tryd.prog 7 #[vS s, .int .i64 l] w fun e w' => e = .returned (.tuple #[.int .i64 0, vE a]) ∧ Below w.heap.size w w' := by
  obtain ⟨k, q, t⟩ := s
  have HE := mkHid he
  clear he
  go_enter Tryd.func7, Tryd.ntmps7
  go_wp2_with (go_at_call 8; refine (shape_no _ (_, _, _) h a (kl HE.out _)).mono ?_; rintro e w3 ⟨rfl, hb3⟩)
  go_ret2
  exact ⟨rfl, ba (new_last hb3).2 _⟩
theorem bound_num (w : World) (s : Sv) (l : Int) (h : okW s) (hl : l < 0 ∨ (0 ≤ l ∧ 1099511627776 < l)) (a : Addr) (he : w.cell? ⟨0, 0, none⟩ = some (vE a)) : Calls Tryd.prog 7 #[vS s, .int .i64 l] w fun e w' => e = .returned (.tuple #[.int .i64 0, vE a]) ∧ Below w.heap.size w w' := by
  obtain ⟨k, q, t⟩ := s
  have HE := mkHid he
  have HL := mkHid hl
  clear he hl
  go_enter Tryd.func7, Tryd.ntmps7
  go_wp2_with (first | (go_at_call 8; refine (shape_yes _ (_, _, _) h).mono ?_; rintro e w3 ⟨rfl, hb3⟩; have HB := mkHid (new_last hb3).2; have he3 := kc (kl HE.out _) hb3; clear hb3) | (go_at_call 9; refine (range_no _ _ HL.out).mono ?_; rintro e w4 ⟨rfl, hw⟩; rw [hw]; clear hw))
  have he4 := kl he3 (.cells #[.int .i64 (gS (k, q, t)), .int .i64 (dS (k, q, t)), .int .i64 (qS (k, q, t))] 32)
  go_quiet (fail)
  go_wp2
  go_ret2
  exact ⟨rfl, bdN (ba HB.out _) _⟩
set_option maxHeartbeats 1600000 in
theorem bound_yes (w : World) (s : Sv) (l : Int) (h : okW s) (h0 : 0 ≤ l) (h1 : l ≤ 1099511627776) : Calls Tryd.prog 7 #[vS s, .int .i64 l] w fun e w' => e = .returned (.tuple #[.int .i64 (sb (gS s) (dS s) (qS s) l), .nilIface]) ∧ Below w.heap.size w w' := by
  obtain ⟨k, q, t⟩ := s
  obtain ⟨n1, n2, n3, n4, n5⟩ := h.nums
  have HO := mkHid h
  clear h
  generalize hg : gS (k, q, t) = G at *
  generalize hd : dS (k, q, t) = D at *
  generalize hq : qS (k, q, t) = Q at *
  have HS : Hid (∀ w, Calls Tryd.prog 8 #[vS (k, q, t)] w fun e w' => e = .returned (.tuple #[vH G D Q, .nilIface]) ∧ Below w.heap.size w w') := mkHid (by rw [← hg, ← hd, ← hq]; exact fun w => shape_yes w _ HO.out)
  clear hg hd hq HO
  go_enter Tryd.func7, Tryd.ntmps7
  go_wp2_with (first | (go_at_call 8; refine (HS.out _).mono ?_; rintro e w3 ⟨rfl, hb3⟩; have HB := mkHid (new_last hb3).2; clear hb3) | (go_at_call 9; refine (range_ok _ _ h0 h1).mono ?_; rintro e w4 ⟨rfl, hw⟩; rw [hw]; clear hw))
  obtain ⟨W1, hW1⟩ : ∃ W1, W1 = w3.alloc (.cells #[.int .i64 G, .int .i64 D, .int .i64 Q] 32) := ⟨_, rfl⟩
  have r1 : W1.heap[w3.heap.size]? = some (.cells #[.int .i64 G, .int .i64 D, .int .i64 Q] 32 (0, 0)) := by rw [hW1]; exact heap_alloc_new _ _
  have HB1 : Hid (Below w.heap.size w W1) := mkHid (by rw [hW1]; exact ba HB.out _)
  rw [← hW1]
  generalize w3.heap.size = B at *
  have c0 : W1.cell? ⟨B, 0, none⟩ = some (.int .i64 G) := cell_of_block (i := 0) r1 rfl
  have c1 : W1.cell? ⟨B, 1, none⟩ = some (.int .i64 D) := cell_of_block (i := 1) r1 rfl
  have c2 : W1.cell? ⟨B, 2, none⟩ = some (.int .i64 Q) := cell_of_block (i := 2) r1 rfl
  clear hW1 r1
  obtain ⟨X, hX⟩ : ∃ X, X = l - G := ⟨_, rfl⟩
  have ew : IntKind.i64.wrap (l - G) = X := by rw [hX]; exact wfit (by omega) (by omega)
  obtain ⟨M, hM⟩ : ∃ M, M = max 0 X := ⟨_, rfl⟩
  obtain ⟨A, hA⟩ : ∃ A, M / (D + Q) = A := ⟨_, rfl⟩
  obtain ⟨R, hR⟩ : ∃ R, M % (D + Q) = R := ⟨_, rfl⟩
  obtain ⟨Y, hY⟩ : ∃ Y, Y = R - D := ⟨_, rfl⟩
  obtain ⟨P, hP⟩ : ∃ P, P = A * Q := ⟨_, rfl⟩
  have hR0 : 0 ≤ R := by rw [← hR]; exact Int.emod_nonneg _ (by omega)
  have hR1 : R < D + Q := by rw [← hR]; exact Int.emod_lt_of_pos _ (by omega)
  have hA0 : 0 ≤ A := by rw [← hA]; exact Int.ediv_nonneg (by omega) (by omega)
  have hA1 : A ≤ M := by rw [← hA]; exact Int.ediv_le_self _ (by omega)
  have hP0 : 0 ≤ P := by rw [hP]; exact Int.mul_nonneg hA0 (by omega)
  have hP1 : P ≤ 1099511627776 * 256 := by rw [hP]; exact Int.mul_le_mul (by omega) (by omega) (by omega) (by omega)
  have ep : IntKind.i64.wrap (A * Q) = P := by rw [hP] at hP0 hP1 ⊢; exact wfit (by omega) (by omega)
  have ey : IntKind.i64.wrap (R - D) = Y := by rw [hY]; exact wfit (by omega) (by omega)
  have ez : IntKind.i64.wrap P = P := wfit (by omega) (by omega)
  have es : IntKind.i64.wrap (P + Y) = P + Y := wfit (by omega) (by omega)
  have HV : Hid (sb G D Q l = P + max 0 Y) := mkHid (by rw [hY, hP, ← hR, ← hA, hM, hX]; rfl)
  have X1 : X ≤ 1099511627776 := by omega
  have Y1 : Y ≤ 256 := by omega
  have HA := mkHid hA
  have HR := mkHid hR
  have hc : (0 < X ∧ M = X ∧ 0 < Y) ∨ (0 < X ∧ M = X ∧ ¬ 0 < Y) ∨ (¬ 0 < X ∧ M = 0 ∧ ¬ 0 < Y) := by
    by_cases h : 0 < X
    · omega
    · have : R = 0 := by rw [← hR, show M = 0 by omega]; exact Int.zero_emod _
      omega
  clear hX hY hP hA hR hM hR0 hR1 hA0 hA1
  rcases hc with ⟨hc, rfl, hy⟩ | ⟨hc, rfl, hy⟩ | ⟨hc, rfl, hy⟩
  · go_region_held3 (fun w' => w'.cell? ⟨B, 0, none⟩ = some (.int .i64 G) ∧ w'.cell? ⟨B, 1, none⟩ = some (.int .i64 D) ∧ w'.cell? ⟨B, 2, none⟩ = some (.int .i64 Q)) (go_keep) (first | (go_at_call 12; refine (period_is W1.drew G D Q (by omega) (by omega) (by omega) (by omega)).mono ?_; rintro e w5 ⟨rfl, hb5⟩; have HB5 := mkHid hb5; have q0 : w5.cell? ⟨B, 0, none⟩ = some (.int .i64 G) := kc (w := W1.drew) (a := ⟨B, 0, none⟩) c0 hb5; have q1 : w5.cell? ⟨B, 1, none⟩ = some (.int .i64 D) := kc (w := W1.drew) (a := ⟨B, 1, none⟩) c1 hb5; have q2 : w5.cell? ⟨B, 2, none⟩ = some (.int .i64 Q) := kc (w := W1.drew) (a := ⟨B, 2, none⟩) c2 hb5; clear hb5) | (go_at_call 10; refine (split_to _ M (D + Q) A R (by omega) (by omega) (by omega) (by omega) HA HR).mono ?_; rintro e w6 ⟨rfl, hw⟩; rw [hw]; clear hw))
    all_goals
      go_wp2
      go_ret2
      refine ⟨?_, HB1.out.drew.trans (HB5.out.mono HB1.out.drew.size)⟩
      exact ret_int (by rw [HV.out]; omega)
  · go_region_held3 (fun w' => w'.cell? ⟨B, 0, none⟩ = some (.int .i64 G) ∧ w'.cell? ⟨B, 1, none⟩ = some (.int .i64 D) ∧ w'.cell? ⟨B, 2, none⟩ = some (.int .i64 Q)) (go_keep) (first | (go_at_call 12; refine (period_is W1.drew G D Q (by omega) (by omega) (by omega) (by omega)).mono ?_; rintro e w5 ⟨rfl, hb5⟩; have HB5 := mkHid hb5; have q0 : w5.cell? ⟨B, 0, none⟩ = some (.int .i64 G) := kc (w := W1.drew) (a := ⟨B, 0, none⟩) c0 hb5; have q1 : w5.cell? ⟨B, 1, none⟩ = some (.int .i64 D) := kc (w := W1.drew) (a := ⟨B, 1, none⟩) c1 hb5; have q2 : w5.cell? ⟨B, 2, none⟩ = some (.int .i64 Q) := kc (w := W1.drew) (a := ⟨B, 2, none⟩) c2 hb5; clear hb5) | (go_at_call 10; refine (split_to _ M (D + Q) A R (by omega) (by omega) (by omega) (by omega) HA HR).mono ?_; rintro e w6 ⟨rfl, hw⟩; rw [hw]; clear hw))
    all_goals
      go_wp2
      go_ret2
      refine ⟨?_, HB1.out.drew.trans (HB5.out.mono HB1.out.drew.size)⟩
      exact ret_int (by rw [HV.out]; omega)
  · go_region_held3 (fun w' => w'.cell? ⟨B, 0, none⟩ = some (.int .i64 G) ∧ w'.cell? ⟨B, 1, none⟩ = some (.int .i64 D) ∧ w'.cell? ⟨B, 2, none⟩ = some (.int .i64 Q)) (go_keep) (first | (go_at_call 12; refine (period_is W1.drew G D Q (by omega) (by omega) (by omega) (by omega)).mono ?_; rintro e w5 ⟨rfl, hb5⟩; have HB5 := mkHid hb5; have q0 : w5.cell? ⟨B, 0, none⟩ = some (.int .i64 G) := kc (w := W1.drew) (a := ⟨B, 0, none⟩) c0 hb5; have q1 : w5.cell? ⟨B, 1, none⟩ = some (.int .i64 D) := kc (w := W1.drew) (a := ⟨B, 1, none⟩) c1 hb5; have q2 : w5.cell? ⟨B, 2, none⟩ = some (.int .i64 Q) := kc (w := W1.drew) (a := ⟨B, 2, none⟩) c2 hb5; clear hb5) | (go_at_call 10; refine (split_0 _ _ (D + Q) A R (by first | rfl | exact if_neg (by omega)) (by omega) (by omega) HA HR).mono ?_; rintro e w6 ⟨rfl, hw⟩; rw [hw]; clear hw))
    all_goals
      go_wp2
      go_ret2
      refine ⟨?_, HB1.out.drew.trans (HB5.out.mono HB1.out.drew.size)⟩
      exact ret_int (by rw [HV.out]; omega)
end Go.Proofs.YtldfngkooilmnabDoor
