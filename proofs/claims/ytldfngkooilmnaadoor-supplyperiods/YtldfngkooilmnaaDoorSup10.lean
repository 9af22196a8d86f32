/- The laws SupplyOrders and SupplyPeriods. -/
import Derived.Test.YtldfngkooilmnaaDoorSup9
import Derived.Test.YtldfngkooilmnaaDoorSup8
namespace Go.Proofs.YtldfngkooilmnaaDoor
open Go.ChangeShapes Go.WideShapes Go.ChangeAt Go.RowKit
set_option maxRecDepth 100000

set_option maxHeartbeats 3200000 in
theorem periods_no (w : World) (s : Sv) (l L : Int) (ad : Addr) (el : bits .and .i64 l 274877906943 = L) (h : ¬ okW s) (he : w.cell? ⟨0, 0, none⟩ = some (vE ad)) : Calls Tryd.prog 8 #[vS s, .int .i64 l] w fun e w' => e = .returned (.bool true) ∧ Below w.heap.size w w' := by
  have H1 : Hid (Ans w 9 #[] (.bool true)) := mkHid (fun W _ => salive W)
  have H2 : Hid (Ans w 12 #[vS s] (.tuple #[.int .i64 0, .int .i64 0, .int .i64 0, vE ad])) := mkHid (fun W hb => slope_is W s 0 0 0 _ small_no (shapeIs_no W s h ad (kc he hb)))
  have H3 : Hid (Ans w 13 #[vS s] (.bool false)) := mkHid (fun W _ => legal_no W s h)
  clear he h
  obtain ⟨k, q, t⟩ := s
  have M1 : Hid True := mkHid trivial
  have M2 : Hid True := mkHid trivial
  have M3 : Hid True := mkHid trivial
  go_enter Tryd.func8, Tryd.ntmps8
  go_wp2_with (first
    | (go_at_call 9; clear M1; refine (H1.out _ (ba (Below.refl _ _) _)).mono ?_; rintro e w1 ⟨rfl, b1⟩; have HB1 := mkHid (bt (ba (Below.refl _ _) _) b1); have HR1 := mkHid (new_last b1).1; have x1 : w1.cell? ⟨w.heap.size, 0, none⟩ = some (.int .i64 k) := cell_of_block (i := 0) HR1.out rfl; have y1 : w1.cell? ⟨w.heap.size, 1, none⟩ = some (.int .i64 q) := cell_of_block (i := 1) HR1.out rfl; have z1 : w1.cell? ⟨w.heap.size, 2, none⟩ = some (.int .i64 t) := cell_of_block (i := 2) HR1.out rfl; clear b1)
    | (go_at_call 12; clear M2; refine (H2.out _ HB1.out).mono ?_; rintro e w2 ⟨rfl, b2⟩; have HB2 := mkHid (bt HB1.out b2); have HR2 := mkHid (hold HR1.out b2); clear x1 y1 z1; have x2 : w2.cell? ⟨w.heap.size, 0, none⟩ = some (.int .i64 k) := cell_of_block (i := 0) HR2.out rfl; have y2 : w2.cell? ⟨w.heap.size, 1, none⟩ = some (.int .i64 q) := cell_of_block (i := 1) HR2.out rfl; have z2 : w2.cell? ⟨w.heap.size, 2, none⟩ = some (.int .i64 t) := cell_of_block (i := 2) HR2.out rfl; clear b2)
    | (go_at_call 13; clear M3; refine (H3.out _ HB2.out).mono ?_; rintro e w3 ⟨rfl, b3⟩; have HB3 := mkHid (bt HB2.out b3); have HR3 := mkHid (hold HR2.out b3); clear x2 y2 z2; have x3 : w3.cell? ⟨w.heap.size, 0, none⟩ = some (.int .i64 k) := cell_of_block (i := 0) HR3.out rfl; have y3 : w3.cell? ⟨w.heap.size, 1, none⟩ = some (.int .i64 q) := cell_of_block (i := 1) HR3.out rfl; have z3 : w3.cell? ⟨w.heap.size, 2, none⟩ = some (.int .i64 t) := cell_of_block (i := 2) HR3.out rfl; clear b3))
  go_ret
  exact ⟨rfl, HB3.out⟩
set_option maxHeartbeats 6400000 in
theorem periods_yes (w : World) (s : Sv) (l L : Int) (a : Addr) (el : bits .and .i64 l 274877906943 = L) (L0 : 0 ≤ L) (L1 : L ≤ 274877906943) (h : okW s) (he : w.cell? ⟨2, 0, none⟩ = some (vE a)) : Calls Tryd.prog 8 #[vS s, .int .i64 l] w fun e w' => e = .returned (.bool true) ∧ Below w.heap.size w w' := by
  obtain ⟨n1, n2, n3, n4, n5⟩ := h.nums
  have H1 : Hid (Ans w 9 #[] (.bool true)) := mkHid (fun W _ => salive W)
  have HB' : ∀ l, 0 ≤ l → l ≤ 1099511627776 → Ans w 10 #[vS s, .int .i64 l] (.tuple #[.int .i64 (sb (gS s) (dS s) (qS s) l), .nilIface]) := fun l l0 l1 W hb => bound_yes W s l h l0 l1
  have HS : Hid (Ans w 12 #[vS s] (.tuple #[.int .i64 (qS s), .int .i64 (dS s + qS s), .int .i64 (gS s + dS s), .nilIface])) := mkHid (fun W hb => slope_is W s _ _ _ _ (small_yes h) (shapeIs_yes W s h))
  have H2 := mkHid (HB' L (by omega) (by omega))
  have H3 := mkHid (HB' (L + (dS s + qS s)) (by omega) (by omega))
  have H4 := mkHid (HB' (L + 7 * (dS s + qS s)) (by omega) (by omega))
  have H5 : Hid (Ans w 17 #[vS s, .int .i64 1] (.tuple #[.int .i64 (gS s + dS s + 1), .nilIface])) := mkHid (fun W hb => by have := least_pos W s 1 h (by omega) (by omega) a (kc he hb); rwa [lsF_one n3, show LeastE (gS s + dS s + 1) a = .tuple #[.int .i64 (gS s + dS s + 1), .nilIface] from if_pos (by omega)] at this)
  have k1 : L + (dS s + qS s) < gS s + dS s + 1 → sb (gS s) (dS s) (qS s) L = 0 ∧ sb (gS s) (dS s) (qS s) (L + (dS s + qS s)) = 0 := fun hc => ⟨sb_small n2 n3 (by omega), sb_small n2 n3 (by omega)⟩
  have k2 : gS s ≤ L → sb (gS s) (dS s) (qS s) (L + (dS s + qS s)) = sb (gS s) (dS s) (qS s) L + qS s := fun hc => by have := sb_period n2 n3 hc 1 (by omega); rwa [Int.one_mul, Int.one_mul] at this
  have k3 : gS s ≤ L → sb (gS s) (dS s) (qS s) (L + 7 * (dS s + qS s)) = sb (gS s) (dS s) (qS s) L + 7 * qS s := fun hc => sb_period n2 n3 hc 7 (by omega)
  have k4 := sb_nonneg (g := gS s) (l := L) (by omega) n2 n3
  have k5 := sb_room (g := gS s) (l := L) (by omega) n2 n3 L0
  clear HB' h he
  obtain ⟨k, q, t⟩ := s
  generalize gS (k, q, t) = G at *
  generalize dS (k, q, t) = D at *
  generalize qS (k, q, t) = Q at *
  obtain ⟨P, hP⟩ : ∃ P, P = D + Q := ⟨_, rfl⟩
  obtain ⟨S, hS⟩ : ∃ S, S = G + D := ⟨_, rfl⟩
  rw [← hP] at H3 H4 k1 k2 k3 HS
  rw [← hS] at HS H5 k1
  obtain ⟨LP, hLP⟩ : ∃ LP, LP = L + P := ⟨_, rfl⟩
  obtain ⟨P7, hP7⟩ : ∃ P7, P7 = 7 * P := ⟨_, rfl⟩
  obtain ⟨LZ, hLZ⟩ : ∃ LZ, LZ = L + P7 := ⟨_, rfl⟩
  obtain ⟨S1, hS1⟩ : ∃ S1, S1 = S + 1 := ⟨_, rfl⟩
  rw [← hP7] at H4 k3
  rw [← hLP] at H3 k1 k2
  rw [← hLZ] at H4 k3
  rw [← hS1] at H5 k1
  generalize sb G D Q L = X at *
  generalize sb G D Q LP = Y at *
  generalize sb G D Q LZ = Z at *
  obtain ⟨X1, hX1⟩ : ∃ X1, X1 = X + Q := ⟨_, rfl⟩
  obtain ⟨Q7, hQ7⟩ : ∃ Q7, Q7 = 7 * Q := ⟨_, rfl⟩
  obtain ⟨X7, hX7⟩ : ∃ X7, X7 = X + Q7 := ⟨_, rfl⟩
  have e1 : IntKind.i64.wrap (L + P) = LP := by rw [hLP]; exact wfit (by omega) (by omega)
  have e2 : IntKind.i64.wrap (7 * P) = P7 := by rw [hP7]; exact wfit (by omega) (by omega)
  have e3 : IntKind.i64.wrap (L + P7) = LZ := by rw [hLZ]; exact wfit (by omega) (by omega)
  have e4 : IntKind.i64.wrap (S + 1) = S1 := by rw [hS1]; exact wfit (by omega) (by omega)
  have e5 : IntKind.i64.wrap (P - Q) = D := by rw [hP, show D + Q - Q = D by omega]; exact wfit (by omega) (by omega)
  have e6 : IntKind.i64.wrap (S - D) = G := by rw [hS, show G + D - D = G by omega]; exact wfit (by omega) (by omega)
  have e7 : IntKind.i64.wrap (X + Q) = X1 := by rw [hX1]; exact wfit (by omega) (by omega)
  have e8 : IntKind.i64.wrap (7 * Q) = Q7 := by rw [hQ7]; exact wfit (by omega) (by omega)
  have e9 : IntKind.i64.wrap (X + Q7) = X7 := by rw [hX7]; exact wfit (by omega) (by omega)
  have hc : (LP < S1 ∧ X = 0 ∧ Y = 0) ∨ (¬ LP < S1 ∧ L < G) ∨ (¬ LP < S1 ∧ ¬ L < G ∧ Y = X1 ∧ Z = X7) := by
    by_cases c1 : LP < S1
    · exact .inl ⟨c1, (k1 c1).1, (k1 c1).2⟩
    · by_cases c2 : L < G
      · exact .inr (.inl ⟨c1, c2⟩)
      · exact .inr (.inr ⟨c1, c2, by rw [k2 (by omega), hX1], by rw [k3 (by omega), hX7, hQ7]⟩)
  clear k1 k2 k3 k4 k5 hP hS hLP hP7 hLZ hS1 hX1 hQ7 hX7 n1 n2 n3 n4 n5
  have M1 : Hid True := mkHid trivial
  have M2 : Hid True := mkHid trivial
  have M3 : Hid True := mkHid trivial
  have M4 : Hid True := mkHid trivial
  have M5 : Hid True := mkHid trivial
  have M6 : Hid True := mkHid trivial
  rcases hc with ⟨h1, rfl, rfl⟩ | ⟨h1, h2⟩ | ⟨h1, h2, rfl, rfl⟩
  all_goals
    go_enter Tryd.func8, Tryd.ntmps8
    go_wp2_with (first
      | (go_at_call 9; clear M1; refine (H1.out _ (ba (Below.refl _ _) _)).mono ?_; rintro e w1 ⟨rfl, b1⟩; have HB1 := mkHid (bt (ba (Below.refl _ _) _) b1); have HR1 := mkHid (new_last b1).1; have x1 : w1.cell? ⟨w.heap.size, 0, none⟩ = some (.int .i64 k) := cell_of_block (i := 0) HR1.out rfl; have y1 : w1.cell? ⟨w.heap.size, 1, none⟩ = some (.int .i64 q) := cell_of_block (i := 1) HR1.out rfl; have z1 : w1.cell? ⟨w.heap.size, 2, none⟩ = some (.int .i64 t) := cell_of_block (i := 2) HR1.out rfl; clear b1)
      | (go_at_call 12; clear M2; refine (HS.out _ HB1.out).mono ?_; rintro e w2 ⟨rfl, b2⟩; have HB2 := mkHid (bt HB1.out b2); have HR2 := mkHid (hold HR1.out b2); clear x1 y1 z1; have x2 : w2.cell? ⟨w.heap.size, 0, none⟩ = some (.int .i64 k) := cell_of_block (i := 0) HR2.out rfl; have y2 : w2.cell? ⟨w.heap.size, 1, none⟩ = some (.int .i64 q) := cell_of_block (i := 1) HR2.out rfl; have z2 : w2.cell? ⟨w.heap.size, 2, none⟩ = some (.int .i64 t) := cell_of_block (i := 2) HR2.out rfl; clear b2)
      | (go_at_call 10; clear M3; refine (H2.out _ HB2.out).mono ?_; rintro e w3 ⟨rfl, b3⟩; have HB3 := mkHid (bt HB2.out b3); have HR3 := mkHid (hold HR2.out b3); clear x2 y2 z2; have x3 : w3.cell? ⟨w.heap.size, 0, none⟩ = some (.int .i64 k) := cell_of_block (i := 0) HR3.out rfl; have y3 : w3.cell? ⟨w.heap.size, 1, none⟩ = some (.int .i64 q) := cell_of_block (i := 1) HR3.out rfl; have z3 : w3.cell? ⟨w.heap.size, 2, none⟩ = some (.int .i64 t) := cell_of_block (i := 2) HR3.out rfl; clear b3)
      | (go_at_call 10; clear M4; refine (H3.out _ HB3.out).mono ?_; rintro e w4 ⟨rfl, b4⟩; have HB4 := mkHid (bt HB3.out b4); have HR4 := mkHid (hold HR3.out b4); clear x3 y3 z3; have x4 : w4.cell? ⟨w.heap.size, 0, none⟩ = some (.int .i64 k) := cell_of_block (i := 0) HR4.out rfl; have y4 : w4.cell? ⟨w.heap.size, 1, none⟩ = some (.int .i64 q) := cell_of_block (i := 1) HR4.out rfl; have z4 : w4.cell? ⟨w.heap.size, 2, none⟩ = some (.int .i64 t) := cell_of_block (i := 2) HR4.out rfl; clear b4)
      | (go_at_call 10; clear M5; refine (H4.out _ HB4.out).mono ?_; rintro e w5 ⟨rfl, b5⟩; have HB5 := mkHid (bt HB4.out b5); have HR5 := mkHid (hold HR4.out b5); clear x4 y4 z4; have x5 : w5.cell? ⟨w.heap.size, 0, none⟩ = some (.int .i64 k) := cell_of_block (i := 0) HR5.out rfl; have y5 : w5.cell? ⟨w.heap.size, 1, none⟩ = some (.int .i64 q) := cell_of_block (i := 1) HR5.out rfl; have z5 : w5.cell? ⟨w.heap.size, 2, none⟩ = some (.int .i64 t) := cell_of_block (i := 2) HR5.out rfl; clear b5)
      | (go_at_call 17; clear M6; refine (H5.out _ HB5.out).mono ?_; rintro e w6 ⟨rfl, b6⟩; have HB6 := mkHid (bt HB5.out b6); have HR6 := mkHid (hold HR5.out b6); clear x5 y5 z5; have x6 : w6.cell? ⟨w.heap.size, 0, none⟩ = some (.int .i64 k) := cell_of_block (i := 0) HR6.out rfl; have y6 : w6.cell? ⟨w.heap.size, 1, none⟩ = some (.int .i64 q) := cell_of_block (i := 1) HR6.out rfl; have z6 : w6.cell? ⟨w.heap.size, 2, none⟩ = some (.int .i64 t) := cell_of_block (i := 2) HR6.out rfl; clear b6))
    go_ret
    exact ⟨rfl, HB6.out⟩
set_option maxHeartbeats 3200000 in
theorem orders_no (w : World) (s : Sv) (l L : Int) (ad : Addr) (el : bits .and .i64 l 274877906943 = L) (h : ¬ okW s) (E0 : Err w 0 text0 ad) : Calls Tryd.prog 7 #[vS s, .int .i64 l] w fun e w' => e = .returned (.bool true) ∧ Below w.heap.size w w' := by
  have he := E0.1
  have H1 : Hid (Ans w 9 #[] (.bool true)) := mkHid (fun W _ => salive W)
  have H2 : Hid (Ans w 10 #[vS s, .int .i64 L] (.tuple #[.int .i64 0, vE ad])) := mkHid (fun W hb => bound_no W s L h ad (kc he hb))
  have HE0 := mkHid he
  have heq := fun W => E0.eq W
  clear he h E0
  obtain ⟨k, q, t⟩ := s
  have M1 : Hid True := mkHid trivial
  have M2 : Hid True := mkHid trivial
  go_enter Tryd.func7, Tryd.ntmps7
  go_wp2_with (first
    | (go_at_call 9; clear M1; refine (H1.out _ (ba (Below.refl _ _) _)).mono ?_; rintro e w1 ⟨rfl, b1⟩; have HB1 := mkHid (bt (ba (Below.refl _ _) _) b1); have HR1 := mkHid (new_last b1).1; have x1 : w1.cell? ⟨w.heap.size, 0, none⟩ = some (.int .i64 k) := cell_of_block (i := 0) HR1.out rfl; have y1 : w1.cell? ⟨w.heap.size, 1, none⟩ = some (.int .i64 q) := cell_of_block (i := 1) HR1.out rfl; have z1 : w1.cell? ⟨w.heap.size, 2, none⟩ = some (.int .i64 t) := cell_of_block (i := 2) HR1.out rfl; have g0_1 := kc HE0.out HB1.out; clear b1)
    | (go_at_call 10; clear M2; refine (H2.out _ HB1.out).mono ?_; rintro e w2 ⟨rfl, b2⟩; have HB2 := mkHid (bt HB1.out b2); have HR2 := mkHid (hold HR1.out b2); clear x1 y1 z1; have x2 : w2.cell? ⟨w.heap.size, 0, none⟩ = some (.int .i64 k) := cell_of_block (i := 0) HR2.out rfl; have y2 : w2.cell? ⟨w.heap.size, 1, none⟩ = some (.int .i64 q) := cell_of_block (i := 1) HR2.out rfl; have z2 : w2.cell? ⟨w.heap.size, 2, none⟩ = some (.int .i64 t) := cell_of_block (i := 2) HR2.out rfl; have g0_2 := kc HE0.out HB2.out; clear g0_1; clear b2))
  go_ret
  exact ⟨rfl, HB2.out⟩
set_option maxHeartbeats 3200000 in
theorem orders_whole (w : World) (l L : Int) (el : bits .and .i64 l 274877906943 = L) (L0 : 0 ≤ L) (L1 : L ≤ 274877906943) : Calls Tryd.prog 7 #[vS (0, 0, 0), .int .i64 l] w fun e w' => e = .returned (.bool true) ∧ Below w.heap.size w w' := by
  have H1 : Hid (Ans w 9 #[] (.bool true)) := mkHid (fun W _ => salive W)
  obtain ⟨N, H2⟩ : ∃ N, Hid (Ans w 10 #[vS (0, 0, 0), .int .i64 L] (.tuple #[.int .i64 N, .nilIface])) := ⟨_, mkHid (fun W hb => bound_yes W (0, 0, 0) L (.inl rfl) (by omega) (by omega))⟩
  have M1 : Hid True := mkHid trivial
  have M2 : Hid True := mkHid trivial
  go_enter Tryd.func7, Tryd.ntmps7
  go_wp2_with (first
    | (go_at_call 9; clear M1; refine (H1.out _ (ba (Below.refl _ _) _)).mono ?_; rintro e w1 ⟨rfl, b1⟩; have HB1 := mkHid (bt (ba (Below.refl _ _) _) b1); have HR1 := mkHid (new_last b1).1; have x1 : w1.cell? ⟨w.heap.size, 0, none⟩ = some (.int .i64 0) := cell_of_block (i := 0) HR1.out rfl; have y1 : w1.cell? ⟨w.heap.size, 1, none⟩ = some (.int .i64 0) := cell_of_block (i := 1) HR1.out rfl; have z1 : w1.cell? ⟨w.heap.size, 2, none⟩ = some (.int .i64 0) := cell_of_block (i := 2) HR1.out rfl; clear b1)
    | (go_at_call 10; clear M2; refine (H2.out _ HB1.out).mono ?_; rintro e w2 ⟨rfl, b2⟩; have HB2 := mkHid (bt HB1.out b2); have HR2 := mkHid (hold HR1.out b2); clear x1 y1 z1; have x2 : w2.cell? ⟨w.heap.size, 0, none⟩ = some (.int .i64 0) := cell_of_block (i := 0) HR2.out rfl; have y2 : w2.cell? ⟨w.heap.size, 1, none⟩ = some (.int .i64 0) := cell_of_block (i := 1) HR2.out rfl; have z2 : w2.cell? ⟨w.heap.size, 2, none⟩ = some (.int .i64 0) := cell_of_block (i := 2) HR2.out rfl; clear b2))
  go_ret
  exact ⟨rfl, HB2.out⟩
theorem more_ok {k q t : Int} (h : okS (k, q, t)) : okS (k, min (q + 1) t, t) := by
  obtain ⟨h1, h2, h3, h4, h5⟩ := h
  simp only at h1 h2 h3 h4 h5
  refine ⟨h1, h2, ?_, ?_, h5⟩ <;> simp only <;> omega
theorem more_sb {k q t l : Int} (h : okS (k, q, t)) : sb (gS (k, q, t)) (dS (k, q, t)) (qS (k, q, t)) l ≤ sb (gS (k, min (q + 1) t, t)) (dS (k, min (q + 1) t, t)) (qS (k, min (q + 1) t, t)) l := by
  obtain ⟨h1, h2, h3, h4, h5⟩ := h
  simp only at h1 h2 h3 h4 h5
  by_cases e : q = t
  · subst e
    rw [show min (q + 1) q = q by omega]; exact Int.le_refl _
  · rw [show min (q + 1) t = q + 1 by omega]
    have d1 : dS (k, q, t) = t - q := if_neg (show ¬ k = 0 by omega)
    have d2 : dS (k, q + 1, t) = t - q - 1 := by rw [show dS (k, q + 1, t) = t - (q + 1) from if_neg (show ¬ k = 0 by omega)]; omega
    have q1 : qS (k, q, t) = q := if_neg (show ¬ k = 0 by omega)
    have q2 : qS (k, q + 1, t) = q + 1 := if_neg (show ¬ k = 0 by omega)
    rw [d1, d2, q1, q2]
    refine sb_more ?_ (by omega) (by omega)
    simp only [gS, if_neg (show ¬ k = 0 by omega)]
    split <;> omega
theorem def_sb {k q t l : Int} (h : okS (k, q, t)) : sb (gS (k, q, t)) (dS (k, q, t)) (qS (k, q, t)) l ≤ sb (gS (3, q, t)) (dS (3, q, t)) (qS (3, q, t)) l := by
  obtain ⟨h1, h2, h3, h4, h5⟩ := h
  simp only at h1 h2 h3 h4 h5
  have d1 : dS (k, q, t) = t - q := if_neg (show ¬ k = 0 by omega)
  have q1 : qS (k, q, t) = q := if_neg (show ¬ k = 0 by omega)
  have d2 : dS (3, q, t) = t - q := if_neg (show ¬ (3 : Int) = 0 by decide)
  have q2 : qS (3, q, t) = q := if_neg (show ¬ (3 : Int) = 0 by decide)
  have g2 : gS (3, q, t) = t - q := by simp [gS]
  rw [d1, d2, q1, q2]
  refine sb_sooner ?_ (by omega) (by omega)
  rw [g2]
  simp only [gS, if_neg (show ¬ k = 0 by omega)]
  split <;> omega
set_option maxHeartbeats 6400000 in
theorem orders_ok (w : World) (s : Sv) (l L : Int) (el : bits .and .i64 l 274877906943 = L) (L0 : 0 ≤ L) (L1 : L ≤ 274877906943) (h : okS s) : Calls Tryd.prog 7 #[vS s, .int .i64 l] w fun e w' => e = .returned (.bool true) ∧ Below w.heap.size w w' := by
  have H1 : Hid (Ans w 9 #[] (.bool true)) := mkHid (fun W _ => salive W)
  obtain ⟨k, q, t⟩ := s
  obtain ⟨h1, h2, h3, h4, h5⟩ := id h
  simp only at h1 h2 h3 h4 h5
  have o3 : okS (3, q, t) := ⟨show (1 : Int) ≤ 3 by decide, show (3 : Int) ≤ 3 by decide, h3, h4, h5⟩
  have om := more_ok h
  have HB' : ∀ s : Sv, okW s → Ans w 10 #[vS s, .int .i64 L] (.tuple #[.int .i64 (sb (gS s) (dS s) (qS s) L), .nilIface]) := fun s hs W hb => bound_yes W s L hs (by omega) (by omega)
  have H2 := mkHid (HB' (k, q, t) (.inr h))
  have H3 := mkHid (HB' (k, min (q + 1) t, t) (.inr om))
  have H4 := mkHid (HB' (3, q, t) (.inr o3))
  have H5 := mkHid (HB' (0, 0, 0) (.inl rfl))
  rw [show sb (gS (0, 0, 0)) (dS (0, 0, 0)) (qS (0, 0, 0)) L = L from sb_whole L0] at H5
  have k1 := more_sb (l := L) h
  have k2 := def_sb (l := L) h
  have k3 := (show okW (3, q, t) from .inr o3).nums
  have k4 := sb_room (g := gS (3, q, t)) (d := dS (3, q, t)) (q := qS (3, q, t)) (l := L) (by omega) k3.2.1 k3.2.2.1 L0
  generalize sb (gS (k, q, t)) (dS (k, q, t)) (qS (k, q, t)) L = N at *
  generalize sb (gS (k, min (q + 1) t, t)) (dS (k, min (q + 1) t, t)) (qS (k, min (q + 1) t, t)) L = M at *
  generalize sb (gS (3, q, t)) (dS (3, q, t)) (qS (3, q, t)) L = D at *
  have hk : ¬ k = 0 := by omega
  have eq : IntKind.i64.wrap (q + 1) = q + 1 := wfit (by omega) (by omega)
  have hc : (q + 1 < t ∧ min (q + 1) t = q + 1) ∨ (t = q + 1 ∧ min (q + 1) t = q + 1) ∨ (t = q ∧ min (q + 1) t = q) := by omega
  clear HB' h o3 om k3
  have M1 : Hid True := mkHid trivial
  have M2 : Hid True := mkHid trivial
  have M3 : Hid True := mkHid trivial
  have M4 : Hid True := mkHid trivial
  have M5 : Hid True := mkHid trivial
  rcases hc with ⟨hc, em⟩ | ⟨rfl, em⟩ | ⟨rfl, em⟩ <;> rw [em] at H3 <;> clear em
  · go_enter Tryd.func7, Tryd.ntmps7
    go_wp2_with (first
      | (go_at_call 9; clear M1; refine (H1.out _ (ba (Below.refl _ _) _)).mono ?_; rintro e w1 ⟨rfl, b1⟩; have HB1 := mkHid (bt (ba (Below.refl _ _) _) b1); have HR1 := mkHid (new_last b1).1; have x1 : w1.cell? ⟨w.heap.size, 0, none⟩ = some (.int .i64 k) := cell_of_block (i := 0) HR1.out rfl; have y1 : w1.cell? ⟨w.heap.size, 1, none⟩ = some (.int .i64 q) := cell_of_block (i := 1) HR1.out rfl; have z1 : w1.cell? ⟨w.heap.size, 2, none⟩ = some (.int .i64 t) := cell_of_block (i := 2) HR1.out rfl; clear b1)
      | (go_at_call 10; clear M2; refine (H2.out _ HB1.out).mono ?_; rintro e w2 ⟨rfl, b2⟩; have HB2 := mkHid (bt HB1.out b2); have HR2 := mkHid (hold HR1.out b2); clear x1 y1 z1; have x2 : w2.cell? ⟨w.heap.size, 0, none⟩ = some (.int .i64 k) := cell_of_block (i := 0) HR2.out rfl; have y2 : w2.cell? ⟨w.heap.size, 1, none⟩ = some (.int .i64 q) := cell_of_block (i := 1) HR2.out rfl; have z2 : w2.cell? ⟨w.heap.size, 2, none⟩ = some (.int .i64 t) := cell_of_block (i := 2) HR2.out rfl; have xa := fun o => kl x2 o; have ya := fun o => kl y2 o; have za := fun o => kl z2 o; clear b2)
      | (go_at_call 10; clear M3; refine (H3.out _ (ba HB2.out _)).mono ?_; rintro e w3 ⟨rfl, b3⟩; have HB3 := mkHid (bt (ba HB2.out _) b3); have HR3 := mkHid (hold (hold HR2.out (ba (Below.refl _ _) _)) b3); have x3 : w3.cell? ⟨w.heap.size, 0, none⟩ = some (.int .i64 k) := cell_of_block (i := 0) HR3.out rfl; have y3 : w3.cell? ⟨w.heap.size, 1, none⟩ = some (.int .i64 q) := cell_of_block (i := 1) HR3.out rfl; have z3 : w3.cell? ⟨w.heap.size, 2, none⟩ = some (.int .i64 t) := cell_of_block (i := 2) HR3.out rfl; clear b3)
      | (go_at_call 10; clear M4; refine (H4.out _ HB3.out).mono ?_; rintro e w4 ⟨rfl, b4⟩; have HB4 := mkHid (bt HB3.out b4); have HR4 := mkHid (hold HR3.out b4); have x4 : w4.cell? ⟨w.heap.size, 0, none⟩ = some (.int .i64 k) := cell_of_block (i := 0) HR4.out rfl; have y4 : w4.cell? ⟨w.heap.size, 1, none⟩ = some (.int .i64 q) := cell_of_block (i := 1) HR4.out rfl; have z4 : w4.cell? ⟨w.heap.size, 2, none⟩ = some (.int .i64 t) := cell_of_block (i := 2) HR4.out rfl; clear b4)
      | (go_at_call 10; clear M5; refine (H5.out _ HB4.out).mono ?_; rintro e w5 ⟨rfl, b5⟩; have HB5 := mkHid (bt HB4.out b5); clear b5))
    go_ret
    exact ⟨rfl, HB5.out⟩
  · go_enter Tryd.func7, Tryd.ntmps7
    go_wp2_with (first
      | (go_at_call 9; clear M1; refine (H1.out _ (ba (Below.refl _ _) _)).mono ?_; rintro e w1 ⟨rfl, b1⟩; have HB1 := mkHid (bt (ba (Below.refl _ _) _) b1); have HR1 := mkHid (new_last b1).1; have x1 : w1.cell? ⟨w.heap.size, 0, none⟩ = some (.int .i64 k) := cell_of_block (i := 0) HR1.out rfl; have y1 : w1.cell? ⟨w.heap.size, 1, none⟩ = some (.int .i64 q) := cell_of_block (i := 1) HR1.out rfl; have z1 : w1.cell? ⟨w.heap.size, 2, none⟩ = some (.int .i64 (q + 1)) := cell_of_block (i := 2) HR1.out rfl; clear b1)
      | (go_at_call 10; clear M2; refine (H2.out _ HB1.out).mono ?_; rintro e w2 ⟨rfl, b2⟩; have HB2 := mkHid (bt HB1.out b2); have HR2 := mkHid (hold HR1.out b2); clear x1 y1 z1; have x2 : w2.cell? ⟨w.heap.size, 0, none⟩ = some (.int .i64 k) := cell_of_block (i := 0) HR2.out rfl; have y2 : w2.cell? ⟨w.heap.size, 1, none⟩ = some (.int .i64 q) := cell_of_block (i := 1) HR2.out rfl; have z2 : w2.cell? ⟨w.heap.size, 2, none⟩ = some (.int .i64 (q + 1)) := cell_of_block (i := 2) HR2.out rfl; have xa := fun o => kl x2 o; have ya := fun o => kl y2 o; have za := fun o => kl z2 o; clear b2)
      | (go_at_call 10; clear M3; refine (H3.out _ (ba HB2.out _)).mono ?_; rintro e w3 ⟨rfl, b3⟩; have HB3 := mkHid (bt (ba HB2.out _) b3); have HR3 := mkHid (hold (hold HR2.out (ba (Below.refl _ _) _)) b3); have x3 : w3.cell? ⟨w.heap.size, 0, none⟩ = some (.int .i64 k) := cell_of_block (i := 0) HR3.out rfl; have y3 : w3.cell? ⟨w.heap.size, 1, none⟩ = some (.int .i64 q) := cell_of_block (i := 1) HR3.out rfl; have z3 : w3.cell? ⟨w.heap.size, 2, none⟩ = some (.int .i64 (q + 1)) := cell_of_block (i := 2) HR3.out rfl; clear b3)
      | (go_at_call 10; clear M4; refine (H4.out _ HB3.out).mono ?_; rintro e w4 ⟨rfl, b4⟩; have HB4 := mkHid (bt HB3.out b4); have HR4 := mkHid (hold HR3.out b4); have x4 : w4.cell? ⟨w.heap.size, 0, none⟩ = some (.int .i64 k) := cell_of_block (i := 0) HR4.out rfl; have y4 : w4.cell? ⟨w.heap.size, 1, none⟩ = some (.int .i64 q) := cell_of_block (i := 1) HR4.out rfl; have z4 : w4.cell? ⟨w.heap.size, 2, none⟩ = some (.int .i64 (q + 1)) := cell_of_block (i := 2) HR4.out rfl; clear b4)
      | (go_at_call 10; clear M5; refine (H5.out _ HB4.out).mono ?_; rintro e w5 ⟨rfl, b5⟩; have HB5 := mkHid (bt HB4.out b5); clear b5))
    go_ret
    exact ⟨rfl, HB5.out⟩
  · go_enter Tryd.func7, Tryd.ntmps7
    go_wp2_with (first
      | (go_at_call 9; clear M1; refine (H1.out _ (ba (Below.refl _ _) _)).mono ?_; rintro e w1 ⟨rfl, b1⟩; have HB1 := mkHid (bt (ba (Below.refl _ _) _) b1); have HR1 := mkHid (new_last b1).1; have x1 : w1.cell? ⟨w.heap.size, 0, none⟩ = some (.int .i64 k) := cell_of_block (i := 0) HR1.out rfl; have y1 : w1.cell? ⟨w.heap.size, 1, none⟩ = some (.int .i64 t) := cell_of_block (i := 1) HR1.out rfl; have z1 : w1.cell? ⟨w.heap.size, 2, none⟩ = some (.int .i64 t) := cell_of_block (i := 2) HR1.out rfl; clear b1)
      | (go_at_call 10; clear M2; refine (H2.out _ HB1.out).mono ?_; rintro e w2 ⟨rfl, b2⟩; have HB2 := mkHid (bt HB1.out b2); have HR2 := mkHid (hold HR1.out b2); clear x1 y1 z1; have x2 : w2.cell? ⟨w.heap.size, 0, none⟩ = some (.int .i64 k) := cell_of_block (i := 0) HR2.out rfl; have y2 : w2.cell? ⟨w.heap.size, 1, none⟩ = some (.int .i64 t) := cell_of_block (i := 1) HR2.out rfl; have z2 : w2.cell? ⟨w.heap.size, 2, none⟩ = some (.int .i64 t) := cell_of_block (i := 2) HR2.out rfl; have xa := fun o => kl x2 o; have ya := fun o => kl y2 o; have za := fun o => kl z2 o; clear b2)
      | (go_at_call 10; clear M3; refine (H3.out _ (ba HB2.out _)).mono ?_; rintro e w3 ⟨rfl, b3⟩; have HB3 := mkHid (bt (ba HB2.out _) b3); have HR3 := mkHid (hold (hold HR2.out (ba (Below.refl _ _) _)) b3); have x3 : w3.cell? ⟨w.heap.size, 0, none⟩ = some (.int .i64 k) := cell_of_block (i := 0) HR3.out rfl; have y3 : w3.cell? ⟨w.heap.size, 1, none⟩ = some (.int .i64 t) := cell_of_block (i := 1) HR3.out rfl; have z3 : w3.cell? ⟨w.heap.size, 2, none⟩ = some (.int .i64 t) := cell_of_block (i := 2) HR3.out rfl; clear b3)
      | (go_at_call 10; clear M4; refine (H4.out _ HB3.out).mono ?_; rintro e w4 ⟨rfl, b4⟩; have HB4 := mkHid (bt HB3.out b4); have HR4 := mkHid (hold HR3.out b4); have x4 : w4.cell? ⟨w.heap.size, 0, none⟩ = some (.int .i64 k) := cell_of_block (i := 0) HR4.out rfl; have y4 : w4.cell? ⟨w.heap.size, 1, none⟩ = some (.int .i64 t) := cell_of_block (i := 1) HR4.out rfl; have z4 : w4.cell? ⟨w.heap.size, 2, none⟩ = some (.int .i64 t) := cell_of_block (i := 2) HR4.out rfl; clear b4)
      | (go_at_call 10; clear M5; refine (H5.out _ HB4.out).mono ?_; rintro e w5 ⟨rfl, b5⟩; have HB5 := mkHid (bt HB4.out b5); clear b5))
    go_ret
    exact ⟨rfl, HB5.out⟩
theorem ordersL_any (w : World) (s : Sv) (l : Int) (a0 : Addr) (E0 : Err w 0 text0 a0) : Calls Tryd.prog 7 #[vS s, .int .i64 l] w fun e w' => e = .returned (.bool true) ∧ Below w.heap.size w w' := by
  obtain ⟨L, L0, L1, el⟩ := and_ex l 274877906943 (by omega) (by omega)
  by_cases h : okW s
  · rcases h with rfl | h
    · exact orders_whole w l L el L0 L1
    · exact orders_ok w s l L el L0 L1 h
  · exact orders_no w s l L a0 el h E0
theorem periodsL_any (w : World) (s : Sv) (l : Int) (a0 a2 : Addr) (E0 : Err w 0 text0 a0) (E2 : Err w 2 text2 a2) : Calls Tryd.prog 8 #[vS s, .int .i64 l] w fun e w' => e = .returned (.bool true) ∧ Below w.heap.size w w' := by
  obtain ⟨L, L0, L1, el⟩ := and_ex l 274877906943 (by omega) (by omega)
  by_cases h : okW s
  · exact periods_yes w s l L a2 el L0 L1 h E2.1
  · exact periods_no w s l L a0 el h E0.1
end Go.Proofs.YtldfngkooilmnaaDoor
