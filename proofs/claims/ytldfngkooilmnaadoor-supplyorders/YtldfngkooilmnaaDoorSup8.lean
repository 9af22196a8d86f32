/- The law SupplyLeast. -/
import Derived.Test.YtldfngkooilmnaaDoorSup7
namespace Go.Proofs.YtldfngkooilmnaaDoor
open Go.ChangeShapes Go.WideShapes Go.ChangeAt Go.RowKit
set_option maxRecDepth 100000

set_option maxHeartbeats 3200000 in
theorem leastL_no (w : World) (s : Sv) (x : Int) (a : Addr) (h : ¬ okW s) (E0 : Err w 0 text0 a) : Calls Tryd.prog 5 #[vS s, .int .i64 x] w fun e w' => e = .returned (.bool true) ∧ Below w.heap.size w w' := by
  have he := E0.1
  have H1 : Hid (Ans w 9 #[] (.bool true)) := mkHid (fun W _ => salive W)
  have H2 : Hid (Ans w 17 #[vS s, .int .i64 x] (.tuple #[.int .i64 0, vE a])) := mkHid (fun W hb => least_no W s x h a (kc he hb))
  have H5 : Hid (Ans w 13 #[vS s] (.bool false)) := mkHid (fun W _ => legal_no W s h)
  have HE0 := mkHid he
  have heq := fun W => E0.eq W
  clear he E0 h
  obtain ⟨k, q, t⟩ := s
  have M1 : Hid True := mkHid trivial
  have M2 : Hid True := mkHid trivial
  have M3 : Hid True := mkHid trivial
  go_enter Tryd.func5, Tryd.ntmps5
  go_wp2_with (first
    | (go_at_call 9; clear M1; refine (H1.out _ (ba (Below.refl _ _) _)).mono ?_; rintro e w1 ⟨rfl, b1⟩; have HB1 := mkHid (bt (ba (Below.refl _ _) _) b1); have HR1 := mkHid (new_last b1).1; have x1 : w1.cell? ⟨w.heap.size, 0, none⟩ = some (.int .i64 k) := cell_of_block (i := 0) HR1.out rfl; have y1 : w1.cell? ⟨w.heap.size, 1, none⟩ = some (.int .i64 q) := cell_of_block (i := 1) HR1.out rfl; have z1 : w1.cell? ⟨w.heap.size, 2, none⟩ = some (.int .i64 t) := cell_of_block (i := 2) HR1.out rfl; have g0_1 := kc HE0.out HB1.out; clear b1)
    | (go_at_call 17; clear M2; refine (H2.out _ HB1.out).mono ?_; rintro e w2 ⟨rfl, b2⟩; have HB2 := mkHid (bt HB1.out b2); have HR2 := mkHid (hold HR1.out b2); clear x1 y1 z1; have x2 : w2.cell? ⟨w.heap.size, 0, none⟩ = some (.int .i64 k) := cell_of_block (i := 0) HR2.out rfl; have y2 : w2.cell? ⟨w.heap.size, 1, none⟩ = some (.int .i64 q) := cell_of_block (i := 1) HR2.out rfl; have z2 : w2.cell? ⟨w.heap.size, 2, none⟩ = some (.int .i64 t) := cell_of_block (i := 2) HR2.out rfl; have g0_2 := kc HE0.out HB2.out; clear g0_1; clear b2)
    | (go_at_call 13; clear M3; refine (H5.out _ HB2.out).mono ?_; rintro e w3 ⟨rfl, b3⟩; have HB3 := mkHid (bt HB2.out b3); have HR3 := mkHid (hold HR2.out b3); clear x2 y2 z2; have x3 : w3.cell? ⟨w.heap.size, 0, none⟩ = some (.int .i64 k) := cell_of_block (i := 0) HR3.out rfl; have y3 : w3.cell? ⟨w.heap.size, 1, none⟩ = some (.int .i64 q) := cell_of_block (i := 1) HR3.out rfl; have z3 : w3.cell? ⟨w.heap.size, 2, none⟩ = some (.int .i64 t) := cell_of_block (i := 2) HR3.out rfl; have g0_3 := kc HE0.out HB3.out; clear g0_2; clear b3))
  go_ret
  exact ⟨rfl, HB3.out⟩
set_option maxHeartbeats 3200000 in
theorem leastL_num (w : World) (s : Sv) (x : Int) (a : Addr) (h : okW s) (hl : x < 0 ∨ (0 ≤ x ∧ 1099511627776 < x)) (E1 : Err w 1 text1 a) : Calls Tryd.prog 5 #[vS s, .int .i64 x] w fun e w' => e = .returned (.bool true) ∧ Below w.heap.size w w' := by
  have he := E1.1
  have H1 : Hid (Ans w 9 #[] (.bool true)) := mkHid (fun W _ => salive W)
  have H2 : Hid (Ans w 17 #[vS s, .int .i64 x] (.tuple #[.int .i64 0, vE a])) := mkHid (fun W hb => least_num W s x h hl a (kc he hb))
  have H5 : Hid (Ans w 13 #[vS s] (.bool true)) := mkHid (fun W _ => legal_yes W s h)
  have HE1 := mkHid he
  have heq := fun W => E1.eq W
  clear he E1 h
  obtain ⟨k, q, t⟩ := s
  have M1 : Hid True := mkHid trivial
  have M2 : Hid True := mkHid trivial
  have M3 : Hid True := mkHid trivial
  rcases hl with hl | ⟨hl, hl2⟩
  all_goals
    go_enter Tryd.func5, Tryd.ntmps5
    go_wp2_with (first
      | (go_at_call 9; clear M1; refine (H1.out _ (ba (Below.refl _ _) _)).mono ?_; rintro e w1 ⟨rfl, b1⟩; have HB1 := mkHid (bt (ba (Below.refl _ _) _) b1); have HR1 := mkHid (new_last b1).1; have x1 : w1.cell? ⟨w.heap.size, 0, none⟩ = some (.int .i64 k) := cell_of_block (i := 0) HR1.out rfl; have y1 : w1.cell? ⟨w.heap.size, 1, none⟩ = some (.int .i64 q) := cell_of_block (i := 1) HR1.out rfl; have z1 : w1.cell? ⟨w.heap.size, 2, none⟩ = some (.int .i64 t) := cell_of_block (i := 2) HR1.out rfl; have g1_1 := kc HE1.out HB1.out; clear b1)
      | (go_at_call 17; clear M2; refine (H2.out _ HB1.out).mono ?_; rintro e w2 ⟨rfl, b2⟩; have HB2 := mkHid (bt HB1.out b2); have HR2 := mkHid (hold HR1.out b2); clear x1 y1 z1; have x2 : w2.cell? ⟨w.heap.size, 0, none⟩ = some (.int .i64 k) := cell_of_block (i := 0) HR2.out rfl; have y2 : w2.cell? ⟨w.heap.size, 1, none⟩ = some (.int .i64 q) := cell_of_block (i := 1) HR2.out rfl; have z2 : w2.cell? ⟨w.heap.size, 2, none⟩ = some (.int .i64 t) := cell_of_block (i := 2) HR2.out rfl; have g1_2 := kc HE1.out HB2.out; clear g1_1; clear b2)
      | (go_at_call 13; clear M3; refine (H5.out _ HB2.out).mono ?_; rintro e w3 ⟨rfl, b3⟩; have HB3 := mkHid (bt HB2.out b3); have HR3 := mkHid (hold HR2.out b3); clear x2 y2 z2; have x3 : w3.cell? ⟨w.heap.size, 0, none⟩ = some (.int .i64 k) := cell_of_block (i := 0) HR3.out rfl; have y3 : w3.cell? ⟨w.heap.size, 1, none⟩ = some (.int .i64 q) := cell_of_block (i := 1) HR3.out rfl; have z3 : w3.cell? ⟨w.heap.size, 2, none⟩ = some (.int .i64 t) := cell_of_block (i := 2) HR3.out rfl; have g1_3 := kc HE1.out HB3.out; clear g1_2; clear b3))
    go_ret
    exact ⟨rfl, HB3.out⟩
set_option maxHeartbeats 3200000 in
theorem leastL_zero (w : World) (s : Sv) (h : okW s) : Calls Tryd.prog 5 #[vS s, .int .i64 0] w fun e w' => e = .returned (.bool true) ∧ Below w.heap.size w w' := by
  obtain ⟨n1, n2, n3, n4, n5⟩ := h.nums
  have H1 : Hid (Ans w 9 #[] (.bool true)) := mkHid (fun W _ => salive W)
  have H2 : Hid (Ans w 17 #[vS s, .int .i64 0] (.tuple #[.int .i64 0, .nilIface])) := mkHid (fun W hb => least_zero W s h)
  have H5 : Hid (Ans w 13 #[vS s] (.bool true)) := mkHid (fun W _ => legal_yes W s h)
  have H6 : Hid (Ans w 15 #[vS s, .int .i64 0] (.int .i64 0)) := mkHid (fun W hb => by have := rbound_yes W s 0 h (by omega) (by omega); rwa [sb_zero (by omega) n2 n3] at this)
  clear h n1 n2 n3 n4 n5
  obtain ⟨k, q, t⟩ := s
  have M1 : Hid True := mkHid trivial
  have M2 : Hid True := mkHid trivial
  have M3 : Hid True := mkHid trivial
  have M4 : Hid True := mkHid trivial
  go_enter Tryd.func5, Tryd.ntmps5
  go_wp2_with (first
    | (go_at_call 9; clear M1; refine (H1.out _ (ba (Below.refl _ _) _)).mono ?_; rintro e w1 ⟨rfl, b1⟩; have HB1 := mkHid (bt (ba (Below.refl _ _) _) b1); have HR1 := mkHid (new_last b1).1; have x1 : w1.cell? ⟨w.heap.size, 0, none⟩ = some (.int .i64 k) := cell_of_block (i := 0) HR1.out rfl; have y1 : w1.cell? ⟨w.heap.size, 1, none⟩ = some (.int .i64 q) := cell_of_block (i := 1) HR1.out rfl; have z1 : w1.cell? ⟨w.heap.size, 2, none⟩ = some (.int .i64 t) := cell_of_block (i := 2) HR1.out rfl; clear b1)
    | (go_at_call 17; clear M2; refine (H2.out _ HB1.out).mono ?_; rintro e w2 ⟨rfl, b2⟩; have HB2 := mkHid (bt HB1.out b2); have HR2 := mkHid (hold HR1.out b2); clear x1 y1 z1; have x2 : w2.cell? ⟨w.heap.size, 0, none⟩ = some (.int .i64 k) := cell_of_block (i := 0) HR2.out rfl; have y2 : w2.cell? ⟨w.heap.size, 1, none⟩ = some (.int .i64 q) := cell_of_block (i := 1) HR2.out rfl; have z2 : w2.cell? ⟨w.heap.size, 2, none⟩ = some (.int .i64 t) := cell_of_block (i := 2) HR2.out rfl; clear b2)
    | (go_at_call 13; clear M3; refine (H5.out _ HB2.out).mono ?_; rintro e w3 ⟨rfl, b3⟩; have HB3 := mkHid (bt HB2.out b3); have HR3 := mkHid (hold HR2.out b3); clear x2 y2 z2; have x3 : w3.cell? ⟨w.heap.size, 0, none⟩ = some (.int .i64 k) := cell_of_block (i := 0) HR3.out rfl; have y3 : w3.cell? ⟨w.heap.size, 1, none⟩ = some (.int .i64 q) := cell_of_block (i := 1) HR3.out rfl; have z3 : w3.cell? ⟨w.heap.size, 2, none⟩ = some (.int .i64 t) := cell_of_block (i := 2) HR3.out rfl; clear b3)
    | (go_at_call 15; clear M4; refine (H6.out _ HB3.out).mono ?_; rintro e w4 ⟨rfl, b4⟩; have HB4 := mkHid (bt HB3.out b4); have HR4 := mkHid (hold HR3.out b4); clear x3 y3 z3; have x4 : w4.cell? ⟨w.heap.size, 0, none⟩ = some (.int .i64 k) := cell_of_block (i := 0) HR4.out rfl; have y4 : w4.cell? ⟨w.heap.size, 1, none⟩ = some (.int .i64 q) := cell_of_block (i := 1) HR4.out rfl; have z4 : w4.cell? ⟨w.heap.size, 2, none⟩ = some (.int .i64 t) := cell_of_block (i := 2) HR4.out rfl; clear b4))
  go_ret
  exact ⟨rfl, HB4.out⟩
set_option maxHeartbeats 3200000 in
theorem leastL_over (w : World) (s : Sv) (x : Int) (a : Addr) (h : okW s) (h0 : 1 ≤ x) (h1 : x ≤ 1099511627776) (hv : 1099511627776 < lsF (gS s) (dS s) (qS s) x) (E2 : Err w 2 text2 a) : Calls Tryd.prog 5 #[vS s, .int .i64 x] w fun e w' => e = .returned (.bool true) ∧ Below w.heap.size w w' := by
  obtain ⟨n1, n2, n3, n4, n5⟩ := h.nums
  have he := E2.1
  have H1 : Hid (Ans w 9 #[] (.bool true)) := mkHid (fun W _ => salive W)
  have H2 : Hid (Ans w 17 #[vS s, .int .i64 x] (.tuple #[.int .i64 0, vE a])) := mkHid (fun W hb => by have := least_pos W s x h h0 h1 a (kc he hb); rwa [show LeastE (lsF (gS s) (dS s) (qS s) x) a = .tuple #[.int .i64 0, vE a] from if_neg (by omega)] at this)
  have H5 : Hid (Ans w 13 #[vS s] (.bool true)) := mkHid (fun W _ => legal_yes W s h)
  obtain ⟨N, hN⟩ : ∃ N, N = sb (gS s) (dS s) (qS s) 1099511627776 := ⟨_, rfl⟩
  have hNx : N < x := by
    have k1 := sb_lsF1 (g := gS s) n2 n3 h0
    have k2 := sb_le (g := gS s) (m := 1099511627776) (n := lsF (gS s) (dS s) (qS s) x - 1) n2 n3 (by omega)
    omega
  have H6 : Hid (Ans w 15 #[vS s, .int .i64 1099511627776] (.int .i64 N)) := mkHid (fun W hb => by rw [hN]; exact rbound_yes W s _ h (by omega) (by omega))
  have HE2 := mkHid he
  have heq := fun W => E2.eq W
  have hx0 : 0 ≤ x := by omega
  clear he E2 h n1 n2 n3 n4 n5 hN hv h0
  obtain ⟨k, q, t⟩ := s
  have M1 : Hid True := mkHid trivial
  have M2 : Hid True := mkHid trivial
  have M3 : Hid True := mkHid trivial
  have M4 : Hid True := mkHid trivial
  go_enter Tryd.func5, Tryd.ntmps5
  go_wp2_with (first
    | (go_at_call 9; clear M1; refine (H1.out _ (ba (Below.refl _ _) _)).mono ?_; rintro e w1 ⟨rfl, b1⟩; have HB1 := mkHid (bt (ba (Below.refl _ _) _) b1); have HR1 := mkHid (new_last b1).1; have x1 : w1.cell? ⟨w.heap.size, 0, none⟩ = some (.int .i64 k) := cell_of_block (i := 0) HR1.out rfl; have y1 : w1.cell? ⟨w.heap.size, 1, none⟩ = some (.int .i64 q) := cell_of_block (i := 1) HR1.out rfl; have z1 : w1.cell? ⟨w.heap.size, 2, none⟩ = some (.int .i64 t) := cell_of_block (i := 2) HR1.out rfl; have g2_1 := kc HE2.out HB1.out; clear b1)
    | (go_at_call 17; clear M2; refine (H2.out _ HB1.out).mono ?_; rintro e w2 ⟨rfl, b2⟩; have HB2 := mkHid (bt HB1.out b2); have HR2 := mkHid (hold HR1.out b2); clear x1 y1 z1; have x2 : w2.cell? ⟨w.heap.size, 0, none⟩ = some (.int .i64 k) := cell_of_block (i := 0) HR2.out rfl; have y2 : w2.cell? ⟨w.heap.size, 1, none⟩ = some (.int .i64 q) := cell_of_block (i := 1) HR2.out rfl; have z2 : w2.cell? ⟨w.heap.size, 2, none⟩ = some (.int .i64 t) := cell_of_block (i := 2) HR2.out rfl; have g2_2 := kc HE2.out HB2.out; clear g2_1; clear b2)
    | (go_at_call 13; clear M3; refine (H5.out _ HB2.out).mono ?_; rintro e w3 ⟨rfl, b3⟩; have HB3 := mkHid (bt HB2.out b3); have HR3 := mkHid (hold HR2.out b3); clear x2 y2 z2; have x3 : w3.cell? ⟨w.heap.size, 0, none⟩ = some (.int .i64 k) := cell_of_block (i := 0) HR3.out rfl; have y3 : w3.cell? ⟨w.heap.size, 1, none⟩ = some (.int .i64 q) := cell_of_block (i := 1) HR3.out rfl; have z3 : w3.cell? ⟨w.heap.size, 2, none⟩ = some (.int .i64 t) := cell_of_block (i := 2) HR3.out rfl; have g2_3 := kc HE2.out HB3.out; clear g2_2; clear b3)
    | (go_at_call 15; clear M4; refine (H6.out _ HB3.out).mono ?_; rintro e w4 ⟨rfl, b4⟩; have HB4 := mkHid (bt HB3.out b4); have HR4 := mkHid (hold HR3.out b4); clear x3 y3 z3; have x4 : w4.cell? ⟨w.heap.size, 0, none⟩ = some (.int .i64 k) := cell_of_block (i := 0) HR4.out rfl; have y4 : w4.cell? ⟨w.heap.size, 1, none⟩ = some (.int .i64 q) := cell_of_block (i := 1) HR4.out rfl; have z4 : w4.cell? ⟨w.heap.size, 2, none⟩ = some (.int .i64 t) := cell_of_block (i := 2) HR4.out rfl; have g2_4 := kc HE2.out HB4.out; clear g2_3; clear b4))
  go_ret
  exact ⟨rfl, HB4.out⟩
set_option maxHeartbeats 3200000 in
theorem leastL_pos (w : World) (s : Sv) (x : Int) (a : Addr) (h : okW s) (h0 : 1 ≤ x) (h1 : x ≤ 1099511627776) (hv : lsF (gS s) (dS s) (qS s) x ≤ 1099511627776) (he : w.cell? ⟨2, 0, none⟩ = some (vE a)) : Calls Tryd.prog 5 #[vS s, .int .i64 x] w fun e w' => e = .returned (.bool true) ∧ Below w.heap.size w w' := by
  obtain ⟨n1, n2, n3, n4, n5⟩ := h.nums
  have H1 : Hid (Ans w 9 #[] (.bool true)) := mkHid (fun W _ => salive W)
  have H2 : Hid (Ans w 17 #[vS s, .int .i64 x] (.tuple #[.int .i64 (lsF (gS s) (dS s) (qS s) x), .nilIface])) := mkHid (fun W hb => by have := least_pos W s x h h0 h1 a (kc he hb); rwa [show LeastE (lsF (gS s) (dS s) (qS s) x) a = .tuple #[.int .i64 (lsF (gS s) (dS s) (qS s) x), .nilIface] from if_pos (by omega)] at this)
  have H5 : Hid (Ans w 13 #[vS s] (.bool true)) := mkHid (fun W _ => legal_yes W s h)
  have k0 := lsF_ge (g := gS s) (x := x) (by omega) n2 n3 (by omega)
  have H6 : Hid (Ans w 15 #[vS s, .int .i64 (lsF (gS s) (dS s) (qS s) x)] (.int .i64 x)) := mkHid (fun W hb => by have := rbound_yes W s (lsF (gS s) (dS s) (qS s) x) h (by omega) (by omega); rwa [sb_lsF (by omega) n2 n3 (by omega)] at this)
  have H7 : Hid (Ans w 15 #[vS s, .int .i64 (lsF (gS s) (dS s) (qS s) x - 1)] (.int .i64 (x - 1))) := mkHid (fun W hb => by have := rbound_yes W s (lsF (gS s) (dS s) (qS s) x - 1) h (by omega) (by omega); rwa [sb_lsF1 n2 n3 (by omega)] at this)
  generalize lsF (gS s) (dS s) (qS s) x = V at *
  obtain ⟨V1, hV1⟩ : ∃ V1, V1 = V - 1 := ⟨_, rfl⟩
  obtain ⟨x1, hx1⟩ : ∃ x1, x1 = x - 1 := ⟨_, rfl⟩
  rw [← hV1, ← hx1] at H7
  have ev : IntKind.i64.wrap (V - 1) = V1 := by rw [hV1]; exact wfit (by omega) (by omega)
  have ex : IntKind.i64.wrap (x - 1) = x1 := by rw [hx1]; exact wfit (by omega) (by omega)
  have hx0 : 0 ≤ x := by omega
  have hV0 : 0 ≤ V := by omega
  have hVz : ¬ V = 0 := by omega
  clear h n1 n2 n3 n4 n5 k0 he hV1 hx1
  obtain ⟨k, q, t⟩ := s
  have M1 : Hid True := mkHid trivial
  have M2 : Hid True := mkHid trivial
  have M3 : Hid True := mkHid trivial
  have M4 : Hid True := mkHid trivial
  have M5 : Hid True := mkHid trivial
  go_enter Tryd.func5, Tryd.ntmps5
  go_wp2_with (first
    | (go_at_call 9; clear M1; refine (H1.out _ (ba (Below.refl _ _) _)).mono ?_; rintro e w1 ⟨rfl, b1⟩; have HB1 := mkHid (bt (ba (Below.refl _ _) _) b1); have HR1 := mkHid (new_last b1).1; have x1 : w1.cell? ⟨w.heap.size, 0, none⟩ = some (.int .i64 k) := cell_of_block (i := 0) HR1.out rfl; have y1 : w1.cell? ⟨w.heap.size, 1, none⟩ = some (.int .i64 q) := cell_of_block (i := 1) HR1.out rfl; have z1 : w1.cell? ⟨w.heap.size, 2, none⟩ = some (.int .i64 t) := cell_of_block (i := 2) HR1.out rfl; clear b1)
    | (go_at_call 17; clear M2; refine (H2.out _ HB1.out).mono ?_; rintro e w2 ⟨rfl, b2⟩; have HB2 := mkHid (bt HB1.out b2); have HR2 := mkHid (hold HR1.out b2); clear x1 y1 z1; have x2 : w2.cell? ⟨w.heap.size, 0, none⟩ = some (.int .i64 k) := cell_of_block (i := 0) HR2.out rfl; have y2 : w2.cell? ⟨w.heap.size, 1, none⟩ = some (.int .i64 q) := cell_of_block (i := 1) HR2.out rfl; have z2 : w2.cell? ⟨w.heap.size, 2, none⟩ = some (.int .i64 t) := cell_of_block (i := 2) HR2.out rfl; clear b2)
    | (go_at_call 13; clear M3; refine (H5.out _ HB2.out).mono ?_; rintro e w3 ⟨rfl, b3⟩; have HB3 := mkHid (bt HB2.out b3); have HR3 := mkHid (hold HR2.out b3); clear x2 y2 z2; have x3 : w3.cell? ⟨w.heap.size, 0, none⟩ = some (.int .i64 k) := cell_of_block (i := 0) HR3.out rfl; have y3 : w3.cell? ⟨w.heap.size, 1, none⟩ = some (.int .i64 q) := cell_of_block (i := 1) HR3.out rfl; have z3 : w3.cell? ⟨w.heap.size, 2, none⟩ = some (.int .i64 t) := cell_of_block (i := 2) HR3.out rfl; clear b3)
    | (go_at_call 15; clear M4; refine (H6.out _ HB3.out).mono ?_; rintro e w4 ⟨rfl, b4⟩; have HB4 := mkHid (bt HB3.out b4); have HR4 := mkHid (hold HR3.out b4); clear x3 y3 z3; have x4 : w4.cell? ⟨w.heap.size, 0, none⟩ = some (.int .i64 k) := cell_of_block (i := 0) HR4.out rfl; have y4 : w4.cell? ⟨w.heap.size, 1, none⟩ = some (.int .i64 q) := cell_of_block (i := 1) HR4.out rfl; have z4 : w4.cell? ⟨w.heap.size, 2, none⟩ = some (.int .i64 t) := cell_of_block (i := 2) HR4.out rfl; clear b4)
    | (go_at_call 15; clear M5; refine (H7.out _ HB4.out).mono ?_; rintro e w5 ⟨rfl, b5⟩; have HB5 := mkHid (bt HB4.out b5); have HR5 := mkHid (hold HR4.out b5); clear x4 y4 z4; have x5 : w5.cell? ⟨w.heap.size, 0, none⟩ = some (.int .i64 k) := cell_of_block (i := 0) HR5.out rfl; have y5 : w5.cell? ⟨w.heap.size, 1, none⟩ = some (.int .i64 q) := cell_of_block (i := 1) HR5.out rfl; have z5 : w5.cell? ⟨w.heap.size, 2, none⟩ = some (.int .i64 t) := cell_of_block (i := 2) HR5.out rfl; clear b5))
  go_ret
  exact ⟨rfl, HB5.out⟩
theorem leastL_any (w : World) (s : Sv) (x : Int) (a0 a1 a2 : Addr) (E0 : Err w 0 text0 a0) (E1 : Err w 1 text1 a1) (E2 : Err w 2 text2 a2) : Calls Tryd.prog 5 #[vS s, .int .i64 x] w fun e w' => e = .returned (.bool true) ∧ Below w.heap.size w w' := by
  by_cases h : okW s
  · by_cases hr : x < 0 ∨ (0 ≤ x ∧ 1099511627776 < x)
    · exact leastL_num w s x a1 h hr E1
    · by_cases hz : x = 0
      · subst hz; exact leastL_zero w s h
      · by_cases hv : 1099511627776 < lsF (gS s) (dS s) (qS s) x
        · exact leastL_over w s x a2 h (by omega) (by omega) hv E2
        · exact leastL_pos w s x a2 h (by omega) (by omega) (by omega) E2.1
  · exact leastL_no w s x a0 h E0
theorem boundsL_any (w : World) (s : Sv) (l : Int) (a0 a1 : Addr) (E0 : Err w 0 text0 a0) (E1 : Err w 1 text1 a1) : Calls Tryd.prog 3 #[vS s, .int .i64 l] w fun e w' => e = .returned (.bool true) ∧ Below w.heap.size w w' := by
  by_cases h : okW s
  · by_cases hr : l < 0 ∨ (0 ≤ l ∧ 1099511627776 < l)
    · exact bounds_num w s l a1 h hr E1
    · exact bounds_yes w s l h (by omega) (by omega)
  · exact bounds_no w s l a0 h E0
end Go.Proofs.YtldfngkooilmnaaDoor
