/- The laws SupplyGrows, SupplyOrders, SupplyPeriods. -/
import Derived.Test.YtldfngkooilmnaaDoorSup7
import Derived.Test.YtldfngkooilmnaaDoorErrNum10
namespace Go.Proofs.YtldfngkooilmnaaDoor
open Go.ChangeShapes Go.WideShapes Go.ChangeAt Go.RowKit
set_option maxRecDepth 100000

theorem and_ex (n m : Int) (m0 : 0 ≤ m) (m1 : m ≤ 4611686018427387904) : ∃ N : Int, 0 ≤ N ∧ N ≤ m ∧ bits .and .i64 n m = N := by
  refine ⟨_, ?_, ?_, rfl⟩
  all_goals
    show _ ≤ _
    have h : bits .and .i64 n m = IntKind.i64.wrap ((BitVec.ofInt 64 n &&& BitVec.ofInt 64 m).toNat : Int) := rfl
    have h2 : (BitVec.ofInt 64 n &&& BitVec.ofInt 64 m).toNat ≤ (BitVec.ofInt 64 m).toNat := by
      rw [BitVec.toNat_and]; exact Nat.and_le_right
    have h3 : ((BitVec.ofInt 64 m).toNat : Int) = m := by rw [BitVec.toNat_ofInt]; omega
    rw [h, IntKind.wrap_i64]
    omega
set_option maxHeartbeats 3200000 in
theorem grows_no (w : World) (s : Sv) (a b A B : Int) (ad : Addr) (ea : bits .and .i64 a 274877906943 = A) (eb : bits .and .i64 b 274877906943 = B) (A0 : 0 ≤ A) (A1 : A ≤ 274877906943) (B0 : 0 ≤ B) (B1 : B ≤ 274877906943) (e : Nat → Addr) (h : ¬ okW s) (hE : Errs w e) (E0 : Err w 0 text0 ad) (hea : e 0 = ad) : Calls Tryd.prog 6 #[vS s, .int .i64 a, .int .i64 b] w fun e w' => e = .returned (.bool true) ∧ Below w.heap.size w w' := by
  have he := E0.1
  have H1 : Hid (Ans w 9 #[] (.bool true)) := mkHid (fun W _ => salive W)
  have HB' : ∀ l, Hid (Ans w 10 #[vS s, .int .i64 l] (.tuple #[.int .i64 0, vE ad])) := fun l => mkHid (fun W hb => bound_no W s l h ad (kc he hb))
  have e1 : IntKind.i64.wrap (A + B) = A + B := wfit (by omega) (by omega)
  have e2 : IntKind.i64.wrap (A + 1) = A + 1 := wfit (by omega) (by omega)
  have H2 := HB' A
  have H3 := HB' B
  have H4 := HB' (A + B)
  have H5 := HB' (A + 1)
  have H6 : Hid (Ans w 12 #[vS s] (.tuple #[.int .i64 0, .int .i64 0, .int .i64 0, vE ad])) := mkHid (fun W hb => slope_is W s 0 0 0 _ small_no (shapeIs_no W s h ad (kc he hb)))
  have H7 : Hid (Ans w 18 #[vE ad] (.int .i64 10)) := mkHid (fun W hb => by have := errnum_server W e (hE.late hb); rwa [hea] at this)
  clear he E0 h HB' hE hea
  obtain ⟨k, q, t⟩ := s
  have M1 : Hid True := mkHid trivial
  have M2 : Hid True := mkHid trivial
  have M3 : Hid True := mkHid trivial
  have M4 : Hid True := mkHid trivial
  have M5 : Hid True := mkHid trivial
  have M6 : Hid True := mkHid trivial
  have M7 : Hid True := mkHid trivial
  have M8 : Hid True := mkHid trivial
  have M9 : Hid True := mkHid trivial
  have M10 : Hid True := mkHid trivial
  have M11 : Hid True := mkHid trivial
  have M12 : Hid True := mkHid trivial
  have M13 : Hid True := mkHid trivial
  have M14 : Hid True := mkHid trivial
  go_enter Tryd.func6, Tryd.ntmps6
  go_wp2_with (first
    | (go_at_call 9; clear M1; refine (H1.out _ (ba (Below.refl _ _) _)).mono ?_; rintro e w1 ⟨rfl, b1⟩; have HB1 := mkHid (bt (ba (Below.refl _ _) _) b1); have HR1 := mkHid (new_last b1).1; have x1 : w1.cell? ⟨w.heap.size, 0, none⟩ = some (.int .i64 k) := cell_of_block (i := 0) HR1.out rfl; have y1 : w1.cell? ⟨w.heap.size, 1, none⟩ = some (.int .i64 q) := cell_of_block (i := 1) HR1.out rfl; have z1 : w1.cell? ⟨w.heap.size, 2, none⟩ = some (.int .i64 t) := cell_of_block (i := 2) HR1.out rfl; clear b1)
    | (go_at_call 10; clear M2; refine (H2.out _ HB1.out).mono ?_; rintro e w2 ⟨rfl, b2⟩; have HB2 := mkHid (bt HB1.out b2); have HR2 := mkHid (hold HR1.out b2); clear x1 y1 z1; have x2 : w2.cell? ⟨w.heap.size, 0, none⟩ = some (.int .i64 k) := cell_of_block (i := 0) HR2.out rfl; have y2 : w2.cell? ⟨w.heap.size, 1, none⟩ = some (.int .i64 q) := cell_of_block (i := 1) HR2.out rfl; have z2 : w2.cell? ⟨w.heap.size, 2, none⟩ = some (.int .i64 t) := cell_of_block (i := 2) HR2.out rfl; clear b2)
    | (go_at_call 10; clear M3; refine (H3.out _ HB2.out).mono ?_; rintro e w3 ⟨rfl, b3⟩; have HB3 := mkHid (bt HB2.out b3); have HR3 := mkHid (hold HR2.out b3); clear x2 y2 z2; have x3 : w3.cell? ⟨w.heap.size, 0, none⟩ = some (.int .i64 k) := cell_of_block (i := 0) HR3.out rfl; have y3 : w3.cell? ⟨w.heap.size, 1, none⟩ = some (.int .i64 q) := cell_of_block (i := 1) HR3.out rfl; have z3 : w3.cell? ⟨w.heap.size, 2, none⟩ = some (.int .i64 t) := cell_of_block (i := 2) HR3.out rfl; clear b3)
    | (go_at_call 10; clear M4; refine (H4.out _ HB3.out).mono ?_; rintro e w4 ⟨rfl, b4⟩; have HB4 := mkHid (bt HB3.out b4); have HR4 := mkHid (hold HR3.out b4); clear x3 y3 z3; have x4 : w4.cell? ⟨w.heap.size, 0, none⟩ = some (.int .i64 k) := cell_of_block (i := 0) HR4.out rfl; have y4 : w4.cell? ⟨w.heap.size, 1, none⟩ = some (.int .i64 q) := cell_of_block (i := 1) HR4.out rfl; have z4 : w4.cell? ⟨w.heap.size, 2, none⟩ = some (.int .i64 t) := cell_of_block (i := 2) HR4.out rfl; clear b4)
    | (go_at_call 10; clear M5; refine (H5.out _ HB4.out).mono ?_; rintro e w5 ⟨rfl, b5⟩; have HB5 := mkHid (bt HB4.out b5); have HR5 := mkHid (hold HR4.out b5); clear x4 y4 z4; have x5 : w5.cell? ⟨w.heap.size, 0, none⟩ = some (.int .i64 k) := cell_of_block (i := 0) HR5.out rfl; have y5 : w5.cell? ⟨w.heap.size, 1, none⟩ = some (.int .i64 q) := cell_of_block (i := 1) HR5.out rfl; have z5 : w5.cell? ⟨w.heap.size, 2, none⟩ = some (.int .i64 t) := cell_of_block (i := 2) HR5.out rfl; clear b5)
    | (go_at_call 12; clear M6; refine (H6.out _ HB5.out).mono ?_; rintro e w6 ⟨rfl, b6⟩; have HB6 := mkHid (bt HB5.out b6); have HR6 := mkHid (hold HR5.out b6); clear x5 y5 z5; have x6 : w6.cell? ⟨w.heap.size, 0, none⟩ = some (.int .i64 k) := cell_of_block (i := 0) HR6.out rfl; have y6 : w6.cell? ⟨w.heap.size, 1, none⟩ = some (.int .i64 q) := cell_of_block (i := 1) HR6.out rfl; have z6 : w6.cell? ⟨w.heap.size, 2, none⟩ = some (.int .i64 t) := cell_of_block (i := 2) HR6.out rfl; clear b6)
    | (go_at_call 18; clear M7; refine (H7.out _ HB6.out).mono ?_; rintro e w7 ⟨rfl, b7⟩; have HB7 := mkHid (bt HB6.out b7); have HR7 := mkHid (hold HR6.out b7); clear x6 y6 z6; have x7 : w7.cell? ⟨w.heap.size, 0, none⟩ = some (.int .i64 k) := cell_of_block (i := 0) HR7.out rfl; have y7 : w7.cell? ⟨w.heap.size, 1, none⟩ = some (.int .i64 q) := cell_of_block (i := 1) HR7.out rfl; have z7 : w7.cell? ⟨w.heap.size, 2, none⟩ = some (.int .i64 t) := cell_of_block (i := 2) HR7.out rfl; clear b7)
    | (go_at_call 18; clear M8; refine (H7.out _ HB7.out).mono ?_; rintro e w8 ⟨rfl, b8⟩; have HB8 := mkHid (bt HB7.out b8); have HR8 := mkHid (hold HR7.out b8); clear x7 y7 z7; have x8 : w8.cell? ⟨w.heap.size, 0, none⟩ = some (.int .i64 k) := cell_of_block (i := 0) HR8.out rfl; have y8 : w8.cell? ⟨w.heap.size, 1, none⟩ = some (.int .i64 q) := cell_of_block (i := 1) HR8.out rfl; have z8 : w8.cell? ⟨w.heap.size, 2, none⟩ = some (.int .i64 t) := cell_of_block (i := 2) HR8.out rfl; clear b8)
    | (go_at_call 18; clear M9; refine (H7.out _ HB8.out).mono ?_; rintro e w9 ⟨rfl, b9⟩; have HB9 := mkHid (bt HB8.out b9); have HR9 := mkHid (hold HR8.out b9); clear x8 y8 z8; have x9 : w9.cell? ⟨w.heap.size, 0, none⟩ = some (.int .i64 k) := cell_of_block (i := 0) HR9.out rfl; have y9 : w9.cell? ⟨w.heap.size, 1, none⟩ = some (.int .i64 q) := cell_of_block (i := 1) HR9.out rfl; have z9 : w9.cell? ⟨w.heap.size, 2, none⟩ = some (.int .i64 t) := cell_of_block (i := 2) HR9.out rfl; clear b9)
    | (go_at_call 18; clear M10; refine (H7.out _ HB9.out).mono ?_; rintro e w10 ⟨rfl, b10⟩; have HB10 := mkHid (bt HB9.out b10); have HR10 := mkHid (hold HR9.out b10); clear x9 y9 z9; have x10 : w10.cell? ⟨w.heap.size, 0, none⟩ = some (.int .i64 k) := cell_of_block (i := 0) HR10.out rfl; have y10 : w10.cell? ⟨w.heap.size, 1, none⟩ = some (.int .i64 q) := cell_of_block (i := 1) HR10.out rfl; have z10 : w10.cell? ⟨w.heap.size, 2, none⟩ = some (.int .i64 t) := cell_of_block (i := 2) HR10.out rfl; clear b10)
    | (go_at_call 18; clear M11; refine (H7.out _ HB10.out).mono ?_; rintro e w11 ⟨rfl, b11⟩; have HB11 := mkHid (bt HB10.out b11); have HR11 := mkHid (hold HR10.out b11); clear x10 y10 z10; have x11 : w11.cell? ⟨w.heap.size, 0, none⟩ = some (.int .i64 k) := cell_of_block (i := 0) HR11.out rfl; have y11 : w11.cell? ⟨w.heap.size, 1, none⟩ = some (.int .i64 q) := cell_of_block (i := 1) HR11.out rfl; have z11 : w11.cell? ⟨w.heap.size, 2, none⟩ = some (.int .i64 t) := cell_of_block (i := 2) HR11.out rfl; clear b11)
    | (go_at_call 18; clear M12; refine (H7.out _ HB11.out).mono ?_; rintro e w12 ⟨rfl, b12⟩; have HB12 := mkHid (bt HB11.out b12); have HR12 := mkHid (hold HR11.out b12); clear x11 y11 z11; have x12 : w12.cell? ⟨w.heap.size, 0, none⟩ = some (.int .i64 k) := cell_of_block (i := 0) HR12.out rfl; have y12 : w12.cell? ⟨w.heap.size, 1, none⟩ = some (.int .i64 q) := cell_of_block (i := 1) HR12.out rfl; have z12 : w12.cell? ⟨w.heap.size, 2, none⟩ = some (.int .i64 t) := cell_of_block (i := 2) HR12.out rfl; clear b12)
    | (go_at_call 18; clear M13; refine (H7.out _ HB12.out).mono ?_; rintro e w13 ⟨rfl, b13⟩; have HB13 := mkHid (bt HB12.out b13); have HR13 := mkHid (hold HR12.out b13); clear x12 y12 z12; have x13 : w13.cell? ⟨w.heap.size, 0, none⟩ = some (.int .i64 k) := cell_of_block (i := 0) HR13.out rfl; have y13 : w13.cell? ⟨w.heap.size, 1, none⟩ = some (.int .i64 q) := cell_of_block (i := 1) HR13.out rfl; have z13 : w13.cell? ⟨w.heap.size, 2, none⟩ = some (.int .i64 t) := cell_of_block (i := 2) HR13.out rfl; clear b13)
    | (go_at_call 18; clear M14; refine (H7.out _ HB13.out).mono ?_; rintro e w14 ⟨rfl, b14⟩; have HB14 := mkHid (bt HB13.out b14); have HR14 := mkHid (hold HR13.out b14); clear x13 y13 z13; have x14 : w14.cell? ⟨w.heap.size, 0, none⟩ = some (.int .i64 k) := cell_of_block (i := 0) HR14.out rfl; have y14 : w14.cell? ⟨w.heap.size, 1, none⟩ = some (.int .i64 q) := cell_of_block (i := 1) HR14.out rfl; have z14 : w14.cell? ⟨w.heap.size, 2, none⟩ = some (.int .i64 t) := cell_of_block (i := 2) HR14.out rfl; clear b14))
  go_ret
  exact ⟨rfl, HB14.out⟩
set_option maxHeartbeats 6400000 in
theorem grows_yes (w : World) (s : Sv) (a b A B : Int) (ea : bits .and .i64 a 274877906943 = A) (eb : bits .and .i64 b 274877906943 = B) (A0 : 0 ≤ A) (A1 : A ≤ 274877906943) (B0 : 0 ≤ B) (B1 : B ≤ 274877906943) (h : okW s) : Calls Tryd.prog 6 #[vS s, .int .i64 a, .int .i64 b] w fun e w' => e = .returned (.bool true) ∧ Below w.heap.size w w' := by
  obtain ⟨n1, n2, n3, n4, n5⟩ := h.nums
  have H1 : Hid (Ans w 9 #[] (.bool true)) := mkHid (fun W _ => salive W)
  have HB' : ∀ l, 0 ≤ l → l ≤ 1099511627776 → Ans w 10 #[vS s, .int .i64 l] (.tuple #[.int .i64 (sb (gS s) (dS s) (qS s) l), .nilIface]) := fun l l0 l1 W hb => bound_yes W s l h l0 l1
  have HS : Hid (Ans w 12 #[vS s] (.tuple #[.int .i64 (qS s), .int .i64 (dS s + qS s), .int .i64 (gS s + dS s), .nilIface])) := mkHid (fun W hb => slope_is W s _ _ _ _ (small_yes h) (shapeIs_yes W s h))
  have e1 : IntKind.i64.wrap (A + B) = A + B := wfit (by omega) (by omega)
  have e2 : IntKind.i64.wrap (A + 1) = A + 1 := wfit (by omega) (by omega)
  have H2 := mkHid (HB' A (by omega) (by omega))
  have H3 := mkHid (HB' B (by omega) (by omega))
  have H4 := mkHid (HB' (A + B) (by omega) (by omega))
  have H5 := mkHid (HB' (A + 1) (by omega) (by omega))
  have k1 := sb_step (g := gS s) (l := A) n2 n3
  have k2 := sb_both (a := A) (b := B) n1 n2 n3 A0 B0
  have k3 := sb_line (g := gS s) (a := A) n2 n3
  have k4 := sb_nonneg (g := gS s) (l := A) (by omega) n2 n3
  have k5 := sb_room (g := gS s) (l := A) (by omega) n2 n3 A0
  have k6 := sb_nonneg (g := gS s) (l := B) (by omega) n2 n3
  have k7 := sb_room (g := gS s) (l := B) (by omega) n2 n3 B0
  have k8 := sb_room (g := gS s) (l := A + 1) (by omega) n2 n3 (by omega)
  clear HB' h
  obtain ⟨k, q, t⟩ := s
  generalize gS (k, q, t) = G at *
  generalize dS (k, q, t) = D at *
  generalize qS (k, q, t) = Q at *
  generalize sbAt G D Q A = u at *
  generalize sb G D Q A = X at *
  generalize sb G D Q B = Y at *
  generalize sb G D Q (A + B) = Z at *
  generalize sb G D Q (A + 1) = N at *
  obtain ⟨P, hP⟩ : ∃ P, P = D + Q := ⟨_, rfl⟩
  obtain ⟨S, hS⟩ : ∃ S, S = G + D := ⟨_, rfl⟩
  rw [← hP, ← hS] at HS k3
  have hP0 : 1 ≤ P := by omega
  have hP2 : P ≤ 256 := by omega
  have hS0 : 0 ≤ S := by omega
  have hS2 : S ≤ 512 := by omega
  have hu : 0 ≤ N - X ∧ N - X ≤ 1 := by cases u <;> simp at k1 <;> omega
  obtain ⟨U, hU⟩ : ∃ U, U = N - X := ⟨_, rfl⟩
  have e3 : IntKind.i64.wrap (N - X) = U := by rw [hU]; exact wfit (by omega) (by omega)
  obtain ⟨V, hV⟩ : ∃ V, V = X + Y := ⟨_, rfl⟩
  have e4 : IntKind.i64.wrap (X + Y) = V := by rw [hV]; exact wfit (by omega) (by omega)
  obtain ⟨F, hF⟩ : ∃ F, F = A - S := ⟨_, rfl⟩
  have e5 : IntKind.i64.wrap (A - S) = F := by rw [hF]; exact wfit (by omega) (by omega)
  obtain ⟨J, hJ⟩ : ∃ J, J = X * P := ⟨_, rfl⟩
  have j0 : 0 ≤ J := by rw [hJ]; exact Int.mul_nonneg (by omega) (by omega)
  have j1 : J ≤ 274877906943 * 256 := by rw [hJ]; exact Int.mul_le_mul (by omega) (by omega) (by omega) (by omega)
  have e6 : IntKind.i64.wrap (X * P) = J := by rw [hJ] at j0 j1 ⊢; exact wfit (by omega) (by omega)
  obtain ⟨L, hL⟩ : ∃ L, L = Q * F := ⟨_, rfl⟩
  have l0 : L ≤ 256 * 274877906943 := by
    rw [hL]
    by_cases hf : 0 ≤ F
    · exact Int.mul_le_mul (by omega) (by omega) hf (by omega)
    · have := Int.mul_nonneg (show 0 ≤ Q by omega) (show 0 ≤ -F by omega)
      rw [Int.mul_neg] at this; omega
  have l1 : -(256 * 512) ≤ L := by
    rw [hL]
    by_cases hf : 0 ≤ F
    · have := Int.mul_nonneg (show 0 ≤ Q by omega) hf; omega
    · have := Int.mul_le_mul (show Q ≤ 256 by omega) (show -F ≤ 512 by omega) (by omega) (by omega)
      rw [Int.mul_neg] at this; omega
  have e7 : IntKind.i64.wrap (Q * F) = L := by rw [hL] at l0 l1 ⊢; exact wfit (by omega) (by omega)
  have f1 : 0 ≤ U := by omega
  have f2 : U ≤ 1 := by omega
  have f3 : V ≤ Z := by omega
  have f4 : L ≤ J := by rw [hL, hF, hJ]; exact k3
  have f5 : ¬ P < 1 := by omega
  clear k1 k2 k3 k4 k5 k6 k7 k8 hu hU hV hF hJ hL j0 j1 l0 l1 hP hS n1 n2 n3 n4 n5 hS0 hS2 hP2
  have M1 : Hid True := mkHid trivial
  have M2 : Hid True := mkHid trivial
  have M3 : Hid True := mkHid trivial
  have M4 : Hid True := mkHid trivial
  have M5 : Hid True := mkHid trivial
  have M6 : Hid True := mkHid trivial
  go_enter Tryd.func6, Tryd.ntmps6
  go_wp2_with (first
    | (go_at_call 9; clear M1; refine (H1.out _ (ba (Below.refl _ _) _)).mono ?_; rintro e w1 ⟨rfl, b1⟩; have HB1 := mkHid (bt (ba (Below.refl _ _) _) b1); have HR1 := mkHid (new_last b1).1; have x1 : w1.cell? ⟨w.heap.size, 0, none⟩ = some (.int .i64 k) := cell_of_block (i := 0) HR1.out rfl; have y1 : w1.cell? ⟨w.heap.size, 1, none⟩ = some (.int .i64 q) := cell_of_block (i := 1) HR1.out rfl; have z1 : w1.cell? ⟨w.heap.size, 2, none⟩ = some (.int .i64 t) := cell_of_block (i := 2) HR1.out rfl; clear b1)
    | (go_at_call 10; clear M2; refine (H2.out _ HB1.out).mono ?_; rintro e w2 ⟨rfl, b2⟩; have HB2 := mkHid (bt HB1.out b2); have HR2 := mkHid (hold HR1.out b2); clear x1 y1 z1; have x2 : w2.cell? ⟨w.heap.size, 0, none⟩ = some (.int .i64 k) := cell_of_block (i := 0) HR2.out rfl; have y2 : w2.cell? ⟨w.heap.size, 1, none⟩ = some (.int .i64 q) := cell_of_block (i := 1) HR2.out rfl; have z2 : w2.cell? ⟨w.heap.size, 2, none⟩ = some (.int .i64 t) := cell_of_block (i := 2) HR2.out rfl; clear b2)
    | (go_at_call 10; clear M3; refine (H3.out _ HB2.out).mono ?_; rintro e w3 ⟨rfl, b3⟩; have HB3 := mkHid (bt HB2.out b3); have HR3 := mkHid (hold HR2.out b3); clear x2 y2 z2; have x3 : w3.cell? ⟨w.heap.size, 0, none⟩ = some (.int .i64 k) := cell_of_block (i := 0) HR3.out rfl; have y3 : w3.cell? ⟨w.heap.size, 1, none⟩ = some (.int .i64 q) := cell_of_block (i := 1) HR3.out rfl; have z3 : w3.cell? ⟨w.heap.size, 2, none⟩ = some (.int .i64 t) := cell_of_block (i := 2) HR3.out rfl; clear b3)
    | (go_at_call 10; clear M4; refine (H4.out _ HB3.out).mono ?_; rintro e w4 ⟨rfl, b4⟩; have HB4 := mkHid (bt HB3.out b4); have HR4 := mkHid (hold HR3.out b4); clear x3 y3 z3; have x4 : w4.cell? ⟨w.heap.size, 0, none⟩ = some (.int .i64 k) := cell_of_block (i := 0) HR4.out rfl; have y4 : w4.cell? ⟨w.heap.size, 1, none⟩ = some (.int .i64 q) := cell_of_block (i := 1) HR4.out rfl; have z4 : w4.cell? ⟨w.heap.size, 2, none⟩ = some (.int .i64 t) := cell_of_block (i := 2) HR4.out rfl; clear b4)
    | (go_at_call 10; clear M5; refine (H5.out _ HB4.out).mono ?_; rintro e w5 ⟨rfl, b5⟩; have HB5 := mkHid (bt HB4.out b5); have HR5 := mkHid (hold HR4.out b5); clear x4 y4 z4; have x5 : w5.cell? ⟨w.heap.size, 0, none⟩ = some (.int .i64 k) := cell_of_block (i := 0) HR5.out rfl; have y5 : w5.cell? ⟨w.heap.size, 1, none⟩ = some (.int .i64 q) := cell_of_block (i := 1) HR5.out rfl; have z5 : w5.cell? ⟨w.heap.size, 2, none⟩ = some (.int .i64 t) := cell_of_block (i := 2) HR5.out rfl; clear b5)
    | (go_at_call 12; clear M6; refine (HS.out _ HB5.out).mono ?_; rintro e w6 ⟨rfl, b6⟩; have HB6 := mkHid (bt HB5.out b6); have HR6 := mkHid (hold HR5.out b6); clear x5 y5 z5; have x6 : w6.cell? ⟨w.heap.size, 0, none⟩ = some (.int .i64 k) := cell_of_block (i := 0) HR6.out rfl; have y6 : w6.cell? ⟨w.heap.size, 1, none⟩ = some (.int .i64 q) := cell_of_block (i := 1) HR6.out rfl; have z6 : w6.cell? ⟨w.heap.size, 2, none⟩ = some (.int .i64 t) := cell_of_block (i := 2) HR6.out rfl; clear b6))
  go_ret
  exact ⟨rfl, HB6.out⟩
theorem growsL_any (w : World) (s : Sv) (a b : Int) (e : Nat → Addr) (hE : Errs w e) (E0 : Err w 0 text0 (e 0)) : Calls Tryd.prog 6 #[vS s, .int .i64 a, .int .i64 b] w fun e w' => e = .returned (.bool true) ∧ Below w.heap.size w w' := by
  obtain ⟨A, A0, A1, ea⟩ := and_ex a 274877906943 (by omega) (by omega)
  obtain ⟨B, B0, B1, eb⟩ := and_ex b 274877906943 (by omega) (by omega)
  by_cases h : okW s
  · exact grows_yes w s a b A B ea eb A0 A1 B0 B1 h
  · exact grows_no w s a b A B _ ea eb A0 A1 B0 B1 e h hE E0 rfl
end Go.Proofs.YtldfngkooilmnaaDoor
