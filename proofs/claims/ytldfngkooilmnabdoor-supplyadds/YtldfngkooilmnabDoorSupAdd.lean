/- The law SupplyAdds. -/
import Derived.Test.YtldfngkooilmnabDoorSup7
namespace Go.Proofs.YtldfngkooilmnabDoor
open Go.ChangeShapes Go.WideShapes Go.ChangeAt Go.RowKit
set_option maxRecDepth 100000

theorem and_ex (n m : Int) (m0 : 0 ≤ m) (m1 : m ≤ 4611686018427387904) : ∃ N : Int, 0 ≤ N ∧ N ≤ m ∧ bits .and .i64 n m = N := by
  refine ⟨_, ?_, ?_, rfl⟩
  all_goals
    show _ ≤ _
    have h : bits .and .i64 n m = IntKind.i64.wrap ((BitVec.ofInt 64 n &&& BitVec.ofInt 64 m).toNat : Int) := rfl
    have h2 : (BitVec.ofInt 64 n &&& BitVec.ofInt 64 m).toNat ≤ (BitVec.ofInt 64 m).toNat := by
      rw [BitVec.toNat_and]; exact Nat.and_le_right
    have h3 : ((BitVec.ofInt 64 m).toNat : Int) = m := by rw [BitVec.toNat_ofInt]; omega
    rw [h, IntKind.wrap_i64]
    omega
theorem least_yes (w : World) (s : Sv) (x : Int) (h : okW s) (h0 : 0 ≤ x) (h1 : x ≤ 4194304) (a : Addr) (he : w.cell? ⟨1, 0, none⟩ = some (vE a)) : Calls Tryd.prog 5 #[vS s, .int .i64 x] w fun e w' => e = .returned (.tuple #[.int .i64 (lsF (gS s) (dS s) (qS s) x), .nilIface]) ∧ Below w.heap.size w w' := by
  obtain ⟨n1, n2, n3, n4, n5⟩ := h.nums
  by_cases e : x = 0
  · subst e
    rw [lsF_zero]
    exact least_zero w s h
  · have hb := lsF_bound (g := gS s) (x := x) n2 n3 (by omega) n5 h0 4194304 h1 (by omega)
    have := least_pos w s x h (by omega) (by omega) a he
    rwa [show LeastE (lsF (gS s) (dS s) (qS s) x) a = .tuple #[.int .i64 (lsF (gS s) (dS s) (qS s) x), .nilIface] from if_pos (by omega)] at this
set_option maxHeartbeats 3200000 in
theorem adds_no (w : World) (s : Sv) (a b A B : Int) (ad : Addr) (ea : bits .and .i64 a 1048575 = A) (eb : bits .and .i64 b 1048575 = B) (A0 : 0 ≤ A) (A1 : A ≤ 1048575) (B0 : 0 ≤ B) (B1 : B ≤ 1048575) (h : ¬ okW s) (he : w.cell? ⟨2, 0, none⟩ = some (vE ad)) : Calls Tryd.prog 3 #[vS s, .int .i64 a, .int .i64 b] w fun e w' => e = .returned (.bool true) ∧ Below w.heap.size w w' := by
  have H1 : Hid (Ans w 4 #[] (.bool true)) := mkHid (fun W _ => salive W)
  have HB' : ∀ l, Hid (Ans w 5 #[vS s, .int .i64 l] (.tuple #[.int .i64 0, vE ad])) := fun l => mkHid (fun W hb => least_no W s l h ad (kc he hb))
  have e1 : IntKind.i64.wrap (A + B) = A + B := wfit (by omega) (by omega)
  have H2 := HB' A
  have H3 := HB' B
  have H4 := HB' (A + B)
  have H5 : Hid (Ans w 6 #[vS s] (.bool false)) := mkHid (fun W _ => legal_no W s h)
  clear he h HB'
  obtain ⟨k, q, t⟩ := s
  have M1 : Hid True := mkHid trivial
  have M2 : Hid True := mkHid trivial
  have M3 : Hid True := mkHid trivial
  have M4 : Hid True := mkHid trivial
  have M5 : Hid True := mkHid trivial
  go_enter Tryd.func3, Tryd.ntmps3
  go_wp2_with (first
    | (go_at_call 4; clear M1; refine (H1.out _ (ba (Below.refl _ _) _)).mono ?_; rintro e w1 ⟨rfl, b1⟩; have HB1 := mkHid (bt (ba (Below.refl _ _) _) b1); have HR1 := mkHid (new_last b1).1; have x1 : w1.cell? ⟨w.heap.size, 0, none⟩ = some (.int .i64 k) := cell_of_block (i := 0) HR1.out rfl; have y1 : w1.cell? ⟨w.heap.size, 1, none⟩ = some (.int .i64 q) := cell_of_block (i := 1) HR1.out rfl; have z1 : w1.cell? ⟨w.heap.size, 2, none⟩ = some (.int .i64 t) := cell_of_block (i := 2) HR1.out rfl; clear b1)
    | (go_at_call 5; clear M2; refine (H2.out _ HB1.out).mono ?_; rintro e w2 ⟨rfl, b2⟩; have HB2 := mkHid (bt HB1.out b2); have HR2 := mkHid (hold HR1.out b2); clear x1 y1 z1; have x2 : w2.cell? ⟨w.heap.size, 0, none⟩ = some (.int .i64 k) := cell_of_block (i := 0) HR2.out rfl; have y2 : w2.cell? ⟨w.heap.size, 1, none⟩ = some (.int .i64 q) := cell_of_block (i := 1) HR2.out rfl; have z2 : w2.cell? ⟨w.heap.size, 2, none⟩ = some (.int .i64 t) := cell_of_block (i := 2) HR2.out rfl; clear b2)
    | (go_at_call 5; clear M3; refine (H3.out _ HB2.out).mono ?_; rintro e w3 ⟨rfl, b3⟩; have HB3 := mkHid (bt HB2.out b3); have HR3 := mkHid (hold HR2.out b3); clear x2 y2 z2; have x3 : w3.cell? ⟨w.heap.size, 0, none⟩ = some (.int .i64 k) := cell_of_block (i := 0) HR3.out rfl; have y3 : w3.cell? ⟨w.heap.size, 1, none⟩ = some (.int .i64 q) := cell_of_block (i := 1) HR3.out rfl; have z3 : w3.cell? ⟨w.heap.size, 2, none⟩ = some (.int .i64 t) := cell_of_block (i := 2) HR3.out rfl; clear b3)
    | (go_at_call 5; clear M4; refine (H4.out _ HB3.out).mono ?_; rintro e w4 ⟨rfl, b4⟩; have HB4 := mkHid (bt HB3.out b4); have HR4 := mkHid (hold HR3.out b4); clear x3 y3 z3; have x4 : w4.cell? ⟨w.heap.size, 0, none⟩ = some (.int .i64 k) := cell_of_block (i := 0) HR4.out rfl; have y4 : w4.cell? ⟨w.heap.size, 1, none⟩ = some (.int .i64 q) := cell_of_block (i := 1) HR4.out rfl; have z4 : w4.cell? ⟨w.heap.size, 2, none⟩ = some (.int .i64 t) := cell_of_block (i := 2) HR4.out rfl; clear b4)
    | (go_at_call 6; clear M5; refine (H5.out _ HB4.out).mono ?_; rintro e w5 ⟨rfl, b5⟩; have HB5 := mkHid (bt HB4.out b5); have HR5 := mkHid (hold HR4.out b5); clear x4 y4 z4; have x5 : w5.cell? ⟨w.heap.size, 0, none⟩ = some (.int .i64 k) := cell_of_block (i := 0) HR5.out rfl; have y5 : w5.cell? ⟨w.heap.size, 1, none⟩ = some (.int .i64 q) := cell_of_block (i := 1) HR5.out rfl; have z5 : w5.cell? ⟨w.heap.size, 2, none⟩ = some (.int .i64 t) := cell_of_block (i := 2) HR5.out rfl; clear b5))
  go_ret
  exact ⟨rfl, HB5.out⟩
set_option maxHeartbeats 3200000 in
theorem adds_yes (w : World) (s : Sv) (a b A B : Int) (ad : Addr) (ea : bits .and .i64 a 1048575 = A) (eb : bits .and .i64 b 1048575 = B) (A0 : 0 ≤ A) (A1 : A ≤ 1048575) (B0 : 0 ≤ B) (B1 : B ≤ 1048575) (h : okW s) (he : w.cell? ⟨1, 0, none⟩ = some (vE ad)) : Calls Tryd.prog 3 #[vS s, .int .i64 a, .int .i64 b] w fun e w' => e = .returned (.bool true) ∧ Below w.heap.size w w' := by
  obtain ⟨n1, n2, n3, n4, n5⟩ := h.nums
  have H1 : Hid (Ans w 4 #[] (.bool true)) := mkHid (fun W _ => salive W)
  have HB' : ∀ l, 0 ≤ l → l ≤ 4194304 → Ans w 5 #[vS s, .int .i64 l] (.tuple #[.int .i64 (lsF (gS s) (dS s) (qS s) l), .nilIface]) := fun l l0 l1 W hb => least_yes W s l h l0 l1 ad (kc he hb)
  have e1 : IntKind.i64.wrap (A + B) = A + B := wfit (by omega) (by omega)
  have H2 := mkHid (HB' A (by omega) (by omega))
  have H3 := mkHid (HB' B (by omega) (by omega))
  have H4 := mkHid (HB' (A + B) (by omega) (by omega))
  have k1 := lsF_both (g := gS s) (x := A) (y := B) (by omega) n2 n3 A0 B0
  have k2 := lsF_mono (g := gS s) (x := A) (y := A + B) (by omega) n2 n3 A0 (by omega)
  have k3 := lsF_mono (g := gS s) (x := B) (y := A + B) (by omega) n2 n3 B0 (by omega)
  have k4 := lsF_ge (g := gS s) (x := A + B) (by omega) n2 n3 (by omega)
  have k5 := lsF_bound (g := gS s) (x := A) n2 n3 (by omega) n5 A0 1048575 A1 (by omega)
  have k6 := lsF_bound (g := gS s) (x := B) n2 n3 (by omega) n5 B0 1048575 B1 (by omega)
  have k7 := lsF_ge (g := gS s) (x := A) (by omega) n2 n3 A0
  have k8 := lsF_ge (g := gS s) (x := B) (by omega) n2 n3 B0
  clear HB' h he
  obtain ⟨k, q, t⟩ := s
  generalize lsF (gS (k, q, t)) (dS (k, q, t)) (qS (k, q, t)) A = X at *
  generalize lsF (gS (k, q, t)) (dS (k, q, t)) (qS (k, q, t)) B = Y at *
  generalize lsF (gS (k, q, t)) (dS (k, q, t)) (qS (k, q, t)) (A + B) = Z at *
  have e2 : IntKind.i64.wrap (X + Y) = X + Y := wfit (by omega) (by omega)
  clear n1 n2 n3 n4 n5 k5 k6 k7 k8
  have M1 : Hid True := mkHid trivial
  have M2 : Hid True := mkHid trivial
  have M3 : Hid True := mkHid trivial
  have M4 : Hid True := mkHid trivial
  go_enter Tryd.func3, Tryd.ntmps3
  go_wp2_with (first
    | (go_at_call 4; clear M1; refine (H1.out _ (ba (Below.refl _ _) _)).mono ?_; rintro e w1 ⟨rfl, b1⟩; have HB1 := mkHid (bt (ba (Below.refl _ _) _) b1); have HR1 := mkHid (new_last b1).1; have x1 : w1.cell? ⟨w.heap.size, 0, none⟩ = some (.int .i64 k) := cell_of_block (i := 0) HR1.out rfl; have y1 : w1.cell? ⟨w.heap.size, 1, none⟩ = some (.int .i64 q) := cell_of_block (i := 1) HR1.out rfl; have z1 : w1.cell? ⟨w.heap.size, 2, none⟩ = some (.int .i64 t) := cell_of_block (i := 2) HR1.out rfl; clear b1)
    | (go_at_call 5; clear M2; refine (H2.out _ HB1.out).mono ?_; rintro e w2 ⟨rfl, b2⟩; have HB2 := mkHid (bt HB1.out b2); have HR2 := mkHid (hold HR1.out b2); clear x1 y1 z1; have x2 : w2.cell? ⟨w.heap.size, 0, none⟩ = some (.int .i64 k) := cell_of_block (i := 0) HR2.out rfl; have y2 : w2.cell? ⟨w.heap.size, 1, none⟩ = some (.int .i64 q) := cell_of_block (i := 1) HR2.out rfl; have z2 : w2.cell? ⟨w.heap.size, 2, none⟩ = some (.int .i64 t) := cell_of_block (i := 2) HR2.out rfl; clear b2)
    | (go_at_call 5; clear M3; refine (H3.out _ HB2.out).mono ?_; rintro e w3 ⟨rfl, b3⟩; have HB3 := mkHid (bt HB2.out b3); have HR3 := mkHid (hold HR2.out b3); clear x2 y2 z2; have x3 : w3.cell? ⟨w.heap.size, 0, none⟩ = some (.int .i64 k) := cell_of_block (i := 0) HR3.out rfl; have y3 : w3.cell? ⟨w.heap.size, 1, none⟩ = some (.int .i64 q) := cell_of_block (i := 1) HR3.out rfl; have z3 : w3.cell? ⟨w.heap.size, 2, none⟩ = some (.int .i64 t) := cell_of_block (i := 2) HR3.out rfl; clear b3)
    | (go_at_call 5; clear M4; refine (H4.out _ HB3.out).mono ?_; rintro e w4 ⟨rfl, b4⟩; have HB4 := mkHid (bt HB3.out b4); have HR4 := mkHid (hold HR3.out b4); clear x3 y3 z3; have x4 : w4.cell? ⟨w.heap.size, 0, none⟩ = some (.int .i64 k) := cell_of_block (i := 0) HR4.out rfl; have y4 : w4.cell? ⟨w.heap.size, 1, none⟩ = some (.int .i64 q) := cell_of_block (i := 1) HR4.out rfl; have z4 : w4.cell? ⟨w.heap.size, 2, none⟩ = some (.int .i64 t) := cell_of_block (i := 2) HR4.out rfl; clear b4))
  go_ret
  exact ⟨rfl, HB4.out⟩
theorem addsL_any (w : World) (s : Sv) (a b : Int) (a0 a2 : Addr) (E0 : Err w 2 text2 a0) (E2 : Err w 1 text1 a2) : Calls Tryd.prog 3 #[vS s, .int .i64 a, .int .i64 b] w fun e w' => e = .returned (.bool true) ∧ Below w.heap.size w w' := by
  obtain ⟨A, A0, A1, ea⟩ := and_ex a 1048575 (by omega) (by omega)
  obtain ⟨B, B0, B1, eb⟩ := and_ex b 1048575 (by omega) (by omega)
  by_cases h : okW s
  · exact adds_yes w s a b A B a2 ea eb A0 A1 B0 B1 h E2.1
  · exact adds_no w s a b A B a0 ea eb A0 A1 B0 B1 h E0.1
end Go.Proofs.YtldfngkooilmnabDoor
