/- The laws DemandSplits and DemandPeriods. -/
import Derived.Test.YtilnchlnlnpkfaaDoorDm7
namespace Go.Proofs.YtilnchlnlnpkfaaDoor
open Go.ChangeShapes Go.WideShapes Go.ChangeAt Go.RowKit
set_option maxRecDepth 100000
set_option maxRecDepth 100000

theorem cell_of_block {w : World} {p i : Nat} {c : Array Value} {t : TypeId} {v : Value} (h : w.heap[p]? = some (.cells c t (0, 0))) (hi : c[i]? = some v) : w.cell? ⟨p, i, none⟩ = some v := by
  rw [cell_of_row w p i c t (0, 0) h]; exact hi
theorem new_last {w w3 : World} {o : Obj} (h : Below (w.alloc o).heap.size (w.alloc o) w3) : w3.heap[w.heap.size]? = some o ∧ Below w.heap.size w w3 := by
  have hz : (w.alloc o).heap.size = w.heap.size + 1 := by simp
  refine ⟨by rw [h.block _ (by omega)]; exact heap_alloc_new w o, ((Below.refl _ w).alloc (Nat.le_refl _) o).trans (h.mono (by omega))⟩
/-- What a call answers in every memory above w: v, and only new memory is made. -/
def Ans (w : World) (f : FuncId) (args : Array Value) (v : Value) : Prop := ∀ W, Below w.heap.size w W → Calls Tryd.prog f args W fun e w' => e = .returned v ∧ Below W.heap.size W w'
theorem and_ex (n m : Int) (m0 : 0 ≤ m) (m1 : m ≤ 4611686018427387904) : ∃ N : Int, 0 ≤ N ∧ N ≤ m ∧ bits .and .i64 n m = N := by
  refine ⟨_, ?_, ?_, rfl⟩
  all_goals
    show _ ≤ _
    have h : bits .and .i64 n m = IntKind.i64.wrap ((BitVec.ofInt 64 n &&& BitVec.ofInt 64 m).toNat : Int) := rfl
    have h2 : (BitVec.ofInt 64 n &&& BitVec.ofInt 64 m).toNat ≤ (BitVec.ofInt 64 m).toNat := by
      rw [BitVec.toNat_and]; exact Nat.and_le_right
    have h3 : ((BitVec.ofInt 64 m).toNat : Int) = m := by rw [BitVec.toNat_ofInt]; omega
    rw [h, IntKind.wrap_i64]
    omega
theorem scd_no {s : Sv} (h : ¬ okS s) (l : Int) : scd [s] l = 10 := by rw [scd_one, bS_false h]; rfl
theorem scd_yes {s : Sv} (h : okS s) {l : Int} (l0 : 0 ≤ l) (l1 : l ≤ 1099511627776) : scd [s] l = 0 := by
  rw [scd_one, bS_true h]
  rcases lcd_cases l with ⟨e, hl⟩ | ⟨e, _⟩
  · omega
  · exact e
theorem scd_num {s : Sv} (h : okS s) {l : Int} (hl : l < 0 ∨ (0 ≤ l ∧ 1099511627776 < l)) : scd [s] l = 1 := by
  rw [scd_one, bS_true h]
  rcases lcd_cases l with ⟨e, _⟩ | ⟨e, l0, l1⟩
  · exact e
  · omega
theorem sdemA_no (w : World) (s : Sv) (l : Int) (a : Nat → Addr) (E : Er3 w a) (h : ¬ okS s) : Ans w 17 #[vS s, .int .i64 l] (.tuple #[.int .i64 0, vE (a 0)]) := fun W hb => by
  have := one_sdem W s l a (E.late hb)
  rwa [scd_no h] at this
theorem sdemA_yes (w : World) (s : Sv) (l : Int) (a : Nat → Addr) (E : Er3 w a) (h : okS s) (l0 : 0 ≤ l) (l1 : l ≤ 1099511627776) : Ans w 17 #[vS s, .int .i64 l] (.tuple #[.int .i64 (sdem s l), .nilIface]) := fun W hb => by
  have := one_sdem W s l a (E.late hb)
  rwa [scd_yes h l0 l1] at this
theorem sdemA_num (w : World) (s : Sv) (l : Int) (a : Nat → Addr) (E : Er3 w a) (h : okS s) (hl : l < 0 ∨ (0 ≤ l ∧ 1099511627776 < l)) : Ans w 17 #[vS s, .int .i64 l] (.tuple #[.int .i64 0, vE (a 1)]) := fun W hb => by
  have := one_sdem W s l a (E.late hb)
  rwa [scd_num h hl] at this
theorem sreqA_no (w : World) (s : Sv) (l : Int) (a : Nat → Addr) (E : Er3 w a) (h : ¬ okS s) : Ans w 18 #[vS s, .int .i64 l] (.tuple #[.int .i64 0, vE (a 0)]) := fun W hb => by
  have := one_sreq W s l a (E.late hb)
  rwa [scd_no h] at this
theorem sreqA_yes (w : World) (s : Sv) (l : Int) (a : Nat → Addr) (E : Er3 w a) (h : okS s) (l0 : 0 ≤ l) (l1 : l ≤ 1099511627776) : Ans w 18 #[vS s, .int .i64 l] (.tuple #[.int .i64 (sreq s l), .nilIface]) := fun W hb => by
  have := one_sreq W s l a (E.late hb)
  rwa [scd_yes h l0 l1] at this
theorem sreqA_num (w : World) (s : Sv) (l : Int) (a : Nat → Addr) (E : Er3 w a) (h : okS s) (hl : l < 0 ∨ (0 ≤ l ∧ 1099511627776 < l)) : Ans w 18 #[vS s, .int .i64 l] (.tuple #[.int .i64 0, vE (a 1)]) := fun W hb => by
  have := one_sreq W s l a (E.late hb)
  rwa [scd_num h hl] at this
set_option maxHeartbeats 6400000 in
theorem splits_no (w : World) (s : Sv) (a b A B : Int) (ad : Nat → Addr) (E : Er3 w ad) (ea : bits .and .i64 a 1073741823 = A) (eb : bits .and .i64 b 1073741823 = B) (A0 : 0 ≤ A) (A1 : A ≤ 1073741823) (B0 : 0 ≤ B) (B1 : B ≤ 1073741823) (h : ¬ okS s) : Calls Tryd.prog 7 #[vS s, .int .i64 a, .int .i64 b] w fun e w' => e = .returned (.bool true) ∧ Below w.heap.size w w' := by
  have H1 : Hid (Ans w 9 #[] (.bool true)) := mkHid (fun W hb => dalive W ad (E.late hb))
  have e1 : IntKind.i64.wrap (A + B) = A + B := wfit (by omega) (by omega)
  have H2 := mkHid (sdemA_no w s A ad E h)
  have H3 := mkHid (sdemA_no w s B ad E h)
  have H4 := mkHid (sdemA_no w s (A + B) ad E h)
  have H5 := mkHid (sreqA_no w s A ad E h)
  have H6 := mkHid (sreqA_no w s B ad E h)
  have H7 := mkHid (sreqA_no w s (A + B) ad E h)
  have H8 : Hid (Ans w 19 #[vS s] (.bool false)) := mkHid (fun W _ => reflegal_no W s h)
  clear E h
  obtain ⟨k, q, t⟩ := s
  have M1 : Hid True := mkHid trivial
  have M2 : Hid True := mkHid trivial
  have M3 : Hid True := mkHid trivial
  have M4 : Hid True := mkHid trivial
  have M5 : Hid True := mkHid trivial
  have M6 : Hid True := mkHid trivial
  have M7 : Hid True := mkHid trivial
  have M8 : Hid True := mkHid trivial
  go_enter Tryd.func7, Tryd.ntmps7
  go_wp2_with (first
    | (go_at_call 9; clear M1; refine (H1.out _ (ba (Below.refl _ _) _)).mono ?_; rintro e w1 ⟨rfl, b1⟩; have HB1 := mkHid (bt (ba (Below.refl _ _) _) b1); have HR1 := mkHid (new_last b1).1; have x1 : w1.cell? ⟨w.heap.size, 0, none⟩ = some (.int .i64 k) := cell_of_block (i := 0) HR1.out rfl; have y1 : w1.cell? ⟨w.heap.size, 1, none⟩ = some (.int .i64 q) := cell_of_block (i := 1) HR1.out rfl; have z1 : w1.cell? ⟨w.heap.size, 2, none⟩ = some (.int .i64 t) := cell_of_block (i := 2) HR1.out rfl; clear b1)
    | (go_at_call 17; clear M2; refine (H2.out _ HB1.out).mono ?_; rintro e w2 ⟨rfl, b2⟩; have HB2 := mkHid (bt HB1.out b2); have HR2 := mkHid (hold HR1.out b2); clear x1 y1 z1; have x2 : w2.cell? ⟨w.heap.size, 0, none⟩ = some (.int .i64 k) := cell_of_block (i := 0) HR2.out rfl; have y2 : w2.cell? ⟨w.heap.size, 1, none⟩ = some (.int .i64 q) := cell_of_block (i := 1) HR2.out rfl; have z2 : w2.cell? ⟨w.heap.size, 2, none⟩ = some (.int .i64 t) := cell_of_block (i := 2) HR2.out rfl; clear b2)
    | (go_at_call 17; clear M3; refine (H3.out _ HB2.out).mono ?_; rintro e w3 ⟨rfl, b3⟩; have HB3 := mkHid (bt HB2.out b3); have HR3 := mkHid (hold HR2.out b3); clear x2 y2 z2; have x3 : w3.cell? ⟨w.heap.size, 0, none⟩ = some (.int .i64 k) := cell_of_block (i := 0) HR3.out rfl; have y3 : w3.cell? ⟨w.heap.size, 1, none⟩ = some (.int .i64 q) := cell_of_block (i := 1) HR3.out rfl; have z3 : w3.cell? ⟨w.heap.size, 2, none⟩ = some (.int .i64 t) := cell_of_block (i := 2) HR3.out rfl; clear b3)
    | (go_at_call 17; clear M4; refine (H4.out _ HB3.out).mono ?_; rintro e w4 ⟨rfl, b4⟩; have HB4 := mkHid (bt HB3.out b4); have HR4 := mkHid (hold HR3.out b4); clear x3 y3 z3; have x4 : w4.cell? ⟨w.heap.size, 0, none⟩ = some (.int .i64 k) := cell_of_block (i := 0) HR4.out rfl; have y4 : w4.cell? ⟨w.heap.size, 1, none⟩ = some (.int .i64 q) := cell_of_block (i := 1) HR4.out rfl; have z4 : w4.cell? ⟨w.heap.size, 2, none⟩ = some (.int .i64 t) := cell_of_block (i := 2) HR4.out rfl; clear b4)
    | (go_at_call 18; clear M5; refine (H5.out _ HB4.out).mono ?_; rintro e w5 ⟨rfl, b5⟩; have HB5 := mkHid (bt HB4.out b5); have HR5 := mkHid (hold HR4.out b5); clear x4 y4 z4; have x5 : w5.cell? ⟨w.heap.size, 0, none⟩ = some (.int .i64 k) := cell_of_block (i := 0) HR5.out rfl; have y5 : w5.cell? ⟨w.heap.size, 1, none⟩ = some (.int .i64 q) := cell_of_block (i := 1) HR5.out rfl; have z5 : w5.cell? ⟨w.heap.size, 2, none⟩ = some (.int .i64 t) := cell_of_block (i := 2) HR5.out rfl; clear b5)
    | (go_at_call 18; clear M6; refine (H6.out _ HB5.out).mono ?_; rintro e w6 ⟨rfl, b6⟩; have HB6 := mkHid (bt HB5.out b6); have HR6 := mkHid (hold HR5.out b6); clear x5 y5 z5; have x6 : w6.cell? ⟨w.heap.size, 0, none⟩ = some (.int .i64 k) := cell_of_block (i := 0) HR6.out rfl; have y6 : w6.cell? ⟨w.heap.size, 1, none⟩ = some (.int .i64 q) := cell_of_block (i := 1) HR6.out rfl; have z6 : w6.cell? ⟨w.heap.size, 2, none⟩ = some (.int .i64 t) := cell_of_block (i := 2) HR6.out rfl; clear b6)
    | (go_at_call 18; clear M7; refine (H7.out _ HB6.out).mono ?_; rintro e w7 ⟨rfl, b7⟩; have HB7 := mkHid (bt HB6.out b7); have HR7 := mkHid (hold HR6.out b7); clear x6 y6 z6; have x7 : w7.cell? ⟨w.heap.size, 0, none⟩ = some (.int .i64 k) := cell_of_block (i := 0) HR7.out rfl; have y7 : w7.cell? ⟨w.heap.size, 1, none⟩ = some (.int .i64 q) := cell_of_block (i := 1) HR7.out rfl; have z7 : w7.cell? ⟨w.heap.size, 2, none⟩ = some (.int .i64 t) := cell_of_block (i := 2) HR7.out rfl; clear b7)
    | (go_at_call 19; clear M8; refine (H8.out _ HB7.out).mono ?_; rintro e w8 ⟨rfl, b8⟩; have HB8 := mkHid (bt HB7.out b8); have HR8 := mkHid (hold HR7.out b8); clear x7 y7 z7; have x8 : w8.cell? ⟨w.heap.size, 0, none⟩ = some (.int .i64 k) := cell_of_block (i := 0) HR8.out rfl; have y8 : w8.cell? ⟨w.heap.size, 1, none⟩ = some (.int .i64 q) := cell_of_block (i := 1) HR8.out rfl; have z8 : w8.cell? ⟨w.heap.size, 2, none⟩ = some (.int .i64 t) := cell_of_block (i := 2) HR8.out rfl; clear b8))
  go_ret
  exact ⟨rfl, HB8.out⟩
set_option maxHeartbeats 6400000 in
theorem splits_three (w : World) (s : Sv) (a b A B : Int) (ad : Nat → Addr) (E : Er3 w ad) (ea : bits .and .i64 a 1073741823 = A) (eb : bits .and .i64 b 1073741823 = B) (A0 : 0 ≤ A) (A1 : A ≤ 1073741823) (B0 : 0 ≤ B) (B1 : B ≤ 1073741823) (h : okS s) (hk : s.1 = 3) : Calls Tryd.prog 7 #[vS s, .int .i64 a, .int .i64 b] w fun e w' => e = .returned (.bool true) ∧ Below w.heap.size w w' := by
  have H1 : Hid (Ans w 9 #[] (.bool true)) := mkHid (fun W hb => dalive W ad (E.late hb))
  have e1 : IntKind.i64.wrap (A + B) = A + B := wfit (by omega) (by omega)
  have H2 := mkHid (sdemA_yes w s A ad E h A0 (by omega))
  have H3 := mkHid (sdemA_yes w s B ad E h B0 (by omega))
  have H4 := mkHid (sdemA_yes w s (A + B) ad E h (by omega) (by omega))
  have H5 := mkHid (sreqA_yes w s A ad E h A0 (by omega))
  have H6 := mkHid (sreqA_yes w s B ad E h B0 (by omega))
  have H7 := mkHid (sreqA_yes w s (A + B) ad E h (by omega) (by omega))
  have i1 := sdem_bounds h A0
  have i2 := sdem_bounds h B0
  have i3 := sdem_bounds h (show 0 ≤ A + B by omega)
  have i4 := sreq_bounds h A0
  have i5 := sreq_bounds h B0
  have i6 := sreq_bounds h (show 0 ≤ A + B by omega)
  have k1 := sdem_two h A0 B0
  have k2 := sreq_two h A0 B0
  have k3 := sdem_le_sreq h A0
  have k4 := sdem_le_sreq h B0
  have q0 := h.2.2.1
  have q1 : s.2.1 ≤ 256 := by have := h.2.2.2.1; have := h.2.2.2.2; omega
  clear E h
  obtain ⟨k, q, t⟩ := s
  simp only at k1 q0 q1 hk
  generalize sdem (k, q, t) A = X at *
  generalize sdem (k, q, t) B = Y at *
  generalize sdem (k, q, t) (A + B) = Z at *
  generalize sreq (k, q, t) A = P at *
  generalize sreq (k, q, t) B = Q at *
  generalize sreq (k, q, t) (A + B) = R at *
  obtain ⟨k1a, k1b⟩ := k1
  have e2 : IntKind.i64.wrap (X + Y) = X + Y := wfit (by omega) (by omega)
  have e3 : IntKind.i64.wrap (P + Q) = P + Q := wfit (by omega) (by omega)
  have e4 : IntKind.i64.wrap (X + Y + q) = X + Y + q := wfit (by omega) (by omega)
  have e5 : IntKind.i64.wrap (Z + q) = Z + q := wfit (by omega) (by omega)
  have c1 := (k1a hk).1
  have c2 := (k1a hk).2
  subst hk
  clear i1 i2 i3 i4 i5 i6 k1a k1b q0 q1
  have M1 : Hid True := mkHid trivial
  have M2 : Hid True := mkHid trivial
  have M3 : Hid True := mkHid trivial
  have M4 : Hid True := mkHid trivial
  have M5 : Hid True := mkHid trivial
  have M6 : Hid True := mkHid trivial
  have M7 : Hid True := mkHid trivial
  go_enter Tryd.func7, Tryd.ntmps7
  go_wp2_with (first
    | (go_at_call 9; clear M1; refine (H1.out _ (ba (Below.refl _ _) _)).mono ?_; rintro e w1 ⟨rfl, b1⟩; have HB1 := mkHid (bt (ba (Below.refl _ _) _) b1); have HR1 := mkHid (new_last b1).1; have x1 : w1.cell? ⟨w.heap.size, 0, none⟩ = some (.int .i64 3) := cell_of_block (i := 0) HR1.out rfl; have y1 : w1.cell? ⟨w.heap.size, 1, none⟩ = some (.int .i64 q) := cell_of_block (i := 1) HR1.out rfl; have z1 : w1.cell? ⟨w.heap.size, 2, none⟩ = some (.int .i64 t) := cell_of_block (i := 2) HR1.out rfl; clear b1)
    | (go_at_call 17; clear M2; refine (H2.out _ HB1.out).mono ?_; rintro e w2 ⟨rfl, b2⟩; have HB2 := mkHid (bt HB1.out b2); have HR2 := mkHid (hold HR1.out b2); clear x1 y1 z1; have x2 : w2.cell? ⟨w.heap.size, 0, none⟩ = some (.int .i64 3) := cell_of_block (i := 0) HR2.out rfl; have y2 : w2.cell? ⟨w.heap.size, 1, none⟩ = some (.int .i64 q) := cell_of_block (i := 1) HR2.out rfl; have z2 : w2.cell? ⟨w.heap.size, 2, none⟩ = some (.int .i64 t) := cell_of_block (i := 2) HR2.out rfl; clear b2)
    | (go_at_call 17; clear M3; refine (H3.out _ HB2.out).mono ?_; rintro e w3 ⟨rfl, b3⟩; have HB3 := mkHid (bt HB2.out b3); have HR3 := mkHid (hold HR2.out b3); clear x2 y2 z2; have x3 : w3.cell? ⟨w.heap.size, 0, none⟩ = some (.int .i64 3) := cell_of_block (i := 0) HR3.out rfl; have y3 : w3.cell? ⟨w.heap.size, 1, none⟩ = some (.int .i64 q) := cell_of_block (i := 1) HR3.out rfl; have z3 : w3.cell? ⟨w.heap.size, 2, none⟩ = some (.int .i64 t) := cell_of_block (i := 2) HR3.out rfl; clear b3)
    | (go_at_call 17; clear M4; refine (H4.out _ HB3.out).mono ?_; rintro e w4 ⟨rfl, b4⟩; have HB4 := mkHid (bt HB3.out b4); have HR4 := mkHid (hold HR3.out b4); clear x3 y3 z3; have x4 : w4.cell? ⟨w.heap.size, 0, none⟩ = some (.int .i64 3) := cell_of_block (i := 0) HR4.out rfl; have y4 : w4.cell? ⟨w.heap.size, 1, none⟩ = some (.int .i64 q) := cell_of_block (i := 1) HR4.out rfl; have z4 : w4.cell? ⟨w.heap.size, 2, none⟩ = some (.int .i64 t) := cell_of_block (i := 2) HR4.out rfl; clear b4)
    | (go_at_call 18; clear M5; refine (H5.out _ HB4.out).mono ?_; rintro e w5 ⟨rfl, b5⟩; have HB5 := mkHid (bt HB4.out b5); have HR5 := mkHid (hold HR4.out b5); clear x4 y4 z4; have x5 : w5.cell? ⟨w.heap.size, 0, none⟩ = some (.int .i64 3) := cell_of_block (i := 0) HR5.out rfl; have y5 : w5.cell? ⟨w.heap.size, 1, none⟩ = some (.int .i64 q) := cell_of_block (i := 1) HR5.out rfl; have z5 : w5.cell? ⟨w.heap.size, 2, none⟩ = some (.int .i64 t) := cell_of_block (i := 2) HR5.out rfl; clear b5)
    | (go_at_call 18; clear M6; refine (H6.out _ HB5.out).mono ?_; rintro e w6 ⟨rfl, b6⟩; have HB6 := mkHid (bt HB5.out b6); have HR6 := mkHid (hold HR5.out b6); clear x5 y5 z5; have x6 : w6.cell? ⟨w.heap.size, 0, none⟩ = some (.int .i64 3) := cell_of_block (i := 0) HR6.out rfl; have y6 : w6.cell? ⟨w.heap.size, 1, none⟩ = some (.int .i64 q) := cell_of_block (i := 1) HR6.out rfl; have z6 : w6.cell? ⟨w.heap.size, 2, none⟩ = some (.int .i64 t) := cell_of_block (i := 2) HR6.out rfl; clear b6)
    | (go_at_call 18; clear M7; refine (H7.out _ HB6.out).mono ?_; rintro e w7 ⟨rfl, b7⟩; have HB7 := mkHid (bt HB6.out b7); have HR7 := mkHid (hold HR6.out b7); clear x6 y6 z6; have x7 : w7.cell? ⟨w.heap.size, 0, none⟩ = some (.int .i64 3) := cell_of_block (i := 0) HR7.out rfl; have y7 : w7.cell? ⟨w.heap.size, 1, none⟩ = some (.int .i64 q) := cell_of_block (i := 1) HR7.out rfl; have z7 : w7.cell? ⟨w.heap.size, 2, none⟩ = some (.int .i64 t) := cell_of_block (i := 2) HR7.out rfl; clear b7))
  go_ret
  exact ⟨rfl, HB7.out⟩
set_option maxHeartbeats 6400000 in
theorem splits_other (w : World) (s : Sv) (a b A B : Int) (ad : Nat → Addr) (E : Er3 w ad) (ea : bits .and .i64 a 1073741823 = A) (eb : bits .and .i64 b 1073741823 = B) (A0 : 0 ≤ A) (A1 : A ≤ 1073741823) (B0 : 0 ≤ B) (B1 : B ≤ 1073741823) (h : okS s) (hk : ¬ s.1 = 3) : Calls Tryd.prog 7 #[vS s, .int .i64 a, .int .i64 b] w fun e w' => e = .returned (.bool true) ∧ Below w.heap.size w w' := by
  have H1 : Hid (Ans w 9 #[] (.bool true)) := mkHid (fun W hb => dalive W ad (E.late hb))
  have e1 : IntKind.i64.wrap (A + B) = A + B := wfit (by omega) (by omega)
  have H2 := mkHid (sdemA_yes w s A ad E h A0 (by omega))
  have H3 := mkHid (sdemA_yes w s B ad E h B0 (by omega))
  have H4 := mkHid (sdemA_yes w s (A + B) ad E h (by omega) (by omega))
  have H5 := mkHid (sreqA_yes w s A ad E h A0 (by omega))
  have H6 := mkHid (sreqA_yes w s B ad E h B0 (by omega))
  have H7 := mkHid (sreqA_yes w s (A + B) ad E h (by omega) (by omega))
  have i1 := sdem_bounds h A0
  have i2 := sdem_bounds h B0
  have i3 := sdem_bounds h (show 0 ≤ A + B by omega)
  have i4 := sreq_bounds h A0
  have i5 := sreq_bounds h B0
  have i6 := sreq_bounds h (show 0 ≤ A + B by omega)
  have k1 := sdem_two h A0 B0
  have k2 := sreq_two h A0 B0
  have k3 := sdem_le_sreq h A0
  have k4 := sdem_le_sreq h B0
  have q0 := h.2.2.1
  have q1 : s.2.1 ≤ 256 := by have := h.2.2.2.1; have := h.2.2.2.2; omega
  clear E h
  obtain ⟨k, q, t⟩ := s
  simp only at k1 q0 q1 hk
  generalize sdem (k, q, t) A = X at *
  generalize sdem (k, q, t) B = Y at *
  generalize sdem (k, q, t) (A + B) = Z at *
  generalize sreq (k, q, t) A = P at *
  generalize sreq (k, q, t) B = Q at *
  generalize sreq (k, q, t) (A + B) = R at *
  obtain ⟨k1a, k1b⟩ := k1
  have e2 : IntKind.i64.wrap (X + Y) = X + Y := wfit (by omega) (by omega)
  have e3 : IntKind.i64.wrap (P + Q) = P + Q := wfit (by omega) (by omega)
  have e4 : IntKind.i64.wrap (X + Y + q) = X + Y + q := wfit (by omega) (by omega)
  have e5 : IntKind.i64.wrap (Z + q) = Z + q := wfit (by omega) (by omega)
  have c1 := k1b hk
  clear i1 i2 i3 i4 i5 i6 k1a k1b q0 q1
  have M1 : Hid True := mkHid trivial
  have M2 : Hid True := mkHid trivial
  have M3 : Hid True := mkHid trivial
  have M4 : Hid True := mkHid trivial
  have M5 : Hid True := mkHid trivial
  have M6 : Hid True := mkHid trivial
  have M7 : Hid True := mkHid trivial
  go_enter Tryd.func7, Tryd.ntmps7
  go_wp2_with (first
    | (go_at_call 9; clear M1; refine (H1.out _ (ba (Below.refl _ _) _)).mono ?_; rintro e w1 ⟨rfl, b1⟩; have HB1 := mkHid (bt (ba (Below.refl _ _) _) b1); have HR1 := mkHid (new_last b1).1; have x1 : w1.cell? ⟨w.heap.size, 0, none⟩ = some (.int .i64 k) := cell_of_block (i := 0) HR1.out rfl; have y1 : w1.cell? ⟨w.heap.size, 1, none⟩ = some (.int .i64 q) := cell_of_block (i := 1) HR1.out rfl; have z1 : w1.cell? ⟨w.heap.size, 2, none⟩ = some (.int .i64 t) := cell_of_block (i := 2) HR1.out rfl; clear b1)
    | (go_at_call 17; clear M2; refine (H2.out _ HB1.out).mono ?_; rintro e w2 ⟨rfl, b2⟩; have HB2 := mkHid (bt HB1.out b2); have HR2 := mkHid (hold HR1.out b2); clear x1 y1 z1; have x2 : w2.cell? ⟨w.heap.size, 0, none⟩ = some (.int .i64 k) := cell_of_block (i := 0) HR2.out rfl; have y2 : w2.cell? ⟨w.heap.size, 1, none⟩ = some (.int .i64 q) := cell_of_block (i := 1) HR2.out rfl; have z2 : w2.cell? ⟨w.heap.size, 2, none⟩ = some (.int .i64 t) := cell_of_block (i := 2) HR2.out rfl; clear b2)
    | (go_at_call 17; clear M3; refine (H3.out _ HB2.out).mono ?_; rintro e w3 ⟨rfl, b3⟩; have HB3 := mkHid (bt HB2.out b3); have HR3 := mkHid (hold HR2.out b3); clear x2 y2 z2; have x3 : w3.cell? ⟨w.heap.size, 0, none⟩ = some (.int .i64 k) := cell_of_block (i := 0) HR3.out rfl; have y3 : w3.cell? ⟨w.heap.size, 1, none⟩ = some (.int .i64 q) := cell_of_block (i := 1) HR3.out rfl; have z3 : w3.cell? ⟨w.heap.size, 2, none⟩ = some (.int .i64 t) := cell_of_block (i := 2) HR3.out rfl; clear b3)
    | (go_at_call 17; clear M4; refine (H4.out _ HB3.out).mono ?_; rintro e w4 ⟨rfl, b4⟩; have HB4 := mkHid (bt HB3.out b4); have HR4 := mkHid (hold HR3.out b4); clear x3 y3 z3; have x4 : w4.cell? ⟨w.heap.size, 0, none⟩ = some (.int .i64 k) := cell_of_block (i := 0) HR4.out rfl; have y4 : w4.cell? ⟨w.heap.size, 1, none⟩ = some (.int .i64 q) := cell_of_block (i := 1) HR4.out rfl; have z4 : w4.cell? ⟨w.heap.size, 2, none⟩ = some (.int .i64 t) := cell_of_block (i := 2) HR4.out rfl; clear b4)
    | (go_at_call 18; clear M5; refine (H5.out _ HB4.out).mono ?_; rintro e w5 ⟨rfl, b5⟩; have HB5 := mkHid (bt HB4.out b5); have HR5 := mkHid (hold HR4.out b5); clear x4 y4 z4; have x5 : w5.cell? ⟨w.heap.size, 0, none⟩ = some (.int .i64 k) := cell_of_block (i := 0) HR5.out rfl; have y5 : w5.cell? ⟨w.heap.size, 1, none⟩ = some (.int .i64 q) := cell_of_block (i := 1) HR5.out rfl; have z5 : w5.cell? ⟨w.heap.size, 2, none⟩ = some (.int .i64 t) := cell_of_block (i := 2) HR5.out rfl; clear b5)
    | (go_at_call 18; clear M6; refine (H6.out _ HB5.out).mono ?_; rintro e w6 ⟨rfl, b6⟩; have HB6 := mkHid (bt HB5.out b6); have HR6 := mkHid (hold HR5.out b6); clear x5 y5 z5; have x6 : w6.cell? ⟨w.heap.size, 0, none⟩ = some (.int .i64 k) := cell_of_block (i := 0) HR6.out rfl; have y6 : w6.cell? ⟨w.heap.size, 1, none⟩ = some (.int .i64 q) := cell_of_block (i := 1) HR6.out rfl; have z6 : w6.cell? ⟨w.heap.size, 2, none⟩ = some (.int .i64 t) := cell_of_block (i := 2) HR6.out rfl; clear b6)
    | (go_at_call 18; clear M7; refine (H7.out _ HB6.out).mono ?_; rintro e w7 ⟨rfl, b7⟩; have HB7 := mkHid (bt HB6.out b7); have HR7 := mkHid (hold HR6.out b7); clear x6 y6 z6; have x7 : w7.cell? ⟨w.heap.size, 0, none⟩ = some (.int .i64 k) := cell_of_block (i := 0) HR7.out rfl; have y7 : w7.cell? ⟨w.heap.size, 1, none⟩ = some (.int .i64 q) := cell_of_block (i := 1) HR7.out rfl; have z7 : w7.cell? ⟨w.heap.size, 2, none⟩ = some (.int .i64 t) := cell_of_block (i := 2) HR7.out rfl; clear b7))
  go_ret
  exact ⟨rfl, HB7.out⟩
theorem splits_any (w : World) (s : Sv) (a b : Int) (ad : Nat → Addr) (E : Er3 w ad) : Calls Tryd.prog 7 #[vS s, .int .i64 a, .int .i64 b] w fun e w' => e = .returned (.bool true) ∧ Below w.heap.size w w' := by
  obtain ⟨A, A0, A1, ea⟩ := and_ex a 1073741823 (by omega) (by omega)
  obtain ⟨B, B0, B1, eb⟩ := and_ex b 1073741823 (by omega) (by omega)
  by_cases h : okS s
  · by_cases hk : s.1 = 3
    · exact splits_three w s a b A B ad E ea eb A0 A1 B0 B1 h hk
    · exact splits_other w s a b A B ad E ea eb A0 A1 B0 B1 h hk
  · exact splits_no w s a b A B ad E ea eb A0 A1 B0 B1 h
end Go.Proofs.YtilnchlnlnpkfaaDoor
