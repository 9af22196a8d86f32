/- The law SupplyBounds. -/
import Derived.Test.YtldfngkooilmnaaDoorSup6
namespace Go.Proofs.YtldfngkooilmnaaDoor
open Go.ChangeShapes Go.WideShapes Go.ChangeAt Go.RowKit

theorem hold {w w' : World} {b : Nat} {o : Obj} (h : w.heap[b]? = some o) (hb : Below w.heap.size w w') : w'.heap[b]? = some o := by
  rw [hb.block _ (Array.getElem?_eq_some_iff.1 h).1]; exact h
/-- What a call answers in every memory above w: v, and only new memory is made. -/
def Ans (w : World) (f : FuncId) (args : Array Value) (v : Value) : Prop := ∀ W, Below w.heap.size w W → Calls Tryd.prog f args W fun e w' => e = .returned v ∧ Below W.heap.size W w'
set_option maxHeartbeats 3200000 in
theorem bounds_no (w : World) (s : Sv) (l : Int) (a : Addr) (h : ¬ okW s) (E0 : Err w 0 text0 a) : Calls Tryd.prog 3 #[vS s, .int .i64 l] w fun e w' => e = .returned (.bool true) ∧ Below w.heap.size w w' := by
  have he := E0.1
  have H1 : Hid (Ans w 9 #[] (.bool true)) := mkHid (fun W _ => salive W)
  have H2 : Hid (Ans w 10 #[vS s, .int .i64 l] (.tuple #[.int .i64 0, vE a])) := mkHid (fun W hb => bound_no W s l h a (kc he hb))
  have H3 : Hid (Ans w 11 #[vS s] (.tuple #[.int .i64 0, vE a])) := mkHid (fun W hb => sil_is W s 0 0 0 _ small_no (shapeIs_no W s h a (kc he hb)))
  have H4 : Hid (Ans w 12 #[vS s] (.tuple #[.int .i64 0, .int .i64 0, .int .i64 0, vE a])) := mkHid (fun W hb => slope_is W s 0 0 0 _ small_no (shapeIs_no W s h a (kc he hb)))
  have H5 : Hid (Ans w 13 #[vS s] (.bool false)) := mkHid (fun W _ => legal_no W s h)
  have HE0 := mkHid he
  have heq := fun W => E0.eq W
  clear he E0 h
  obtain ⟨k, q, t⟩ := s
  have M1 : Hid True := mkHid trivial
  have M2 : Hid True := mkHid trivial
  have M3 : Hid True := mkHid trivial
  have M4 : Hid True := mkHid trivial
  have M5 : Hid True := mkHid trivial
  go_enter Tryd.func3, Tryd.ntmps3
  go_wp2_with (first
    | (go_at_call 9; clear M1; refine (H1.out _ (ba (Below.refl _ _) _)).mono ?_; rintro e w1 ⟨rfl, b1⟩; have HB1 := mkHid (bt (ba (Below.refl _ _) _) b1); have HR1 := mkHid (new_last b1).1; have x1 : w1.cell? ⟨w.heap.size, 0, none⟩ = some (.int .i64 k) := cell_of_block (i := 0) HR1.out rfl; have y1 : w1.cell? ⟨w.heap.size, 1, none⟩ = some (.int .i64 q) := cell_of_block (i := 1) HR1.out rfl; have z1 : w1.cell? ⟨w.heap.size, 2, none⟩ = some (.int .i64 t) := cell_of_block (i := 2) HR1.out rfl; have g0_1 := kc HE0.out HB1.out; clear b1)
    | (go_at_call 10; clear M2; refine (H2.out _ HB1.out).mono ?_; rintro e w2 ⟨rfl, b2⟩; have HB2 := mkHid (bt HB1.out b2); have HR2 := mkHid (hold HR1.out b2); clear x1 y1 z1; have x2 : w2.cell? ⟨w.heap.size, 0, none⟩ = some (.int .i64 k) := cell_of_block (i := 0) HR2.out rfl; have y2 : w2.cell? ⟨w.heap.size, 1, none⟩ = some (.int .i64 q) := cell_of_block (i := 1) HR2.out rfl; have z2 : w2.cell? ⟨w.heap.size, 2, none⟩ = some (.int .i64 t) := cell_of_block (i := 2) HR2.out rfl; have g0_2 := kc HE0.out HB2.out; clear g0_1; clear b2)
    | (go_at_call 11; clear M3; refine (H3.out _ HB2.out).mono ?_; rintro e w3 ⟨rfl, b3⟩; have HB3 := mkHid (bt HB2.out b3); have HR3 := mkHid (hold HR2.out b3); clear x2 y2 z2; have x3 : w3.cell? ⟨w.heap.size, 0, none⟩ = some (.int .i64 k) := cell_of_block (i := 0) HR3.out rfl; have y3 : w3.cell? ⟨w.heap.size, 1, none⟩ = some (.int .i64 q) := cell_of_block (i := 1) HR3.out rfl; have z3 : w3.cell? ⟨w.heap.size, 2, none⟩ = some (.int .i64 t) := cell_of_block (i := 2) HR3.out rfl; have g0_3 := kc HE0.out HB3.out; clear g0_2; clear b3)
    | (go_at_call 12; clear M4; refine (H4.out _ HB3.out).mono ?_; rintro e w4 ⟨rfl, b4⟩; have HB4 := mkHid (bt HB3.out b4); have HR4 := mkHid (hold HR3.out b4); clear x3 y3 z3; have x4 : w4.cell? ⟨w.heap.size, 0, none⟩ = some (.int .i64 k) := cell_of_block (i := 0) HR4.out rfl; have y4 : w4.cell? ⟨w.heap.size, 1, none⟩ = some (.int .i64 q) := cell_of_block (i := 1) HR4.out rfl; have z4 : w4.cell? ⟨w.heap.size, 2, none⟩ = some (.int .i64 t) := cell_of_block (i := 2) HR4.out rfl; have g0_4 := kc HE0.out HB4.out; clear g0_3; clear b4)
    | (go_at_call 13; clear M5; refine (H5.out _ HB4.out).mono ?_; rintro e w5 ⟨rfl, b5⟩; have HB5 := mkHid (bt HB4.out b5); have HR5 := mkHid (hold HR4.out b5); clear x4 y4 z4; have x5 : w5.cell? ⟨w.heap.size, 0, none⟩ = some (.int .i64 k) := cell_of_block (i := 0) HR5.out rfl; have y5 : w5.cell? ⟨w.heap.size, 1, none⟩ = some (.int .i64 q) := cell_of_block (i := 1) HR5.out rfl; have z5 : w5.cell? ⟨w.heap.size, 2, none⟩ = some (.int .i64 t) := cell_of_block (i := 2) HR5.out rfl; have g0_5 := kc HE0.out HB5.out; clear g0_4; clear b5))
  go_ret
  exact ⟨rfl, HB5.out⟩
set_option maxHeartbeats 3200000 in
theorem bounds_num (w : World) (s : Sv) (l : Int) (a : Addr) (h : okW s) (hl : l < 0 ∨ (0 ≤ l ∧ 1099511627776 < l)) (E1 : Err w 1 text1 a) : Calls Tryd.prog 3 #[vS s, .int .i64 l] w fun e w' => e = .returned (.bool true) ∧ Below w.heap.size w w' := by
  have he := E1.1
  have H1 : Hid (Ans w 9 #[] (.bool true)) := mkHid (fun W _ => salive W)
  have H2 : Hid (Ans w 10 #[vS s, .int .i64 l] (.tuple #[.int .i64 0, vE a])) := mkHid (fun W hb => bound_num W s l h hl a (kc he hb))
  obtain ⟨S, H3⟩ : ∃ S, Hid (Ans w 11 #[vS s] (.tuple #[.int .i64 S, .nilIface])) := ⟨_, mkHid (fun W hb => sil_is W s _ _ _ _ (small_yes h) (shapeIs_yes W s h))⟩
  obtain ⟨A, B, S2, H4⟩ : ∃ A B S2, Hid (Ans w 12 #[vS s] (.tuple #[.int .i64 A, .int .i64 B, .int .i64 S2, .nilIface])) := ⟨_, _, _, mkHid (fun W hb => slope_is W s _ _ _ _ (small_yes h) (shapeIs_yes W s h))⟩
  have H5 : Hid (Ans w 13 #[vS s] (.bool true)) := mkHid (fun W _ => legal_yes W s h)
  have HE1 := mkHid he
  have heq := fun W => E1.eq W
  clear he E1 h
  obtain ⟨k, q, t⟩ := s
  have M1 : Hid True := mkHid trivial
  have M2 : Hid True := mkHid trivial
  have M3 : Hid True := mkHid trivial
  have M4 : Hid True := mkHid trivial
  have M5 : Hid True := mkHid trivial
  rcases hl with hl | ⟨hl, hl2⟩
  all_goals
    go_enter Tryd.func3, Tryd.ntmps3
    go_wp2_with (first
      | (go_at_call 9; clear M1; refine (H1.out _ (ba (Below.refl _ _) _)).mono ?_; rintro e w1 ⟨rfl, b1⟩; have HB1 := mkHid (bt (ba (Below.refl _ _) _) b1); have HR1 := mkHid (new_last b1).1; have x1 : w1.cell? ⟨w.heap.size, 0, none⟩ = some (.int .i64 k) := cell_of_block (i := 0) HR1.out rfl; have y1 : w1.cell? ⟨w.heap.size, 1, none⟩ = some (.int .i64 q) := cell_of_block (i := 1) HR1.out rfl; have z1 : w1.cell? ⟨w.heap.size, 2, none⟩ = some (.int .i64 t) := cell_of_block (i := 2) HR1.out rfl; have g1_1 := kc HE1.out HB1.out; clear b1)
      | (go_at_call 10; clear M2; refine (H2.out _ HB1.out).mono ?_; rintro e w2 ⟨rfl, b2⟩; have HB2 := mkHid (bt HB1.out b2); have HR2 := mkHid (hold HR1.out b2); clear x1 y1 z1; have x2 : w2.cell? ⟨w.heap.size, 0, none⟩ = some (.int .i64 k) := cell_of_block (i := 0) HR2.out rfl; have y2 : w2.cell? ⟨w.heap.size, 1, none⟩ = some (.int .i64 q) := cell_of_block (i := 1) HR2.out rfl; have z2 : w2.cell? ⟨w.heap.size, 2, none⟩ = some (.int .i64 t) := cell_of_block (i := 2) HR2.out rfl; have g1_2 := kc HE1.out HB2.out; clear g1_1; clear b2)
      | (go_at_call 11; clear M3; refine (H3.out _ HB2.out).mono ?_; rintro e w3 ⟨rfl, b3⟩; have HB3 := mkHid (bt HB2.out b3); have HR3 := mkHid (hold HR2.out b3); clear x2 y2 z2; have x3 : w3.cell? ⟨w.heap.size, 0, none⟩ = some (.int .i64 k) := cell_of_block (i := 0) HR3.out rfl; have y3 : w3.cell? ⟨w.heap.size, 1, none⟩ = some (.int .i64 q) := cell_of_block (i := 1) HR3.out rfl; have z3 : w3.cell? ⟨w.heap.size, 2, none⟩ = some (.int .i64 t) := cell_of_block (i := 2) HR3.out rfl; have g1_3 := kc HE1.out HB3.out; clear g1_2; clear b3)
      | (go_at_call 12; clear M4; refine (H4.out _ HB3.out).mono ?_; rintro e w4 ⟨rfl, b4⟩; have HB4 := mkHid (bt HB3.out b4); have HR4 := mkHid (hold HR3.out b4); clear x3 y3 z3; have x4 : w4.cell? ⟨w.heap.size, 0, none⟩ = some (.int .i64 k) := cell_of_block (i := 0) HR4.out rfl; have y4 : w4.cell? ⟨w.heap.size, 1, none⟩ = some (.int .i64 q) := cell_of_block (i := 1) HR4.out rfl; have z4 : w4.cell? ⟨w.heap.size, 2, none⟩ = some (.int .i64 t) := cell_of_block (i := 2) HR4.out rfl; have g1_4 := kc HE1.out HB4.out; clear g1_3; clear b4)
      | (go_at_call 13; clear M5; refine (H5.out _ HB4.out).mono ?_; rintro e w5 ⟨rfl, b5⟩; have HB5 := mkHid (bt HB4.out b5); have HR5 := mkHid (hold HR4.out b5); clear x4 y4 z4; have x5 : w5.cell? ⟨w.heap.size, 0, none⟩ = some (.int .i64 k) := cell_of_block (i := 0) HR5.out rfl; have y5 : w5.cell? ⟨w.heap.size, 1, none⟩ = some (.int .i64 q) := cell_of_block (i := 1) HR5.out rfl; have z5 : w5.cell? ⟨w.heap.size, 2, none⟩ = some (.int .i64 t) := cell_of_block (i := 2) HR5.out rfl; have g1_5 := kc HE1.out HB5.out; clear g1_4; clear b5))
    go_ret
    exact ⟨rfl, HB5.out⟩
theorem at_before {g d q i : Int} (_hd : 0 ≤ d) (hq : 1 ≤ q) (h : i < g + d) : sbAt g d q i = false := by
  refine decide_eq_false (fun ⟨h1, h2⟩ => ?_)
  rw [(dm (T := d + q) (a := 0) (r := i - g) (by omega) (by omega) (by omega)).2] at h2
  omega
theorem at_first {g d q : Int} (hd : 0 ≤ d) (hq : 1 ≤ q) : sbAt g d q (g + d) = true := by
  refine decide_eq_true ⟨by omega, ?_⟩
  rw [(dm (T := d + q) (a := 0) (r := d) (by omega) (by omega) (by omega)).2]
  omega
set_option maxRecDepth 100000 in
set_option maxHeartbeats 6400000 in
theorem bounds_yes (w : World) (s : Sv) (l : Int) (h : okW s) (l0 : 0 ≤ l) (l1 : l ≤ 1099511627776) : Calls Tryd.prog 3 #[vS s, .int .i64 l] w fun e w' => e = .returned (.bool true) ∧ Below w.heap.size w w' := by
  have H1 : Hid (Ans w 9 #[] (.bool true)) := mkHid (fun W _ => salive W)
  obtain ⟨n1, n2, n3, n4, n5⟩ := h.nums
  have hcs : (s.2.2 = 0 ∧ qS s = 1 ∧ dS s + qS s = 1) ∨ (0 < s.2.2 ∧ ¬ s.2.2 = 0 ∧ qS s = s.2.1 ∧ dS s + qS s = s.2.2) := by
    rcases h with rfl | h
    · left; decide
    · right
      obtain ⟨h1, h2, h3, h4, h5⟩ := h
      have : ¬ s.1 = 0 := by omega
      have e1 : dS s = s.2.2 - s.2.1 := if_neg this
      have e2 : qS s = s.2.1 := if_neg this
      omega
  have HA : Hid (∀ W i, 0 ≤ i → i ≤ 1099511627776 → Calls Tryd.prog 14 #[vS s, .int .i64 i] W fun e w' => e = .returned (.bool (sbAt (gS s) (dS s) (qS s) i)) ∧ Below W.heap.size W w') := mkHid (fun W i i0 i1 => at_yes W s i h i0 i1)
  have H2 : Hid (Ans w 10 #[vS s, .int .i64 l] (.tuple #[.int .i64 (sb (gS s) (dS s) (qS s) l), .nilIface])) := mkHid (fun W hb => bound_yes W s l h l0 l1)
  have H6 : Hid (Ans w 15 #[vS s, .int .i64 l] (.int .i64 (sb (gS s) (dS s) (qS s) l))) := mkHid (fun W hb => rbound_yes W s l h l0 l1)
  have H3 : Hid (Ans w 11 #[vS s] (.tuple #[.int .i64 (gS s + dS s), .nilIface])) := mkHid (fun W hb => sil_is W s _ _ _ _ (small_yes h) (shapeIs_yes W s h))
  have H4 : Hid (Ans w 12 #[vS s] (.tuple #[.int .i64 (qS s), .int .i64 (dS s + qS s), .int .i64 (gS s + dS s), .nilIface])) := mkHid (fun W hb => slope_is W s _ _ _ _ (small_yes h) (shapeIs_yes W s h))
  have H5 : Hid (Ans w 13 #[vS s] (.bool true)) := mkHid (fun W _ => legal_yes W s h)
  clear h
  obtain ⟨k, q, t⟩ := s
  simp only at hcs
  generalize gS (k, q, t) = G at *
  generalize dS (k, q, t) = D at *
  generalize qS (k, q, t) = Q at *
  generalize sb G D Q l = N at *
  obtain ⟨S, hS⟩ : ∃ S : Nat, (S : Int) = G + D := ⟨(G + D).toNat, by omega⟩
  have hS1 : (S : Int) ≤ 512 := by omega
  obtain ⟨P, hP⟩ : ∃ P, P = D + Q := ⟨_, rfl⟩
  have hP1 : 1 ≤ P := by omega
  have HF : Hid (∀ i : Nat, i < S → sbAt G D Q (i : Int) = false) := mkHid (fun i hi => at_before n2 n3 (by omega))
  have HT : Hid (sbAt G D Q (S : Int) = true) := mkHid (by rw [hS]; exact at_first n2 n3)
  rw [← hS] at H3 H4
  rw [← hP] at H4 hcs
  clear hS hP n1 n2 n3 n4 n5
  have M1 : Hid True := mkHid trivial
  have M2 : Hid True := mkHid trivial
  have M3 : Hid True := mkHid trivial
  have M4 : Hid True := mkHid trivial
  have M5 : Hid True := mkHid trivial
  have M6 : Hid True := mkHid trivial
  have hc2 : (t = 0 ∧ Q = 1 ∧ P = 1) ∨ (0 < t ∧ ¬ t = 0 ∧ Q = q ∧ P = t) := hcs
  clear hcs
  rcases hc2 with ⟨rfl, rfl, rfl⟩ | ⟨ht, ht0, rfl, rfl⟩
  · go_enter Tryd.func3, Tryd.ntmps3
    go_wp2_with (first
      | (go_at_call 9; clear M1; refine (H1.out _ (ba (Below.refl _ _) _)).mono ?_; rintro e w1 ⟨rfl, b1⟩; have HB1 := mkHid (bt (ba (Below.refl _ _) _) b1); have HR1 := mkHid (new_last b1).1; have x1 : w1.cell? ⟨w.heap.size, 0, none⟩ = some (.int .i64 k) := cell_of_block (i := 0) HR1.out rfl; have y1 : w1.cell? ⟨w.heap.size, 1, none⟩ = some (.int .i64 q) := cell_of_block (i := 1) HR1.out rfl; have z1 : w1.cell? ⟨w.heap.size, 2, none⟩ = some (.int .i64 0) := cell_of_block (i := 2) HR1.out rfl; clear b1)
      | (go_at_call 10; clear M2; refine (H2.out _ HB1.out).mono ?_; rintro e w2 ⟨rfl, b2⟩; have HB2 := mkHid (bt HB1.out b2); have HR2 := mkHid (hold HR1.out b2); clear x1 y1 z1; have x2 : w2.cell? ⟨w.heap.size, 0, none⟩ = some (.int .i64 k) := cell_of_block (i := 0) HR2.out rfl; have y2 : w2.cell? ⟨w.heap.size, 1, none⟩ = some (.int .i64 q) := cell_of_block (i := 1) HR2.out rfl; have z2 : w2.cell? ⟨w.heap.size, 2, none⟩ = some (.int .i64 0) := cell_of_block (i := 2) HR2.out rfl; clear b2)
      | (go_at_call 11; clear M3; refine (H3.out _ HB2.out).mono ?_; rintro e w3 ⟨rfl, b3⟩; have HB3 := mkHid (bt HB2.out b3); have HR3 := mkHid (hold HR2.out b3); clear x2 y2 z2; have x3 : w3.cell? ⟨w.heap.size, 0, none⟩ = some (.int .i64 k) := cell_of_block (i := 0) HR3.out rfl; have y3 : w3.cell? ⟨w.heap.size, 1, none⟩ = some (.int .i64 q) := cell_of_block (i := 1) HR3.out rfl; have z3 : w3.cell? ⟨w.heap.size, 2, none⟩ = some (.int .i64 0) := cell_of_block (i := 2) HR3.out rfl; clear b3)
      | (go_at_call 12; clear M4; refine (H4.out _ HB3.out).mono ?_; rintro e w4 ⟨rfl, b4⟩; have HB4 := mkHid (bt HB3.out b4); have HR4 := mkHid (hold HR3.out b4); clear x3 y3 z3; have x4 : w4.cell? ⟨w.heap.size, 0, none⟩ = some (.int .i64 k) := cell_of_block (i := 0) HR4.out rfl; have y4 : w4.cell? ⟨w.heap.size, 1, none⟩ = some (.int .i64 q) := cell_of_block (i := 1) HR4.out rfl; have z4 : w4.cell? ⟨w.heap.size, 2, none⟩ = some (.int .i64 0) := cell_of_block (i := 2) HR4.out rfl; clear b4)
      | (go_at_call 13; clear M5; refine (H5.out _ HB4.out).mono ?_; rintro e w5 ⟨rfl, b5⟩; have HB5 := mkHid (bt HB4.out b5); have HR5 := mkHid (hold HR4.out b5); clear x4 y4 z4; have x5 : w5.cell? ⟨w.heap.size, 0, none⟩ = some (.int .i64 k) := cell_of_block (i := 0) HR5.out rfl; have y5 : w5.cell? ⟨w.heap.size, 1, none⟩ = some (.int .i64 q) := cell_of_block (i := 1) HR5.out rfl; have z5 : w5.cell? ⟨w.heap.size, 2, none⟩ = some (.int .i64 0) := cell_of_block (i := 2) HR5.out rfl; clear b5))
    go_loopw [13] (fun iv wr => ∃ (j : Nat), iv = .int .i64 (j : Int) ∧ j ≤ S ∧ Hid (Below w.heap.size w wr) ∧ Hid (wr.heap[w.heap.size]? = some (.cells #[.int .i64 k, .int .i64 q, .int .i64 0] 23 (0, 0)))) (fun iv _ => S - (intOf iv).toNat)
    case atStart => exact ⟨0, rfl, Nat.zero_le _, HB5, HR5⟩
    case round =>
      obtain ⟨j, rfl, hj, HB, HR⟩ := hrel
      have c0 : wr.cell? ⟨w.heap.size, 0, none⟩ = some (.int .i64 k) := cell_of_block (i := 0) HR.out rfl
      have c1 : wr.cell? ⟨w.heap.size, 1, none⟩ = some (.int .i64 q) := cell_of_block (i := 1) HR.out rfl
      have c2 : wr.cell? ⟨w.heap.size, 2, none⟩ = some (.int .i64 0) := cell_of_block (i := 2) HR.out rfl
      have HC := mkHid (HA.out wr (j : Int) (by omega) (by omega))
      by_cases hlt : j < S
      · rw [HF.out j hlt] at HC
        go_wp2_with (go_at_call 14; refine HC.out.mono ?_; rintro e w7 ⟨rfl, b7⟩; have HB7 := mkHid b7; clear b7)
        go_roundw
        case rel => exact ⟨j + 1, by go_num, by omega, mkHid (bt HB.out HB7.out), mkHid (hold HR.out HB7.out)⟩
        case measure => simp [intOf]; omega
      · obtain rfl : j = S := by omega
        rw [HT.out] at HC
        go_wp2_with (first
          | (go_at_call 14; refine HC.out.mono ?_; rintro e w7 ⟨rfl, b7⟩; have HB7 := mkHid (bt HB.out b7); have HR7 := mkHid (hold HR.out b7); have u0 : w7.cell? ⟨w.heap.size, 0, none⟩ = some (.int .i64 k) := cell_of_block (i := 0) HR7.out rfl; have u1 : w7.cell? ⟨w.heap.size, 1, none⟩ = some (.int .i64 q) := cell_of_block (i := 1) HR7.out rfl; have u2 : w7.cell? ⟨w.heap.size, 2, none⟩ = some (.int .i64 0) := cell_of_block (i := 2) HR7.out rfl; clear b7)
          | (go_at_call 15; refine (H6.out _ HB7.out).mono ?_; rintro e w8 ⟨rfl, b8⟩; have HB8 := mkHid (bt HB7.out b8); have HR8 := mkHid (hold HR7.out b8); have v0 : w8.cell? ⟨w.heap.size, 0, none⟩ = some (.int .i64 k) := cell_of_block (i := 0) HR8.out rfl; have v1 : w8.cell? ⟨w.heap.size, 1, none⟩ = some (.int .i64 q) := cell_of_block (i := 1) HR8.out rfl; have v2 : w8.cell? ⟨w.heap.size, 2, none⟩ = some (.int .i64 0) := cell_of_block (i := 2) HR8.out rfl; clear b8))
        go_ret
        exact ⟨rfl, HB8.out⟩
  · go_enter Tryd.func3, Tryd.ntmps3
    go_wp2_with (first
      | (go_at_call 9; clear M1; refine (H1.out _ (ba (Below.refl _ _) _)).mono ?_; rintro e w1 ⟨rfl, b1⟩; have HB1 := mkHid (bt (ba (Below.refl _ _) _) b1); have HR1 := mkHid (new_last b1).1; have x1 : w1.cell? ⟨w.heap.size, 0, none⟩ = some (.int .i64 k) := cell_of_block (i := 0) HR1.out rfl; have y1 : w1.cell? ⟨w.heap.size, 1, none⟩ = some (.int .i64 Q) := cell_of_block (i := 1) HR1.out rfl; have z1 : w1.cell? ⟨w.heap.size, 2, none⟩ = some (.int .i64 P) := cell_of_block (i := 2) HR1.out rfl; clear b1)
      | (go_at_call 10; clear M2; refine (H2.out _ HB1.out).mono ?_; rintro e w2 ⟨rfl, b2⟩; have HB2 := mkHid (bt HB1.out b2); have HR2 := mkHid (hold HR1.out b2); clear x1 y1 z1; have x2 : w2.cell? ⟨w.heap.size, 0, none⟩ = some (.int .i64 k) := cell_of_block (i := 0) HR2.out rfl; have y2 : w2.cell? ⟨w.heap.size, 1, none⟩ = some (.int .i64 Q) := cell_of_block (i := 1) HR2.out rfl; have z2 : w2.cell? ⟨w.heap.size, 2, none⟩ = some (.int .i64 P) := cell_of_block (i := 2) HR2.out rfl; clear b2)
      | (go_at_call 11; clear M3; refine (H3.out _ HB2.out).mono ?_; rintro e w3 ⟨rfl, b3⟩; have HB3 := mkHid (bt HB2.out b3); have HR3 := mkHid (hold HR2.out b3); clear x2 y2 z2; have x3 : w3.cell? ⟨w.heap.size, 0, none⟩ = some (.int .i64 k) := cell_of_block (i := 0) HR3.out rfl; have y3 : w3.cell? ⟨w.heap.size, 1, none⟩ = some (.int .i64 Q) := cell_of_block (i := 1) HR3.out rfl; have z3 : w3.cell? ⟨w.heap.size, 2, none⟩ = some (.int .i64 P) := cell_of_block (i := 2) HR3.out rfl; clear b3)
      | (go_at_call 12; clear M4; refine (H4.out _ HB3.out).mono ?_; rintro e w4 ⟨rfl, b4⟩; have HB4 := mkHid (bt HB3.out b4); have HR4 := mkHid (hold HR3.out b4); clear x3 y3 z3; have x4 : w4.cell? ⟨w.heap.size, 0, none⟩ = some (.int .i64 k) := cell_of_block (i := 0) HR4.out rfl; have y4 : w4.cell? ⟨w.heap.size, 1, none⟩ = some (.int .i64 Q) := cell_of_block (i := 1) HR4.out rfl; have z4 : w4.cell? ⟨w.heap.size, 2, none⟩ = some (.int .i64 P) := cell_of_block (i := 2) HR4.out rfl; clear b4)
      | (go_at_call 13; clear M5; refine (H5.out _ HB4.out).mono ?_; rintro e w5 ⟨rfl, b5⟩; have HB5 := mkHid (bt HB4.out b5); have HR5 := mkHid (hold HR4.out b5); clear x4 y4 z4; have x5 : w5.cell? ⟨w.heap.size, 0, none⟩ = some (.int .i64 k) := cell_of_block (i := 0) HR5.out rfl; have y5 : w5.cell? ⟨w.heap.size, 1, none⟩ = some (.int .i64 Q) := cell_of_block (i := 1) HR5.out rfl; have z5 : w5.cell? ⟨w.heap.size, 2, none⟩ = some (.int .i64 P) := cell_of_block (i := 2) HR5.out rfl; clear b5))
    go_loopw [13] (fun iv wr => ∃ (j : Nat), iv = .int .i64 (j : Int) ∧ j ≤ S ∧ Hid (Below w.heap.size w wr) ∧ Hid (wr.heap[w.heap.size]? = some (.cells #[.int .i64 k, .int .i64 Q, .int .i64 P] 23 (0, 0)))) (fun iv _ => S - (intOf iv).toNat)
    case atStart => exact ⟨0, rfl, Nat.zero_le _, HB5, HR5⟩
    case round =>
      obtain ⟨j, rfl, hj, HB, HR⟩ := hrel
      have c0 : wr.cell? ⟨w.heap.size, 0, none⟩ = some (.int .i64 k) := cell_of_block (i := 0) HR.out rfl
      have c1 : wr.cell? ⟨w.heap.size, 1, none⟩ = some (.int .i64 Q) := cell_of_block (i := 1) HR.out rfl
      have c2 : wr.cell? ⟨w.heap.size, 2, none⟩ = some (.int .i64 P) := cell_of_block (i := 2) HR.out rfl
      have HC := mkHid (HA.out wr (j : Int) (by omega) (by omega))
      by_cases hlt : j < S
      · rw [HF.out j hlt] at HC
        go_wp2_with (go_at_call 14; refine HC.out.mono ?_; rintro e w7 ⟨rfl, b7⟩; have HB7 := mkHid b7; clear b7)
        go_roundw
        case rel => exact ⟨j + 1, by go_num, by omega, mkHid (bt HB.out HB7.out), mkHid (hold HR.out HB7.out)⟩
        case measure => simp [intOf]; omega
      · obtain rfl : j = S := by omega
        rw [HT.out] at HC
        go_wp2_with (first
          | (go_at_call 14; refine HC.out.mono ?_; rintro e w7 ⟨rfl, b7⟩; have HB7 := mkHid (bt HB.out b7); have HR7 := mkHid (hold HR.out b7); have u0 : w7.cell? ⟨w.heap.size, 0, none⟩ = some (.int .i64 k) := cell_of_block (i := 0) HR7.out rfl; have u1 : w7.cell? ⟨w.heap.size, 1, none⟩ = some (.int .i64 Q) := cell_of_block (i := 1) HR7.out rfl; have u2 : w7.cell? ⟨w.heap.size, 2, none⟩ = some (.int .i64 P) := cell_of_block (i := 2) HR7.out rfl; clear b7)
          | (go_at_call 15; refine (H6.out _ HB7.out).mono ?_; rintro e w8 ⟨rfl, b8⟩; have HB8 := mkHid (bt HB7.out b8); have HR8 := mkHid (hold HR7.out b8); have v0 : w8.cell? ⟨w.heap.size, 0, none⟩ = some (.int .i64 k) := cell_of_block (i := 0) HR8.out rfl; have v1 : w8.cell? ⟨w.heap.size, 1, none⟩ = some (.int .i64 Q) := cell_of_block (i := 1) HR8.out rfl; have v2 : w8.cell? ⟨w.heap.size, 2, none⟩ = some (.int .i64 P) := cell_of_block (i := 2) HR8.out rfl; clear b8))
        go_ret
        exact ⟨rfl, HB8.out⟩
end Go.Proofs.YtldfngkooilmnaaDoor
