/- The law DemandPeriods. -/
import Derived.Test.YtilnchlnlnpkfaaDoorDm8
namespace Go.Proofs.YtilnchlnlnpkfaaDoor
open Go.ChangeShapes Go.WideShapes Go.ChangeAt Go.RowKit
set_option maxRecDepth 100000
set_option maxRecDepth 100000
set_option linter.unusedVariables false

theorem new_two {w w3 : World} {o o2 : Obj} (h : Below ((w.alloc o).alloc o2).heap.size ((w.alloc o).alloc o2) w3) : w3.heap[w.heap.size]? = some o ∧ w3.heap[w.heap.size + 1]? = some o2 := by
  obtain ⟨h1, h2⟩ := new_last h
  obtain ⟨h3, h4⟩ := new_last h2
  exact ⟨h3, by rw [show w.heap.size + 1 = (w.alloc o).heap.size by simp]; exact h1⟩
theorem tcd_one_yes {t : Tk} (h : okT t) {l : Int} (l0 : 0 ≤ l) (l1 : l ≤ 1099511627776) : tcd [t] l = 0 := by
  rcases tcd_cases [t] l with ⟨_, hx⟩ | ⟨_, _, hl⟩ | ⟨e, _⟩
  · exact absurd ⟨by simp, fun x hx => by simp at hx; rw [hx]; exact h⟩ hx
  · omega
  · exact e
theorem taskA_yes (w : World) (s : Tk) (l : Int) (a : Nat → Addr) (E : Er4 w a) (h : okT s) (l0 : 0 ≤ l) (l1 : l ≤ 1099511627776) : Ans w 27 #[vT s, .int .i64 l] (.tuple #[.int .i64 (tdem s l), .nilIface]) := fun W hb => task_ok W s l a (E.late hb) (tcd_one_yes h l0 l1) h l0 l1
theorem reflegalT (w : World) (t : Tk) (b : Bool) (hb : bT t = b) : Ans w 28 #[vT t] (.bool b) := fun W _ => by rw [← hb]; exact refLegalTask_is W t
theorem reflegalS (w : World) (s : Sv) (b : Bool) (hb : bS s = b) : Ans w 19 #[vS s] (.bool b) := fun W _ => by rw [← hb]; exact reflegal_is W s
set_option maxHeartbeats 6400000 in
theorem periods_yy (w : World) (s : Sv) (u : Tk) (l L : Int) (ad : Nat → Addr) (E : Er4 w ad) (el : bits .and .i64 l 1073741823 = L) (L0 : 0 ≤ L) (L1 : L ≤ 1073741823) (hs : okS s) (hu : okT u) : Calls Tryd.prog 8 #[vS s, vT u, .int .i64 l] w fun e w' => e = .returned (.bool true) ∧ Below w.heap.size w w' := by
  have H1 : Hid (Ans w 9 #[] (.bool true)) := mkHid (fun W hb => dalive W ad (E.late hb).er3)
  have H2 := mkHid (reflegalS w s true (bS_true hs))
  obtain ⟨s1, s2, s3, s4, s5⟩ := id hs
  have H3 := mkHid (sdemA_yes w s L ad E.er3 hs L0 (by omega))
  have H4 := mkHid (sdemA_yes w s (L + s.2.2) ad E.er3 hs (by omega) (by omega))
  have k1 := sdem_period hs L0
  have k2 := sdem_bounds hs L0
  have H5 := mkHid (reflegalT w u true (bT_true hu))
  obtain ⟨u1, u2, u3, u4, u5, u6⟩ := id hu
  have H6 := mkHid (taskA_yes w u (L + u.2.2.1) ad E hu (by omega) (by omega))
  have H7 := mkHid (taskA_yes w u (L + u.2.2.1 + u.2.1) ad E hu (by omega) (by omega))
  have H8 := mkHid (taskA_yes w u (u.2.2.1 - 1) ad E hu (by omega) (by omega))
  have k3 := tdem_period hu L0
  have k4 := tdem_bounds hu (show 0 ≤ L + u.2.2.1 by omega)
  rw [tdem_early] at H8
  clear E hs hu
  obtain ⟨k, q, t⟩ := s
  obtain ⟨c, p, d, r⟩ := u
  simp only at s1 s2 s3 s4 s5 H4 k1
  have e1 : IntKind.i64.wrap (L + t) = L + t := wfit (by omega) (by omega)
  generalize sdem (k, q, t) L = X at *
  generalize sdem (k, q, t) (L + t) = Y at *
  subst k1
  have e2 : IntKind.i64.wrap (X + q) = X + q := wfit (by omega) (by omega)
  simp only at u1 u2 u3 u4 u5 u6 H6 H7 H8 k3 k4
  have e3 : IntKind.i64.wrap (L + d) = L + d := wfit (by omega) (by omega)
  have e4 : IntKind.i64.wrap (L + d + p) = L + d + p := wfit (by omega) (by omega)
  have e5 : IntKind.i64.wrap (d - 1) = d - 1 := wfit (by omega) (by omega)
  generalize tdem (c, p, d, r) (L + d) = P at *
  generalize tdem (c, p, d, r) (L + d + p) = Q at *
  subst k3
  have e6 : IntKind.i64.wrap (P + c) = P + c := wfit (by omega) (by omega)
  have M1 : Hid True := mkHid trivial
  have M2 : Hid True := mkHid trivial
  have M3 : Hid True := mkHid trivial
  have M4 : Hid True := mkHid trivial
  have M5 : Hid True := mkHid trivial
  have M6 : Hid True := mkHid trivial
  have M7 : Hid True := mkHid trivial
  have M8 : Hid True := mkHid trivial
  go_enter Tryd.func8, Tryd.ntmps8
  go_wp2_with (first
    | (go_at_call 9; clear M1; refine (H1.out _ (ba (ba (Below.refl _ _) _) _)).mono ?_; rintro e w1 ⟨rfl, b1⟩; have HB1 := mkHid (bt (ba (ba (Below.refl _ _) _) _) b1); have HR1 := mkHid (new_two b1); have x1 : w1.cell? ⟨w.heap.size, 0, none⟩ = some (.int .i64 k) := cell_of_block (i := 0) HR1.out.1 rfl; have y1 : w1.cell? ⟨w.heap.size, 1, none⟩ = some (.int .i64 q) := cell_of_block (i := 1) HR1.out.1 rfl; have z1 : w1.cell? ⟨w.heap.size, 2, none⟩ = some (.int .i64 t) := cell_of_block (i := 2) HR1.out.1 rfl; have tc1 : w1.cell? ⟨w.heap.size + 1, 0, none⟩ = some (.int .i64 c) := cell_of_block (i := 0) HR1.out.2 rfl; have tp1 : w1.cell? ⟨w.heap.size + 1, 1, none⟩ = some (.int .i64 p) := cell_of_block (i := 1) HR1.out.2 rfl; have td1 : w1.cell? ⟨w.heap.size + 1, 2, none⟩ = some (.int .i64 d) := cell_of_block (i := 2) HR1.out.2 rfl; have ts1 : w1.cell? ⟨w.heap.size + 1, 3, none⟩ = some (.int .i64 r) := cell_of_block (i := 3) HR1.out.2 rfl; clear b1)
    | (go_at_call 19; clear M2; refine (H2.out _ HB1.out).mono ?_; rintro e w2 ⟨rfl, b2⟩; have HB2 := mkHid (bt HB1.out b2); have HR2 := mkHid (And.intro (hold HR1.out.1 b2) (hold HR1.out.2 b2)); clear x1 y1 z1 tc1 tp1 td1 ts1; have x2 : w2.cell? ⟨w.heap.size, 0, none⟩ = some (.int .i64 k) := cell_of_block (i := 0) HR2.out.1 rfl; have y2 : w2.cell? ⟨w.heap.size, 1, none⟩ = some (.int .i64 q) := cell_of_block (i := 1) HR2.out.1 rfl; have z2 : w2.cell? ⟨w.heap.size, 2, none⟩ = some (.int .i64 t) := cell_of_block (i := 2) HR2.out.1 rfl; have tc2 : w2.cell? ⟨w.heap.size + 1, 0, none⟩ = some (.int .i64 c) := cell_of_block (i := 0) HR2.out.2 rfl; have tp2 : w2.cell? ⟨w.heap.size + 1, 1, none⟩ = some (.int .i64 p) := cell_of_block (i := 1) HR2.out.2 rfl; have td2 : w2.cell? ⟨w.heap.size + 1, 2, none⟩ = some (.int .i64 d) := cell_of_block (i := 2) HR2.out.2 rfl; have ts2 : w2.cell? ⟨w.heap.size + 1, 3, none⟩ = some (.int .i64 r) := cell_of_block (i := 3) HR2.out.2 rfl; clear b2)
    | (go_at_call 17; clear M3; refine (H3.out _ HB2.out).mono ?_; rintro e w3 ⟨rfl, b3⟩; have HB3 := mkHid (bt HB2.out b3); have HR3 := mkHid (And.intro (hold HR2.out.1 b3) (hold HR2.out.2 b3)); clear x2 y2 z2 tc2 tp2 td2 ts2; have x3 : w3.cell? ⟨w.heap.size, 0, none⟩ = some (.int .i64 k) := cell_of_block (i := 0) HR3.out.1 rfl; have y3 : w3.cell? ⟨w.heap.size, 1, none⟩ = some (.int .i64 q) := cell_of_block (i := 1) HR3.out.1 rfl; have z3 : w3.cell? ⟨w.heap.size, 2, none⟩ = some (.int .i64 t) := cell_of_block (i := 2) HR3.out.1 rfl; have tc3 : w3.cell? ⟨w.heap.size + 1, 0, none⟩ = some (.int .i64 c) := cell_of_block (i := 0) HR3.out.2 rfl; have tp3 : w3.cell? ⟨w.heap.size + 1, 1, none⟩ = some (.int .i64 p) := cell_of_block (i := 1) HR3.out.2 rfl; have td3 : w3.cell? ⟨w.heap.size + 1, 2, none⟩ = some (.int .i64 d) := cell_of_block (i := 2) HR3.out.2 rfl; have ts3 : w3.cell? ⟨w.heap.size + 1, 3, none⟩ = some (.int .i64 r) := cell_of_block (i := 3) HR3.out.2 rfl; clear b3)
    | (go_at_call 17; clear M4; refine (H4.out _ HB3.out).mono ?_; rintro e w4 ⟨rfl, b4⟩; have HB4 := mkHid (bt HB3.out b4); have HR4 := mkHid (And.intro (hold HR3.out.1 b4) (hold HR3.out.2 b4)); clear x3 y3 z3 tc3 tp3 td3 ts3; have x4 : w4.cell? ⟨w.heap.size, 0, none⟩ = some (.int .i64 k) := cell_of_block (i := 0) HR4.out.1 rfl; have y4 : w4.cell? ⟨w.heap.size, 1, none⟩ = some (.int .i64 q) := cell_of_block (i := 1) HR4.out.1 rfl; have z4 : w4.cell? ⟨w.heap.size, 2, none⟩ = some (.int .i64 t) := cell_of_block (i := 2) HR4.out.1 rfl; have tc4 : w4.cell? ⟨w.heap.size + 1, 0, none⟩ = some (.int .i64 c) := cell_of_block (i := 0) HR4.out.2 rfl; have tp4 : w4.cell? ⟨w.heap.size + 1, 1, none⟩ = some (.int .i64 p) := cell_of_block (i := 1) HR4.out.2 rfl; have td4 : w4.cell? ⟨w.heap.size + 1, 2, none⟩ = some (.int .i64 d) := cell_of_block (i := 2) HR4.out.2 rfl; have ts4 : w4.cell? ⟨w.heap.size + 1, 3, none⟩ = some (.int .i64 r) := cell_of_block (i := 3) HR4.out.2 rfl; clear b4)
    | (go_at_call 28; clear M5; refine (H5.out _ HB4.out).mono ?_; rintro e w5 ⟨rfl, b5⟩; have HB5 := mkHid (bt HB4.out b5); have HR5 := mkHid (And.intro (hold HR4.out.1 b5) (hold HR4.out.2 b5)); clear x4 y4 z4 tc4 tp4 td4 ts4; have x5 : w5.cell? ⟨w.heap.size, 0, none⟩ = some (.int .i64 k) := cell_of_block (i := 0) HR5.out.1 rfl; have y5 : w5.cell? ⟨w.heap.size, 1, none⟩ = some (.int .i64 q) := cell_of_block (i := 1) HR5.out.1 rfl; have z5 : w5.cell? ⟨w.heap.size, 2, none⟩ = some (.int .i64 t) := cell_of_block (i := 2) HR5.out.1 rfl; have tc5 : w5.cell? ⟨w.heap.size + 1, 0, none⟩ = some (.int .i64 c) := cell_of_block (i := 0) HR5.out.2 rfl; have tp5 : w5.cell? ⟨w.heap.size + 1, 1, none⟩ = some (.int .i64 p) := cell_of_block (i := 1) HR5.out.2 rfl; have td5 : w5.cell? ⟨w.heap.size + 1, 2, none⟩ = some (.int .i64 d) := cell_of_block (i := 2) HR5.out.2 rfl; have ts5 : w5.cell? ⟨w.heap.size + 1, 3, none⟩ = some (.int .i64 r) := cell_of_block (i := 3) HR5.out.2 rfl; clear b5)
    | (go_at_call 27; clear M6; refine (H6.out _ HB5.out).mono ?_; rintro e w6 ⟨rfl, b6⟩; have HB6 := mkHid (bt HB5.out b6); have HR6 := mkHid (And.intro (hold HR5.out.1 b6) (hold HR5.out.2 b6)); clear x5 y5 z5 tc5 tp5 td5 ts5; have x6 : w6.cell? ⟨w.heap.size, 0, none⟩ = some (.int .i64 k) := cell_of_block (i := 0) HR6.out.1 rfl; have y6 : w6.cell? ⟨w.heap.size, 1, none⟩ = some (.int .i64 q) := cell_of_block (i := 1) HR6.out.1 rfl; have z6 : w6.cell? ⟨w.heap.size, 2, none⟩ = some (.int .i64 t) := cell_of_block (i := 2) HR6.out.1 rfl; have tc6 : w6.cell? ⟨w.heap.size + 1, 0, none⟩ = some (.int .i64 c) := cell_of_block (i := 0) HR6.out.2 rfl; have tp6 : w6.cell? ⟨w.heap.size + 1, 1, none⟩ = some (.int .i64 p) := cell_of_block (i := 1) HR6.out.2 rfl; have td6 : w6.cell? ⟨w.heap.size + 1, 2, none⟩ = some (.int .i64 d) := cell_of_block (i := 2) HR6.out.2 rfl; have ts6 : w6.cell? ⟨w.heap.size + 1, 3, none⟩ = some (.int .i64 r) := cell_of_block (i := 3) HR6.out.2 rfl; clear b6)
    | (go_at_call 27; clear M7; refine (H7.out _ HB6.out).mono ?_; rintro e w7 ⟨rfl, b7⟩; have HB7 := mkHid (bt HB6.out b7); have HR7 := mkHid (And.intro (hold HR6.out.1 b7) (hold HR6.out.2 b7)); clear x6 y6 z6 tc6 tp6 td6 ts6; have x7 : w7.cell? ⟨w.heap.size, 0, none⟩ = some (.int .i64 k) := cell_of_block (i := 0) HR7.out.1 rfl; have y7 : w7.cell? ⟨w.heap.size, 1, none⟩ = some (.int .i64 q) := cell_of_block (i := 1) HR7.out.1 rfl; have z7 : w7.cell? ⟨w.heap.size, 2, none⟩ = some (.int .i64 t) := cell_of_block (i := 2) HR7.out.1 rfl; have tc7 : w7.cell? ⟨w.heap.size + 1, 0, none⟩ = some (.int .i64 c) := cell_of_block (i := 0) HR7.out.2 rfl; have tp7 : w7.cell? ⟨w.heap.size + 1, 1, none⟩ = some (.int .i64 p) := cell_of_block (i := 1) HR7.out.2 rfl; have td7 : w7.cell? ⟨w.heap.size + 1, 2, none⟩ = some (.int .i64 d) := cell_of_block (i := 2) HR7.out.2 rfl; have ts7 : w7.cell? ⟨w.heap.size + 1, 3, none⟩ = some (.int .i64 r) := cell_of_block (i := 3) HR7.out.2 rfl; clear b7)
    | (go_at_call 27; clear M8; refine (H8.out _ HB7.out).mono ?_; rintro e w8 ⟨rfl, b8⟩; have HB8 := mkHid (bt HB7.out b8); have HR8 := mkHid (And.intro (hold HR7.out.1 b8) (hold HR7.out.2 b8)); clear x7 y7 z7 tc7 tp7 td7 ts7; have x8 : w8.cell? ⟨w.heap.size, 0, none⟩ = some (.int .i64 k) := cell_of_block (i := 0) HR8.out.1 rfl; have y8 : w8.cell? ⟨w.heap.size, 1, none⟩ = some (.int .i64 q) := cell_of_block (i := 1) HR8.out.1 rfl; have z8 : w8.cell? ⟨w.heap.size, 2, none⟩ = some (.int .i64 t) := cell_of_block (i := 2) HR8.out.1 rfl; have tc8 : w8.cell? ⟨w.heap.size + 1, 0, none⟩ = some (.int .i64 c) := cell_of_block (i := 0) HR8.out.2 rfl; have tp8 : w8.cell? ⟨w.heap.size + 1, 1, none⟩ = some (.int .i64 p) := cell_of_block (i := 1) HR8.out.2 rfl; have td8 : w8.cell? ⟨w.heap.size + 1, 2, none⟩ = some (.int .i64 d) := cell_of_block (i := 2) HR8.out.2 rfl; have ts8 : w8.cell? ⟨w.heap.size + 1, 3, none⟩ = some (.int .i64 r) := cell_of_block (i := 3) HR8.out.2 rfl; clear b8))
  go_ret
  exact ⟨rfl, HB8.out⟩
set_option maxHeartbeats 6400000 in
theorem periods_yn (w : World) (s : Sv) (u : Tk) (l L : Int) (ad : Nat → Addr) (E : Er4 w ad) (el : bits .and .i64 l 1073741823 = L) (L0 : 0 ≤ L) (L1 : L ≤ 1073741823) (hs : okS s) (hu : ¬ okT u) : Calls Tryd.prog 8 #[vS s, vT u, .int .i64 l] w fun e w' => e = .returned (.bool true) ∧ Below w.heap.size w w' := by
  have H1 : Hid (Ans w 9 #[] (.bool true)) := mkHid (fun W hb => dalive W ad (E.late hb).er3)
  have H2 := mkHid (reflegalS w s true (bS_true hs))
  obtain ⟨s1, s2, s3, s4, s5⟩ := id hs
  have H3 := mkHid (sdemA_yes w s L ad E.er3 hs L0 (by omega))
  have H4 := mkHid (sdemA_yes w s (L + s.2.2) ad E.er3 hs (by omega) (by omega))
  have k1 := sdem_period hs L0
  have k2 := sdem_bounds hs L0
  have H5 := mkHid (reflegalT w u false (bT_false hu))
  clear E hs hu
  obtain ⟨k, q, t⟩ := s
  obtain ⟨c, p, d, r⟩ := u
  simp only at s1 s2 s3 s4 s5 H4 k1
  have e1 : IntKind.i64.wrap (L + t) = L + t := wfit (by omega) (by omega)
  generalize sdem (k, q, t) L = X at *
  generalize sdem (k, q, t) (L + t) = Y at *
  subst k1
  have e2 : IntKind.i64.wrap (X + q) = X + q := wfit (by omega) (by omega)
  have M1 : Hid True := mkHid trivial
  have M2 : Hid True := mkHid trivial
  have M3 : Hid True := mkHid trivial
  have M4 : Hid True := mkHid trivial
  have M5 : Hid True := mkHid trivial
  go_enter Tryd.func8, Tryd.ntmps8
  go_wp2_with (first
    | (go_at_call 9; clear M1; refine (H1.out _ (ba (ba (Below.refl _ _) _) _)).mono ?_; rintro e w1 ⟨rfl, b1⟩; have HB1 := mkHid (bt (ba (ba (Below.refl _ _) _) _) b1); have HR1 := mkHid (new_two b1); have x1 : w1.cell? ⟨w.heap.size, 0, none⟩ = some (.int .i64 k) := cell_of_block (i := 0) HR1.out.1 rfl; have y1 : w1.cell? ⟨w.heap.size, 1, none⟩ = some (.int .i64 q) := cell_of_block (i := 1) HR1.out.1 rfl; have z1 : w1.cell? ⟨w.heap.size, 2, none⟩ = some (.int .i64 t) := cell_of_block (i := 2) HR1.out.1 rfl; have tc1 : w1.cell? ⟨w.heap.size + 1, 0, none⟩ = some (.int .i64 c) := cell_of_block (i := 0) HR1.out.2 rfl; have tp1 : w1.cell? ⟨w.heap.size + 1, 1, none⟩ = some (.int .i64 p) := cell_of_block (i := 1) HR1.out.2 rfl; have td1 : w1.cell? ⟨w.heap.size + 1, 2, none⟩ = some (.int .i64 d) := cell_of_block (i := 2) HR1.out.2 rfl; have ts1 : w1.cell? ⟨w.heap.size + 1, 3, none⟩ = some (.int .i64 r) := cell_of_block (i := 3) HR1.out.2 rfl; clear b1)
    | (go_at_call 19; clear M2; refine (H2.out _ HB1.out).mono ?_; rintro e w2 ⟨rfl, b2⟩; have HB2 := mkHid (bt HB1.out b2); have HR2 := mkHid (And.intro (hold HR1.out.1 b2) (hold HR1.out.2 b2)); clear x1 y1 z1 tc1 tp1 td1 ts1; have x2 : w2.cell? ⟨w.heap.size, 0, none⟩ = some (.int .i64 k) := cell_of_block (i := 0) HR2.out.1 rfl; have y2 : w2.cell? ⟨w.heap.size, 1, none⟩ = some (.int .i64 q) := cell_of_block (i := 1) HR2.out.1 rfl; have z2 : w2.cell? ⟨w.heap.size, 2, none⟩ = some (.int .i64 t) := cell_of_block (i := 2) HR2.out.1 rfl; have tc2 : w2.cell? ⟨w.heap.size + 1, 0, none⟩ = some (.int .i64 c) := cell_of_block (i := 0) HR2.out.2 rfl; have tp2 : w2.cell? ⟨w.heap.size + 1, 1, none⟩ = some (.int .i64 p) := cell_of_block (i := 1) HR2.out.2 rfl; have td2 : w2.cell? ⟨w.heap.size + 1, 2, none⟩ = some (.int .i64 d) := cell_of_block (i := 2) HR2.out.2 rfl; have ts2 : w2.cell? ⟨w.heap.size + 1, 3, none⟩ = some (.int .i64 r) := cell_of_block (i := 3) HR2.out.2 rfl; clear b2)
    | (go_at_call 17; clear M3; refine (H3.out _ HB2.out).mono ?_; rintro e w3 ⟨rfl, b3⟩; have HB3 := mkHid (bt HB2.out b3); have HR3 := mkHid (And.intro (hold HR2.out.1 b3) (hold HR2.out.2 b3)); clear x2 y2 z2 tc2 tp2 td2 ts2; have x3 : w3.cell? ⟨w.heap.size, 0, none⟩ = some (.int .i64 k) := cell_of_block (i := 0) HR3.out.1 rfl; have y3 : w3.cell? ⟨w.heap.size, 1, none⟩ = some (.int .i64 q) := cell_of_block (i := 1) HR3.out.1 rfl; have z3 : w3.cell? ⟨w.heap.size, 2, none⟩ = some (.int .i64 t) := cell_of_block (i := 2) HR3.out.1 rfl; have tc3 : w3.cell? ⟨w.heap.size + 1, 0, none⟩ = some (.int .i64 c) := cell_of_block (i := 0) HR3.out.2 rfl; have tp3 : w3.cell? ⟨w.heap.size + 1, 1, none⟩ = some (.int .i64 p) := cell_of_block (i := 1) HR3.out.2 rfl; have td3 : w3.cell? ⟨w.heap.size + 1, 2, none⟩ = some (.int .i64 d) := cell_of_block (i := 2) HR3.out.2 rfl; have ts3 : w3.cell? ⟨w.heap.size + 1, 3, none⟩ = some (.int .i64 r) := cell_of_block (i := 3) HR3.out.2 rfl; clear b3)
    | (go_at_call 17; clear M4; refine (H4.out _ HB3.out).mono ?_; rintro e w4 ⟨rfl, b4⟩; have HB4 := mkHid (bt HB3.out b4); have HR4 := mkHid (And.intro (hold HR3.out.1 b4) (hold HR3.out.2 b4)); clear x3 y3 z3 tc3 tp3 td3 ts3; have x4 : w4.cell? ⟨w.heap.size, 0, none⟩ = some (.int .i64 k) := cell_of_block (i := 0) HR4.out.1 rfl; have y4 : w4.cell? ⟨w.heap.size, 1, none⟩ = some (.int .i64 q) := cell_of_block (i := 1) HR4.out.1 rfl; have z4 : w4.cell? ⟨w.heap.size, 2, none⟩ = some (.int .i64 t) := cell_of_block (i := 2) HR4.out.1 rfl; have tc4 : w4.cell? ⟨w.heap.size + 1, 0, none⟩ = some (.int .i64 c) := cell_of_block (i := 0) HR4.out.2 rfl; have tp4 : w4.cell? ⟨w.heap.size + 1, 1, none⟩ = some (.int .i64 p) := cell_of_block (i := 1) HR4.out.2 rfl; have td4 : w4.cell? ⟨w.heap.size + 1, 2, none⟩ = some (.int .i64 d) := cell_of_block (i := 2) HR4.out.2 rfl; have ts4 : w4.cell? ⟨w.heap.size + 1, 3, none⟩ = some (.int .i64 r) := cell_of_block (i := 3) HR4.out.2 rfl; clear b4)
    | (go_at_call 28; clear M5; refine (H5.out _ HB4.out).mono ?_; rintro e w5 ⟨rfl, b5⟩; have HB5 := mkHid (bt HB4.out b5); have HR5 := mkHid (And.intro (hold HR4.out.1 b5) (hold HR4.out.2 b5)); clear x4 y4 z4 tc4 tp4 td4 ts4; have x5 : w5.cell? ⟨w.heap.size, 0, none⟩ = some (.int .i64 k) := cell_of_block (i := 0) HR5.out.1 rfl; have y5 : w5.cell? ⟨w.heap.size, 1, none⟩ = some (.int .i64 q) := cell_of_block (i := 1) HR5.out.1 rfl; have z5 : w5.cell? ⟨w.heap.size, 2, none⟩ = some (.int .i64 t) := cell_of_block (i := 2) HR5.out.1 rfl; have tc5 : w5.cell? ⟨w.heap.size + 1, 0, none⟩ = some (.int .i64 c) := cell_of_block (i := 0) HR5.out.2 rfl; have tp5 : w5.cell? ⟨w.heap.size + 1, 1, none⟩ = some (.int .i64 p) := cell_of_block (i := 1) HR5.out.2 rfl; have td5 : w5.cell? ⟨w.heap.size + 1, 2, none⟩ = some (.int .i64 d) := cell_of_block (i := 2) HR5.out.2 rfl; have ts5 : w5.cell? ⟨w.heap.size + 1, 3, none⟩ = some (.int .i64 r) := cell_of_block (i := 3) HR5.out.2 rfl; clear b5))
  go_ret
  exact ⟨rfl, HB5.out⟩
set_option maxHeartbeats 6400000 in
theorem periods_ny (w : World) (s : Sv) (u : Tk) (l L : Int) (ad : Nat → Addr) (E : Er4 w ad) (el : bits .and .i64 l 1073741823 = L) (L0 : 0 ≤ L) (L1 : L ≤ 1073741823) (hs : ¬ okS s) (hu : okT u) : Calls Tryd.prog 8 #[vS s, vT u, .int .i64 l] w fun e w' => e = .returned (.bool true) ∧ Below w.heap.size w w' := by
  have H1 : Hid (Ans w 9 #[] (.bool true)) := mkHid (fun W hb => dalive W ad (E.late hb).er3)
  have H2 := mkHid (reflegalS w s false (bS_false hs))
  have H5 := mkHid (reflegalT w u true (bT_true hu))
  obtain ⟨u1, u2, u3, u4, u5, u6⟩ := id hu
  have H6 := mkHid (taskA_yes w u (L + u.2.2.1) ad E hu (by omega) (by omega))
  have H7 := mkHid (taskA_yes w u (L + u.2.2.1 + u.2.1) ad E hu (by omega) (by omega))
  have H8 := mkHid (taskA_yes w u (u.2.2.1 - 1) ad E hu (by omega) (by omega))
  have k3 := tdem_period hu L0
  have k4 := tdem_bounds hu (show 0 ≤ L + u.2.2.1 by omega)
  rw [tdem_early] at H8
  clear E hs hu
  obtain ⟨k, q, t⟩ := s
  obtain ⟨c, p, d, r⟩ := u
  simp only at u1 u2 u3 u4 u5 u6 H6 H7 H8 k3 k4
  have e3 : IntKind.i64.wrap (L + d) = L + d := wfit (by omega) (by omega)
  have e4 : IntKind.i64.wrap (L + d + p) = L + d + p := wfit (by omega) (by omega)
  have e5 : IntKind.i64.wrap (d - 1) = d - 1 := wfit (by omega) (by omega)
  generalize tdem (c, p, d, r) (L + d) = P at *
  generalize tdem (c, p, d, r) (L + d + p) = Q at *
  subst k3
  have e6 : IntKind.i64.wrap (P + c) = P + c := wfit (by omega) (by omega)
  have M1 : Hid True := mkHid trivial
  have M2 : Hid True := mkHid trivial
  have M3 : Hid True := mkHid trivial
  have M4 : Hid True := mkHid trivial
  have M5 : Hid True := mkHid trivial
  have M6 : Hid True := mkHid trivial
  go_enter Tryd.func8, Tryd.ntmps8
  go_wp2_with (first
    | (go_at_call 9; clear M1; refine (H1.out _ (ba (ba (Below.refl _ _) _) _)).mono ?_; rintro e w1 ⟨rfl, b1⟩; have HB1 := mkHid (bt (ba (ba (Below.refl _ _) _) _) b1); have HR1 := mkHid (new_two b1); have x1 : w1.cell? ⟨w.heap.size, 0, none⟩ = some (.int .i64 k) := cell_of_block (i := 0) HR1.out.1 rfl; have y1 : w1.cell? ⟨w.heap.size, 1, none⟩ = some (.int .i64 q) := cell_of_block (i := 1) HR1.out.1 rfl; have z1 : w1.cell? ⟨w.heap.size, 2, none⟩ = some (.int .i64 t) := cell_of_block (i := 2) HR1.out.1 rfl; have tc1 : w1.cell? ⟨w.heap.size + 1, 0, none⟩ = some (.int .i64 c) := cell_of_block (i := 0) HR1.out.2 rfl; have tp1 : w1.cell? ⟨w.heap.size + 1, 1, none⟩ = some (.int .i64 p) := cell_of_block (i := 1) HR1.out.2 rfl; have td1 : w1.cell? ⟨w.heap.size + 1, 2, none⟩ = some (.int .i64 d) := cell_of_block (i := 2) HR1.out.2 rfl; have ts1 : w1.cell? ⟨w.heap.size + 1, 3, none⟩ = some (.int .i64 r) := cell_of_block (i := 3) HR1.out.2 rfl; clear b1)
    | (go_at_call 19; clear M2; refine (H2.out _ HB1.out).mono ?_; rintro e w2 ⟨rfl, b2⟩; have HB2 := mkHid (bt HB1.out b2); have HR2 := mkHid (And.intro (hold HR1.out.1 b2) (hold HR1.out.2 b2)); clear x1 y1 z1 tc1 tp1 td1 ts1; have x2 : w2.cell? ⟨w.heap.size, 0, none⟩ = some (.int .i64 k) := cell_of_block (i := 0) HR2.out.1 rfl; have y2 : w2.cell? ⟨w.heap.size, 1, none⟩ = some (.int .i64 q) := cell_of_block (i := 1) HR2.out.1 rfl; have z2 : w2.cell? ⟨w.heap.size, 2, none⟩ = some (.int .i64 t) := cell_of_block (i := 2) HR2.out.1 rfl; have tc2 : w2.cell? ⟨w.heap.size + 1, 0, none⟩ = some (.int .i64 c) := cell_of_block (i := 0) HR2.out.2 rfl; have tp2 : w2.cell? ⟨w.heap.size + 1, 1, none⟩ = some (.int .i64 p) := cell_of_block (i := 1) HR2.out.2 rfl; have td2 : w2.cell? ⟨w.heap.size + 1, 2, none⟩ = some (.int .i64 d) := cell_of_block (i := 2) HR2.out.2 rfl; have ts2 : w2.cell? ⟨w.heap.size + 1, 3, none⟩ = some (.int .i64 r) := cell_of_block (i := 3) HR2.out.2 rfl; clear b2)
    | (go_at_call 28; clear M3; refine (H5.out _ HB2.out).mono ?_; rintro e w3 ⟨rfl, b3⟩; have HB3 := mkHid (bt HB2.out b3); have HR3 := mkHid (And.intro (hold HR2.out.1 b3) (hold HR2.out.2 b3)); clear x2 y2 z2 tc2 tp2 td2 ts2; have x3 : w3.cell? ⟨w.heap.size, 0, none⟩ = some (.int .i64 k) := cell_of_block (i := 0) HR3.out.1 rfl; have y3 : w3.cell? ⟨w.heap.size, 1, none⟩ = some (.int .i64 q) := cell_of_block (i := 1) HR3.out.1 rfl; have z3 : w3.cell? ⟨w.heap.size, 2, none⟩ = some (.int .i64 t) := cell_of_block (i := 2) HR3.out.1 rfl; have tc3 : w3.cell? ⟨w.heap.size + 1, 0, none⟩ = some (.int .i64 c) := cell_of_block (i := 0) HR3.out.2 rfl; have tp3 : w3.cell? ⟨w.heap.size + 1, 1, none⟩ = some (.int .i64 p) := cell_of_block (i := 1) HR3.out.2 rfl; have td3 : w3.cell? ⟨w.heap.size + 1, 2, none⟩ = some (.int .i64 d) := cell_of_block (i := 2) HR3.out.2 rfl; have ts3 : w3.cell? ⟨w.heap.size + 1, 3, none⟩ = some (.int .i64 r) := cell_of_block (i := 3) HR3.out.2 rfl; clear b3)
    | (go_at_call 27; clear M4; refine (H6.out _ HB3.out).mono ?_; rintro e w4 ⟨rfl, b4⟩; have HB4 := mkHid (bt HB3.out b4); have HR4 := mkHid (And.intro (hold HR3.out.1 b4) (hold HR3.out.2 b4)); clear x3 y3 z3 tc3 tp3 td3 ts3; have x4 : w4.cell? ⟨w.heap.size, 0, none⟩ = some (.int .i64 k) := cell_of_block (i := 0) HR4.out.1 rfl; have y4 : w4.cell? ⟨w.heap.size, 1, none⟩ = some (.int .i64 q) := cell_of_block (i := 1) HR4.out.1 rfl; have z4 : w4.cell? ⟨w.heap.size, 2, none⟩ = some (.int .i64 t) := cell_of_block (i := 2) HR4.out.1 rfl; have tc4 : w4.cell? ⟨w.heap.size + 1, 0, none⟩ = some (.int .i64 c) := cell_of_block (i := 0) HR4.out.2 rfl; have tp4 : w4.cell? ⟨w.heap.size + 1, 1, none⟩ = some (.int .i64 p) := cell_of_block (i := 1) HR4.out.2 rfl; have td4 : w4.cell? ⟨w.heap.size + 1, 2, none⟩ = some (.int .i64 d) := cell_of_block (i := 2) HR4.out.2 rfl; have ts4 : w4.cell? ⟨w.heap.size + 1, 3, none⟩ = some (.int .i64 r) := cell_of_block (i := 3) HR4.out.2 rfl; clear b4)
    | (go_at_call 27; clear M5; refine (H7.out _ HB4.out).mono ?_; rintro e w5 ⟨rfl, b5⟩; have HB5 := mkHid (bt HB4.out b5); have HR5 := mkHid (And.intro (hold HR4.out.1 b5) (hold HR4.out.2 b5)); clear x4 y4 z4 tc4 tp4 td4 ts4; have x5 : w5.cell? ⟨w.heap.size, 0, none⟩ = some (.int .i64 k) := cell_of_block (i := 0) HR5.out.1 rfl; have y5 : w5.cell? ⟨w.heap.size, 1, none⟩ = some (.int .i64 q) := cell_of_block (i := 1) HR5.out.1 rfl; have z5 : w5.cell? ⟨w.heap.size, 2, none⟩ = some (.int .i64 t) := cell_of_block (i := 2) HR5.out.1 rfl; have tc5 : w5.cell? ⟨w.heap.size + 1, 0, none⟩ = some (.int .i64 c) := cell_of_block (i := 0) HR5.out.2 rfl; have tp5 : w5.cell? ⟨w.heap.size + 1, 1, none⟩ = some (.int .i64 p) := cell_of_block (i := 1) HR5.out.2 rfl; have td5 : w5.cell? ⟨w.heap.size + 1, 2, none⟩ = some (.int .i64 d) := cell_of_block (i := 2) HR5.out.2 rfl; have ts5 : w5.cell? ⟨w.heap.size + 1, 3, none⟩ = some (.int .i64 r) := cell_of_block (i := 3) HR5.out.2 rfl; clear b5)
    | (go_at_call 27; clear M6; refine (H8.out _ HB5.out).mono ?_; rintro e w6 ⟨rfl, b6⟩; have HB6 := mkHid (bt HB5.out b6); have HR6 := mkHid (And.intro (hold HR5.out.1 b6) (hold HR5.out.2 b6)); clear x5 y5 z5 tc5 tp5 td5 ts5; have x6 : w6.cell? ⟨w.heap.size, 0, none⟩ = some (.int .i64 k) := cell_of_block (i := 0) HR6.out.1 rfl; have y6 : w6.cell? ⟨w.heap.size, 1, none⟩ = some (.int .i64 q) := cell_of_block (i := 1) HR6.out.1 rfl; have z6 : w6.cell? ⟨w.heap.size, 2, none⟩ = some (.int .i64 t) := cell_of_block (i := 2) HR6.out.1 rfl; have tc6 : w6.cell? ⟨w.heap.size + 1, 0, none⟩ = some (.int .i64 c) := cell_of_block (i := 0) HR6.out.2 rfl; have tp6 : w6.cell? ⟨w.heap.size + 1, 1, none⟩ = some (.int .i64 p) := cell_of_block (i := 1) HR6.out.2 rfl; have td6 : w6.cell? ⟨w.heap.size + 1, 2, none⟩ = some (.int .i64 d) := cell_of_block (i := 2) HR6.out.2 rfl; have ts6 : w6.cell? ⟨w.heap.size + 1, 3, none⟩ = some (.int .i64 r) := cell_of_block (i := 3) HR6.out.2 rfl; clear b6))
  go_ret
  exact ⟨rfl, HB6.out⟩
set_option maxHeartbeats 6400000 in
theorem periods_nn (w : World) (s : Sv) (u : Tk) (l L : Int) (ad : Nat → Addr) (E : Er4 w ad) (el : bits .and .i64 l 1073741823 = L) (L0 : 0 ≤ L) (L1 : L ≤ 1073741823) (hs : ¬ okS s) (hu : ¬ okT u) : Calls Tryd.prog 8 #[vS s, vT u, .int .i64 l] w fun e w' => e = .returned (.bool true) ∧ Below w.heap.size w w' := by
  have H1 : Hid (Ans w 9 #[] (.bool true)) := mkHid (fun W hb => dalive W ad (E.late hb).er3)
  have H2 := mkHid (reflegalS w s false (bS_false hs))
  have H5 := mkHid (reflegalT w u false (bT_false hu))
  clear E hs hu
  obtain ⟨k, q, t⟩ := s
  obtain ⟨c, p, d, r⟩ := u
  have M1 : Hid True := mkHid trivial
  have M2 : Hid True := mkHid trivial
  have M3 : Hid True := mkHid trivial
  go_enter Tryd.func8, Tryd.ntmps8
  go_wp2_with (first
    | (go_at_call 9; clear M1; refine (H1.out _ (ba (ba (Below.refl _ _) _) _)).mono ?_; rintro e w1 ⟨rfl, b1⟩; have HB1 := mkHid (bt (ba (ba (Below.refl _ _) _) _) b1); have HR1 := mkHid (new_two b1); have x1 : w1.cell? ⟨w.heap.size, 0, none⟩ = some (.int .i64 k) := cell_of_block (i := 0) HR1.out.1 rfl; have y1 : w1.cell? ⟨w.heap.size, 1, none⟩ = some (.int .i64 q) := cell_of_block (i := 1) HR1.out.1 rfl; have z1 : w1.cell? ⟨w.heap.size, 2, none⟩ = some (.int .i64 t) := cell_of_block (i := 2) HR1.out.1 rfl; have tc1 : w1.cell? ⟨w.heap.size + 1, 0, none⟩ = some (.int .i64 c) := cell_of_block (i := 0) HR1.out.2 rfl; have tp1 : w1.cell? ⟨w.heap.size + 1, 1, none⟩ = some (.int .i64 p) := cell_of_block (i := 1) HR1.out.2 rfl; have td1 : w1.cell? ⟨w.heap.size + 1, 2, none⟩ = some (.int .i64 d) := cell_of_block (i := 2) HR1.out.2 rfl; have ts1 : w1.cell? ⟨w.heap.size + 1, 3, none⟩ = some (.int .i64 r) := cell_of_block (i := 3) HR1.out.2 rfl; clear b1)
    | (go_at_call 19; clear M2; refine (H2.out _ HB1.out).mono ?_; rintro e w2 ⟨rfl, b2⟩; have HB2 := mkHid (bt HB1.out b2); have HR2 := mkHid (And.intro (hold HR1.out.1 b2) (hold HR1.out.2 b2)); clear x1 y1 z1 tc1 tp1 td1 ts1; have x2 : w2.cell? ⟨w.heap.size, 0, none⟩ = some (.int .i64 k) := cell_of_block (i := 0) HR2.out.1 rfl; have y2 : w2.cell? ⟨w.heap.size, 1, none⟩ = some (.int .i64 q) := cell_of_block (i := 1) HR2.out.1 rfl; have z2 : w2.cell? ⟨w.heap.size, 2, none⟩ = some (.int .i64 t) := cell_of_block (i := 2) HR2.out.1 rfl; have tc2 : w2.cell? ⟨w.heap.size + 1, 0, none⟩ = some (.int .i64 c) := cell_of_block (i := 0) HR2.out.2 rfl; have tp2 : w2.cell? ⟨w.heap.size + 1, 1, none⟩ = some (.int .i64 p) := cell_of_block (i := 1) HR2.out.2 rfl; have td2 : w2.cell? ⟨w.heap.size + 1, 2, none⟩ = some (.int .i64 d) := cell_of_block (i := 2) HR2.out.2 rfl; have ts2 : w2.cell? ⟨w.heap.size + 1, 3, none⟩ = some (.int .i64 r) := cell_of_block (i := 3) HR2.out.2 rfl; clear b2)
    | (go_at_call 28; clear M3; refine (H5.out _ HB2.out).mono ?_; rintro e w3 ⟨rfl, b3⟩; have HB3 := mkHid (bt HB2.out b3); have HR3 := mkHid (And.intro (hold HR2.out.1 b3) (hold HR2.out.2 b3)); clear x2 y2 z2 tc2 tp2 td2 ts2; have x3 : w3.cell? ⟨w.heap.size, 0, none⟩ = some (.int .i64 k) := cell_of_block (i := 0) HR3.out.1 rfl; have y3 : w3.cell? ⟨w.heap.size, 1, none⟩ = some (.int .i64 q) := cell_of_block (i := 1) HR3.out.1 rfl; have z3 : w3.cell? ⟨w.heap.size, 2, none⟩ = some (.int .i64 t) := cell_of_block (i := 2) HR3.out.1 rfl; have tc3 : w3.cell? ⟨w.heap.size + 1, 0, none⟩ = some (.int .i64 c) := cell_of_block (i := 0) HR3.out.2 rfl; have tp3 : w3.cell? ⟨w.heap.size + 1, 1, none⟩ = some (.int .i64 p) := cell_of_block (i := 1) HR3.out.2 rfl; have td3 : w3.cell? ⟨w.heap.size + 1, 2, none⟩ = some (.int .i64 d) := cell_of_block (i := 2) HR3.out.2 rfl; have ts3 : w3.cell? ⟨w.heap.size + 1, 3, none⟩ = some (.int .i64 r) := cell_of_block (i := 3) HR3.out.2 rfl; clear b3))
  go_ret
  exact ⟨rfl, HB3.out⟩
theorem periods_any (w : World) (s : Sv) (u : Tk) (l : Int) (ad : Nat → Addr) (E : Er4 w ad) : Calls Tryd.prog 8 #[vS s, vT u, .int .i64 l] w fun e w' => e = .returned (.bool true) ∧ Below w.heap.size w w' := by
  obtain ⟨L, L0, L1, el⟩ := and_ex l 1073741823 (by omega) (by omega)
  by_cases hs : okS s
  · by_cases hu : okT u
    · exact periods_yy w s u l L ad E el L0 L1 hs hu
    · exact periods_yn w s u l L ad E el L0 L1 hs hu
  · by_cases hu : okT u
    · exact periods_ny w s u l L ad E el L0 L1 hs hu
    · exact periods_nn w s u l L ad E el L0 L1 hs hu
end Go.Proofs.YtilnchlnlnpkfaaDoor
