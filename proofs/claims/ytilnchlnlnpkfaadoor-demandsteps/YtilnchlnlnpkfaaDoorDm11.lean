/- The law DemandServers. -/
import Derived.Test.YtilnchlnlnpkfaaDoorDm8
import Derived.Test.YtilnchlnlnpkfaaDoorRefPl2
namespace Go.Proofs.YtilnchlnlnpkfaaDoor
open Go.ChangeShapes Go.WideShapes Go.ChangeAt Go.RowKit
set_option maxRecDepth 100000
set_option maxRecDepth 100000
set_option linter.unusedVariables false
attribute [local go_sem] World.cell?_alloc_some frozen_alloc_some

theorem good_yes (w : World) (l : Int) (l0 : 0 ≤ l) (l1 : l ≤ 1099511627776) : Calls Tryd.prog 13 #[.int .i64 l] w fun e w' => e = .returned (.bool true) ∧ Below w.heap.size w w' := by
  go_enter Tryd.func13, Tryd.ntmps13
  go_wp2
  go_ret
  exact ⟨rfl, Below.refl _ _⟩
theorem good_no (w : World) (l : Int) (hl : l < 0 ∨ (0 ≤ l ∧ 1099511627776 < l)) : Calls Tryd.prog 13 #[.int .i64 l] w fun e w' => e = .returned (.bool false) ∧ Below w.heap.size w w' := by
  rcases hl with hl | ⟨hl, hl2⟩
  · go_enter Tryd.func13, Tryd.ntmps13
    go_wp2
    go_ret
    exact ⟨rfl, Below.refl _ _⟩
  · have hd : decide (l ≤ 1099511627776) = false := by simp; omega
    go_enter Tryd.func13, Tryd.ntmps13
    go_wp2
    go_ret
    exact ⟨rfl, Below.refl _ _⟩
/-- The answers of both sides for a list, whatever comes in. -/
structure SrvAns (xs : List Sv) (l m n X Y A B C D : Int) : Prop where
  cd : n = 0 ∨ n = 1 ∨ n = 7 ∨ n = 10 ∨ n = 11
  p1 : ∀ w v a, Svs w v xs → Errs w a → Calls Tryd.prog 10 #[v, .int .i64 l] w fun e w' => e = .returned (.tuple #[.int .i64 X, ev a n]) ∧ Below w.heap.size w w'
  p2 : ∀ w v a, Svs w v xs → Errs w a → Calls Tryd.prog 11 #[v, .int .i64 l] w fun e w' => e = .returned (.tuple #[.int .i64 Y, ev a n]) ∧ Below w.heap.size w w'
  rf : ∀ w v, Svs w v xs → Calls Tryd.prog 12 #[v] w fun e w' => e = .returned (.tuple #[vP A B C D, .int .i64 m]) ∧ Below w.heap.size w w'
  no : ¬ n = 0 → X = 0 ∧ Y = 0
  r1 : n = 0 → ∀ w v, Svs w v xs → Calls Tryd.prog 15 #[v, .int .i64 l] w fun e w' => e = .returned (.int .i64 X) ∧ Below w.heap.size w w'
  r2 : n = 0 → ∀ w v, Svs w v xs → Calls Tryd.prog 16 #[v, .int .i64 l] w fun e w' => e = .returned (.int .i64 Y) ∧ Below w.heap.size w w'
theorem srv_ans (xs : List Sv) (l : Int) : ∃ m n X Y A B C D, SrvAns xs l m n X Y A B C D ∧ ((¬ m = 0 ∧ n = m) ∨ (m = 0 ∧ n = 1 ∧ (l < 0 ∨ (0 ≤ l ∧ 1099511627776 < l))) ∨ (m = 0 ∧ n = 0 ∧ 0 ≤ l ∧ l ≤ 1099511627776)) := by
  rcases scd_cases xs l with ⟨e, hx⟩ | ⟨e, hx, hn⟩ | ⟨e, hx, hn, hl⟩ | ⟨e, hx, hn, l0, l1⟩
  · refine ⟨10, 10, 0, 0, 0, 0, 0, 0, ⟨by omega, fun w v a h E => ?_, fun w v a h E => ?_, fun w v h => refservers_no w v xs h hx, fun _ => ⟨rfl, rfl⟩, fun h => absurd h (by decide), fun h => absurd h (by decide)⟩, .inl ⟨by decide, rfl⟩⟩
    · have := dsdem w v xs l a h E.er3; rwa [e, if_neg (by decide)] at this
    · have := dsreq w v xs l a h E.er3; rwa [e, if_neg (by decide)] at this
  · refine ⟨7, 7, 0, 0, 0, 0, 0, 0, ⟨by omega, fun w v a h E => ?_, fun w v a h E => ?_, fun w v h => refservers_full w v xs h hx hn, fun _ => ⟨rfl, rfl⟩, fun h => absurd h (by decide), fun h => absurd h (by decide)⟩, .inl ⟨by decide, rfl⟩⟩
    · have := dsdem w v xs l a h E.er3; rwa [e, if_neg (by decide)] at this
    · have := dsreq w v xs l a h E.er3; rwa [e, if_neg (by decide)] at this
  · obtain ⟨A, B, C, D, hp⟩ := sh_pt (xs.map qt) (fun y hy => by obtain ⟨x, hm, rfl⟩ := List.mem_map.mp hy; exact (hx x hm).q) (by simpa using hn)
    refine ⟨0, 1, 0, 0, A, B, C, D, ⟨by omega, fun w v a h E => ?_, fun w v a h E => ?_, fun w v h => refservers_ok w v xs A B C D h hx hn hp, fun _ => ⟨rfl, rfl⟩, fun h => absurd h (by decide), fun h => absurd h (by decide)⟩, .inr (.inl ⟨rfl, rfl, hl⟩)⟩
    · have := dsdem w v xs l a h E.er3; rwa [e, if_neg (by decide)] at this
    · have := dsreq w v xs l a h E.er3; rwa [e, if_neg (by decide)] at this
  · obtain ⟨A, B, C, D, hp⟩ := sh_pt (xs.map qt) (fun y hy => by obtain ⟨x, hm, rfl⟩ := List.mem_map.mp hy; exact (hx x hm).q) (by simpa using hn)
    refine ⟨0, 0, tot (sdem · l) xs, tot (sreq · l) xs, A, B, C, D, ⟨by omega, fun w v a h E => ?_, fun w v a h E => ?_, fun w v h => refservers_ok w v xs A B C D h hx hn hp, fun h => absurd rfl h, fun _ w v h => rtot_sdem w v xs l h hx hn l0 l1, fun _ w v h => rtot_sreq w v xs l h hx hn l0 l1⟩, .inr (.inr ⟨rfl, rfl, l0, l1⟩)⟩
    · have := dsdem w v xs l a h E.er3; rwa [e, if_pos rfl] at this
    · have := dsreq w v xs l a h E.er3; rwa [e, if_pos rfl] at this
theorem Errs.is_server {w : World} {a : Nat → Addr} (h : Errs w a) : Err w 0 text0 (a 0) := by
  obtain ⟨e0, e1, e2, e3, e4, e5, e6, e7, e8, e9, e10, e11, e12, e13, e14, e15⟩ := h
  exact e0
theorem Errs.is_number {w : World} {a : Nat → Addr} (h : Errs w a) : Err w 1 text1 (a 1) := by
  obtain ⟨e0, e1, e2, e3, e4, e5, e6, e7, e8, e9, e10, e11, e12, e13, e14, e15⟩ := h
  exact e1
theorem Errs.is_task {w : World} {a : Nat → Addr} (h : Errs w a) : Err w 2 text2 (a 2) := by
  obtain ⟨e0, e1, e2, e3, e4, e5, e6, e7, e8, e9, e10, e11, e12, e13, e14, e15⟩ := h
  exact e2
set_option maxHeartbeats 12800000 in
theorem servers_pi (w : World) (v : Value) (xs : List Sv) (s : Sv) (l : Int) (ad : Nat → Addr) (E : Errs w ad) (h : Svs w v xs) (hl24 : xs.length * 24 ≤ 140737488355328) {m X Y A B C D n : Int} (ha : SrvAns xs l m n X Y A B C D) (hm : ¬ m = 0) (hnm : n = m) (hs : ¬ okS s) : Calls Tryd.prog 3 #[v, vS s, .int .i64 l] w fun e w' => e = .returned (.bool true) ∧ Below w.heap.size w w' := by
  have HAL : Hid (Ans w 9 #[] (.bool true)) := mkHid (fun W hb => dalive W ad (E.late hb).er3)
  have HA := mkHid ha
  have HE := mkHid E
  have HS := mkHid h
  have HL := mkHid hl24
  obtain ⟨rfl, rfl⟩ := ha.no (by rw [hnm]; exact hm)
  subst hnm
  have H2 := mkHid (sdemA_no w s l ad E.er3 hs)
  have H3 := mkHid (sreqA_no w s l ad E.er3 hs)
  have H4 : Hid (Ans w 19 #[vS s] (.bool false)) := mkHid (fun W _ => reflegal_no W s hs)
  have heq := fun W => (E.is_server).eq W
  clear hs
  obtain ⟨ie, hie⟩ : ∃ ie, Hid (Tryd.prog.info? 24 = some ie ∧ ie.zero = some (.agg #[.int .i64 0, .int .i64 0, .int .i64 0]) ∧ ie.size = 3 ∧ ie.bytes = 24) := by
    obtain ⟨ie, h1, h2, h3, h4⟩ := info_parts info_server
    exact ⟨ie, mkHid ⟨h1, h2, h3, h4⟩⟩
  obtain ⟨sa, sc, rfl, hsl, h9⟩ := id h
  clear E h hl24 ha h9
  obtain ⟨k, q, t⟩ := s
  have M1 : Hid True := mkHid trivial
  have M2 : Hid True := mkHid trivial
  have M3 : Hid True := mkHid trivial
  have M4 : Hid True := mkHid trivial
  have M5 : Hid True := mkHid trivial
  have M6 : Hid True := mkHid trivial
  have M7 : Hid True := mkHid trivial
  have M8 : Hid True := mkHid trivial
  have M9 : Hid True := mkHid trivial
  have M10 : Hid True := mkHid trivial
  have M11 : Hid True := mkHid trivial
  go_enter Tryd.func3, Tryd.ntmps3
  go_wp2_with (first
    | (go_at_call 9; clear M1; refine (HAL.out _ (ba (Below.refl _ _) _)).mono ?_; rintro e w1 ⟨rfl, b1⟩; have HB1 := mkHid (bt (ba (Below.refl _ _) _) b1); have HR1 := mkHid (new_last b1).1; clear b1)
    | (at_builtin; clear M2; have hm := World.ownsRow_made (base := w1.heap.size) (e := 24) (size := 3) w1 #[] 0 (Nat.le_refl _) (by unfold maxLen; omega) rfl; refine wpList_append_src3 _ rfl (.tmp 20) (.tmp 21) 22 22 rfl w1.heap.size 24 ie Tryd.underlying22 hie.out.1 (.agg #[.int .i64 0, .int .i64 0, .int .i64 0]) 24 hie.out.2.1 rfl hie.out.2.2.1 hie.out.2.2.2 (.slice (some ⟨w1.heap.size, 0, none⟩) 0 0) 0 [] rfl hm (.slice sa xs.length sc) xs.length (xs.flatMap c3) rfl (HS.out.below (ba HB1.out _)).src (by have := HL.out; unfold maxLen; omega) (by have := HL.out; omega) (by simp) ?_; intro v4 w2 ho4 hg4 hat4; rw [Nat.zero_add, List.nil_append] at ho4; have b2 : Below w1.heap.size w1 w2 := ((Below.refl _ w1).alloc (Nat.le_refl _) (.cells #[] 24)).grown hg4 (by simp) (fun k hk => by simp [Value.ownBlock] at hk; omega); have HB2 := mkHid (bt HB1.out b2); obtain ⟨p2, r2, rfl, ht4⟩ := svs_of_owns (xs := xs) (by omega) ho4; have HV2 := mkHid ht4; have HR2 := mkHid (hold HR1.out b2); clear hm ho4 hg4 hat4 b2 ht4)
    | (go_at_call 10; clear M3; refine (HA.out.p1 _ _ ad HV2.out (HE.out.late HB2.out)).mono ?_; rintro e w3 ⟨rfl, b3⟩; have HB3 := mkHid (bt HB2.out b3); have HR3 := mkHid (hold HR2.out b3); clear b3)
    | (at_builtin; clear M4; have hm := World.ownsRow_made (base := w3.heap.size) (e := 24) (size := 3) w3 #[] 0 (Nat.le_refl _) (by unfold maxLen; omega) rfl; refine wpList_append_src3 _ rfl (.tmp 28) (.tmp 29) 22 22 rfl w3.heap.size 24 ie Tryd.underlying22 hie.out.1 (.agg #[.int .i64 0, .int .i64 0, .int .i64 0]) 24 hie.out.2.1 rfl hie.out.2.2.1 hie.out.2.2.2 (.slice (some ⟨w3.heap.size, 0, none⟩) 0 0) 0 [] rfl hm (.slice sa xs.length sc) xs.length (xs.flatMap c3) rfl (HS.out.below (ba HB3.out _)).src (by have := HL.out; unfold maxLen; omega) (by have := HL.out; omega) (by simp) ?_; intro v4 w4 ho4 hg4 hat4; rw [Nat.zero_add, List.nil_append] at ho4; have b4 : Below w3.heap.size w3 w4 := ((Below.refl _ w3).alloc (Nat.le_refl _) (.cells #[] 24)).grown hg4 (by simp) (fun k hk => by simp [Value.ownBlock] at hk; omega); have HB4 := mkHid (bt HB3.out b4); obtain ⟨p4, r4, rfl, ht4⟩ := svs_of_owns (xs := xs) (by omega) ho4; have HV4 := mkHid ht4; have HR4 := mkHid (hold HR3.out b4); clear hm ho4 hg4 hat4 b4 ht4)
    | (go_at_call 11; clear M5; refine (HA.out.p2 _ _ ad HV4.out (HE.out.late HB4.out)).mono ?_; rintro e w5 ⟨rfl, b5⟩; have HB5 := mkHid (bt HB4.out b5); have HR5 := mkHid (hold HR4.out b5); clear b5)
    | (go_at_call 12; clear M6; refine (HA.out.rf _ _ (HS.out.below HB5.out)).mono ?_; rintro e w6 ⟨rfl, b6⟩; have HB6 := mkHid (bt HB5.out b6); have HR6 := mkHid (hold HR5.out b6); clear b6)
    | (go_at_call 14; clear M7; refine (num_ev _ ad (HE.out.late (ba HB6.out _)) _ HA.out.cd).mono ?_; rintro e w7 ⟨rfl, b7⟩; have HB7 := mkHid (bt (ba HB6.out _) b7); have HR7 := mkHid (hold (hold HR6.out ((Below.refl _ _).alloc (Nat.le_refl _) _)) b7); clear b7)
    | (go_at_call 14; clear M8; refine (num_ev _ ad (HE.out.late HB7.out) _ HA.out.cd).mono ?_; rintro e w8 ⟨rfl, b8⟩; have HB8 := mkHid (bt HB7.out b8); have HR8 := mkHid (hold HR7.out b8); have x8 : w8.cell? ⟨w.heap.size, 0, none⟩ = some (.int .i64 k) := cell_of_block (i := 0) HR8.out rfl; have y8 : w8.cell? ⟨w.heap.size, 1, none⟩ = some (.int .i64 q) := cell_of_block (i := 1) HR8.out rfl; have z8 : w8.cell? ⟨w.heap.size, 2, none⟩ = some (.int .i64 t) := cell_of_block (i := 2) HR8.out rfl; clear b8)
    | (go_at_call 17; clear M9; refine (H2.out _ HB8.out).mono ?_; rintro e w9 ⟨rfl, b9⟩; have HB9 := mkHid (bt HB8.out b9); have HR9 := mkHid (hold HR8.out b9); clear x8 y8 z8; have x9 : w9.cell? ⟨w.heap.size, 0, none⟩ = some (.int .i64 k) := cell_of_block (i := 0) HR9.out rfl; have y9 : w9.cell? ⟨w.heap.size, 1, none⟩ = some (.int .i64 q) := cell_of_block (i := 1) HR9.out rfl; have z9 : w9.cell? ⟨w.heap.size, 2, none⟩ = some (.int .i64 t) := cell_of_block (i := 2) HR9.out rfl; have gserver_9 := (HE.out.late HB9.out).cell_server; clear b9)
    | (go_at_call 18; clear M10; refine (H3.out _ HB9.out).mono ?_; rintro e w10 ⟨rfl, b10⟩; have HB10 := mkHid (bt HB9.out b10); have HR10 := mkHid (hold HR9.out b10); clear x9 y9 z9; have x10 : w10.cell? ⟨w.heap.size, 0, none⟩ = some (.int .i64 k) := cell_of_block (i := 0) HR10.out rfl; have y10 : w10.cell? ⟨w.heap.size, 1, none⟩ = some (.int .i64 q) := cell_of_block (i := 1) HR10.out rfl; have z10 : w10.cell? ⟨w.heap.size, 2, none⟩ = some (.int .i64 t) := cell_of_block (i := 2) HR10.out rfl; have gserver_10 := (HE.out.late HB10.out).cell_server; clear gserver_9; clear b10)
    | (go_at_call 19; clear M11; refine (H4.out _ HB10.out).mono ?_; rintro e w11 ⟨rfl, b11⟩; have HB11 := mkHid (bt HB10.out b11); have HR11 := mkHid (hold HR10.out b11); clear x10 y10 z10; have x11 : w11.cell? ⟨w.heap.size, 0, none⟩ = some (.int .i64 k) := cell_of_block (i := 0) HR11.out rfl; have y11 : w11.cell? ⟨w.heap.size, 1, none⟩ = some (.int .i64 q) := cell_of_block (i := 1) HR11.out rfl; have z11 : w11.cell? ⟨w.heap.size, 2, none⟩ = some (.int .i64 t) := cell_of_block (i := 2) HR11.out rfl; have gserver_11 := (HE.out.late HB11.out).cell_server; clear gserver_10; clear b11))
  go_ret
  exact ⟨rfl, HB11.out⟩
set_option maxHeartbeats 12800000 in
theorem servers_pj (w : World) (v : Value) (xs : List Sv) (s : Sv) (l : Int) (ad : Nat → Addr) (E : Errs w ad) (h : Svs w v xs) (hl24 : xs.length * 24 ≤ 140737488355328) {m X Y A B C D n : Int} (ha : SrvAns xs l m n X Y A B C D) (hm : ¬ m = 0) (hnm : n = m) (hs : okS s) (hlc : l < 0 ∨ (0 ≤ l ∧ 1099511627776 < l)) : Calls Tryd.prog 3 #[v, vS s, .int .i64 l] w fun e w' => e = .returned (.bool true) ∧ Below w.heap.size w w' := by
  have HAL : Hid (Ans w 9 #[] (.bool true)) := mkHid (fun W hb => dalive W ad (E.late hb).er3)
  have HA := mkHid ha
  have HE := mkHid E
  have HS := mkHid h
  have HL := mkHid hl24
  obtain ⟨rfl, rfl⟩ := ha.no (by rw [hnm]; exact hm)
  subst hnm
  have H2 := mkHid (sdemA_num w s l ad E.er3 hs hlc)
  have H3 := mkHid (sreqA_num w s l ad E.er3 hs hlc)
  have H4 : Hid (Ans w 19 #[vS s] (.bool true)) := mkHid (fun W _ => reflegal_ok W s hs)
  have heq := fun W => (E.is_number).eq W
  have HG : Hid (Ans w 13 #[.int .i64 l] (.bool false)) := mkHid (fun W _ => good_no W l hlc)
  clear hs hlc
  obtain ⟨ie, hie⟩ : ∃ ie, Hid (Tryd.prog.info? 24 = some ie ∧ ie.zero = some (.agg #[.int .i64 0, .int .i64 0, .int .i64 0]) ∧ ie.size = 3 ∧ ie.bytes = 24) := by
    obtain ⟨ie, h1, h2, h3, h4⟩ := info_parts info_server
    exact ⟨ie, mkHid ⟨h1, h2, h3, h4⟩⟩
  obtain ⟨sa, sc, rfl, hsl, h9⟩ := id h
  clear E h hl24 ha h9
  obtain ⟨k, q, t⟩ := s
  have M1 : Hid True := mkHid trivial
  have M2 : Hid True := mkHid trivial
  have M3 : Hid True := mkHid trivial
  have M4 : Hid True := mkHid trivial
  have M5 : Hid True := mkHid trivial
  have M6 : Hid True := mkHid trivial
  have M7 : Hid True := mkHid trivial
  have M8 : Hid True := mkHid trivial
  have M9 : Hid True := mkHid trivial
  have M10 : Hid True := mkHid trivial
  have M11 : Hid True := mkHid trivial
  have M12 : Hid True := mkHid trivial
  go_enter Tryd.func3, Tryd.ntmps3
  go_wp2_with (first
    | (go_at_call 9; clear M1; refine (HAL.out _ (ba (Below.refl _ _) _)).mono ?_; rintro e w1 ⟨rfl, b1⟩; have HB1 := mkHid (bt (ba (Below.refl _ _) _) b1); have HR1 := mkHid (new_last b1).1; clear b1)
    | (at_builtin; clear M2; have hm := World.ownsRow_made (base := w1.heap.size) (e := 24) (size := 3) w1 #[] 0 (Nat.le_refl _) (by unfold maxLen; omega) rfl; refine wpList_append_src3 _ rfl (.tmp 20) (.tmp 21) 22 22 rfl w1.heap.size 24 ie Tryd.underlying22 hie.out.1 (.agg #[.int .i64 0, .int .i64 0, .int .i64 0]) 24 hie.out.2.1 rfl hie.out.2.2.1 hie.out.2.2.2 (.slice (some ⟨w1.heap.size, 0, none⟩) 0 0) 0 [] rfl hm (.slice sa xs.length sc) xs.length (xs.flatMap c3) rfl (HS.out.below (ba HB1.out _)).src (by have := HL.out; unfold maxLen; omega) (by have := HL.out; omega) (by simp) ?_; intro v4 w2 ho4 hg4 hat4; rw [Nat.zero_add, List.nil_append] at ho4; have b2 : Below w1.heap.size w1 w2 := ((Below.refl _ w1).alloc (Nat.le_refl _) (.cells #[] 24)).grown hg4 (by simp) (fun k hk => by simp [Value.ownBlock] at hk; omega); have HB2 := mkHid (bt HB1.out b2); obtain ⟨p2, r2, rfl, ht4⟩ := svs_of_owns (xs := xs) (by omega) ho4; have HV2 := mkHid ht4; have HR2 := mkHid (hold HR1.out b2); clear hm ho4 hg4 hat4 b2 ht4)
    | (go_at_call 10; clear M3; refine (HA.out.p1 _ _ ad HV2.out (HE.out.late HB2.out)).mono ?_; rintro e w3 ⟨rfl, b3⟩; have HB3 := mkHid (bt HB2.out b3); have HR3 := mkHid (hold HR2.out b3); clear b3)
    | (at_builtin; clear M4; have hm := World.ownsRow_made (base := w3.heap.size) (e := 24) (size := 3) w3 #[] 0 (Nat.le_refl _) (by unfold maxLen; omega) rfl; refine wpList_append_src3 _ rfl (.tmp 28) (.tmp 29) 22 22 rfl w3.heap.size 24 ie Tryd.underlying22 hie.out.1 (.agg #[.int .i64 0, .int .i64 0, .int .i64 0]) 24 hie.out.2.1 rfl hie.out.2.2.1 hie.out.2.2.2 (.slice (some ⟨w3.heap.size, 0, none⟩) 0 0) 0 [] rfl hm (.slice sa xs.length sc) xs.length (xs.flatMap c3) rfl (HS.out.below (ba HB3.out _)).src (by have := HL.out; unfold maxLen; omega) (by have := HL.out; omega) (by simp) ?_; intro v4 w4 ho4 hg4 hat4; rw [Nat.zero_add, List.nil_append] at ho4; have b4 : Below w3.heap.size w3 w4 := ((Below.refl _ w3).alloc (Nat.le_refl _) (.cells #[] 24)).grown hg4 (by simp) (fun k hk => by simp [Value.ownBlock] at hk; omega); have HB4 := mkHid (bt HB3.out b4); obtain ⟨p4, r4, rfl, ht4⟩ := svs_of_owns (xs := xs) (by omega) ho4; have HV4 := mkHid ht4; have HR4 := mkHid (hold HR3.out b4); clear hm ho4 hg4 hat4 b4 ht4)
    | (go_at_call 11; clear M5; refine (HA.out.p2 _ _ ad HV4.out (HE.out.late HB4.out)).mono ?_; rintro e w5 ⟨rfl, b5⟩; have HB5 := mkHid (bt HB4.out b5); have HR5 := mkHid (hold HR4.out b5); clear b5)
    | (go_at_call 12; clear M6; refine (HA.out.rf _ _ (HS.out.below HB5.out)).mono ?_; rintro e w6 ⟨rfl, b6⟩; have HB6 := mkHid (bt HB5.out b6); have HR6 := mkHid (hold HR5.out b6); clear b6)
    | (go_at_call 14; clear M7; refine (num_ev _ ad (HE.out.late (ba HB6.out _)) _ HA.out.cd).mono ?_; rintro e w7 ⟨rfl, b7⟩; have HB7 := mkHid (bt (ba HB6.out _) b7); have HR7 := mkHid (hold (hold HR6.out ((Below.refl _ _).alloc (Nat.le_refl _) _)) b7); clear b7)
    | (go_at_call 14; clear M8; refine (num_ev _ ad (HE.out.late HB7.out) _ HA.out.cd).mono ?_; rintro e w8 ⟨rfl, b8⟩; have HB8 := mkHid (bt HB7.out b8); have HR8 := mkHid (hold HR7.out b8); have x8 : w8.cell? ⟨w.heap.size, 0, none⟩ = some (.int .i64 k) := cell_of_block (i := 0) HR8.out rfl; have y8 : w8.cell? ⟨w.heap.size, 1, none⟩ = some (.int .i64 q) := cell_of_block (i := 1) HR8.out rfl; have z8 : w8.cell? ⟨w.heap.size, 2, none⟩ = some (.int .i64 t) := cell_of_block (i := 2) HR8.out rfl; clear b8)
    | (go_at_call 17; clear M9; refine (H2.out _ HB8.out).mono ?_; rintro e w9 ⟨rfl, b9⟩; have HB9 := mkHid (bt HB8.out b9); have HR9 := mkHid (hold HR8.out b9); clear x8 y8 z8; have x9 : w9.cell? ⟨w.heap.size, 0, none⟩ = some (.int .i64 k) := cell_of_block (i := 0) HR9.out rfl; have y9 : w9.cell? ⟨w.heap.size, 1, none⟩ = some (.int .i64 q) := cell_of_block (i := 1) HR9.out rfl; have z9 : w9.cell? ⟨w.heap.size, 2, none⟩ = some (.int .i64 t) := cell_of_block (i := 2) HR9.out rfl; have gnumber_9 := (HE.out.late HB9.out).cell_number; clear b9)
    | (go_at_call 18; clear M10; refine (H3.out _ HB9.out).mono ?_; rintro e w10 ⟨rfl, b10⟩; have HB10 := mkHid (bt HB9.out b10); have HR10 := mkHid (hold HR9.out b10); clear x9 y9 z9; have x10 : w10.cell? ⟨w.heap.size, 0, none⟩ = some (.int .i64 k) := cell_of_block (i := 0) HR10.out rfl; have y10 : w10.cell? ⟨w.heap.size, 1, none⟩ = some (.int .i64 q) := cell_of_block (i := 1) HR10.out rfl; have z10 : w10.cell? ⟨w.heap.size, 2, none⟩ = some (.int .i64 t) := cell_of_block (i := 2) HR10.out rfl; have gnumber_10 := (HE.out.late HB10.out).cell_number; clear gnumber_9; clear b10)
    | (go_at_call 19; clear M11; refine (H4.out _ HB10.out).mono ?_; rintro e w11 ⟨rfl, b11⟩; have HB11 := mkHid (bt HB10.out b11); have HR11 := mkHid (hold HR10.out b11); clear x10 y10 z10; have x11 : w11.cell? ⟨w.heap.size, 0, none⟩ = some (.int .i64 k) := cell_of_block (i := 0) HR11.out rfl; have y11 : w11.cell? ⟨w.heap.size, 1, none⟩ = some (.int .i64 q) := cell_of_block (i := 1) HR11.out rfl; have z11 : w11.cell? ⟨w.heap.size, 2, none⟩ = some (.int .i64 t) := cell_of_block (i := 2) HR11.out rfl; have gnumber_11 := (HE.out.late HB11.out).cell_number; clear gnumber_10; clear b11)
    | (go_at_call 13; clear M12; refine (HG.out _ HB11.out).mono ?_; rintro e w12 ⟨rfl, b12⟩; have HB12 := mkHid (bt HB11.out b12); have HR12 := mkHid (hold HR11.out b12); clear x11 y11 z11; have x12 : w12.cell? ⟨w.heap.size, 0, none⟩ = some (.int .i64 k) := cell_of_block (i := 0) HR12.out rfl; have y12 : w12.cell? ⟨w.heap.size, 1, none⟩ = some (.int .i64 q) := cell_of_block (i := 1) HR12.out rfl; have z12 : w12.cell? ⟨w.heap.size, 2, none⟩ = some (.int .i64 t) := cell_of_block (i := 2) HR12.out rfl; have gnumber_12 := (HE.out.late HB12.out).cell_number; clear gnumber_11; clear b12))
  go_ret
  exact ⟨rfl, HB12.out⟩
set_option maxHeartbeats 12800000 in
theorem servers_pk (w : World) (v : Value) (xs : List Sv) (s : Sv) (l : Int) (ad : Nat → Addr) (E : Errs w ad) (h : Svs w v xs) (hl24 : xs.length * 24 ≤ 140737488355328) {m X Y A B C D n : Int} (ha : SrvAns xs l m n X Y A B C D) (hm : ¬ m = 0) (hnm : n = m) (hs : okS s) (c0 : 0 ≤ l) (c1 : l ≤ 1099511627776) : Calls Tryd.prog 3 #[v, vS s, .int .i64 l] w fun e w' => e = .returned (.bool true) ∧ Below w.heap.size w w' := by
  have HAL : Hid (Ans w 9 #[] (.bool true)) := mkHid (fun W hb => dalive W ad (E.late hb).er3)
  have HA := mkHid ha
  have HE := mkHid E
  have HS := mkHid h
  have HL := mkHid hl24
  obtain ⟨rfl, rfl⟩ := ha.no (by rw [hnm]; exact hm)
  subst hnm
  have H2 := mkHid (sdemA_yes w s l ad E.er3 hs c0 c1)
  have H3 := mkHid (sreqA_yes w s l ad E.er3 hs c0 c1)
  have H4 : Hid (Ans w 19 #[vS s] (.bool true)) := mkHid (fun W _ => reflegal_ok W s hs)
  have H5 : Hid (Ans w 20 #[vS s, .int .i64 l] (.int .i64 (sdem s l))) := mkHid (fun W _ => rsdem_is W s l hs c0 c1)
  have H6 : Hid (Ans w 21 #[vS s, .int .i64 l] (.int .i64 (sreq s l))) := mkHid (fun W _ => rsreq_is W s l hs c0 c1)
  have HG : Hid (Ans w 13 #[.int .i64 l] (.bool true)) := mkHid (fun W _ => good_yes W l c0 c1)
  clear hs
  generalize sdem s l = U at *
  generalize sreq s l = V at *
  obtain ⟨ie, hie⟩ : ∃ ie, Hid (Tryd.prog.info? 24 = some ie ∧ ie.zero = some (.agg #[.int .i64 0, .int .i64 0, .int .i64 0]) ∧ ie.size = 3 ∧ ie.bytes = 24) := by
    obtain ⟨ie, h1, h2, h3, h4⟩ := info_parts info_server
    exact ⟨ie, mkHid ⟨h1, h2, h3, h4⟩⟩
  obtain ⟨sa, sc, rfl, hsl, h9⟩ := id h
  clear E h hl24 ha h9
  obtain ⟨k, q, t⟩ := s
  have M1 : Hid True := mkHid trivial
  have M2 : Hid True := mkHid trivial
  have M3 : Hid True := mkHid trivial
  have M4 : Hid True := mkHid trivial
  have M5 : Hid True := mkHid trivial
  have M6 : Hid True := mkHid trivial
  have M7 : Hid True := mkHid trivial
  have M8 : Hid True := mkHid trivial
  have M9 : Hid True := mkHid trivial
  have M10 : Hid True := mkHid trivial
  have M11 : Hid True := mkHid trivial
  have M12 : Hid True := mkHid trivial
  have M13 : Hid True := mkHid trivial
  have M14 : Hid True := mkHid trivial
  go_enter Tryd.func3, Tryd.ntmps3
  go_wp2_with (first
    | (go_at_call 9; clear M1; refine (HAL.out _ (ba (Below.refl _ _) _)).mono ?_; rintro e w1 ⟨rfl, b1⟩; have HB1 := mkHid (bt (ba (Below.refl _ _) _) b1); have HR1 := mkHid (new_last b1).1; clear b1)
    | (at_builtin; clear M2; have hm := World.ownsRow_made (base := w1.heap.size) (e := 24) (size := 3) w1 #[] 0 (Nat.le_refl _) (by unfold maxLen; omega) rfl; refine wpList_append_src3 _ rfl (.tmp 20) (.tmp 21) 22 22 rfl w1.heap.size 24 ie Tryd.underlying22 hie.out.1 (.agg #[.int .i64 0, .int .i64 0, .int .i64 0]) 24 hie.out.2.1 rfl hie.out.2.2.1 hie.out.2.2.2 (.slice (some ⟨w1.heap.size, 0, none⟩) 0 0) 0 [] rfl hm (.slice sa xs.length sc) xs.length (xs.flatMap c3) rfl (HS.out.below (ba HB1.out _)).src (by have := HL.out; unfold maxLen; omega) (by have := HL.out; omega) (by simp) ?_; intro v4 w2 ho4 hg4 hat4; rw [Nat.zero_add, List.nil_append] at ho4; have b2 : Below w1.heap.size w1 w2 := ((Below.refl _ w1).alloc (Nat.le_refl _) (.cells #[] 24)).grown hg4 (by simp) (fun k hk => by simp [Value.ownBlock] at hk; omega); have HB2 := mkHid (bt HB1.out b2); obtain ⟨p2, r2, rfl, ht4⟩ := svs_of_owns (xs := xs) (by omega) ho4; have HV2 := mkHid ht4; have HR2 := mkHid (hold HR1.out b2); clear hm ho4 hg4 hat4 b2 ht4)
    | (go_at_call 10; clear M3; refine (HA.out.p1 _ _ ad HV2.out (HE.out.late HB2.out)).mono ?_; rintro e w3 ⟨rfl, b3⟩; have HB3 := mkHid (bt HB2.out b3); have HR3 := mkHid (hold HR2.out b3); clear b3)
    | (at_builtin; clear M4; have hm := World.ownsRow_made (base := w3.heap.size) (e := 24) (size := 3) w3 #[] 0 (Nat.le_refl _) (by unfold maxLen; omega) rfl; refine wpList_append_src3 _ rfl (.tmp 28) (.tmp 29) 22 22 rfl w3.heap.size 24 ie Tryd.underlying22 hie.out.1 (.agg #[.int .i64 0, .int .i64 0, .int .i64 0]) 24 hie.out.2.1 rfl hie.out.2.2.1 hie.out.2.2.2 (.slice (some ⟨w3.heap.size, 0, none⟩) 0 0) 0 [] rfl hm (.slice sa xs.length sc) xs.length (xs.flatMap c3) rfl (HS.out.below (ba HB3.out _)).src (by have := HL.out; unfold maxLen; omega) (by have := HL.out; omega) (by simp) ?_; intro v4 w4 ho4 hg4 hat4; rw [Nat.zero_add, List.nil_append] at ho4; have b4 : Below w3.heap.size w3 w4 := ((Below.refl _ w3).alloc (Nat.le_refl _) (.cells #[] 24)).grown hg4 (by simp) (fun k hk => by simp [Value.ownBlock] at hk; omega); have HB4 := mkHid (bt HB3.out b4); obtain ⟨p4, r4, rfl, ht4⟩ := svs_of_owns (xs := xs) (by omega) ho4; have HV4 := mkHid ht4; have HR4 := mkHid (hold HR3.out b4); clear hm ho4 hg4 hat4 b4 ht4)
    | (go_at_call 11; clear M5; refine (HA.out.p2 _ _ ad HV4.out (HE.out.late HB4.out)).mono ?_; rintro e w5 ⟨rfl, b5⟩; have HB5 := mkHid (bt HB4.out b5); have HR5 := mkHid (hold HR4.out b5); clear b5)
    | (go_at_call 12; clear M6; refine (HA.out.rf _ _ (HS.out.below HB5.out)).mono ?_; rintro e w6 ⟨rfl, b6⟩; have HB6 := mkHid (bt HB5.out b6); have HR6 := mkHid (hold HR5.out b6); clear b6)
    | (go_at_call 14; clear M7; refine (num_ev _ ad (HE.out.late (ba HB6.out _)) _ HA.out.cd).mono ?_; rintro e w7 ⟨rfl, b7⟩; have HB7 := mkHid (bt (ba HB6.out _) b7); have HR7 := mkHid (hold (hold HR6.out ((Below.refl _ _).alloc (Nat.le_refl _) _)) b7); clear b7)
    | (go_at_call 14; clear M8; refine (num_ev _ ad (HE.out.late HB7.out) _ HA.out.cd).mono ?_; rintro e w8 ⟨rfl, b8⟩; have HB8 := mkHid (bt HB7.out b8); have HR8 := mkHid (hold HR7.out b8); have x8 : w8.cell? ⟨w.heap.size, 0, none⟩ = some (.int .i64 k) := cell_of_block (i := 0) HR8.out rfl; have y8 : w8.cell? ⟨w.heap.size, 1, none⟩ = some (.int .i64 q) := cell_of_block (i := 1) HR8.out rfl; have z8 : w8.cell? ⟨w.heap.size, 2, none⟩ = some (.int .i64 t) := cell_of_block (i := 2) HR8.out rfl; clear b8)
    | (go_at_call 17; clear M9; refine (H2.out _ HB8.out).mono ?_; rintro e w9 ⟨rfl, b9⟩; have HB9 := mkHid (bt HB8.out b9); have HR9 := mkHid (hold HR8.out b9); clear x8 y8 z8; have x9 : w9.cell? ⟨w.heap.size, 0, none⟩ = some (.int .i64 k) := cell_of_block (i := 0) HR9.out rfl; have y9 : w9.cell? ⟨w.heap.size, 1, none⟩ = some (.int .i64 q) := cell_of_block (i := 1) HR9.out rfl; have z9 : w9.cell? ⟨w.heap.size, 2, none⟩ = some (.int .i64 t) := cell_of_block (i := 2) HR9.out rfl; clear b9)
    | (go_at_call 18; clear M10; refine (H3.out _ HB9.out).mono ?_; rintro e w10 ⟨rfl, b10⟩; have HB10 := mkHid (bt HB9.out b10); have HR10 := mkHid (hold HR9.out b10); clear x9 y9 z9; have x10 : w10.cell? ⟨w.heap.size, 0, none⟩ = some (.int .i64 k) := cell_of_block (i := 0) HR10.out rfl; have y10 : w10.cell? ⟨w.heap.size, 1, none⟩ = some (.int .i64 q) := cell_of_block (i := 1) HR10.out rfl; have z10 : w10.cell? ⟨w.heap.size, 2, none⟩ = some (.int .i64 t) := cell_of_block (i := 2) HR10.out rfl; clear b10)
    | (go_at_call 19; clear M11; refine (H4.out _ HB10.out).mono ?_; rintro e w11 ⟨rfl, b11⟩; have HB11 := mkHid (bt HB10.out b11); have HR11 := mkHid (hold HR10.out b11); clear x10 y10 z10; have x11 : w11.cell? ⟨w.heap.size, 0, none⟩ = some (.int .i64 k) := cell_of_block (i := 0) HR11.out rfl; have y11 : w11.cell? ⟨w.heap.size, 1, none⟩ = some (.int .i64 q) := cell_of_block (i := 1) HR11.out rfl; have z11 : w11.cell? ⟨w.heap.size, 2, none⟩ = some (.int .i64 t) := cell_of_block (i := 2) HR11.out rfl; clear b11)
    | (go_at_call 13; clear M12; refine (HG.out _ HB11.out).mono ?_; rintro e w12 ⟨rfl, b12⟩; have HB12 := mkHid (bt HB11.out b12); have HR12 := mkHid (hold HR11.out b12); clear x11 y11 z11; have x12 : w12.cell? ⟨w.heap.size, 0, none⟩ = some (.int .i64 k) := cell_of_block (i := 0) HR12.out rfl; have y12 : w12.cell? ⟨w.heap.size, 1, none⟩ = some (.int .i64 q) := cell_of_block (i := 1) HR12.out rfl; have z12 : w12.cell? ⟨w.heap.size, 2, none⟩ = some (.int .i64 t) := cell_of_block (i := 2) HR12.out rfl; clear b12)
    | (go_at_call 20; clear M13; refine (H5.out _ HB12.out).mono ?_; rintro e w13 ⟨rfl, b13⟩; have HB13 := mkHid (bt HB12.out b13); have HR13 := mkHid (hold HR12.out b13); clear x12 y12 z12; have x13 : w13.cell? ⟨w.heap.size, 0, none⟩ = some (.int .i64 k) := cell_of_block (i := 0) HR13.out rfl; have y13 : w13.cell? ⟨w.heap.size, 1, none⟩ = some (.int .i64 q) := cell_of_block (i := 1) HR13.out rfl; have z13 : w13.cell? ⟨w.heap.size, 2, none⟩ = some (.int .i64 t) := cell_of_block (i := 2) HR13.out rfl; clear b13)
    | (go_at_call 21; clear M14; refine (H6.out _ HB13.out).mono ?_; rintro e w14 ⟨rfl, b14⟩; have HB14 := mkHid (bt HB13.out b14); have HR14 := mkHid (hold HR13.out b14); clear x13 y13 z13; have x14 : w14.cell? ⟨w.heap.size, 0, none⟩ = some (.int .i64 k) := cell_of_block (i := 0) HR14.out rfl; have y14 : w14.cell? ⟨w.heap.size, 1, none⟩ = some (.int .i64 q) := cell_of_block (i := 1) HR14.out rfl; have z14 : w14.cell? ⟨w.heap.size, 2, none⟩ = some (.int .i64 t) := cell_of_block (i := 2) HR14.out rfl; clear b14))
  go_ret
  exact ⟨rfl, HB14.out⟩
set_option maxHeartbeats 12800000 in
theorem servers_qi (w : World) (v : Value) (xs : List Sv) (s : Sv) (l : Int) (ad : Nat → Addr) (E : Errs w ad) (h : Svs w v xs) (hl24 : xs.length * 24 ≤ 140737488355328) {X Y A B C D m n : Int} (ha : SrvAns xs l m n X Y A B C D) (hm0 : m = 0) (hn1 : n = 1) (hlb : l < 0 ∨ (0 ≤ l ∧ 1099511627776 < l)) (hs : ¬ okS s) : Calls Tryd.prog 3 #[v, vS s, .int .i64 l] w fun e w' => e = .returned (.bool true) ∧ Below w.heap.size w w' := by
  have HAL : Hid (Ans w 9 #[] (.bool true)) := mkHid (fun W hb => dalive W ad (E.late hb).er3)
  have HA := mkHid ha
  have HE := mkHid E
  have HS := mkHid h
  have HL := mkHid hl24
  subst hm0
  subst hn1
  obtain ⟨rfl, rfl⟩ := ha.no (by decide)
  have HG : Hid (Ans w 13 #[.int .i64 l] (.bool false)) := mkHid (fun W _ => good_no W l hlb)
  have H2 := mkHid (sdemA_no w s l ad E.er3 hs)
  have H3 := mkHid (sreqA_no w s l ad E.er3 hs)
  have H4 : Hid (Ans w 19 #[vS s] (.bool false)) := mkHid (fun W _ => reflegal_no W s hs)
  have heq := fun W => (E.is_server).eq W
  clear hs
  obtain ⟨ie, hie⟩ : ∃ ie, Hid (Tryd.prog.info? 24 = some ie ∧ ie.zero = some (.agg #[.int .i64 0, .int .i64 0, .int .i64 0]) ∧ ie.size = 3 ∧ ie.bytes = 24) := by
    obtain ⟨ie, h1, h2, h3, h4⟩ := info_parts info_server
    exact ⟨ie, mkHid ⟨h1, h2, h3, h4⟩⟩
  obtain ⟨sa, sc, rfl, hsl, h9⟩ := id h
  clear E h hl24 ha h9
  obtain ⟨k, q, t⟩ := s
  have M1 : Hid True := mkHid trivial
  have M2 : Hid True := mkHid trivial
  have M3 : Hid True := mkHid trivial
  have M4 : Hid True := mkHid trivial
  have M5 : Hid True := mkHid trivial
  have M6 : Hid True := mkHid trivial
  have M7 : Hid True := mkHid trivial
  have M8 : Hid True := mkHid trivial
  have M9 : Hid True := mkHid trivial
  have M10 : Hid True := mkHid trivial
  have M11 : Hid True := mkHid trivial
  have M12 : Hid True := mkHid trivial
  go_enter Tryd.func3, Tryd.ntmps3
  go_wp2_with (first
    | (go_at_call 9; clear M1; refine (HAL.out _ (ba (Below.refl _ _) _)).mono ?_; rintro e w1 ⟨rfl, b1⟩; have HB1 := mkHid (bt (ba (Below.refl _ _) _) b1); have HR1 := mkHid (new_last b1).1; clear b1)
    | (at_builtin; clear M2; have hm := World.ownsRow_made (base := w1.heap.size) (e := 24) (size := 3) w1 #[] 0 (Nat.le_refl _) (by unfold maxLen; omega) rfl; refine wpList_append_src3 _ rfl (.tmp 20) (.tmp 21) 22 22 rfl w1.heap.size 24 ie Tryd.underlying22 hie.out.1 (.agg #[.int .i64 0, .int .i64 0, .int .i64 0]) 24 hie.out.2.1 rfl hie.out.2.2.1 hie.out.2.2.2 (.slice (some ⟨w1.heap.size, 0, none⟩) 0 0) 0 [] rfl hm (.slice sa xs.length sc) xs.length (xs.flatMap c3) rfl (HS.out.below (ba HB1.out _)).src (by have := HL.out; unfold maxLen; omega) (by have := HL.out; omega) (by simp) ?_; intro v4 w2 ho4 hg4 hat4; rw [Nat.zero_add, List.nil_append] at ho4; have b2 : Below w1.heap.size w1 w2 := ((Below.refl _ w1).alloc (Nat.le_refl _) (.cells #[] 24)).grown hg4 (by simp) (fun k hk => by simp [Value.ownBlock] at hk; omega); have HB2 := mkHid (bt HB1.out b2); obtain ⟨p2, r2, rfl, ht4⟩ := svs_of_owns (xs := xs) (by omega) ho4; have HV2 := mkHid ht4; have HR2 := mkHid (hold HR1.out b2); clear hm ho4 hg4 hat4 b2 ht4)
    | (go_at_call 10; clear M3; refine (HA.out.p1 _ _ ad HV2.out (HE.out.late HB2.out)).mono ?_; rintro e w3 ⟨rfl, b3⟩; have HB3 := mkHid (bt HB2.out b3); have HR3 := mkHid (hold HR2.out b3); clear b3)
    | (at_builtin; clear M4; have hm := World.ownsRow_made (base := w3.heap.size) (e := 24) (size := 3) w3 #[] 0 (Nat.le_refl _) (by unfold maxLen; omega) rfl; refine wpList_append_src3 _ rfl (.tmp 28) (.tmp 29) 22 22 rfl w3.heap.size 24 ie Tryd.underlying22 hie.out.1 (.agg #[.int .i64 0, .int .i64 0, .int .i64 0]) 24 hie.out.2.1 rfl hie.out.2.2.1 hie.out.2.2.2 (.slice (some ⟨w3.heap.size, 0, none⟩) 0 0) 0 [] rfl hm (.slice sa xs.length sc) xs.length (xs.flatMap c3) rfl (HS.out.below (ba HB3.out _)).src (by have := HL.out; unfold maxLen; omega) (by have := HL.out; omega) (by simp) ?_; intro v4 w4 ho4 hg4 hat4; rw [Nat.zero_add, List.nil_append] at ho4; have b4 : Below w3.heap.size w3 w4 := ((Below.refl _ w3).alloc (Nat.le_refl _) (.cells #[] 24)).grown hg4 (by simp) (fun k hk => by simp [Value.ownBlock] at hk; omega); have HB4 := mkHid (bt HB3.out b4); obtain ⟨p4, r4, rfl, ht4⟩ := svs_of_owns (xs := xs) (by omega) ho4; have HV4 := mkHid ht4; have HR4 := mkHid (hold HR3.out b4); clear hm ho4 hg4 hat4 b4 ht4)
    | (go_at_call 11; clear M5; refine (HA.out.p2 _ _ ad HV4.out (HE.out.late HB4.out)).mono ?_; rintro e w5 ⟨rfl, b5⟩; have HB5 := mkHid (bt HB4.out b5); have HR5 := mkHid (hold HR4.out b5); clear b5)
    | (go_at_call 12; clear M6; refine (HA.out.rf _ _ (HS.out.below HB5.out)).mono ?_; rintro e w6 ⟨rfl, b6⟩; have HB6 := mkHid (bt HB5.out b6); have HR6 := mkHid (hold HR5.out b6); clear b6)
    | (go_at_call 13; clear M7; refine (HG.out _ (ba HB6.out _)).mono ?_; rintro e w7 ⟨rfl, b7⟩; have HB7 := mkHid (bt (ba HB6.out _) b7); have HR7 := mkHid (hold (hold HR6.out ((Below.refl _ _).alloc (Nat.le_refl _) _)) b7); clear b7)
    | (go_at_call 14; clear M8; refine (num_ev _ ad (HE.out.late HB7.out) 1 HA.out.cd).mono ?_; rintro e w8 ⟨rfl, b8⟩; have HB8 := mkHid (bt HB7.out b8); have HR8 := mkHid (hold HR7.out b8); clear b8)
    | (go_at_call 14; clear M9; refine (num_ev _ ad (HE.out.late HB8.out) 1 HA.out.cd).mono ?_; rintro e w9 ⟨rfl, b9⟩; have HB9 := mkHid (bt HB8.out b9); have HR9 := mkHid (hold HR8.out b9); have x9 : w9.cell? ⟨w.heap.size, 0, none⟩ = some (.int .i64 k) := cell_of_block (i := 0) HR9.out rfl; have y9 : w9.cell? ⟨w.heap.size, 1, none⟩ = some (.int .i64 q) := cell_of_block (i := 1) HR9.out rfl; have z9 : w9.cell? ⟨w.heap.size, 2, none⟩ = some (.int .i64 t) := cell_of_block (i := 2) HR9.out rfl; clear b9)
    | (go_at_call 17; clear M10; refine (H2.out _ HB9.out).mono ?_; rintro e w10 ⟨rfl, b10⟩; have HB10 := mkHid (bt HB9.out b10); have HR10 := mkHid (hold HR9.out b10); clear x9 y9 z9; have x10 : w10.cell? ⟨w.heap.size, 0, none⟩ = some (.int .i64 k) := cell_of_block (i := 0) HR10.out rfl; have y10 : w10.cell? ⟨w.heap.size, 1, none⟩ = some (.int .i64 q) := cell_of_block (i := 1) HR10.out rfl; have z10 : w10.cell? ⟨w.heap.size, 2, none⟩ = some (.int .i64 t) := cell_of_block (i := 2) HR10.out rfl; have gserver_10 := (HE.out.late HB10.out).cell_server; clear b10)
    | (go_at_call 18; clear M11; refine (H3.out _ HB10.out).mono ?_; rintro e w11 ⟨rfl, b11⟩; have HB11 := mkHid (bt HB10.out b11); have HR11 := mkHid (hold HR10.out b11); clear x10 y10 z10; have x11 : w11.cell? ⟨w.heap.size, 0, none⟩ = some (.int .i64 k) := cell_of_block (i := 0) HR11.out rfl; have y11 : w11.cell? ⟨w.heap.size, 1, none⟩ = some (.int .i64 q) := cell_of_block (i := 1) HR11.out rfl; have z11 : w11.cell? ⟨w.heap.size, 2, none⟩ = some (.int .i64 t) := cell_of_block (i := 2) HR11.out rfl; have gserver_11 := (HE.out.late HB11.out).cell_server; clear gserver_10; clear b11)
    | (go_at_call 19; clear M12; refine (H4.out _ HB11.out).mono ?_; rintro e w12 ⟨rfl, b12⟩; have HB12 := mkHid (bt HB11.out b12); have HR12 := mkHid (hold HR11.out b12); clear x11 y11 z11; have x12 : w12.cell? ⟨w.heap.size, 0, none⟩ = some (.int .i64 k) := cell_of_block (i := 0) HR12.out rfl; have y12 : w12.cell? ⟨w.heap.size, 1, none⟩ = some (.int .i64 q) := cell_of_block (i := 1) HR12.out rfl; have z12 : w12.cell? ⟨w.heap.size, 2, none⟩ = some (.int .i64 t) := cell_of_block (i := 2) HR12.out rfl; have gserver_12 := (HE.out.late HB12.out).cell_server; clear gserver_11; clear b12))
  go_ret
  exact ⟨rfl, HB12.out⟩
set_option maxHeartbeats 12800000 in
theorem servers_qj (w : World) (v : Value) (xs : List Sv) (s : Sv) (l : Int) (ad : Nat → Addr) (E : Errs w ad) (h : Svs w v xs) (hl24 : xs.length * 24 ≤ 140737488355328) {X Y A B C D m n : Int} (ha : SrvAns xs l m n X Y A B C D) (hm0 : m = 0) (hn1 : n = 1) (hlb : l < 0 ∨ (0 ≤ l ∧ 1099511627776 < l)) (hs : okS s) (hlc : l < 0 ∨ (0 ≤ l ∧ 1099511627776 < l)) : Calls Tryd.prog 3 #[v, vS s, .int .i64 l] w fun e w' => e = .returned (.bool true) ∧ Below w.heap.size w w' := by
  have HAL : Hid (Ans w 9 #[] (.bool true)) := mkHid (fun W hb => dalive W ad (E.late hb).er3)
  have HA := mkHid ha
  have HE := mkHid E
  have HS := mkHid h
  have HL := mkHid hl24
  subst hm0
  subst hn1
  obtain ⟨rfl, rfl⟩ := ha.no (by decide)
  have HG : Hid (Ans w 13 #[.int .i64 l] (.bool false)) := mkHid (fun W _ => good_no W l hlb)
  have H2 := mkHid (sdemA_num w s l ad E.er3 hs hlc)
  have H3 := mkHid (sreqA_num w s l ad E.er3 hs hlc)
  have H4 : Hid (Ans w 19 #[vS s] (.bool true)) := mkHid (fun W _ => reflegal_ok W s hs)
  have heq := fun W => (E.is_number).eq W
  skip
  clear hs hlc
  obtain ⟨ie, hie⟩ : ∃ ie, Hid (Tryd.prog.info? 24 = some ie ∧ ie.zero = some (.agg #[.int .i64 0, .int .i64 0, .int .i64 0]) ∧ ie.size = 3 ∧ ie.bytes = 24) := by
    obtain ⟨ie, h1, h2, h3, h4⟩ := info_parts info_server
    exact ⟨ie, mkHid ⟨h1, h2, h3, h4⟩⟩
  obtain ⟨sa, sc, rfl, hsl, h9⟩ := id h
  clear E h hl24 ha h9
  obtain ⟨k, q, t⟩ := s
  have M1 : Hid True := mkHid trivial
  have M2 : Hid True := mkHid trivial
  have M3 : Hid True := mkHid trivial
  have M4 : Hid True := mkHid trivial
  have M5 : Hid True := mkHid trivial
  have M6 : Hid True := mkHid trivial
  have M7 : Hid True := mkHid trivial
  have M8 : Hid True := mkHid trivial
  have M9 : Hid True := mkHid trivial
  have M10 : Hid True := mkHid trivial
  have M11 : Hid True := mkHid trivial
  have M12 : Hid True := mkHid trivial
  have M13 : Hid True := mkHid trivial
  go_enter Tryd.func3, Tryd.ntmps3
  go_wp2_with (first
    | (go_at_call 9; clear M1; refine (HAL.out _ (ba (Below.refl _ _) _)).mono ?_; rintro e w1 ⟨rfl, b1⟩; have HB1 := mkHid (bt (ba (Below.refl _ _) _) b1); have HR1 := mkHid (new_last b1).1; clear b1)
    | (at_builtin; clear M2; have hm := World.ownsRow_made (base := w1.heap.size) (e := 24) (size := 3) w1 #[] 0 (Nat.le_refl _) (by unfold maxLen; omega) rfl; refine wpList_append_src3 _ rfl (.tmp 20) (.tmp 21) 22 22 rfl w1.heap.size 24 ie Tryd.underlying22 hie.out.1 (.agg #[.int .i64 0, .int .i64 0, .int .i64 0]) 24 hie.out.2.1 rfl hie.out.2.2.1 hie.out.2.2.2 (.slice (some ⟨w1.heap.size, 0, none⟩) 0 0) 0 [] rfl hm (.slice sa xs.length sc) xs.length (xs.flatMap c3) rfl (HS.out.below (ba HB1.out _)).src (by have := HL.out; unfold maxLen; omega) (by have := HL.out; omega) (by simp) ?_; intro v4 w2 ho4 hg4 hat4; rw [Nat.zero_add, List.nil_append] at ho4; have b2 : Below w1.heap.size w1 w2 := ((Below.refl _ w1).alloc (Nat.le_refl _) (.cells #[] 24)).grown hg4 (by simp) (fun k hk => by simp [Value.ownBlock] at hk; omega); have HB2 := mkHid (bt HB1.out b2); obtain ⟨p2, r2, rfl, ht4⟩ := svs_of_owns (xs := xs) (by omega) ho4; have HV2 := mkHid ht4; have HR2 := mkHid (hold HR1.out b2); clear hm ho4 hg4 hat4 b2 ht4)
    | (go_at_call 10; clear M3; refine (HA.out.p1 _ _ ad HV2.out (HE.out.late HB2.out)).mono ?_; rintro e w3 ⟨rfl, b3⟩; have HB3 := mkHid (bt HB2.out b3); have HR3 := mkHid (hold HR2.out b3); clear b3)
    | (at_builtin; clear M4; have hm := World.ownsRow_made (base := w3.heap.size) (e := 24) (size := 3) w3 #[] 0 (Nat.le_refl _) (by unfold maxLen; omega) rfl; refine wpList_append_src3 _ rfl (.tmp 28) (.tmp 29) 22 22 rfl w3.heap.size 24 ie Tryd.underlying22 hie.out.1 (.agg #[.int .i64 0, .int .i64 0, .int .i64 0]) 24 hie.out.2.1 rfl hie.out.2.2.1 hie.out.2.2.2 (.slice (some ⟨w3.heap.size, 0, none⟩) 0 0) 0 [] rfl hm (.slice sa xs.length sc) xs.length (xs.flatMap c3) rfl (HS.out.below (ba HB3.out _)).src (by have := HL.out; unfold maxLen; omega) (by have := HL.out; omega) (by simp) ?_; intro v4 w4 ho4 hg4 hat4; rw [Nat.zero_add, List.nil_append] at ho4; have b4 : Below w3.heap.size w3 w4 := ((Below.refl _ w3).alloc (Nat.le_refl _) (.cells #[] 24)).grown hg4 (by simp) (fun k hk => by simp [Value.ownBlock] at hk; omega); have HB4 := mkHid (bt HB3.out b4); obtain ⟨p4, r4, rfl, ht4⟩ := svs_of_owns (xs := xs) (by omega) ho4; have HV4 := mkHid ht4; have HR4 := mkHid (hold HR3.out b4); clear hm ho4 hg4 hat4 b4 ht4)
    | (go_at_call 11; clear M5; refine (HA.out.p2 _ _ ad HV4.out (HE.out.late HB4.out)).mono ?_; rintro e w5 ⟨rfl, b5⟩; have HB5 := mkHid (bt HB4.out b5); have HR5 := mkHid (hold HR4.out b5); clear b5)
    | (go_at_call 12; clear M6; refine (HA.out.rf _ _ (HS.out.below HB5.out)).mono ?_; rintro e w6 ⟨rfl, b6⟩; have HB6 := mkHid (bt HB5.out b6); have HR6 := mkHid (hold HR5.out b6); clear b6)
    | (go_at_call 13; clear M7; refine (HG.out _ (ba HB6.out _)).mono ?_; rintro e w7 ⟨rfl, b7⟩; have HB7 := mkHid (bt (ba HB6.out _) b7); have HR7 := mkHid (hold (hold HR6.out ((Below.refl _ _).alloc (Nat.le_refl _) _)) b7); clear b7)
    | (go_at_call 14; clear M8; refine (num_ev _ ad (HE.out.late HB7.out) 1 HA.out.cd).mono ?_; rintro e w8 ⟨rfl, b8⟩; have HB8 := mkHid (bt HB7.out b8); have HR8 := mkHid (hold HR7.out b8); clear b8)
    | (go_at_call 14; clear M9; refine (num_ev _ ad (HE.out.late HB8.out) 1 HA.out.cd).mono ?_; rintro e w9 ⟨rfl, b9⟩; have HB9 := mkHid (bt HB8.out b9); have HR9 := mkHid (hold HR8.out b9); have x9 : w9.cell? ⟨w.heap.size, 0, none⟩ = some (.int .i64 k) := cell_of_block (i := 0) HR9.out rfl; have y9 : w9.cell? ⟨w.heap.size, 1, none⟩ = some (.int .i64 q) := cell_of_block (i := 1) HR9.out rfl; have z9 : w9.cell? ⟨w.heap.size, 2, none⟩ = some (.int .i64 t) := cell_of_block (i := 2) HR9.out rfl; clear b9)
    | (go_at_call 17; clear M10; refine (H2.out _ HB9.out).mono ?_; rintro e w10 ⟨rfl, b10⟩; have HB10 := mkHid (bt HB9.out b10); have HR10 := mkHid (hold HR9.out b10); clear x9 y9 z9; have x10 : w10.cell? ⟨w.heap.size, 0, none⟩ = some (.int .i64 k) := cell_of_block (i := 0) HR10.out rfl; have y10 : w10.cell? ⟨w.heap.size, 1, none⟩ = some (.int .i64 q) := cell_of_block (i := 1) HR10.out rfl; have z10 : w10.cell? ⟨w.heap.size, 2, none⟩ = some (.int .i64 t) := cell_of_block (i := 2) HR10.out rfl; have gnumber_10 := (HE.out.late HB10.out).cell_number; clear b10)
    | (go_at_call 18; clear M11; refine (H3.out _ HB10.out).mono ?_; rintro e w11 ⟨rfl, b11⟩; have HB11 := mkHid (bt HB10.out b11); have HR11 := mkHid (hold HR10.out b11); clear x10 y10 z10; have x11 : w11.cell? ⟨w.heap.size, 0, none⟩ = some (.int .i64 k) := cell_of_block (i := 0) HR11.out rfl; have y11 : w11.cell? ⟨w.heap.size, 1, none⟩ = some (.int .i64 q) := cell_of_block (i := 1) HR11.out rfl; have z11 : w11.cell? ⟨w.heap.size, 2, none⟩ = some (.int .i64 t) := cell_of_block (i := 2) HR11.out rfl; have gnumber_11 := (HE.out.late HB11.out).cell_number; clear gnumber_10; clear b11)
    | (go_at_call 19; clear M12; refine (H4.out _ HB11.out).mono ?_; rintro e w12 ⟨rfl, b12⟩; have HB12 := mkHid (bt HB11.out b12); have HR12 := mkHid (hold HR11.out b12); clear x11 y11 z11; have x12 : w12.cell? ⟨w.heap.size, 0, none⟩ = some (.int .i64 k) := cell_of_block (i := 0) HR12.out rfl; have y12 : w12.cell? ⟨w.heap.size, 1, none⟩ = some (.int .i64 q) := cell_of_block (i := 1) HR12.out rfl; have z12 : w12.cell? ⟨w.heap.size, 2, none⟩ = some (.int .i64 t) := cell_of_block (i := 2) HR12.out rfl; have gnumber_12 := (HE.out.late HB12.out).cell_number; clear gnumber_11; clear b12)
    | (go_at_call 13; clear M13; refine (HG.out _ HB12.out).mono ?_; rintro e w13 ⟨rfl, b13⟩; have HB13 := mkHid (bt HB12.out b13); have HR13 := mkHid (hold HR12.out b13); clear x12 y12 z12; have x13 : w13.cell? ⟨w.heap.size, 0, none⟩ = some (.int .i64 k) := cell_of_block (i := 0) HR13.out rfl; have y13 : w13.cell? ⟨w.heap.size, 1, none⟩ = some (.int .i64 q) := cell_of_block (i := 1) HR13.out rfl; have z13 : w13.cell? ⟨w.heap.size, 2, none⟩ = some (.int .i64 t) := cell_of_block (i := 2) HR13.out rfl; have gnumber_13 := (HE.out.late HB13.out).cell_number; clear gnumber_12; clear b13))
  go_ret
  exact ⟨rfl, HB13.out⟩
set_option maxHeartbeats 12800000 in
theorem servers_ri (w : World) (v : Value) (xs : List Sv) (s : Sv) (l : Int) (ad : Nat → Addr) (E : Errs w ad) (h : Svs w v xs) (hl24 : xs.length * 24 ≤ 140737488355328) {X Y A B C D m n : Int} (ha : SrvAns xs l m n X Y A B C D) (hm0 : m = 0) (hn0 : n = 0) (l0 : 0 ≤ l) (l1 : l ≤ 1099511627776) (hs : ¬ okS s) : Calls Tryd.prog 3 #[v, vS s, .int .i64 l] w fun e w' => e = .returned (.bool true) ∧ Below w.heap.size w w' := by
  have HAL : Hid (Ans w 9 #[] (.bool true)) := mkHid (fun W hb => dalive W ad (E.late hb).er3)
  have HA := mkHid ha
  have HE := mkHid E
  have HS := mkHid h
  have HL := mkHid hl24
  subst hm0
  subst hn0
  have HG : Hid (Ans w 13 #[.int .i64 l] (.bool true)) := mkHid (fun W _ => good_yes W l l0 l1)
  have H2 := mkHid (sdemA_no w s l ad E.er3 hs)
  have H3 := mkHid (sreqA_no w s l ad E.er3 hs)
  have H4 : Hid (Ans w 19 #[vS s] (.bool false)) := mkHid (fun W _ => reflegal_no W s hs)
  have heq := fun W => (E.is_server).eq W
  clear hs
  obtain ⟨ie, hie⟩ : ∃ ie, Hid (Tryd.prog.info? 24 = some ie ∧ ie.zero = some (.agg #[.int .i64 0, .int .i64 0, .int .i64 0]) ∧ ie.size = 3 ∧ ie.bytes = 24) := by
    obtain ⟨ie, h1, h2, h3, h4⟩ := info_parts info_server
    exact ⟨ie, mkHid ⟨h1, h2, h3, h4⟩⟩
  obtain ⟨sa, sc, rfl, hsl, h9⟩ := id h
  clear E h hl24 ha h9
  obtain ⟨k, q, t⟩ := s
  have M1 : Hid True := mkHid trivial
  have M2 : Hid True := mkHid trivial
  have M3 : Hid True := mkHid trivial
  have M4 : Hid True := mkHid trivial
  have M5 : Hid True := mkHid trivial
  have M6 : Hid True := mkHid trivial
  have M7 : Hid True := mkHid trivial
  have M8 : Hid True := mkHid trivial
  have M9 : Hid True := mkHid trivial
  have M10 : Hid True := mkHid trivial
  have M11 : Hid True := mkHid trivial
  have M12 : Hid True := mkHid trivial
  have M13 : Hid True := mkHid trivial
  have M14 : Hid True := mkHid trivial
  go_enter Tryd.func3, Tryd.ntmps3
  go_wp2_with (first
    | (go_at_call 9; clear M1; refine (HAL.out _ (ba (Below.refl _ _) _)).mono ?_; rintro e w1 ⟨rfl, b1⟩; have HB1 := mkHid (bt (ba (Below.refl _ _) _) b1); have HR1 := mkHid (new_last b1).1; clear b1)
    | (at_builtin; clear M2; have hm := World.ownsRow_made (base := w1.heap.size) (e := 24) (size := 3) w1 #[] 0 (Nat.le_refl _) (by unfold maxLen; omega) rfl; refine wpList_append_src3 _ rfl (.tmp 20) (.tmp 21) 22 22 rfl w1.heap.size 24 ie Tryd.underlying22 hie.out.1 (.agg #[.int .i64 0, .int .i64 0, .int .i64 0]) 24 hie.out.2.1 rfl hie.out.2.2.1 hie.out.2.2.2 (.slice (some ⟨w1.heap.size, 0, none⟩) 0 0) 0 [] rfl hm (.slice sa xs.length sc) xs.length (xs.flatMap c3) rfl (HS.out.below (ba HB1.out _)).src (by have := HL.out; unfold maxLen; omega) (by have := HL.out; omega) (by simp) ?_; intro v4 w2 ho4 hg4 hat4; rw [Nat.zero_add, List.nil_append] at ho4; have b2 : Below w1.heap.size w1 w2 := ((Below.refl _ w1).alloc (Nat.le_refl _) (.cells #[] 24)).grown hg4 (by simp) (fun k hk => by simp [Value.ownBlock] at hk; omega); have HB2 := mkHid (bt HB1.out b2); obtain ⟨p2, r2, rfl, ht4⟩ := svs_of_owns (xs := xs) (by omega) ho4; have HV2 := mkHid ht4; have HR2 := mkHid (hold HR1.out b2); clear hm ho4 hg4 hat4 b2 ht4)
    | (go_at_call 10; clear M3; refine (HA.out.p1 _ _ ad HV2.out (HE.out.late HB2.out)).mono ?_; rintro e w3 ⟨rfl, b3⟩; have HB3 := mkHid (bt HB2.out b3); have HR3 := mkHid (hold HR2.out b3); clear b3)
    | (at_builtin; clear M4; have hm := World.ownsRow_made (base := w3.heap.size) (e := 24) (size := 3) w3 #[] 0 (Nat.le_refl _) (by unfold maxLen; omega) rfl; refine wpList_append_src3 _ rfl (.tmp 28) (.tmp 29) 22 22 rfl w3.heap.size 24 ie Tryd.underlying22 hie.out.1 (.agg #[.int .i64 0, .int .i64 0, .int .i64 0]) 24 hie.out.2.1 rfl hie.out.2.2.1 hie.out.2.2.2 (.slice (some ⟨w3.heap.size, 0, none⟩) 0 0) 0 [] rfl hm (.slice sa xs.length sc) xs.length (xs.flatMap c3) rfl (HS.out.below (ba HB3.out _)).src (by have := HL.out; unfold maxLen; omega) (by have := HL.out; omega) (by simp) ?_; intro v4 w4 ho4 hg4 hat4; rw [Nat.zero_add, List.nil_append] at ho4; have b4 : Below w3.heap.size w3 w4 := ((Below.refl _ w3).alloc (Nat.le_refl _) (.cells #[] 24)).grown hg4 (by simp) (fun k hk => by simp [Value.ownBlock] at hk; omega); have HB4 := mkHid (bt HB3.out b4); obtain ⟨p4, r4, rfl, ht4⟩ := svs_of_owns (xs := xs) (by omega) ho4; have HV4 := mkHid ht4; have HR4 := mkHid (hold HR3.out b4); clear hm ho4 hg4 hat4 b4 ht4)
    | (go_at_call 11; clear M5; refine (HA.out.p2 _ _ ad HV4.out (HE.out.late HB4.out)).mono ?_; rintro e w5 ⟨rfl, b5⟩; have HB5 := mkHid (bt HB4.out b5); have HR5 := mkHid (hold HR4.out b5); clear b5)
    | (go_at_call 12; clear M6; refine (HA.out.rf _ _ (HS.out.below HB5.out)).mono ?_; rintro e w6 ⟨rfl, b6⟩; have HB6 := mkHid (bt HB5.out b6); have HR6 := mkHid (hold HR5.out b6); clear b6)
    | (go_at_call 13; clear M7; refine (HG.out _ (ba HB6.out _)).mono ?_; rintro e w7 ⟨rfl, b7⟩; have HB7 := mkHid (bt (ba HB6.out _) b7); have HR7 := mkHid (hold (hold HR6.out ((Below.refl _ _).alloc (Nat.le_refl _) _)) b7); clear b7)
    | (go_at_call 14; clear M8; refine (num_ev _ ad (HE.out.late HB7.out) 0 HA.out.cd).mono ?_; rintro e w8 ⟨rfl, b8⟩; have HB8 := mkHid (bt HB7.out b8); have HR8 := mkHid (hold HR7.out b8); clear b8)
    | (go_at_call 14; clear M9; refine (num_ev _ ad (HE.out.late HB8.out) 0 HA.out.cd).mono ?_; rintro e w9 ⟨rfl, b9⟩; have HB9 := mkHid (bt HB8.out b9); have HR9 := mkHid (hold HR8.out b9); clear b9)
    | (go_at_call 15; clear M10; refine (HA.out.r1 rfl _ _ (HS.out.below HB9.out)).mono ?_; rintro e w10 ⟨rfl, b10⟩; have HB10 := mkHid (bt HB9.out b10); have HR10 := mkHid (hold HR9.out b10); clear b10)
    | (go_at_call 16; clear M11; refine (HA.out.r2 rfl _ _ (HS.out.below HB10.out)).mono ?_; rintro e w11 ⟨rfl, b11⟩; have HB11 := mkHid (bt HB10.out b11); have HR11 := mkHid (hold HR10.out b11); have x11 : w11.cell? ⟨w.heap.size, 0, none⟩ = some (.int .i64 k) := cell_of_block (i := 0) HR11.out rfl; have y11 : w11.cell? ⟨w.heap.size, 1, none⟩ = some (.int .i64 q) := cell_of_block (i := 1) HR11.out rfl; have z11 : w11.cell? ⟨w.heap.size, 2, none⟩ = some (.int .i64 t) := cell_of_block (i := 2) HR11.out rfl; clear b11)
    | (go_at_call 17; clear M12; refine (H2.out _ HB11.out).mono ?_; rintro e w12 ⟨rfl, b12⟩; have HB12 := mkHid (bt HB11.out b12); have HR12 := mkHid (hold HR11.out b12); clear x11 y11 z11; have x12 : w12.cell? ⟨w.heap.size, 0, none⟩ = some (.int .i64 k) := cell_of_block (i := 0) HR12.out rfl; have y12 : w12.cell? ⟨w.heap.size, 1, none⟩ = some (.int .i64 q) := cell_of_block (i := 1) HR12.out rfl; have z12 : w12.cell? ⟨w.heap.size, 2, none⟩ = some (.int .i64 t) := cell_of_block (i := 2) HR12.out rfl; have gserver_12 := (HE.out.late HB12.out).cell_server; clear b12)
    | (go_at_call 18; clear M13; refine (H3.out _ HB12.out).mono ?_; rintro e w13 ⟨rfl, b13⟩; have HB13 := mkHid (bt HB12.out b13); have HR13 := mkHid (hold HR12.out b13); clear x12 y12 z12; have x13 : w13.cell? ⟨w.heap.size, 0, none⟩ = some (.int .i64 k) := cell_of_block (i := 0) HR13.out rfl; have y13 : w13.cell? ⟨w.heap.size, 1, none⟩ = some (.int .i64 q) := cell_of_block (i := 1) HR13.out rfl; have z13 : w13.cell? ⟨w.heap.size, 2, none⟩ = some (.int .i64 t) := cell_of_block (i := 2) HR13.out rfl; have gserver_13 := (HE.out.late HB13.out).cell_server; clear gserver_12; clear b13)
    | (go_at_call 19; clear M14; refine (H4.out _ HB13.out).mono ?_; rintro e w14 ⟨rfl, b14⟩; have HB14 := mkHid (bt HB13.out b14); have HR14 := mkHid (hold HR13.out b14); clear x13 y13 z13; have x14 : w14.cell? ⟨w.heap.size, 0, none⟩ = some (.int .i64 k) := cell_of_block (i := 0) HR14.out rfl; have y14 : w14.cell? ⟨w.heap.size, 1, none⟩ = some (.int .i64 q) := cell_of_block (i := 1) HR14.out rfl; have z14 : w14.cell? ⟨w.heap.size, 2, none⟩ = some (.int .i64 t) := cell_of_block (i := 2) HR14.out rfl; have gserver_14 := (HE.out.late HB14.out).cell_server; clear gserver_13; clear b14))
  go_ret
  exact ⟨rfl, HB14.out⟩
set_option maxHeartbeats 12800000 in
theorem servers_rk (w : World) (v : Value) (xs : List Sv) (s : Sv) (l : Int) (ad : Nat → Addr) (E : Errs w ad) (h : Svs w v xs) (hl24 : xs.length * 24 ≤ 140737488355328) {X Y A B C D m n : Int} (ha : SrvAns xs l m n X Y A B C D) (hm0 : m = 0) (hn0 : n = 0) (l0 : 0 ≤ l) (l1 : l ≤ 1099511627776) (hs : okS s) (c0 : 0 ≤ l) (c1 : l ≤ 1099511627776) : Calls Tryd.prog 3 #[v, vS s, .int .i64 l] w fun e w' => e = .returned (.bool true) ∧ Below w.heap.size w w' := by
  have HAL : Hid (Ans w 9 #[] (.bool true)) := mkHid (fun W hb => dalive W ad (E.late hb).er3)
  have HA := mkHid ha
  have HE := mkHid E
  have HS := mkHid h
  have HL := mkHid hl24
  subst hm0
  subst hn0
  have HG : Hid (Ans w 13 #[.int .i64 l] (.bool true)) := mkHid (fun W _ => good_yes W l l0 l1)
  have H2 := mkHid (sdemA_yes w s l ad E.er3 hs c0 c1)
  have H3 := mkHid (sreqA_yes w s l ad E.er3 hs c0 c1)
  have H4 : Hid (Ans w 19 #[vS s] (.bool true)) := mkHid (fun W _ => reflegal_ok W s hs)
  have H5 : Hid (Ans w 20 #[vS s, .int .i64 l] (.int .i64 (sdem s l))) := mkHid (fun W _ => rsdem_is W s l hs c0 c1)
  have H6 : Hid (Ans w 21 #[vS s, .int .i64 l] (.int .i64 (sreq s l))) := mkHid (fun W _ => rsreq_is W s l hs c0 c1)
  skip
  clear hs
  generalize sdem s l = U at *
  generalize sreq s l = V at *
  obtain ⟨ie, hie⟩ : ∃ ie, Hid (Tryd.prog.info? 24 = some ie ∧ ie.zero = some (.agg #[.int .i64 0, .int .i64 0, .int .i64 0]) ∧ ie.size = 3 ∧ ie.bytes = 24) := by
    obtain ⟨ie, h1, h2, h3, h4⟩ := info_parts info_server
    exact ⟨ie, mkHid ⟨h1, h2, h3, h4⟩⟩
  obtain ⟨sa, sc, rfl, hsl, h9⟩ := id h
  clear E h hl24 ha h9
  obtain ⟨k, q, t⟩ := s
  have M1 : Hid True := mkHid trivial
  have M2 : Hid True := mkHid trivial
  have M3 : Hid True := mkHid trivial
  have M4 : Hid True := mkHid trivial
  have M5 : Hid True := mkHid trivial
  have M6 : Hid True := mkHid trivial
  have M7 : Hid True := mkHid trivial
  have M8 : Hid True := mkHid trivial
  have M9 : Hid True := mkHid trivial
  have M10 : Hid True := mkHid trivial
  have M11 : Hid True := mkHid trivial
  have M12 : Hid True := mkHid trivial
  have M13 : Hid True := mkHid trivial
  have M14 : Hid True := mkHid trivial
  have M15 : Hid True := mkHid trivial
  have M16 : Hid True := mkHid trivial
  have M17 : Hid True := mkHid trivial
  go_enter Tryd.func3, Tryd.ntmps3
  go_wp2_with (first
    | (go_at_call 9; clear M1; refine (HAL.out _ (ba (Below.refl _ _) _)).mono ?_; rintro e w1 ⟨rfl, b1⟩; have HB1 := mkHid (bt (ba (Below.refl _ _) _) b1); have HR1 := mkHid (new_last b1).1; clear b1)
    | (at_builtin; clear M2; have hm := World.ownsRow_made (base := w1.heap.size) (e := 24) (size := 3) w1 #[] 0 (Nat.le_refl _) (by unfold maxLen; omega) rfl; refine wpList_append_src3 _ rfl (.tmp 20) (.tmp 21) 22 22 rfl w1.heap.size 24 ie Tryd.underlying22 hie.out.1 (.agg #[.int .i64 0, .int .i64 0, .int .i64 0]) 24 hie.out.2.1 rfl hie.out.2.2.1 hie.out.2.2.2 (.slice (some ⟨w1.heap.size, 0, none⟩) 0 0) 0 [] rfl hm (.slice sa xs.length sc) xs.length (xs.flatMap c3) rfl (HS.out.below (ba HB1.out _)).src (by have := HL.out; unfold maxLen; omega) (by have := HL.out; omega) (by simp) ?_; intro v4 w2 ho4 hg4 hat4; rw [Nat.zero_add, List.nil_append] at ho4; have b2 : Below w1.heap.size w1 w2 := ((Below.refl _ w1).alloc (Nat.le_refl _) (.cells #[] 24)).grown hg4 (by simp) (fun k hk => by simp [Value.ownBlock] at hk; omega); have HB2 := mkHid (bt HB1.out b2); obtain ⟨p2, r2, rfl, ht4⟩ := svs_of_owns (xs := xs) (by omega) ho4; have HV2 := mkHid ht4; have HR2 := mkHid (hold HR1.out b2); clear hm ho4 hg4 hat4 b2 ht4)
    | (go_at_call 10; clear M3; refine (HA.out.p1 _ _ ad HV2.out (HE.out.late HB2.out)).mono ?_; rintro e w3 ⟨rfl, b3⟩; have HB3 := mkHid (bt HB2.out b3); have HR3 := mkHid (hold HR2.out b3); clear b3)
    | (at_builtin; clear M4; have hm := World.ownsRow_made (base := w3.heap.size) (e := 24) (size := 3) w3 #[] 0 (Nat.le_refl _) (by unfold maxLen; omega) rfl; refine wpList_append_src3 _ rfl (.tmp 28) (.tmp 29) 22 22 rfl w3.heap.size 24 ie Tryd.underlying22 hie.out.1 (.agg #[.int .i64 0, .int .i64 0, .int .i64 0]) 24 hie.out.2.1 rfl hie.out.2.2.1 hie.out.2.2.2 (.slice (some ⟨w3.heap.size, 0, none⟩) 0 0) 0 [] rfl hm (.slice sa xs.length sc) xs.length (xs.flatMap c3) rfl (HS.out.below (ba HB3.out _)).src (by have := HL.out; unfold maxLen; omega) (by have := HL.out; omega) (by simp) ?_; intro v4 w4 ho4 hg4 hat4; rw [Nat.zero_add, List.nil_append] at ho4; have b4 : Below w3.heap.size w3 w4 := ((Below.refl _ w3).alloc (Nat.le_refl _) (.cells #[] 24)).grown hg4 (by simp) (fun k hk => by simp [Value.ownBlock] at hk; omega); have HB4 := mkHid (bt HB3.out b4); obtain ⟨p4, r4, rfl, ht4⟩ := svs_of_owns (xs := xs) (by omega) ho4; have HV4 := mkHid ht4; have HR4 := mkHid (hold HR3.out b4); clear hm ho4 hg4 hat4 b4 ht4)
    | (go_at_call 11; clear M5; refine (HA.out.p2 _ _ ad HV4.out (HE.out.late HB4.out)).mono ?_; rintro e w5 ⟨rfl, b5⟩; have HB5 := mkHid (bt HB4.out b5); have HR5 := mkHid (hold HR4.out b5); clear b5)
    | (go_at_call 12; clear M6; refine (HA.out.rf _ _ (HS.out.below HB5.out)).mono ?_; rintro e w6 ⟨rfl, b6⟩; have HB6 := mkHid (bt HB5.out b6); have HR6 := mkHid (hold HR5.out b6); clear b6)
    | (go_at_call 13; clear M7; refine (HG.out _ (ba HB6.out _)).mono ?_; rintro e w7 ⟨rfl, b7⟩; have HB7 := mkHid (bt (ba HB6.out _) b7); have HR7 := mkHid (hold (hold HR6.out ((Below.refl _ _).alloc (Nat.le_refl _) _)) b7); clear b7)
    | (go_at_call 14; clear M8; refine (num_ev _ ad (HE.out.late HB7.out) 0 HA.out.cd).mono ?_; rintro e w8 ⟨rfl, b8⟩; have HB8 := mkHid (bt HB7.out b8); have HR8 := mkHid (hold HR7.out b8); clear b8)
    | (go_at_call 14; clear M9; refine (num_ev _ ad (HE.out.late HB8.out) 0 HA.out.cd).mono ?_; rintro e w9 ⟨rfl, b9⟩; have HB9 := mkHid (bt HB8.out b9); have HR9 := mkHid (hold HR8.out b9); clear b9)
    | (go_at_call 15; clear M10; refine (HA.out.r1 rfl _ _ (HS.out.below HB9.out)).mono ?_; rintro e w10 ⟨rfl, b10⟩; have HB10 := mkHid (bt HB9.out b10); have HR10 := mkHid (hold HR9.out b10); clear b10)
    | (go_at_call 16; clear M11; refine (HA.out.r2 rfl _ _ (HS.out.below HB10.out)).mono ?_; rintro e w11 ⟨rfl, b11⟩; have HB11 := mkHid (bt HB10.out b11); have HR11 := mkHid (hold HR10.out b11); have x11 : w11.cell? ⟨w.heap.size, 0, none⟩ = some (.int .i64 k) := cell_of_block (i := 0) HR11.out rfl; have y11 : w11.cell? ⟨w.heap.size, 1, none⟩ = some (.int .i64 q) := cell_of_block (i := 1) HR11.out rfl; have z11 : w11.cell? ⟨w.heap.size, 2, none⟩ = some (.int .i64 t) := cell_of_block (i := 2) HR11.out rfl; clear b11)
    | (go_at_call 17; clear M12; refine (H2.out _ HB11.out).mono ?_; rintro e w12 ⟨rfl, b12⟩; have HB12 := mkHid (bt HB11.out b12); have HR12 := mkHid (hold HR11.out b12); clear x11 y11 z11; have x12 : w12.cell? ⟨w.heap.size, 0, none⟩ = some (.int .i64 k) := cell_of_block (i := 0) HR12.out rfl; have y12 : w12.cell? ⟨w.heap.size, 1, none⟩ = some (.int .i64 q) := cell_of_block (i := 1) HR12.out rfl; have z12 : w12.cell? ⟨w.heap.size, 2, none⟩ = some (.int .i64 t) := cell_of_block (i := 2) HR12.out rfl; clear b12)
    | (go_at_call 18; clear M13; refine (H3.out _ HB12.out).mono ?_; rintro e w13 ⟨rfl, b13⟩; have HB13 := mkHid (bt HB12.out b13); have HR13 := mkHid (hold HR12.out b13); clear x12 y12 z12; have x13 : w13.cell? ⟨w.heap.size, 0, none⟩ = some (.int .i64 k) := cell_of_block (i := 0) HR13.out rfl; have y13 : w13.cell? ⟨w.heap.size, 1, none⟩ = some (.int .i64 q) := cell_of_block (i := 1) HR13.out rfl; have z13 : w13.cell? ⟨w.heap.size, 2, none⟩ = some (.int .i64 t) := cell_of_block (i := 2) HR13.out rfl; clear b13)
    | (go_at_call 19; clear M14; refine (H4.out _ HB13.out).mono ?_; rintro e w14 ⟨rfl, b14⟩; have HB14 := mkHid (bt HB13.out b14); have HR14 := mkHid (hold HR13.out b14); clear x13 y13 z13; have x14 : w14.cell? ⟨w.heap.size, 0, none⟩ = some (.int .i64 k) := cell_of_block (i := 0) HR14.out rfl; have y14 : w14.cell? ⟨w.heap.size, 1, none⟩ = some (.int .i64 q) := cell_of_block (i := 1) HR14.out rfl; have z14 : w14.cell? ⟨w.heap.size, 2, none⟩ = some (.int .i64 t) := cell_of_block (i := 2) HR14.out rfl; clear b14)
    | (go_at_call 13; clear M15; refine (HG.out _ HB14.out).mono ?_; rintro e w15 ⟨rfl, b15⟩; have HB15 := mkHid (bt HB14.out b15); have HR15 := mkHid (hold HR14.out b15); clear x14 y14 z14; have x15 : w15.cell? ⟨w.heap.size, 0, none⟩ = some (.int .i64 k) := cell_of_block (i := 0) HR15.out rfl; have y15 : w15.cell? ⟨w.heap.size, 1, none⟩ = some (.int .i64 q) := cell_of_block (i := 1) HR15.out rfl; have z15 : w15.cell? ⟨w.heap.size, 2, none⟩ = some (.int .i64 t) := cell_of_block (i := 2) HR15.out rfl; clear b15)
    | (go_at_call 20; clear M16; refine (H5.out _ HB15.out).mono ?_; rintro e w16 ⟨rfl, b16⟩; have HB16 := mkHid (bt HB15.out b16); have HR16 := mkHid (hold HR15.out b16); clear x15 y15 z15; have x16 : w16.cell? ⟨w.heap.size, 0, none⟩ = some (.int .i64 k) := cell_of_block (i := 0) HR16.out rfl; have y16 : w16.cell? ⟨w.heap.size, 1, none⟩ = some (.int .i64 q) := cell_of_block (i := 1) HR16.out rfl; have z16 : w16.cell? ⟨w.heap.size, 2, none⟩ = some (.int .i64 t) := cell_of_block (i := 2) HR16.out rfl; clear b16)
    | (go_at_call 21; clear M17; refine (H6.out _ HB16.out).mono ?_; rintro e w17 ⟨rfl, b17⟩; have HB17 := mkHid (bt HB16.out b17); have HR17 := mkHid (hold HR16.out b17); clear x16 y16 z16; have x17 : w17.cell? ⟨w.heap.size, 0, none⟩ = some (.int .i64 k) := cell_of_block (i := 0) HR17.out rfl; have y17 : w17.cell? ⟨w.heap.size, 1, none⟩ = some (.int .i64 q) := cell_of_block (i := 1) HR17.out rfl; have z17 : w17.cell? ⟨w.heap.size, 2, none⟩ = some (.int .i64 t) := cell_of_block (i := 2) HR17.out rfl; clear b17))
  go_ret
  exact ⟨rfl, HB17.out⟩
theorem servers_any (w : World) (v : Value) (xs : List Sv) (s : Sv) (l : Int) (ad : Nat → Addr) (E : Errs w ad) (h : Svs w v xs) (hl : xs.length * 24 ≤ 140737488355328) : Calls Tryd.prog 3 #[v, vS s, .int .i64 l] w fun e w' => e = .returned (.bool true) ∧ Below w.heap.size w w' := by
  obtain ⟨m, n, X, Y, A, B, C, D, ha, hc⟩ := srv_ans xs l
  rcases hc with ⟨hm, hn⟩ | ⟨hm, hn, hl2⟩ | ⟨hm, hn, l0, l1⟩
  · by_cases hs : okS s
    · rcases lcd_cases l with ⟨_, hl2⟩ | ⟨_, l0, l1⟩
      · exact servers_pj w v xs s l ad E h hl ha hm hn hs hl2
      · exact servers_pk w v xs s l ad E h hl ha hm hn hs l0 l1
    · exact servers_pi w v xs s l ad E h hl ha hm hn hs
  · by_cases hs : okS s
    · exact servers_qj w v xs s l ad E h hl ha hm hn hl2 hs hl2
    · exact servers_qi w v xs s l ad E h hl ha hm hn hl2 hs
  · by_cases hs : okS s
    · exact servers_rk w v xs s l ad E h hl ha hm hn l0 l1 hs l0 l1
    · exact servers_ri w v xs s l ad E h hl ha hm hn l0 l1 hs
end Go.Proofs.YtilnchlnlnpkfaaDoor
