/- The document's Within; the answers of both sides, whatever comes in. -/
import Derived.Test.YtgmkhhaieolndaaDoorRefPl2
import Derived.Test.YtgmkhhaieolndaaDoorErrNum8
import Derived.Deep.QuietTactic
import Derived.BigQuiet
namespace Go.Proofs.YtgmkhhaieolndaaDoor
open Go.ChangeShapes Go.WideShapes Go.ChangeAt Go.RowKit
attribute [local go_sem] World.cell?_alloc_some frozen_alloc_some

theorem drewN_keeps (w : World) (n : Nat) : Below w.heap.size w (w.drewN n) := ⟨rfl, rfl, rfl, Nat.le_refl _, fun _ _ => rfl⟩
set_option maxHeartbeats 1600000 in
theorem refwithin_whole {nh nl dh dl x : Int} {ok : Bool} (w : World) (a : Word nh) (b : Word nl) (c : Word dh) (d : Word dl) (h : AgIs (wv nh nl) (wv dh dl) 1 1 x ok) :
    Calls Tryd.prog 18 #[vP nh nl dh dl, vS (0, 0, 0)] w fun e w' => e = .returned (.tuple #[.int .i64 x, .bool ok]) ∧ Below w.heap.size w w' := by
  have i1 : I64 1 := ⟨by decide, by decide⟩
  go_enter Tryd.func18, Tryd.ntmps18
  go_wp2
  go_quiet (fail)
  have HD := mkHid (bt (ba (ba (Below.refl _ w) (oP nh nl dh dl)) (oS (0, 0, 0))) (drewN_keeps _ nq))
  go_wp2_with (go_at_call 31; refine (refAgainst a b c d i1 i1 h).mono ?_; rintro e w1 ⟨rfl, b1⟩)
  go_ret2
  exact ⟨rfl, bt HD.out b1⟩
set_option maxHeartbeats 1600000 in
theorem refwithin_ok {nh nl dh dl x : Int} {ok : Bool} (w : World) (s : Sv) (a : Word nh) (b : Word nl) (c : Word dh) (d : Word dl) (hs : okS s) (h : AgIs (wv nh nl) (wv dh dl) s.2.1 s.2.2 x ok) :
    Calls Tryd.prog 18 #[vP nh nl dh dl, vS s] w fun e w' => e = .returned (.tuple #[.int .i64 x, .bool ok]) ∧ Below w.heap.size w w' := by
  obtain ⟨k, q, t⟩ := s
  obtain ⟨i1, i2⟩ := hs.i64
  have HS := mkHid hs
  have hk : (k == 0) = false := by have := hs.1; simp only at this; simp; omega
  clear hs
  go_enter Tryd.func18, Tryd.ntmps18
  go_wp2
  go_quiet (fail)
  have HD := mkHid (bt (ba (ba (Below.refl _ w) (oP nh nl dh dl)) (oS (k, q, t))) (drewN_keeps _ nq))
  go_wp2_with (first
    | (go_at_call 11; refine (reflegal_ok _ (k, q, t) HS.out).mono ?_; rintro e w1 ⟨rfl, b1⟩; obtain ⟨c0, c1, c2, c3⟩ := ((((P4.new w nh nl dh dl).alloc (oS (k, q, t))).below (drewN_keeps _ nq)).below b1).cells; have HB1 := mkHid (bt HD.out b1); clear b1)
    | (go_at_call 31; refine (refAgainst a b c d i1 i2 h).mono ?_; rintro e w2 ⟨rfl, b2⟩))
  go_ret2
  exact ⟨rfl, bt HB1.out b2⟩
set_option maxHeartbeats 1600000 in
theorem refwithin_no {nh nl dh dl : Int} (w : World) (s : Sv) (hs : ¬ okS s) (hz : s ≠ (0, 0, 0)) :
    Calls Tryd.prog 18 #[vP nh nl dh dl, vS s] w fun e w' => e = .returned (.tuple #[.int .i64 0, .bool false]) ∧ Below w.heap.size w w' := by
  obtain ⟨k, q, t⟩ := s
  have hc : (k == 0) = false ∨ (k = 0 ∧ (q == 0) = false) ∨ (k = 0 ∧ q = 0 ∧ (t == 0) = false) := by
    by_cases e1 : k = 0
    · by_cases e2 : q = 0
      · by_cases e3 : t = 0
        · exact absurd (by rw [e1, e2, e3]) hz
        · exact .inr (.inr ⟨e1, e2, by simpa using e3⟩)
      · exact .inr (.inl ⟨e1, by simpa using e2⟩)
    · exact .inl (by simpa using e1)
  have HS := mkHid hs
  clear hs hz
  rcases hc with hk | ⟨rfl, hk⟩ | ⟨rfl, rfl, hk⟩
  all_goals
    go_enter Tryd.func18, Tryd.ntmps18
    go_wp2
    go_quiet (fail)
    go_wp2_with (go_at_call 11; refine (reflegal_no _ _ HS.out).mono ?_; rintro e w1 ⟨rfl, b1⟩; have HB1 := mkHid (bt (bt (ba (ba (Below.refl _ w) _) _) (drewN_keeps _ nq)) b1); clear b1)
    go_ret2
    exact ⟨rfl, HB1.out⟩
/-- The error of a number. -/
def ev (a : Nat → Addr) (n : Int) : Value := if n = 10 then vE (a 0) else if n = 7 then vE (a 2) else if n = 11 then vE (a 1) else .nilIface
def Code4 (n : Int) : Prop := n = 0 ∨ n = 7 ∨ n = 10 ∨ n = 11
theorem num_is (w : World) (a : Nat → Addr) (E : Errs w a) (n : Int) (hn : Code4 n) : Calls Tryd.prog 19 #[ev a n] w fun e w' => e = .returned (.int .i64 n) ∧ Below w.heap.size w w' := by
  rcases hn with rfl | rfl | rfl | rfl
  · refine (errnum_nil w).mono ?_
    rintro e w' ⟨h, rfl⟩
    exact ⟨h, Below.refl _ _⟩
  · exact errnum_full w a E
  · exact errnum_server w a E
  · exact errnum_task w a E
theorem words0 : Word 0 ∧ Word 0 ∧ Word 0 ∧ Word 0 := ⟨word0, word0, word0, word0⟩
theorem servers_all (xs : List Sv) : ∃ A B C E n : Int, (Word A ∧ Word B ∧ Word C ∧ Word E) ∧ Code4 n ∧
    (∀ w v a, Svs w v xs → Errs w a → Calls Tryd.prog 13 #[v] w fun e w' => e = .returned (.tuple #[vP A B C E, ev a n]) ∧ Below w.heap.size w w') ∧
    (∀ w v, Svs w v xs → Calls Tryd.prog 14 #[v] w fun e w' => e = .returned (.tuple #[vP A B C E, .int .i64 n]) ∧ Below w.heap.size w w') := by
  by_cases hb : ∃ x ∈ xs, ¬ okS x
  · exact ⟨0, 0, 0, 0, 10, words0, .inr (.inr (.inl rfl)), fun w v a h E => servers_no w v xs _ h hb E.cell_server, fun w v h => refservers_no w v xs h hb⟩
  · have hx : ∀ x ∈ xs, okS x := fun x hx => by
      by_cases hk : okS x
      · exact hk
      · exact absurd ⟨x, hx, hk⟩ hb
    by_cases hn : xs.length ≤ 8
    · obtain ⟨A, B, C, E, hp⟩ := sh_pt (xs.map qt) (fun y hy => by obtain ⟨x, hm, rfl⟩ := List.mem_map.mp hy; exact (hx x hm).q) (by simpa using hn)
      exact ⟨A, B, C, E, 0, ⟨hp.a, hp.b, hp.c, hp.e⟩, .inl rfl, fun w v a h _ => servers_ok w v xs A B C E h hx hn hp, fun w v h => refservers_ok w v xs A B C E h hx hn hp⟩
    · exact ⟨0, 0, 0, 0, 7, words0, .inr (.inl rfl), fun w v a h E => servers_full w v xs _ h hx (by omega) E.cell_full, fun w v h => refservers_full w v xs h hx (by omega)⟩
theorem tasks_all (xs : List Tk) : ∃ A B C E n : Int, (Word A ∧ Word B ∧ Word C ∧ Word E) ∧ Code4 n ∧
    (∀ w v a, Tks w v xs → Errs w a → Calls Tryd.prog 15 #[v] w fun e w' => e = .returned (.tuple #[vP A B C E, ev a n]) ∧ Below w.heap.size w w') ∧
    (∀ w v, Tks w v xs → Calls Tryd.prog 16 #[v] w fun e w' => e = .returned (.tuple #[vP A B C E, .int .i64 n]) ∧ Below w.heap.size w w') := by
  by_cases hn : xs.length ≤ 8
  · by_cases hb : ∃ x ∈ xs, ¬ okT x
    · have hno : ¬ okTs xs := fun h => by obtain ⟨x, hm, hk⟩ := hb; exact hk (h.2 x hm)
      refine ⟨0, 0, 0, 0, 11, words0, .inr (.inr (.inr rfl)), fun w v a h E => tasks_no w v xs _ h hno E.cell_task, fun w v h => reftasks_short w v xs 0 0 0 0 11 h hn (fun ha => ?_) (fun _ => ⟨rfl, rfl, rfl, rfl, rfl⟩)⟩
      exact absurd ⟨hn, ha⟩ hno
    · have hx : ∀ x ∈ xs, okT x := fun x hx => by
        by_cases hk : okT x
        · exact hk
        · exact absurd ⟨x, hx, hk⟩ hb
      obtain ⟨A, B, C, E, hp⟩ := sh_pt (xs.map cp) (fun y hy => by obtain ⟨x, hm, rfl⟩ := List.mem_map.mp hy; exact (hx x hm).q) (by simpa using hn)
      exact ⟨A, B, C, E, 0, ⟨hp.a, hp.b, hp.c, hp.e⟩, .inl rfl, fun w v a h _ => tasks_ok w v xs A B C E h ⟨hn, hx⟩ hp, fun w v h => reftasks_short w v xs A B C E 0 h hn (fun _ => ⟨hp, rfl⟩) (fun h => absurd h hb)⟩
  · have hno : ¬ okTs xs := fun h => hn h.1
    exact ⟨0, 0, 0, 0, 11, words0, .inr (.inr (.inr rfl)), fun w v a h E => tasks_no w v xs _ h hno E.cell_task, fun w v h => reftasks_long w v xs h (by omega)⟩
theorem within_all (s : Sv) {A B C E : Int} (hA : Word A) (hB : Word B) (hC : Word C) (hE : Word E) : ∃ (x : Int) (ok : Bool),
    (∀ w a, Errs w a → Calls Tryd.prog 17 #[vP A B C E, vS s] w fun e w' => e = .returned (.tuple #[.int .i64 x, .bool ok]) ∧ Below w.heap.size w w') ∧
    (∀ w, Calls Tryd.prog 18 #[vP A B C E, vS s] w fun e w' => e = .returned (.tuple #[.int .i64 x, .bool ok]) ∧ Below w.heap.size w w') := by
  by_cases hz : s = (0, 0, 0)
  · subst hz
    obtain ⟨x, ok, h⟩ := ag_ex (wv A B) (wv C E) 1 1
    exact ⟨x, ok, fun w a _ => within_whole w hA hB hC hE h, fun w => refwithin_whole w hA hB hC hE h⟩
  · by_cases hs : okS s
    · obtain ⟨x, ok, h⟩ := ag_ex (wv A B) (wv C E) s.2.1 s.2.2
      exact ⟨x, ok, fun w a _ => within_ok w s hA hB hC hE hs h, fun w => refwithin_ok w s hA hB hC hE hs h⟩
    · exact ⟨0, false, fun w a E => within_no w s hs hz _ E.cell_server, fun w => refwithin_no w s hs hz⟩
end Go.Proofs.YtgmkhhaieolndaaDoor
