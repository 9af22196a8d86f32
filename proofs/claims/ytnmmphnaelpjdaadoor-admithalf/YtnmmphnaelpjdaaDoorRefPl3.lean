/- The document's Within; the answers of both sides, whatever comes in. -/
import Derived.Test.YtnmmphnaelpjdaaDoorRefPl2
import Derived.Test.YtnmmphnaelpjdaaDoorErrNum8
import Derived.Deep.QuietTactic
import Derived.BigQuiet
namespace Go.Proofs.YtnmmphnaelpjdaaDoor
open Go.ChangeShapes Go.WideShapes Go.ChangeAt Go.RowKit
set_option maxRecDepth 100000
attribute [local go_sem] World.cell?_alloc_some frozen_alloc_some

theorem drewN_keeps (w : World) (n : Nat) : Below w.heap.size w (w.drewN n) := ⟨rfl, rfl, rfl, Nat.le_refl _, fun _ _ => rfl⟩
set_option maxHeartbeats 1600000 in
theorem refwithin_whole {nh nl dh dl x : Int} {ok : Bool} (w : World) (a : Word nh) (b : Word nl) (c : Word dh) (d : Word dl) (h : AgIs (wv nh nl) (wv dh dl) 1 1 x ok) :
    Calls Tryd.prog 24 #[vP nh nl dh dl, vS (0, 0, 0)] w fun e w' => e = .returned (.tuple #[.int .i64 x, .bool ok]) ∧ Below w.heap.size w w' := by
  have i1 : I64 1 := ⟨by decide, by decide⟩
  go_enter Tryd.func24, Tryd.ntmps24
  go_wp2
  go_quiet (fail)
  have HD := mkHid (bt (ba (ba (Below.refl _ w) (oP nh nl dh dl)) (oS (0, 0, 0))) (drewN_keeps _ nq))
  go_wp2_with (go_at_call 49; refine (refAgainst a b c d i1 i1 h).mono ?_; rintro e w1 ⟨rfl, b1⟩)
  go_ret2
  exact ⟨rfl, bt HD.out b1⟩
set_option maxHeartbeats 1600000 in
theorem refwithin_ok {nh nl dh dl x : Int} {ok : Bool} (w : World) (s : Sv) (a : Word nh) (b : Word nl) (c : Word dh) (d : Word dl) (hs : okS s) (h : AgIs (wv nh nl) (wv dh dl) s.2.1 s.2.2 x ok) :
    Calls Tryd.prog 24 #[vP nh nl dh dl, vS s] w fun e w' => e = .returned (.tuple #[.int .i64 x, .bool ok]) ∧ Below w.heap.size w w' := by
  obtain ⟨k, q, t⟩ := s
  obtain ⟨i1, i2⟩ := hs.i64
  have HS := mkHid hs
  have hk : (k == 0) = false := by have := hs.1; simp only at this; simp; omega
  clear hs
  go_enter Tryd.func24, Tryd.ntmps24
  go_wp2
  go_quiet (fail)
  have HD := mkHid (bt (ba (ba (Below.refl _ w) (oP nh nl dh dl)) (oS (k, q, t))) (drewN_keeps _ nq))
  go_wp2_with (first
    | (go_at_call 47; refine (reflegal_ok _ (k, q, t) HS.out).mono ?_; rintro e w1 ⟨rfl, b1⟩; obtain ⟨c0, c1, c2, c3⟩ := ((((P4.new w nh nl dh dl).alloc (oS (k, q, t))).below (drewN_keeps _ nq)).below b1).cells; have HB1 := mkHid (bt HD.out b1); clear b1)
    | (go_at_call 49; refine (refAgainst a b c d i1 i2 h).mono ?_; rintro e w2 ⟨rfl, b2⟩))
  go_ret2
  exact ⟨rfl, bt HB1.out b2⟩
set_option maxHeartbeats 1600000 in
theorem refwithin_no {nh nl dh dl : Int} (w : World) (s : Sv) (hs : ¬ okS s) (hz : s ≠ (0, 0, 0)) :
    Calls Tryd.prog 24 #[vP nh nl dh dl, vS s] w fun e w' => e = .returned (.tuple #[.int .i64 0, .bool false]) ∧ Below w.heap.size w w' := by
  obtain ⟨k, q, t⟩ := s
  have hc : (k == 0) = false ∨ (k = 0 ∧ (q == 0) = false) ∨ (k = 0 ∧ q = 0 ∧ (t == 0) = false) := by
    by_cases e1 : k = 0
    · by_cases e2 : q = 0
      · by_cases e3 : t = 0
        · exact absurd (by rw [e1, e2, e3]) hz
        · exact .inr (.inr ⟨e1, e2, by simpa using e3⟩)
      · exact .inr (.inl ⟨e1, by simpa using e2⟩)
    · exact .inl (by simpa using e1)
  have HS := mkHid hs
  clear hs hz
  rcases hc with hk | ⟨rfl, hk⟩ | ⟨rfl, rfl, hk⟩
  all_goals
    go_enter Tryd.func24, Tryd.ntmps24
    go_wp2
    go_quiet (fail)
    go_wp2_with (go_at_call 47; refine (reflegal_no _ _ HS.out).mono ?_; rintro e w1 ⟨rfl, b1⟩; have HB1 := mkHid (bt (bt (ba (ba (Below.refl _ w) _) _) (drewN_keeps _ nq)) b1); clear b1)
    go_ret2
    exact ⟨rfl, HB1.out⟩

end Go.Proofs.YtnmmphnaelpjdaaDoor
