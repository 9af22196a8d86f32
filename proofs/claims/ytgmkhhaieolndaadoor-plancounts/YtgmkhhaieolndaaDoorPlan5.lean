/- Within; alive. -/
import Derived.Test.YtgmkhhaieolndaaDoorPlan4
import Derived.Deep.RegionHeld3
namespace Go.Proofs.YtgmkhhaieolndaaDoor
open Go.ChangeShapes Go.WideShapes Go.ChangeAt Go.RowKit
attribute [local go_sem] World.cell?_alloc_some frozen_alloc_some

theorem okS.i64 {s : Sv} (h : okS s) : I64 s.2.1 ∧ I64 s.2.2 := by
  obtain ⟨_, _, h1, h2, h3⟩ := h
  exact ⟨⟨by omega, by omega⟩, ⟨by omega, by omega⟩⟩
set_option maxHeartbeats 1600000 in
theorem within_whole {nh nl dh dl x : Int} {ok : Bool} (w : World) (a : Word nh) (b : Word nl) (c : Word dh) (d : Word dl) (h : AgIs (wv nh nl) (wv dh dl) 1 1 x ok) :
    Calls Tryd.prog 17 #[vP nh nl dh dl, vS (0, 0, 0)] w fun e w' => e = .returned (.tuple #[.int .i64 x, .bool ok]) ∧ Below w.heap.size w w' := by
  have i1 : I64 1 := ⟨by decide, by decide⟩
  go_enter Tryd.func17, Tryd.ntmps17
  go_wp2_with (go_at_call 30; refine (against_is a b c d i1 i1 h).mono ?_; rintro e w1 ⟨rfl, b1⟩)
  go_ret2
  exact ⟨rfl, bt (ba (ba (Below.refl _ _) _) _) b1⟩
set_option maxHeartbeats 1600000 in
theorem within_ok {nh nl dh dl x : Int} {ok : Bool} (w : World) (s : Sv) (a : Word nh) (b : Word nl) (c : Word dh) (d : Word dl) (hs : okS s) (h : AgIs (wv nh nl) (wv dh dl) s.2.1 s.2.2 x ok) :
    Calls Tryd.prog 17 #[vP nh nl dh dl, vS s] w fun e w' => e = .returned (.tuple #[.int .i64 x, .bool ok]) ∧ Below w.heap.size w w' := by
  obtain ⟨k, q, t⟩ := s
  obtain ⟨i1, i2⟩ := hs.i64
  have HS := mkHid hs
  have hk : ¬ k = 0 := by have := hs.1; simp only at this; omega
  clear hs
  go_enter Tryd.func17, Tryd.ntmps17
  go_wp2_with (first
    | (go_at_call 9; refine (check_ok _ (k, q, t) HS.out).mono ?_; rintro e w1 ⟨rfl, b1⟩; have c0 := kc (a := ⟨w.heap.size, 0, none⟩) (v := .int .u64 nh) (by simp [go_sem]) b1; have c1 := kc (a := ⟨w.heap.size, 1, none⟩) (v := .int .u64 nl) (by simp [go_sem]) b1; have c2 := kc (a := ⟨w.heap.size, 2, none⟩) (v := .int .u64 dh) (by simp [go_sem]) b1; have c3 := kc (a := ⟨w.heap.size, 3, none⟩) (v := .int .u64 dl) (by simp [go_sem]) b1; have d1 := kc (a := ⟨w.heap.size + 1, 1, none⟩) (v := .int .i64 q) (by simp [go_sem]) b1; have d2 := kc (a := ⟨w.heap.size + 1, 2, none⟩) (v := .int .i64 t) (by simp [go_sem]) b1; have HB1 := mkHid b1; clear b1)
    | (go_at_call 30; refine (against_is a b c d i1 i2 h).mono ?_; rintro e w2 ⟨rfl, b2⟩))
  go_ret2
  exact ⟨rfl, bt (bt (ba (ba (Below.refl _ _) _) _) HB1.out) b2⟩
set_option maxHeartbeats 1600000 in
theorem within_no {nh nl dh dl : Int} (w : World) (s : Sv) (hs : ¬ okS s) (hz : s ≠ (0, 0, 0)) (a : Addr) (he : w.cell? ⟨0, 0, none⟩ = some (vE a)) :
    Calls Tryd.prog 17 #[vP nh nl dh dl, vS s] w fun e w' => e = .returned (.tuple #[.int .i64 0, .bool false]) ∧ Below w.heap.size w w' := by
  obtain ⟨k, q, t⟩ := s
  have hc : ¬ k = 0 ∨ (k = 0 ∧ ¬ q = 0) ∨ (k = 0 ∧ q = 0 ∧ ¬ t = 0) := by
    by_cases e1 : k = 0
    · by_cases e2 : q = 0
      · by_cases e3 : t = 0
        · exact absurd (by rw [e1, e2, e3]) hz
        · exact .inr (.inr ⟨e1, e2, e3⟩)
      · exact .inr (.inl ⟨e1, e2⟩)
    · exact .inl e1
  have HS := mkHid hs
  clear hs hz
  rcases hc with hk | ⟨rfl, hk⟩ | ⟨rfl, rfl, hk⟩
  all_goals
    go_enter Tryd.func17, Tryd.ntmps17
    go_wp2_with (go_at_call 9; refine (check_no _ _ HS.out a (kl (kl he _) _)).mono ?_; rintro e w1 ⟨rfl, b1⟩; have HB1 := mkHid b1; clear b1)
    go_ret2
    exact ⟨rfl, bt (ba (ba (Below.refl _ _) _) _) HB1.out⟩
theorem svs_two (w : World) (s t : Sv) : Svs (w.alloc (.cells #[.int .i64 s.1, .int .i64 s.2.1, .int .i64 s.2.2, .int .i64 t.1, .int .i64 t.2.1, .int .i64 t.2.2] 23)) (.slice (some ⟨w.heap.size, 0, none⟩) 2 2) [s, t] := by
  refine ⟨_, 2, rfl, by simp, fun _ => ⟨_, _, rfl, fun i x hi => ?_⟩⟩
  have hl : i < 2 := by have := (List.getElem?_eq_some_iff.mp hi).1; simpa using this
  have h2 : i = 0 ∨ i = 1 := by omega
  rcases h2 with rfl | rfl
  · simp at hi
    subst hi
    refine ⟨?_, ?_, ?_⟩ <;> simp [go_sem]
  · simp at hi
    subst hi
    refine ⟨?_, ?_, ?_⟩ <;> simp [go_sem]
theorem svs_one (w : World) (s : Sv) : Svs (w.alloc (.cells #[.int .i64 s.1, .int .i64 s.2.1, .int .i64 s.2.2] 23)) (.slice (some ⟨w.heap.size, 0, none⟩) 1 1) [s] := by
  refine ⟨_, 1, rfl, by simp, fun _ => ⟨_, _, rfl, fun i x hi => ?_⟩⟩
  have hl : i < 1 := by have := (List.getElem?_eq_some_iff.mp hi).1; simpa using this
  obtain rfl : i = 0 := by omega
  simp at hi
  subst hi
  refine ⟨?_, ?_, ?_⟩ <;> simp [go_sem]
theorem pt56 : Pt (sh ([(1, 1, 2), (2, 1, 3)].map qt)) 0 5 0 6 := ⟨word0, ⟨by decide, by decide⟩, word0, ⟨by decide, by decide⟩, by decide, by decide⟩
set_option maxHeartbeats 1600000 in
theorem alive_is (w : World) (a : Addr) (h : Err w 0 text0 a) : Calls Tryd.prog 8 #[] w fun e w' => e = .returned (.bool true) ∧ Below w.heap.size w w' := by
  have q := h.eq
  have HE := mkHid h.1
  clear h
  go_enter Tryd.func8, Tryd.ntmps8
  go_wp2_with (go_at_call 13; refine (servers_ok _ _ [(1, 1, 2), (2, 1, 3)] 0 5 0 6 (svs_two w (1, 1, 2) (2, 1, 3)) (by intro x hx; simp at hx; rcases hx with rfl | rfl <;> (unfold okS; decide)) (by decide) pt56).mono ?_; rintro e w1 ⟨rfl, b1⟩; have HB1 := mkHid b1; clear b1)
  have ce : w1.cell? ⟨0, 0, none⟩ = some (vE a) := kc (kl HE.out _) HB1.out
  obtain ⟨⟨z0, z1, z2, z3⟩, _⟩ := P4.new w1 0 5 0 6
  have cf := kl ce (oP 0 5 0 6)
  clear ce
  obtain ⟨W, hW⟩ : ∃ W, W = w1.alloc (oP 0 5 0 6) := ⟨_, rfl⟩
  have HB2 : Hid (Below w.heap.size w W) := mkHid (by rw [hW]; exact ba (bt (ba (Below.refl _ _) _) HB1.out) _)
  have hp : w1.heap.size < W.heap.size := by rw [hW]; simp
  rw [← hW] at z0 z1 z2 z3 cf ⊢
  clear hW HB1
  generalize w1.heap.size = p at *
  go_region_held3 (fun w' => w'.cell? ⟨p, 0, none⟩ = some (.int .u64 0) ∧ w'.cell? ⟨p, 1, none⟩ = some (.int .u64 5) ∧ w'.cell? ⟨p, 2, none⟩ = some (.int .u64 0) ∧ w'.cell? ⟨p, 3, none⟩ = some (.int .u64 6) ∧ w'.cell? ⟨0, 0, none⟩ = some (vE a)) (go_keep) (first
    | (go_at_call 9; refine (check_no W.drew (1, 3, 2) (by unfold okS; decide) a (by simpa using cf)).mono ?_; rintro e w2 ⟨rfl, b2⟩; have d0 := kc (show W.drew.cell? _ = _ from z0) b2; have d1 := kc (show W.drew.cell? _ = _ from z1) b2; have d2 := kc (show W.drew.cell? _ = _ from z2) b2; have d3 := kc (show W.drew.cell? _ = _ from z3) b2; have d4 := kc (show W.drew.cell? _ = _ from cf) b2; have HB3 := mkHid (bt HB2.out.drew b2); clear b2))
  go_wp2
  go_ret
  exact ⟨rfl, HB3.out⟩
end Go.Proofs.YtgmkhhaieolndaaDoor
