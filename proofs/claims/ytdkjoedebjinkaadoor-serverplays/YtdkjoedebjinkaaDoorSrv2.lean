/- Package server: New and Begin. -/
import Derived.Test.YtdkjoedebjinkaaDoorSrv1
import Derived.Laws.ResultCell
import Derived.Laws.Rows
namespace Go.Proofs.YtdkjoedebjinkaaDoor
open Go.ChangeShapes Go.WideShapes Go.ChangeAt Go.RowKit

theorem kb_drewN (b : Nat) (w : World) (n : Nat) : Kb b w (w.drewN n) := ⟨rfl, rfl, rfl, Nat.le_refl _, fun _ _ _ => rfl⟩
theorem boundary_is (w : World) (b : Nat) (s : Sv) (m now : Int) (wk : Bool) (x : Ss) (h : SB w b s m wk x) (m0 : 0 ≤ m) (hm : m ≤ now) (n1 : now ≤ 1099511727776) (hs : okS s) : Calls Tryd.prog 34 #[.pointer (some ⟨b, 0, none⟩), .int .i64 now] w fun e w' => e = .returned (.bool (decide ((now - m) % s.2.2 = 0))) ∧ Kb b w w' ∧ SB w' b s m wk x := by
  have c6 := h.c6
  have c5 := h.c5
  have HS := mkHid h
  clear h
  obtain ⟨k, q, t⟩ := s
  obtain ⟨h1, h3, h4, h5, h6⟩ := hs
  simp only at h1 h3 h4 h5 h6 c5 ⊢
  obtain ⟨X, hX⟩ : ∃ X, X = now - m := ⟨_, rfl⟩
  obtain ⟨R, hR⟩ : ∃ R, R = X % t := ⟨_, rfl⟩
  have ex : IntKind.i64.wrap (now - m) = X := by rw [hX]; exact wfit (by omega) (by omega)
  have er : X.tmod t = R := by rw [hR]; exact Int.tmod_eq_emod_of_nonneg (by omega)
  have hR0 : 0 ≤ R := by rw [hR]; exact Int.emod_nonneg _ (by omega)
  have hR1 : R < t := by rw [hR]; exact Int.emod_lt_of_pos _ (by omega)
  have ew : IntKind.i64.wrap R = R := wfit (by omega) (by omega)
  have t0 : ¬ t = 0 := by omega
  rw [← hX, ← hR]
  clear hX hR
  go_enter Tryd.func34, Tryd.ntmps34
  go_wp2
  go_quiet (fail)
  go_wp2
  go_ret
  exact ⟨rfl, kb_drewN b w _, HS.out⟩
theorem poll_no (w : World) (b : Nat) (s : Sv) (m now : Int) (x : Ss) (h : SB w b s m false x) : Calls Tryd.prog 29 #[.pointer (some ⟨b, 0, none⟩), .int .i64 now] w fun e w' => e = .returned (.tuple #[]) ∧ SB w' b s m false (dropS x) ∧ Kb b w w' := by
  have c7 := h.c7
  have HS := mkHid h
  clear h
  go_enter Tryd.func29, Tryd.ntmps29
  go_wp2_with (go_at_call 33; refine (drop_is w b s m false x HS.out).mono ?_; rintro e w1 ⟨rfl, hs1, hk1⟩; have HS1 := mkHid hs1; have HK1 := mkHid hk1; clear hs1 hk1)
  go_end0
  exact ⟨rfl, HS1.out, HK1.out⟩
theorem wake_no (w : World) (b : Nat) (s : Sv) (m now : Int) (x : Ss) (h : SB w b s m false x) : Calls Tryd.prog 30 #[.pointer (some ⟨b, 0, none⟩), .int .i64 now] w fun e w' => e = .returned (.tuple #[]) ∧ SB w' b s m false (dropS x) ∧ Kb b w w' := by
  have c7 := h.c7
  have HS := mkHid h
  clear h
  go_enter Tryd.func30, Tryd.ntmps30
  go_wp2_with (go_at_call 33; refine (drop_is w b s m false x HS.out).mono ?_; rintro e w1 ⟨rfl, hs1, hk1⟩; have HS1 := mkHid hs1; have HK1 := mkHid hk1; clear hs1 hk1)
  go_end0
  exact ⟨rfl, HS1.out, HK1.out⟩
set_option maxHeartbeats 1600000 in
theorem poll_yes (w : World) (b : Nat) (s : Sv) (m now : Int) (x : Ss) (h : SB w b s m true x) (m0 : 0 ≤ m) (hm : m ≤ now) (n1 : now ≤ 1099511727776) (hs : okS s) : Calls Tryd.prog 29 #[.pointer (some ⟨b, 0, none⟩), .int .i64 now] w fun e w' => e = .returned (.tuple #[]) ∧ SB w' b s m true (if (now - m) % s.2.2 = 0 then fillS s now else x) ∧ Kb b w w' := by
  have c7 := h.c7
  have HS := mkHid h
  have HO := mkHid hs
  have HC := mkHid (boundary_is w b s m now true x h m0 hm n1 hs)
  clear h hs
  by_cases e : (now - m) % s.2.2 = 0
  · rw [if_pos e]
    rw [decide_eq_true e] at HC
    clear e
    go_enter Tryd.func29, Tryd.ntmps29
    go_wp2_with (first | (go_at_call 34; refine HC.out.mono ?_; rintro e w1 ⟨rfl, hk1, hs1⟩; have HS1 := mkHid hs1; have HK1 := mkHid hk1; have d3 := hs1.c3; have d4 := hs1.c4; have d5 := hs1.c5; clear hs1 hk1))
    go_region_held3 (fun w' => w'.cell? ⟨b, 3, none⟩ = some (.int .i64 s.1) ∧ w'.cell? ⟨b, 4, none⟩ = some (.int .i64 s.2.1) ∧ w'.cell? ⟨b, 5, none⟩ = some (.int .i64 s.2.2)) (go_keep) (first | (go_at_call 35; refine (fill_is w1.drew b s m now true x HS1.out (by omega) n1 HO.out).mono ?_; rintro e w2 ⟨rfl, hs2, hk2⟩; have HS2 := mkHid hs2; have HK2 := mkHid hk2; have e3 := hs2.c3; have e4 := hs2.c4; have e5 := hs2.c5; clear hs2 hk2))
    all_goals
      go_wp2
      go_end0
      exact ⟨rfl, HS2.out, Kb.trans (Kb.trans HK1.out (Kept.drew _ w1)) HK2.out⟩
  · rw [if_neg e]
    rw [decide_eq_false e] at HC
    clear e
    go_enter Tryd.func29, Tryd.ntmps29
    go_wp2_with (first | (go_at_call 34; refine HC.out.mono ?_; rintro e w1 ⟨rfl, hk1, hs1⟩; have HS1 := mkHid hs1; have HK1 := mkHid hk1; have d3 := hs1.c3; have d4 := hs1.c4; have d5 := hs1.c5; clear hs1 hk1))
    go_end0
    exact ⟨rfl, HS1.out, HK1.out⟩
set_option maxHeartbeats 1600000 in
theorem renew_is (w : World) (b : Nat) (s : Sv) (m now : Int) (wk : Bool) (x : Ss) (h : SB w b s m wk x) (m0 : 0 ≤ m) (hm : m ≤ now) (n1 : now ≤ 1099511727776) (hs : okS s) : Calls Tryd.prog 31 #[.pointer (some ⟨b, 0, none⟩), .int .i64 now] w fun e w' => e = .returned (.tuple #[]) ∧ SB w' b s m wk (if (now - m) % s.2.2 = 0 then fillS s now else x) ∧ Kb b w w' := by
  have c7 := h.c7
  have HS := mkHid h
  have HO := mkHid hs
  have HC := mkHid (boundary_is w b s m now wk x h m0 hm n1 hs)
  clear h hs
  by_cases e : (now - m) % s.2.2 = 0
  · rw [if_pos e]
    rw [decide_eq_true e] at HC
    clear e
    go_enter Tryd.func31, Tryd.ntmps31
    go_wp2_with (first | (go_at_call 34; refine HC.out.mono ?_; rintro e w1 ⟨rfl, hk1, hs1⟩; have HS1 := mkHid hs1; have HK1 := mkHid hk1; have d3 := hs1.c3; have d4 := hs1.c4; have d5 := hs1.c5; clear hs1 hk1))
    go_region_held3 (fun w' => w'.cell? ⟨b, 3, none⟩ = some (.int .i64 s.1) ∧ w'.cell? ⟨b, 4, none⟩ = some (.int .i64 s.2.1) ∧ w'.cell? ⟨b, 5, none⟩ = some (.int .i64 s.2.2)) (go_keep) (first | (go_at_call 35; refine (fill_is w1.drew b s m now wk x HS1.out (by omega) n1 HO.out).mono ?_; rintro e w2 ⟨rfl, hs2, hk2⟩; have HS2 := mkHid hs2; have HK2 := mkHid hk2; have e3 := hs2.c3; have e4 := hs2.c4; have e5 := hs2.c5; clear hs2 hk2))
    all_goals
      go_wp2
      go_end0
      exact ⟨rfl, HS2.out, Kb.trans (Kb.trans HK1.out (Kept.drew _ w1)) HK2.out⟩
  · rw [if_neg e]
    rw [decide_eq_false e] at HC
    clear e
    go_enter Tryd.func31, Tryd.ntmps31
    go_wp2_with (first | (go_at_call 34; refine HC.out.mono ?_; rintro e w1 ⟨rfl, hk1, hs1⟩; have HS1 := mkHid hs1; have HK1 := mkHid hk1; have d3 := hs1.c3; have d4 := hs1.c4; have d5 := hs1.c5; clear hs1 hk1))
    go_end0
    exact ⟨rfl, HS1.out, HK1.out⟩
set_option maxHeartbeats 1600000 in
theorem wake_yes (w : World) (b : Nat) (s : Sv) (m now : Int) (x : Ss) (h : SB w b s m true x) (m0 : 0 ≤ m) (hm : m ≤ now) (n1 : now ≤ 1099511727776) (hs : okS s) : Calls Tryd.prog 30 #[.pointer (some ⟨b, 0, none⟩), .int .i64 now] w fun e w' => e = .returned (.tuple #[]) ∧ SB w' b s m true (if x.dl ≤ now then fillS s now else x) ∧ Kb b w w' := by
  have c7 := h.c7
  have c2 := h.c2
  have d3 := h.c3
  have d4 := h.c4
  have d5 := h.c5
  have HS := mkHid h
  have HO := mkHid hs
  clear h hs
  by_cases e : x.dl ≤ now
  · rw [if_pos e]
    go_enter Tryd.func30, Tryd.ntmps30
    go_wp2
    go_region_held3 (fun w' => w'.cell? ⟨b, 3, none⟩ = some (.int .i64 s.1) ∧ w'.cell? ⟨b, 4, none⟩ = some (.int .i64 s.2.1) ∧ w'.cell? ⟨b, 5, none⟩ = some (.int .i64 s.2.2)) (go_keep) (first | (go_at_call 35; refine (fill_is w.drew b s m now true x HS.out (by omega) n1 HO.out).mono ?_; rintro e w2 ⟨rfl, hs2, hk2⟩; have HS2 := mkHid hs2; have HK2 := mkHid hk2; have e3 := hs2.c3; have e4 := hs2.c4; have e5 := hs2.c5; clear hs2 hk2))
    all_goals
      go_wp2
      go_end0
      exact ⟨rfl, HS2.out, Kb.trans (Kept.drew _ w) HK2.out⟩
  · rw [if_neg e]
    go_enter Tryd.func30, Tryd.ntmps30
    go_wp2
    go_end0
    exact ⟨rfl, HS.out, Kept.refl _ w⟩
/-- How a tick begins, whatever the kind. -/
theorem enter_is (w : World) (b : Nat) (s : Sv) (m now : Int) (wk : Bool) (x : Ss) (h : SB w b s m wk x) (m0 : 0 ≤ m) (hm : m ≤ now) (n1 : now ≤ 1099511727776) (hs : okS s) : Calls Tryd.prog (ent s) #[.pointer (some ⟨b, 0, none⟩), .int .i64 now] w fun e w' => e = .returned (.tuple #[]) ∧ SB w' b s m wk (begS s m now wk x) ∧ Kb b w w' := by
  have hk : s.1 = 1 ∨ s.1 = 2 ∨ s.1 = 3 := by obtain ⟨h1, h2, _⟩ := hs; omega
  rcases hk with e | e | e
  · have e2 : ent s = 29 := by unfold ent; rw [if_pos e]
    rw [e2]
    cases wk
    · have := poll_no w b s m now x h
      have eb : begS s m now false x = dropS x := by simp [begS, flS, e]
      rw [eb]; exact this
    · have := poll_yes w b s m now x h m0 hm n1 hs
      have eb : begS s m now true x = if (now - m) % s.2.2 = 0 then fillS s now else x := by simp [begS, flS, e]
      rw [eb]; exact this
  · have e2 : ent s = 30 := by unfold ent; rw [if_neg (by omega), if_pos e]
    rw [e2]
    cases wk
    · have := wake_no w b s m now x h
      have eb : begS s m now false x = dropS x := by simp [begS, flS, e]
      rw [eb]; exact this
    · have := wake_yes w b s m now x h m0 hm n1 hs
      have eb : begS s m now true x = if x.dl ≤ now then fillS s now else x := by simp [begS, flS, e]
      rw [eb]; exact this
  · have e2 : ent s = 31 := by unfold ent; rw [if_neg (by omega), if_neg (by omega)]
    rw [e2]
    have := renew_is w b s m now wk x h m0 hm n1 hs
    have eb : begS s m now wk x = if (now - m) % s.2.2 = 0 then fillS s now else x := by simp [begS, flS, e]
    rw [eb]; exact this
set_option maxHeartbeats 1600000 in
theorem begin_is (w : World) (b : Nat) (s : Sv) (m now : Int) (wk0 wk : Bool) (x : Ss) (h : SB w b s m wk0 x) (m0 : 0 ≤ m) (hm : m ≤ now) (n1 : now ≤ 1099511727776) (hs : okS s) : Calls Tryd.prog 15 #[.pointer (some ⟨b, 0, none⟩), .int .i64 now, .bool wk] w fun e w' => e = .returned (.bool (rdyS wk (begS s m now wk x))) ∧ SB w' b s m wk (begS s m now wk x) ∧ Kb b w w' := by
  have c7 := h.c7
  have f7 := h.fz 7
  have h7 := h.putw wk
  have c8 := h7.c8
  have HC := mkHid (enter_is _ b s m now wk x h7 m0 hm n1 hs)
  have HK := mkHid (kb_set (Kept.refl (fun k => k = b) w) 7 (.bool wk))
  clear h h7
  have hk : s.1 = 1 ∨ s.1 = 2 ∨ s.1 = 3 := by obtain ⟨h1, h2, _⟩ := hs; omega
  have he : ent s = 29 ∨ ent s = 30 ∨ ent s = 31 := by unfold ent; rcases hk with e | e | e <;> simp [e]
  clear hk
  generalize begS s m now wk x = y at *
  rcases he with e | e | e
  · rw [e] at HC c8
    clear e
    go_enter Tryd.func15, Tryd.ntmps15
    go_wp2_with (first | (go_at_call 29; refine HC.out.mono ?_; rintro e w1 ⟨rfl, hs1, hk1⟩; have HS1 := mkHid hs1; have HK1 := mkHid hk1; clear hs1 hk1) | (go_at_call 19; refine (ready_is _ b s m wk y HS1.out).mono ?_; rintro e w2 ⟨rfl, hw⟩; rw [hw]; clear hw))
    go_ret
    exact ⟨rfl, HS1.out, Kb.trans HK.out HK1.out⟩
  · rw [e] at HC c8
    clear e
    go_enter Tryd.func15, Tryd.ntmps15
    go_wp2_with (first | (go_at_call 30; refine HC.out.mono ?_; rintro e w1 ⟨rfl, hs1, hk1⟩; have HS1 := mkHid hs1; have HK1 := mkHid hk1; clear hs1 hk1) | (go_at_call 19; refine (ready_is _ b s m wk y HS1.out).mono ?_; rintro e w2 ⟨rfl, hw⟩; rw [hw]; clear hw))
    go_ret
    exact ⟨rfl, HS1.out, Kb.trans HK.out HK1.out⟩
  · rw [e] at HC c8
    clear e
    go_enter Tryd.func15, Tryd.ntmps15
    go_wp2_with (first | (go_at_call 31; refine HC.out.mono ?_; rintro e w1 ⟨rfl, hs1, hk1⟩; have HS1 := mkHid hs1; have HK1 := mkHid hk1; clear hs1 hk1) | (go_at_call 19; refine (ready_is _ b s m wk y HS1.out).mono ?_; rintro e w2 ⟨rfl, hw⟩; rw [hw]; clear hw))
    go_ret
    exact ⟨rfl, HS1.out, Kb.trans HK.out HK1.out⟩
theorem size_server : (Tryd.prog.info? 23).map (·.size) = some 3 := by kernel_rfl
theorem entry_is (w : World) (s : Sv) (h : okS s) : Calls Tryd.prog 27 #[.int .i64 s.1] w fun e w' => e = .returned (.func (.func (ent s)) #[] #[]) ∧ w' = w := by
  obtain ⟨k, q, t⟩ := s
  have hk : k = 1 ∨ k = 2 ∨ k = 3 := by obtain ⟨h1, h2, _⟩ := h; simp only at h1 h2; omega
  rcases hk with rfl | rfl | rfl
  all_goals
    go_enter Tryd.func27, Tryd.ntmps27
    go_wp2
    go_ret
    exact ⟨rfl, rfl⟩
end Go.Proofs.YtdkjoedebjinkaaDoor
