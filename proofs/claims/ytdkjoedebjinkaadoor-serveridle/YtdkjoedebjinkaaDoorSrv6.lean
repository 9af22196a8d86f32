/- The law ServerIdle. -/
import Derived.Test.YtdkjoedebjinkaaDoorSrv5
namespace Go.Proofs.YtdkjoedebjinkaaDoor
open Go.ChangeShapes Go.WideShapes Go.ChangeAt Go.RowKit

set_option maxHeartbeats 3200000 in
theorem idle_no (W : World) (s : Sv) (m : Int) (al : Option Addr) (n cap : Nat) (a : Addr) (he : W.cell? ⟨0, 0, none⟩ = some (vE a)) (h : ¬ okN s m) : Calls Tryd.prog 8 #[vR s m (.slice al n cap)] W fun e w' => e = .returned (.bool true) ∧ Below W.heap.size W w' := by
  have HO := mkHid h
  have HE := mkHid he
  clear h he
  obtain ⟨k, q, t⟩ := s
  go_enter Tryd.func8, Tryd.ntmps8
  go_wp2_with (first | (go_at_call 9; refine (alive14 _ a (kl HE.out _)).mono ?_; rintro e w1 ⟨rfl, b1⟩; have hr := (rb_new W (k, q, t) m (.slice al n cap)).hold b1; have HB1 := mkHid (bt (ba (Below.refl _ _) _) b1); have x0 := hr.c0; have x1 := hr.c1; have x2 := hr.c2; have x3 := hr.c3; clear b1 hr) | (go_at_call 11; refine (legal_no _ (k, q, t) m HO.out).mono ?_; rintro e w2 ⟨rfl, b2⟩; have HB2 := mkHid (bt HB1.out b2); clear b2))
  go_ret
  exact ⟨rfl, HB2.out⟩
set_option maxRecDepth 100000 in
set_option maxHeartbeats 6400000 in
theorem idle_yes (W : World) (s : Sv) (m : Int) (al : Option Addr) (cap : Nat) (ts : List Int) (a : Addr) (he : W.cell? ⟨0, 0, none⟩ = some (vE a)) (h : okN s m) (hI : Iw W (.slice al ts.length cap) ts) (hl : (ts.length : Int) ≤ 9223372036854775807) (hq : ∀ w, (binOp .neq 30 (vE a) (vE a)).run Tryd.prog w = .ok (.bool false) w) : Calls Tryd.prog 8 #[vR s m (.slice al ts.length cap)] W fun e w' => e = .returned (.bool true) ∧ Below W.heap.size W w' := by
  have HI := mkHid hI
  have HQ := mkHid hq
  clear hI hq
  have HE := mkHid he
  have HO := mkHid h
  clear he h
  obtain ⟨k, q, t⟩ := s
  go_enter Tryd.func8, Tryd.ntmps8
  go_wp2_with (first | (go_at_call 9; refine (alive14 _ a (kl HE.out _)).mono ?_; rintro e w1 ⟨rfl, b1⟩; have hr := (rb_new W (k, q, t) m (.slice al ts.length cap)).hold b1; have HR1 := mkHid hr; have HB1 := mkHid (bt (ba (Below.refl _ _) _) b1); have x0 := hr.c0; have x1 := hr.c1; have x2 := hr.c2; have x3 := hr.c3; clear b1 hr) | (go_at_call 11; refine (legal_yes _ (k, q, t) m HO.out).mono ?_; rintro e w2 ⟨rfl, b2⟩; have HB2 := mkHid (bt HB1.out b2); have hr := HR1.out.hold b2; have HR2 := mkHid hr; clear x0 x1 x2 x3; have x0 := hr.c0; have x1 := hr.c1; have x2 := hr.c2; have x3 := hr.c3; clear b2 hr) | (go_at_call 10; refine (new_ok _ (k, q, t) m HO.out).mono ?_; rintro e w3 ⟨b, rfl, hb3, hs3, b3⟩; have hr := HR2.out.hold b3; have HL3 : Hid (LW W w3 W.heap.size b (k, q, t) m (.slice al ts.length cap) false ⟨false, 0, m⟩ a) := mkHid ⟨bt HB2.out b3, Nat.le_trans HB2.out.size hb3, (by have := HR2.out.lt; omega), hr, hs3, kc (kc HE.out HB2.out) b3, World.block_lt_of_cell? W _ HE.out⟩; clear x0 x1 x2 x3; have x0 := hr.c0; have x1 := hr.c1; have x2 := hr.c2; have x3 := hr.c3; have x4 := hr.c4; clear b3 hr hs3 hb3))
  obtain ⟨hk, hm0, hm1⟩ := HO.out
  have HK := mkHid hk
  clear hk x0 x1 x2 x3 x4
  go_loopw [34] (fun iv wr => ∃ (i : Nat) (wk : Bool) (x : Ss), iv = .int .i64 (i : Int) ∧ i ≤ ts.length ∧ i ≤ 1001 ∧ Hid (GI (k, q, t) m (m + (i : Int)) x) ∧ Hid (LW W wr W.heap.size b (k, q, t) m (.slice al ts.length cap) wk x a)) (fun iv _ => ts.length - (intOf iv).toNat)
  case atStart => exact ⟨0, false, _, rfl, by omega, by omega, mkHid (by simpa using GI.start HK.out m), HL3⟩
  case round =>
    obtain ⟨i, wk, x, rfl, hi, hi2, HG, HL⟩ := hrel
    by_cases hlt : i < ts.length
    · by_cases hle : i ≤ 1000
      · obtain ⟨bb, off, z, rfl, hz, hcell⟩ := HI.out.at HL.out.bel i hlt
        have hli : (i : Int) < ts.length := by omega
        have hlj : (i : Int) ≤ 1000 := by omega
        obtain ⟨N, hN⟩ : ∃ N, N = m + (i : Int) := ⟨_, rfl⟩
        have eN : IntKind.i64.wrap (m + (i : Int)) = N := by rw [hN]; exact wfit (by omega) (by omega)
        have HN : Hid (m + ((i + 1 : Nat) : Int) = N + 1) := mkHid (by omega)
        rw [← hN] at HG
        obtain ⟨A1, v1, hA1, hv1⟩ := bit_cases z 1
        obtain ⟨A2, v2, hA2, hv2⟩ := bit_cases z 2
        have HC := mkHid (begin_is wr b (k, q, t) m N wk v1 x HL.out.sb hm0 (by omega) (by omega) HK.out)
        have HM := mkHid (HG.out.beg HK.out (by omega) v1)
        clear hN
        generalize begS (k, q, t) m N v1 x = y at *
        obtain ⟨on, bud, dl⟩ := y
        have HM2 := mkHid (HM.out.b2 HK.out)
        have hcs : (v1 = true ∧ A1 = 1 ∧ bud = 0 ∧ rdyS v1 ⟨on, bud, dl⟩ = false) ∨ (v1 = true ∧ A1 = 1 ∧ (0 < bud ∧ ¬ bud = 0) ∧ rdyS v1 ⟨on, bud, dl⟩ = true) ∨ (v1 = false ∧ (A1 == 1) = false ∧ (¬ k = 3 ∧ bud = 0 ∧ on = false) ∧ rdyS v1 ⟨on, bud, dl⟩ = false) ∨ (v1 = false ∧ (A1 == 1) = false ∧ k = 3 ∧ rdyS v1 ⟨on, bud, dl⟩ = false) := by
          have h0 := HM.out.b0
          have h1 := HM.out.o
          have h2 := HM.out.nw
          simp only at h0 h1 h2
          rcases hv1 with ⟨rfl, e⟩ | ⟨rfl, e⟩
          · by_cases e2 : bud = 0
            · exact .inl ⟨rfl, e, e2, by simp [rdyS, e2]⟩
            · exact .inr (.inl ⟨rfl, e, ⟨by omega, e2⟩, by simp [rdyS, e2]⟩)
          · by_cases e3 : k = 3
            · exact .inr (.inr (.inr ⟨rfl, e, e3, by simp [rdyS]⟩))
            · exact .inr (.inr (.inl ⟨rfl, e, ⟨e3, h1 (h2 rfl e3), h2 rfl e3⟩, by simp [rdyS]⟩))
        have x3 := HL.out.rb.c3
        clear hv1 hlt hle hi2 hi
        have M : Hid True := mkHid trivial
        rcases hcs with ⟨rfl, rfl, rfl, hr⟩ | ⟨rfl, rfl, ⟨h1, h2⟩, hr⟩ | ⟨rfl, e1, ⟨h1, rfl, rfl⟩, hr⟩ | ⟨rfl, e1, rfl, hr⟩
        all_goals
          have HRR := mkHid hr
          rw [hr] at HC
          clear hr
          rcases hv2 with ⟨rfl, rfl⟩ | ⟨rfl, e2⟩
          all_goals
            go_wp2_with (first | (go_at_call 15; refine HC.out.mono ?_; rintro e w4 ⟨rfl, hs4, hk4⟩; have HL4 := mkHid (HL.out.step hk4 hs4); have y0 := HL4.out.rb.c0; have ye := HL4.out.er; have HQ4 := mkHid (HQ.out w4); clear hs4 hk4) | (go_at_call 19; refine (ready_is _ b _ m _ _ HL4.out.sb).mono ?_; rintro e w5 ⟨rfl, hw⟩; rw [hw]; clear hw; rw [HRR.out]) | (go_at_call 20; refine (budget_is _ b _ m _ _ HL4.out.sb).mono ?_; rintro e w5 ⟨rfl, hw⟩; rw [hw]; clear hw) | (go_at_call 22; refine (on_is _ b _ m _ _ HL4.out.sb).mono ?_; rintro e w5 ⟨rfl, hw⟩; rw [hw]; clear hw))
            have hq := HQ.out
            go_quiet (first | (go_at_call 17; exact Calls.quiet_of_same (charge_no _ b _ m _ _ a (HL4.out.drewN _).sb HRR.out (HL4.out.drewN _).er)))
            clear hq
            have HL5 := mkHid (HL4.out.drewN nq)
            go_wp2_with (first | (go_at_call 17; refine (charge_no _ b _ m _ _ a HL5.out.sb HRR.out HL5.out.er).mono ?_; rintro e w6 ⟨rfl, hw⟩; rw [hw]; clear hw; have HY := mkHid HM.out.stay; have HL6 := HL5) | (go_at_call 17; refine (charge_yes _ b _ m _ _ HL5.out.sb HRR.out HM.out.b0 HM2.out).mono ?_; rintro e w6 ⟨rfl, hs6, hk6⟩; have HY := mkHid (HM.out.charge (rdy_bud (b := true) (by rw [HRR.out]; rfl))); have HL6 := mkHid (HL5.out.step hk6 hs6); clear hs6 hk6))
            go_roundw
            case rel => first | exact ⟨i + 1, _, _, by go_num, by omega, by omega, mkHid (by rw [HN.out]; exact HY.out), HL6⟩ | exact ⟨i + 1, _, _, by go_num, by omega, by omega, mkHid (by rw [HN.out]; exact HM.out.stay), HL5⟩
            case measure => simp [intOf]; omega
      · obtain ⟨bb, off, z, rfl, hz, hcell⟩ := HI.out.at HL.out.bel i hlt
        have hli : (i : Int) < ts.length := by omega
        have hlj : 1000 < (i : Int) := by omega
        clear hlt hle
        go_wp2
        go_ret
        exact ⟨rfl, HL.out.bel⟩
    · obtain rfl : i = ts.length := by omega
      go_wp2
      go_ret
      exact ⟨rfl, HL.out.bel⟩
end Go.Proofs.YtdkjoedebjinkaaDoor
