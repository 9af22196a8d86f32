/- The law ServerChunks. -/
import Derived.Test.YtdkjoedebjinkaaDoorSrv5
namespace Go.Proofs.YtdkjoedebjinkaaDoor
open Go.ChangeShapes Go.WideShapes Go.ChangeAt Go.RowKit

set_option maxHeartbeats 3200000 in
theorem chunks_no (W : World) (s : Sv) (m : Int) (al : Option Addr) (n cap : Nat) (a : Addr) (he : W.cell? ⟨0, 0, none⟩ = some (vE a)) (h : ¬ okN s m) : Calls Tryd.prog 5 #[vR s m (.slice al n cap)] W fun e w' => e = .returned (.bool true) ∧ Below W.heap.size W w' := by
  have HO := mkHid h
  have HE := mkHid he
  clear h he
  obtain ⟨k, q, t⟩ := s
  go_enter Tryd.func5, Tryd.ntmps5
  go_wp2_with (first | (go_at_call 9; refine (alive14 _ a (kl HE.out _)).mono ?_; rintro e w1 ⟨rfl, b1⟩; have hr := (rb_new W (k, q, t) m (.slice al n cap)).hold b1; have HB1 := mkHid (bt (ba (Below.refl _ _) _) b1); have x0 := hr.c0; have x1 := hr.c1; have x2 := hr.c2; have x3 := hr.c3; clear b1 hr) | (go_at_call 11; refine (legal_no _ (k, q, t) m HO.out).mono ?_; rintro e w2 ⟨rfl, b2⟩; have HB2 := mkHid (bt HB1.out b2); clear b2))
  go_ret
  exact ⟨rfl, HB2.out⟩
theorem beg_yes {s : Sv} {m now : Int} {wk : Bool} {x : Ss} (h : flS s m now wk x = true) : begS s m now wk x = fillS s now := by unfold begS; rw [if_pos h]
theorem beg_no {s : Sv} {m now : Int} {wk : Bool} {x : Ss} (h : ¬ flS s m now wk x = true) (hb : 0 ≤ x.bud) : (begS s m now wk x).dl = x.dl ∧ (begS s m now wk x).bud ≤ x.bud := by
  unfold begS; rw [if_neg h]; split
  · exact ⟨rfl, hb⟩
  · exact ⟨rfl, Int.le_refl _⟩
set_option maxRecDepth 100000 in
set_option maxHeartbeats 3200000 in
theorem chunks_three (W : World) (q t m : Int) (al : Option Addr) (n cap : Nat) (a : Addr) (he : W.cell? ⟨0, 0, none⟩ = some (vE a)) (h : okN (3, q, t) m) : Calls Tryd.prog 5 #[vR (3, q, t) m (.slice al n cap)] W fun e w' => e = .returned (.bool true) ∧ Below W.heap.size W w' := by
  have HO := mkHid h
  have HE := mkHid he
  clear h he
  go_enter Tryd.func5, Tryd.ntmps5
  go_wp2_with (first | (go_at_call 9; refine (alive14 _ a (kl HE.out _)).mono ?_; rintro e w1 ⟨rfl, b1⟩; have hr := (rb_new W (3, q, t) m (.slice al n cap)).hold b1; have HR1 := mkHid hr; have HB1 := mkHid (bt (ba (Below.refl _ _) _) b1); have x0 := hr.c0; have x1 := hr.c1; have x2 := hr.c2; have x3 := hr.c3; clear b1 hr) | (go_at_call 11; refine (legal_yes _ (3, q, t) m HO.out).mono ?_; rintro e w2 ⟨rfl, b2⟩; have HB2 := mkHid (bt HB1.out b2); have hr := HR1.out.hold b2; clear x0 x1 x2 x3; have x0 := hr.c0; clear b2 hr))
  go_ret
  exact ⟨rfl, HB2.out⟩
set_option maxRecDepth 100000 in
set_option maxHeartbeats 12800000 in
theorem chunks_yes (W : World) (s : Sv) (m : Int) (al : Option Addr) (cap : Nat) (ts : List Int) (a : Addr) (he : W.cell? ⟨0, 0, none⟩ = some (vE a)) (h : okN s m) (h3 : ¬ s.1 = 3) (hI : Iw W (.slice al ts.length cap) ts) (hl : (ts.length : Int) ≤ 9223372036854775807) : Calls Tryd.prog 5 #[vR s m (.slice al ts.length cap)] W fun e w' => e = .returned (.bool true) ∧ Below W.heap.size W w' := by
  have HI := mkHid hI
  clear hI
  have HE := mkHid he
  have HO := mkHid h
  clear he h
  obtain ⟨k, q, t⟩ := s
  simp only at h3
  go_enter Tryd.func5, Tryd.ntmps5
  go_wp2_with (first | (go_at_call 9; refine (alive14 _ a (kl HE.out _)).mono ?_; rintro e w1 ⟨rfl, b1⟩; have hr := (rb_new W (k, q, t) m (.slice al ts.length cap)).hold b1; have HR1 := mkHid hr; have HB1 := mkHid (bt (ba (Below.refl _ _) _) b1); have x0 := hr.c0; have x1 := hr.c1; have x2 := hr.c2; have x3 := hr.c3; clear b1 hr) | (go_at_call 11; refine (legal_yes _ (k, q, t) m HO.out).mono ?_; rintro e w2 ⟨rfl, b2⟩; have HB2 := mkHid (bt HB1.out b2); have hr := HR1.out.hold b2; have HR2 := mkHid hr; clear x0 x1 x2 x3; have x0 := hr.c0; have x1 := hr.c1; have x2 := hr.c2; have x3 := hr.c3; clear b2 hr) | (go_at_call 10; refine (new_ok _ (k, q, t) m HO.out).mono ?_; rintro e w3 ⟨b, rfl, hb3, hs3, b3⟩; have hr := HR2.out.hold b3; have HL3 : Hid (LW W w3 W.heap.size b (k, q, t) m (.slice al ts.length cap) false ⟨false, 0, m⟩ a) := mkHid ⟨bt HB2.out b3, Nat.le_trans HB2.out.size hb3, (by have := HR2.out.lt; omega), hr, hs3, kc (kc HE.out HB2.out) b3, World.block_lt_of_cell? W _ HE.out⟩; clear x0 x1 x2 x3; have x0 := hr.c0; have x1 := hr.c1; have x2 := hr.c2; have x3 := hr.c3; have x4 := hr.c4; clear b3 hr hs3 hb3))
  obtain ⟨hk, hm0, hm1⟩ := HO.out
  have HK := mkHid hk
  obtain ⟨g1, g2, g3, g4, g5⟩ := hk
  simp only at g1 g2 g3 g4 g5
  clear x0 x1 x2 x3 x4
  go_loopw [5, 6, 7, 45] (fun lv nv fv iv wr => ∃ (i : Nat) (wk : Bool) (x : Ss) (La n : Int) (F : Bool), lv = .int .i64 La ∧ nv = .int .i64 n ∧ fv = .bool F ∧ iv = .int .i64 (i : Int) ∧ i ≤ ts.length ∧ i ≤ 3000 ∧ Hid (GI (k, q, t) m (m + (i : Int)) x) ∧ Hid (LW W wr W.heap.size b (k, q, t) m (.slice al ts.length cap) wk x a) ∧ 0 ≤ n ∧ Hid (n + x.bud ≤ q) ∧ Hid (F = false → x.dl = La + t)) (fun _ _ _ iv _ => ts.length - (intOf iv).toNat)
  case atStart => exact ⟨0, false, _, m, 0, true, rfl, rfl, rfl, rfl, by omega, by omega, mkHid (by simpa using GI.start HK.out m), HL3, by omega, mkHid (by simp; omega), mkHid (by simp)⟩
  case round =>
    obtain ⟨i, wk, x, La, n, F, rfl, rfl, rfl, rfl, hi, hi2, HG, HL, hn0, HNB, HF⟩ := hrel
    by_cases hlt : i < ts.length
    · obtain ⟨bb, off, z, rfl, hz, hcell⟩ := HI.out.at HL.out.bel i hlt
      have hli : (i : Int) < ts.length := by omega
      by_cases hle : i < 3000
      · have hlj : (i : Int) < 3000 := by omega
        obtain ⟨N, hN⟩ : ∃ N, N = m + (i : Int) := ⟨_, rfl⟩
        have eN : IntKind.i64.wrap (m + (i : Int)) = N := by rw [hN]; exact wfit (by omega) (by omega)
        have HN : Hid (m + ((i + 1 : Nat) : Int) = N + 1) := mkHid (by omega)
        rw [← hN] at HG
        obtain ⟨A1, hA1⟩ : ∃ A1, bits .and .i64 z 1 = A1 := ⟨_, rfl⟩
        obtain ⟨A2, v2, hA2, hv2⟩ := bit_cases z 2
        have HC := mkHid (begin_is wr b (k, q, t) m N wk (A1 == 1) x HL.out.sb hm0 (by omega) (by omega) HK.out)
        have HM := mkHid (HG.out.beg HK.out (by omega) (A1 == 1))
        have hfl : (flS (k, q, t) m N (A1 == 1) x = true ∧ (begS (k, q, t) m N (A1 == 1) x).dl = N + t ∧ (begS (k, q, t) m N (A1 == 1) x).bud = q ∧ x.dl ≤ N) ∨ ((begS (k, q, t) m N (A1 == 1) x).dl = x.dl ∧ (begS (k, q, t) m N (A1 == 1) x).bud ≤ x.bud) := by
          by_cases e : flS (k, q, t) m N (A1 == 1) x = true
          · refine .inl ⟨e, by rw [beg_yes e]; rfl, by rw [beg_yes e]; rfl, HG.out.late HK.out e⟩
          · exact .inr (beg_no e HG.out.b0)
        have hN0 : 0 ≤ N := by omega
        have hN1 : N ≤ 1099511630776 := by omega
        clear hN
        generalize hy : begS (k, q, t) m N (A1 == 1) x = y at *
        clear hy
        obtain ⟨on, bud, dl⟩ := y
        have HM2 := mkHid (HM.out.b2 HK.out)
        have hb0 := HM.out.b0
        have hb1 := HM.out.b1
        have hd4 := HM.out.d4
        have hx0 := HG.out.b0
        have hnb := HNB.out
        obtain ⟨xon, xbud, xd⟩ := x
        simp only at hfl hb0 hb1 hd4 hx0 hnb
        have hcr : rdyS (A1 == 1) ⟨on, bud, dl⟩ = false ∨ (rdyS (A1 == 1) ⟨on, bud, dl⟩ = true ∧ (0 < bud ∧ N < dl) ∧ v2 = true ∧ A2 = 2) ∨ (rdyS (A1 == 1) ⟨on, bud, dl⟩ = true ∧ v2 = false ∧ (A2 == 2) = false) := by
          cases hr : rdyS (A1 == 1) ⟨on, bud, dl⟩
          · exact .inl rfl
          · have := rdy_bud (b := true) (by rw [hr]; rfl)
            simp only at this
            rcases hv2 with ⟨e1, e2⟩ | ⟨e1, e2⟩
            · exact .inr (.inl ⟨rfl, ⟨by omega, hd4 (by omega)⟩, e1, e2⟩)
            · exact .inr (.inr ⟨rfl, e1, e2⟩)
        have hcf : (F = true ∧ dl = N + t ∧ bud = q ∧ (dl == xd) = false) ∨ (F = false ∧ dl = N + t ∧ bud = q ∧ (dl == xd) = false ∧ La + t ≤ N ∧ xd = La + t) ∨ (xd = dl ∧ n + bud ≤ q) := by
          rcases hfl with ⟨_, e1, e2, e3⟩ | ⟨e1, e2⟩
          · have e4 : (dl == xd) = false := by simp; omega
            cases F
            · have := HF.out rfl
              simp only at this
              exact .inr (.inl ⟨rfl, e1, e2, e4, by omega, this⟩)
            · exact .inl ⟨rfl, e1, e2, e4⟩
          · exact .inr (.inr ⟨e1.symm, by omega⟩)
        have HF0 : Hid (F = false → xd = La + t) := HF
        have hx1 := HG.out.d0
        simp only at hx1
        have HSM : Hid ((i + 1 ≤ ts.length) ∧ i + 1 ≤ 3000) := mkHid ⟨by omega, by omega⟩
        have HMu : Hid (ts.length - (i + 1) < ts.length - i) := mkHid (by omega)
        have x3 := HL.out.rb.c3
        clear hv2 hlt hle hi2 hi hfl hd4 HF HNB hnb
        rcases hcr with hcr | hcr | hcr
        · rcases hcf with hcf | hcf | hcf
          · obtain ⟨rfl, hdl, rfl, hne⟩ := hcf
            have eT : IntKind.i64.wrap (N + t) = dl := by rw [hdl]; exact wfit (by omega) (by omega)
            have HDL := mkHid hdl
            clear hdl
            have hr := hcr
            have HRR := mkHid hr
            rw [hr] at HC
            clear hr
            go_wp2_with (first | (go_at_call 21; refine (deadline_is wr b _ m _ _ HL.out.sb).mono ?_; rintro e w5 ⟨rfl, hw⟩; rw [hw]; clear hw) | (go_at_call 15; refine HC.out.mono ?_; rintro e w4 ⟨rfl, hs4, hk4⟩; have HL4 := mkHid (HL.out.step hk4 hs4); have y1 := HL4.out.rb.c1; have y2 := HL4.out.rb.c2; have y3 := HL4.out.rb.c3; clear hs4 hk4 x3) | (go_at_call 21; refine (deadline_is w4 b _ m _ _ HL4.out.sb).mono ?_; rintro e w5 ⟨rfl, hw⟩; rw [hw]; clear hw))
            go_quiet (first | (go_at_call 21; exact Calls.quiet_of_same (deadline_is _ b _ m _ _ (HL4.out.drewN _).sb)))
            obtain ⟨w6, hw6⟩ : ∃ W5, w4.drewN nq = W5 := ⟨_, rfl⟩
            have HL6 := mkHid (HL4.out.drewN nq)
            rw [hw6] at HL6 ⊢
            clear hw6
            clear y1 y2 y3
            have y1 := HL6.out.rb.c1
            have y2 := HL6.out.rb.c2
            have y3 := HL6.out.rb.c3
            go_wp2
            go_quiet (fail)
            obtain ⟨w7, hw7⟩ : ∃ W5, w6.drewN nq = W5 := ⟨_, rfl⟩
            have HL7 := mkHid (HL6.out.drewN nq)
            rw [hw7] at HL7 ⊢
            clear hw7
            clear y1 y2 y3
            have y1 := HL7.out.rb.c1
            have y2 := HL7.out.rb.c2
            have y3 := HL7.out.rb.c3
            go_wp2
            go_quiet (first | (go_at_call 20; exact Calls.quiet_of_same (budget_is _ b _ m _ _ (HL7.out.drewN _).sb)))
            obtain ⟨wa, hwa⟩ : ∃ W5, w7.drewN nq = W5 := ⟨_, rfl⟩
            have HLa := mkHid (HL7.out.drewN nq)
            rw [hwa] at HLa ⊢
            clear hwa
            clear y1 y2 y3
            have y1 := HLa.out.rb.c1
            have y2 := HLa.out.rb.c2
            have y3 := HLa.out.rb.c3
            go_wp2
            go_roundw
            case rel => exact ⟨i + 1, _, _, _, _, _, rfl, rfl, rfl, by go_num, HSM.out.1, HSM.out.2, mkHid (by rw [HN.out]; exact HM.out.stay), HLa, by omega, mkHid (by simp only; omega), mkHid (fun _ => HDL.out)⟩
            case measure => exact HMu.out
          · obtain ⟨rfl, hdl, rfl, hne, hla, hxd⟩ := hcf
            have eT : IntKind.i64.wrap (N + t) = dl := by rw [hdl]; exact wfit (by omega) (by omega)
            obtain ⟨E, hE⟩ : ∃ E, E = La + t := ⟨_, rfl⟩
            have eE : IntKind.i64.wrap (La + t) = E := by rw [hE]; exact wfit (by omega) (by omega)
            have hlE : decide (N < E) = false := decide_eq_false (by omega)
            clear hE hxd hla
            have HDL := mkHid hdl
            clear hdl
            have hr := hcr
            have HRR := mkHid hr
            rw [hr] at HC
            clear hr
            go_wp2_with (first | (go_at_call 21; refine (deadline_is wr b _ m _ _ HL.out.sb).mono ?_; rintro e w5 ⟨rfl, hw⟩; rw [hw]; clear hw) | (go_at_call 15; refine HC.out.mono ?_; rintro e w4 ⟨rfl, hs4, hk4⟩; have HL4 := mkHid (HL.out.step hk4 hs4); have y1 := HL4.out.rb.c1; have y2 := HL4.out.rb.c2; have y3 := HL4.out.rb.c3; clear hs4 hk4 x3) | (go_at_call 21; refine (deadline_is w4 b _ m _ _ HL4.out.sb).mono ?_; rintro e w5 ⟨rfl, hw⟩; rw [hw]; clear hw))
            go_quiet (first | (go_at_call 21; exact Calls.quiet_of_same (deadline_is _ b _ m _ _ (HL4.out.drewN _).sb)))
            obtain ⟨w6, hw6⟩ : ∃ W5, w4.drewN nq = W5 := ⟨_, rfl⟩
            have HL6 := mkHid (HL4.out.drewN nq)
            rw [hw6] at HL6 ⊢
            clear hw6
            clear y1 y2 y3
            have y1 := HL6.out.rb.c1
            have y2 := HL6.out.rb.c2
            have y3 := HL6.out.rb.c3
            go_wp2
            go_quiet (fail)
            obtain ⟨w7, hw7⟩ : ∃ W5, w6.drewN nq = W5 := ⟨_, rfl⟩
            have HL7 := mkHid (HL6.out.drewN nq)
            rw [hw7] at HL7 ⊢
            clear hw7
            clear y1 y2 y3
            have y1 := HL7.out.rb.c1
            have y2 := HL7.out.rb.c2
            have y3 := HL7.out.rb.c3
            go_wp2
            go_quiet (first | (go_at_call 20; exact Calls.quiet_of_same (budget_is _ b _ m _ _ (HL7.out.drewN _).sb)))
            obtain ⟨wa, hwa⟩ : ∃ W5, w7.drewN nq = W5 := ⟨_, rfl⟩
            have HLa := mkHid (HL7.out.drewN nq)
            rw [hwa] at HLa ⊢
            clear hwa
            clear y1 y2 y3
            have y1 := HLa.out.rb.c1
            have y2 := HLa.out.rb.c2
            have y3 := HLa.out.rb.c3
            go_wp2
            go_roundw
            case rel => exact ⟨i + 1, _, _, _, _, _, rfl, rfl, rfl, by go_num, HSM.out.1, HSM.out.2, mkHid (by rw [HN.out]; exact HM.out.stay), HLa, by omega, mkHid (by simp only; omega), mkHid (fun _ => HDL.out)⟩
            case measure => exact HMu.out
          · obtain ⟨rfl, hnb⟩ := hcf
            have hr := hcr
            have HRR := mkHid hr
            rw [hr] at HC
            clear hr
            go_wp2_with (first | (go_at_call 21; refine (deadline_is wr b _ m _ _ HL.out.sb).mono ?_; rintro e w5 ⟨rfl, hw⟩; rw [hw]; clear hw) | (go_at_call 15; refine HC.out.mono ?_; rintro e w4 ⟨rfl, hs4, hk4⟩; have HL4 := mkHid (HL.out.step hk4 hs4); have y1 := HL4.out.rb.c1; have y2 := HL4.out.rb.c2; have y3 := HL4.out.rb.c3; clear hs4 hk4 x3) | (go_at_call 21; refine (deadline_is w4 b _ m _ _ HL4.out.sb).mono ?_; rintro e w5 ⟨rfl, hw⟩; rw [hw]; clear hw))
            have k3 : n ≤ q := by omega
            go_quiet (first | (go_at_call 20; exact Calls.quiet_of_same (budget_is _ b _ m _ _ (HL4.out.drewN _).sb)))
            obtain ⟨wa, hwa⟩ : ∃ W5, w4.drewN nq = W5 := ⟨_, rfl⟩
            have HLa := mkHid (HL4.out.drewN nq)
            rw [hwa] at HLa ⊢
            clear hwa
            clear y1 y2 y3
            have y1 := HLa.out.rb.c1
            have y2 := HLa.out.rb.c2
            have y3 := HLa.out.rb.c3
            go_wp2
            go_roundw
            case rel => exact ⟨i + 1, _, _, _, _, _, rfl, rfl, rfl, by go_num, HSM.out.1, HSM.out.2, mkHid (by rw [HN.out]; exact HM.out.stay), HLa, by omega, mkHid (by simp only; omega), mkHid (fun e => HF0.out e)⟩
            case measure => exact HMu.out
        · rcases hcf with hcf | hcf | hcf
          · obtain ⟨rfl, hdl, rfl, hne⟩ := hcf
            have eT : IntKind.i64.wrap (N + t) = dl := by rw [hdl]; exact wfit (by omega) (by omega)
            have HDL := mkHid hdl
            clear hdl
            obtain ⟨hr, ⟨hb2, hd2⟩, rfl, rfl⟩ := hcr
            have HRR := mkHid hr
            rw [hr] at HC
            clear hr
            go_wp2_with (first | (go_at_call 21; refine (deadline_is wr b _ m _ _ HL.out.sb).mono ?_; rintro e w5 ⟨rfl, hw⟩; rw [hw]; clear hw) | (go_at_call 15; refine HC.out.mono ?_; rintro e w4 ⟨rfl, hs4, hk4⟩; have HL4 := mkHid (HL.out.step hk4 hs4); have y1 := HL4.out.rb.c1; have y2 := HL4.out.rb.c2; have y3 := HL4.out.rb.c3; clear hs4 hk4 x3) | (go_at_call 21; refine (deadline_is w4 b _ m _ _ HL4.out.sb).mono ?_; rintro e w5 ⟨rfl, hw⟩; rw [hw]; clear hw))
            go_quiet (first | (go_at_call 21; exact Calls.quiet_of_same (deadline_is _ b _ m _ _ (HL4.out.drewN _).sb)))
            obtain ⟨w6, hw6⟩ : ∃ W5, w4.drewN nq = W5 := ⟨_, rfl⟩
            have HL6 := mkHid (HL4.out.drewN nq)
            rw [hw6] at HL6 ⊢
            clear hw6
            clear y1 y2 y3
            have y1 := HL6.out.rb.c1
            have y2 := HL6.out.rb.c2
            have y3 := HL6.out.rb.c3
            go_wp2
            go_quiet (fail)
            obtain ⟨w7, hw7⟩ : ∃ W5, w6.drewN nq = W5 := ⟨_, rfl⟩
            have HL7 := mkHid (HL6.out.drewN nq)
            rw [hw7] at HL7 ⊢
            clear hw7
            clear y1 y2 y3
            have y1 := HL7.out.rb.c1
            have y2 := HL7.out.rb.c2
            have y3 := HL7.out.rb.c3
            go_wp2
            go_region_held3 (fun w' => w'.cell? ⟨W.heap.size, 3, none⟩ = some (.int .i64 m)) (go_keep) (first | (go_at_call 17; refine (charge_yes _ b _ m _ _ (HL7.out.drewN 1).sb HRR.out HM.out.b0 HM2.out).mono ?_; rintro e w8 ⟨rfl, hs8, hk8⟩; have HL8 := mkHid ((HL7.out.drewN 1).step hk8 hs8); clear y1 y2 y3; have y1 := HL8.out.rb.c1; have y2 := HL8.out.rb.c2; have y3 := HL8.out.rb.c3; clear hs8 hk8) | (go_at_call 21; refine (deadline_is w8 b _ m _ ⟨_, _ - 1, _⟩ HL8.out.sb).mono ?_; rintro e w9 ⟨rfl, hw⟩; rw [hw]; clear hw))
            go_wp2
            have k1 : 0 ≤ bud - 1 := by omega
            have k2 : bud - 1 ≤ bud := by omega
            have k3 : 1 ≤ bud := by omega
            go_quiet (first | (go_at_call 20; exact Calls.quiet_of_same (budget_is _ b _ m _ ⟨_, _ - 1, _⟩ (HL8.out.drewN _).sb)))
            obtain ⟨wa, hwa⟩ : ∃ W5, w8.drewN nq = W5 := ⟨_, rfl⟩
            have HLa := mkHid (HL8.out.drewN nq)
            rw [hwa] at HLa ⊢
            clear hwa
            clear y1 y2 y3
            have y1 := HLa.out.rb.c1
            have y2 := HLa.out.rb.c2
            have y3 := HLa.out.rb.c3
            go_wp2
            go_roundw
            case rel => exact ⟨i + 1, _, _, _, _, _, rfl, rfl, rfl, by go_num, HSM.out.1, HSM.out.2, mkHid (by rw [HN.out]; exact HM.out.charge (rdy_bud (b := true) (by rw [HRR.out]; rfl))), HLa, by omega, mkHid (by simp [chS]; omega), mkHid (fun _ => HDL.out)⟩
            case measure => exact HMu.out
          · obtain ⟨rfl, hdl, rfl, hne, hla, hxd⟩ := hcf
            have eT : IntKind.i64.wrap (N + t) = dl := by rw [hdl]; exact wfit (by omega) (by omega)
            obtain ⟨E, hE⟩ : ∃ E, E = La + t := ⟨_, rfl⟩
            have eE : IntKind.i64.wrap (La + t) = E := by rw [hE]; exact wfit (by omega) (by omega)
            have hlE : decide (N < E) = false := decide_eq_false (by omega)
            clear hE hxd hla
            have HDL := mkHid hdl
            clear hdl
            obtain ⟨hr, ⟨hb2, hd2⟩, rfl, rfl⟩ := hcr
            have HRR := mkHid hr
            rw [hr] at HC
            clear hr
            go_wp2_with (first | (go_at_call 21; refine (deadline_is wr b _ m _ _ HL.out.sb).mono ?_; rintro e w5 ⟨rfl, hw⟩; rw [hw]; clear hw) | (go_at_call 15; refine HC.out.mono ?_; rintro e w4 ⟨rfl, hs4, hk4⟩; have HL4 := mkHid (HL.out.step hk4 hs4); have y1 := HL4.out.rb.c1; have y2 := HL4.out.rb.c2; have y3 := HL4.out.rb.c3; clear hs4 hk4 x3) | (go_at_call 21; refine (deadline_is w4 b _ m _ _ HL4.out.sb).mono ?_; rintro e w5 ⟨rfl, hw⟩; rw [hw]; clear hw))
            go_quiet (first | (go_at_call 21; exact Calls.quiet_of_same (deadline_is _ b _ m _ _ (HL4.out.drewN _).sb)))
            obtain ⟨w6, hw6⟩ : ∃ W5, w4.drewN nq = W5 := ⟨_, rfl⟩
            have HL6 := mkHid (HL4.out.drewN nq)
            rw [hw6] at HL6 ⊢
            clear hw6
            clear y1 y2 y3
            have y1 := HL6.out.rb.c1
            have y2 := HL6.out.rb.c2
            have y3 := HL6.out.rb.c3
            go_wp2
            go_quiet (fail)
            obtain ⟨w7, hw7⟩ : ∃ W5, w6.drewN nq = W5 := ⟨_, rfl⟩
            have HL7 := mkHid (HL6.out.drewN nq)
            rw [hw7] at HL7 ⊢
            clear hw7
            clear y1 y2 y3
            have y1 := HL7.out.rb.c1
            have y2 := HL7.out.rb.c2
            have y3 := HL7.out.rb.c3
            go_wp2
            go_region_held3 (fun w' => w'.cell? ⟨W.heap.size, 3, none⟩ = some (.int .i64 m)) (go_keep) (first | (go_at_call 17; refine (charge_yes _ b _ m _ _ (HL7.out.drewN 1).sb HRR.out HM.out.b0 HM2.out).mono ?_; rintro e w8 ⟨rfl, hs8, hk8⟩; have HL8 := mkHid ((HL7.out.drewN 1).step hk8 hs8); clear y1 y2 y3; have y1 := HL8.out.rb.c1; have y2 := HL8.out.rb.c2; have y3 := HL8.out.rb.c3; clear hs8 hk8) | (go_at_call 21; refine (deadline_is w8 b _ m _ ⟨_, _ - 1, _⟩ HL8.out.sb).mono ?_; rintro e w9 ⟨rfl, hw⟩; rw [hw]; clear hw))
            go_wp2
            have k1 : 0 ≤ bud - 1 := by omega
            have k2 : bud - 1 ≤ bud := by omega
            have k3 : 1 ≤ bud := by omega
            go_quiet (first | (go_at_call 20; exact Calls.quiet_of_same (budget_is _ b _ m _ ⟨_, _ - 1, _⟩ (HL8.out.drewN _).sb)))
            obtain ⟨wa, hwa⟩ : ∃ W5, w8.drewN nq = W5 := ⟨_, rfl⟩
            have HLa := mkHid (HL8.out.drewN nq)
            rw [hwa] at HLa ⊢
            clear hwa
            clear y1 y2 y3
            have y1 := HLa.out.rb.c1
            have y2 := HLa.out.rb.c2
            have y3 := HLa.out.rb.c3
            go_wp2
            go_roundw
            case rel => exact ⟨i + 1, _, _, _, _, _, rfl, rfl, rfl, by go_num, HSM.out.1, HSM.out.2, mkHid (by rw [HN.out]; exact HM.out.charge (rdy_bud (b := true) (by rw [HRR.out]; rfl))), HLa, by omega, mkHid (by simp [chS]; omega), mkHid (fun _ => HDL.out)⟩
            case measure => exact HMu.out
          · obtain ⟨rfl, hnb⟩ := hcf
            obtain ⟨hr, ⟨hb2, hd2⟩, rfl, rfl⟩ := hcr
            have HRR := mkHid hr
            rw [hr] at HC
            clear hr
            go_wp2_with (first | (go_at_call 21; refine (deadline_is wr b _ m _ _ HL.out.sb).mono ?_; rintro e w5 ⟨rfl, hw⟩; rw [hw]; clear hw) | (go_at_call 15; refine HC.out.mono ?_; rintro e w4 ⟨rfl, hs4, hk4⟩; have HL4 := mkHid (HL.out.step hk4 hs4); have y1 := HL4.out.rb.c1; have y2 := HL4.out.rb.c2; have y3 := HL4.out.rb.c3; clear hs4 hk4 x3) | (go_at_call 21; refine (deadline_is w4 b _ m _ _ HL4.out.sb).mono ?_; rintro e w5 ⟨rfl, hw⟩; rw [hw]; clear hw))
            go_region_held3 (fun w' => w'.cell? ⟨W.heap.size, 3, none⟩ = some (.int .i64 m)) (go_keep) (first | (go_at_call 17; refine (charge_yes _ b _ m _ _ (HL4.out.drewN 1).sb HRR.out HM.out.b0 HM2.out).mono ?_; rintro e w8 ⟨rfl, hs8, hk8⟩; have HL8 := mkHid ((HL4.out.drewN 1).step hk8 hs8); clear y1 y2 y3; have y1 := HL8.out.rb.c1; have y2 := HL8.out.rb.c2; have y3 := HL8.out.rb.c3; clear hs8 hk8) | (go_at_call 21; refine (deadline_is w8 b _ m _ ⟨_, _ - 1, _⟩ HL8.out.sb).mono ?_; rintro e w9 ⟨rfl, hw⟩; rw [hw]; clear hw))
            have k0 : n ≤ 256 := by omega
            go_wp2
            have k1 : 0 ≤ bud - 1 := by omega
            have k2 : bud - 1 ≤ q := by omega
            have k3 : n + 1 ≤ q := by omega
            go_quiet (first | (go_at_call 20; exact Calls.quiet_of_same (budget_is _ b _ m _ ⟨_, _ - 1, _⟩ (HL8.out.drewN _).sb)))
            obtain ⟨wa, hwa⟩ : ∃ W5, w8.drewN nq = W5 := ⟨_, rfl⟩
            have HLa := mkHid (HL8.out.drewN nq)
            rw [hwa] at HLa ⊢
            clear hwa
            clear y1 y2 y3
            have y1 := HLa.out.rb.c1
            have y2 := HLa.out.rb.c2
            have y3 := HLa.out.rb.c3
            go_wp2
            go_roundw
            case rel => exact ⟨i + 1, _, _, _, _, _, rfl, rfl, rfl, by go_num, HSM.out.1, HSM.out.2, mkHid (by rw [HN.out]; exact HM.out.charge (rdy_bud (b := true) (by rw [HRR.out]; rfl))), HLa, by omega, mkHid (by simp [chS]; omega), mkHid (fun e => HF0.out e)⟩
            case measure => exact HMu.out
        · rcases hcf with hcf | hcf | hcf
          · obtain ⟨rfl, hdl, rfl, hne⟩ := hcf
            have eT : IntKind.i64.wrap (N + t) = dl := by rw [hdl]; exact wfit (by omega) (by omega)
            have HDL := mkHid hdl
            clear hdl
            obtain ⟨hr, rfl, e2⟩ := hcr
            have HRR := mkHid hr
            rw [hr] at HC
            clear hr
            go_wp2_with (first | (go_at_call 21; refine (deadline_is wr b _ m _ _ HL.out.sb).mono ?_; rintro e w5 ⟨rfl, hw⟩; rw [hw]; clear hw) | (go_at_call 15; refine HC.out.mono ?_; rintro e w4 ⟨rfl, hs4, hk4⟩; have HL4 := mkHid (HL.out.step hk4 hs4); have y1 := HL4.out.rb.c1; have y2 := HL4.out.rb.c2; have y3 := HL4.out.rb.c3; clear hs4 hk4 x3) | (go_at_call 21; refine (deadline_is w4 b _ m _ _ HL4.out.sb).mono ?_; rintro e w5 ⟨rfl, hw⟩; rw [hw]; clear hw))
            go_quiet (first | (go_at_call 21; exact Calls.quiet_of_same (deadline_is _ b _ m _ _ (HL4.out.drewN _).sb)))
            obtain ⟨w6, hw6⟩ : ∃ W5, w4.drewN nq = W5 := ⟨_, rfl⟩
            have HL6 := mkHid (HL4.out.drewN nq)
            rw [hw6] at HL6 ⊢
            clear hw6
            clear y1 y2 y3
            have y1 := HL6.out.rb.c1
            have y2 := HL6.out.rb.c2
            have y3 := HL6.out.rb.c3
            go_wp2
            go_quiet (fail)
            obtain ⟨w7, hw7⟩ : ∃ W5, w6.drewN nq = W5 := ⟨_, rfl⟩
            have HL7 := mkHid (HL6.out.drewN nq)
            rw [hw7] at HL7 ⊢
            clear hw7
            clear y1 y2 y3
            have y1 := HL7.out.rb.c1
            have y2 := HL7.out.rb.c2
            have y3 := HL7.out.rb.c3
            go_wp2
            go_quiet (first | (go_at_call 20; exact Calls.quiet_of_same (budget_is _ b _ m _ _ (HL7.out.drewN _).sb)))
            obtain ⟨wa, hwa⟩ : ∃ W5, w7.drewN nq = W5 := ⟨_, rfl⟩
            have HLa := mkHid (HL7.out.drewN nq)
            rw [hwa] at HLa ⊢
            clear hwa
            clear y1 y2 y3
            have y1 := HLa.out.rb.c1
            have y2 := HLa.out.rb.c2
            have y3 := HLa.out.rb.c3
            go_wp2
            go_roundw
            case rel => exact ⟨i + 1, _, _, _, _, _, rfl, rfl, rfl, by go_num, HSM.out.1, HSM.out.2, mkHid (by rw [HN.out]; exact HM.out.stay), HLa, by omega, mkHid (by simp only; omega), mkHid (fun _ => HDL.out)⟩
            case measure => exact HMu.out
          · obtain ⟨rfl, hdl, rfl, hne, hla, hxd⟩ := hcf
            have eT : IntKind.i64.wrap (N + t) = dl := by rw [hdl]; exact wfit (by omega) (by omega)
            obtain ⟨E, hE⟩ : ∃ E, E = La + t := ⟨_, rfl⟩
            have eE : IntKind.i64.wrap (La + t) = E := by rw [hE]; exact wfit (by omega) (by omega)
            have hlE : decide (N < E) = false := decide_eq_false (by omega)
            clear hE hxd hla
            have HDL := mkHid hdl
            clear hdl
            obtain ⟨hr, rfl, e2⟩ := hcr
            have HRR := mkHid hr
            rw [hr] at HC
            clear hr
            go_wp2_with (first | (go_at_call 21; refine (deadline_is wr b _ m _ _ HL.out.sb).mono ?_; rintro e w5 ⟨rfl, hw⟩; rw [hw]; clear hw) | (go_at_call 15; refine HC.out.mono ?_; rintro e w4 ⟨rfl, hs4, hk4⟩; have HL4 := mkHid (HL.out.step hk4 hs4); have y1 := HL4.out.rb.c1; have y2 := HL4.out.rb.c2; have y3 := HL4.out.rb.c3; clear hs4 hk4 x3) | (go_at_call 21; refine (deadline_is w4 b _ m _ _ HL4.out.sb).mono ?_; rintro e w5 ⟨rfl, hw⟩; rw [hw]; clear hw))
            go_quiet (first | (go_at_call 21; exact Calls.quiet_of_same (deadline_is _ b _ m _ _ (HL4.out.drewN _).sb)))
            obtain ⟨w6, hw6⟩ : ∃ W5, w4.drewN nq = W5 := ⟨_, rfl⟩
            have HL6 := mkHid (HL4.out.drewN nq)
            rw [hw6] at HL6 ⊢
            clear hw6
            clear y1 y2 y3
            have y1 := HL6.out.rb.c1
            have y2 := HL6.out.rb.c2
            have y3 := HL6.out.rb.c3
            go_wp2
            go_quiet (fail)
            obtain ⟨w7, hw7⟩ : ∃ W5, w6.drewN nq = W5 := ⟨_, rfl⟩
            have HL7 := mkHid (HL6.out.drewN nq)
            rw [hw7] at HL7 ⊢
            clear hw7
            clear y1 y2 y3
            have y1 := HL7.out.rb.c1
            have y2 := HL7.out.rb.c2
            have y3 := HL7.out.rb.c3
            go_wp2
            go_quiet (first | (go_at_call 20; exact Calls.quiet_of_same (budget_is _ b _ m _ _ (HL7.out.drewN _).sb)))
            obtain ⟨wa, hwa⟩ : ∃ W5, w7.drewN nq = W5 := ⟨_, rfl⟩
            have HLa := mkHid (HL7.out.drewN nq)
            rw [hwa] at HLa ⊢
            clear hwa
            clear y1 y2 y3
            have y1 := HLa.out.rb.c1
            have y2 := HLa.out.rb.c2
            have y3 := HLa.out.rb.c3
            go_wp2
            go_roundw
            case rel => exact ⟨i + 1, _, _, _, _, _, rfl, rfl, rfl, by go_num, HSM.out.1, HSM.out.2, mkHid (by rw [HN.out]; exact HM.out.stay), HLa, by omega, mkHid (by simp only; omega), mkHid (fun _ => HDL.out)⟩
            case measure => exact HMu.out
          · obtain ⟨rfl, hnb⟩ := hcf
            obtain ⟨hr, rfl, e2⟩ := hcr
            have HRR := mkHid hr
            rw [hr] at HC
            clear hr
            go_wp2_with (first | (go_at_call 21; refine (deadline_is wr b _ m _ _ HL.out.sb).mono ?_; rintro e w5 ⟨rfl, hw⟩; rw [hw]; clear hw) | (go_at_call 15; refine HC.out.mono ?_; rintro e w4 ⟨rfl, hs4, hk4⟩; have HL4 := mkHid (HL.out.step hk4 hs4); have y1 := HL4.out.rb.c1; have y2 := HL4.out.rb.c2; have y3 := HL4.out.rb.c3; clear hs4 hk4 x3) | (go_at_call 21; refine (deadline_is w4 b _ m _ _ HL4.out.sb).mono ?_; rintro e w5 ⟨rfl, hw⟩; rw [hw]; clear hw))
            have k3 : n ≤ q := by omega
            go_quiet (first | (go_at_call 20; exact Calls.quiet_of_same (budget_is _ b _ m _ _ (HL4.out.drewN _).sb)))
            obtain ⟨wa, hwa⟩ : ∃ W5, w4.drewN nq = W5 := ⟨_, rfl⟩
            have HLa := mkHid (HL4.out.drewN nq)
            rw [hwa] at HLa ⊢
            clear hwa
            clear y1 y2 y3
            have y1 := HLa.out.rb.c1
            have y2 := HLa.out.rb.c2
            have y3 := HLa.out.rb.c3
            go_wp2
            go_roundw
            case rel => exact ⟨i + 1, _, _, _, _, _, rfl, rfl, rfl, by go_num, HSM.out.1, HSM.out.2, mkHid (by rw [HN.out]; exact HM.out.stay), HLa, by omega, mkHid (by simp only; omega), mkHid (fun e => HF0.out e)⟩
            case measure => exact HMu.out
      · have hlj : 3000 ≤ (i : Int) := by omega
        clear hlt hle
        go_wp2
        go_ret
        exact ⟨rfl, HL.out.bel⟩
    · obtain rfl : i = ts.length := by omega
      go_wp2
      go_ret
      exact ⟨rfl, HL.out.bel⟩
end Go.Proofs.YtdkjoedebjinkaaDoor
