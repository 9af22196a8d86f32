/- The law ServerPlays. -/
import Derived.Test.YtdkjoedebjinkaaDoorSrv14
import Derived.Test.YtdkjoedebjinkaaDoorErrNum14
namespace Go.Proofs.YtdkjoedebjinkaaDoor
open Go.ChangeShapes Go.WideShapes Go.ChangeAt Go.RowKit

set_option maxRecDepth 100000 in
set_option maxHeartbeats 3200000 in
theorem plays_none (W : World) (s : Sv) (m : Int) (al : Option Addr) (n cap : Nat) (e : Nat → Addr) (hE : Errs W e) (h : ¬ okS s) : Calls Tryd.prog 3 #[vR s m (.slice al n cap)] W fun e w' => e = .returned (.bool true) ∧ Below W.heap.size W w' := by
  have HE := mkHid hE
  clear hE
  have HO := mkHid h
  have HN : Hid (¬ okN s m) := mkHid (fun e => h e.1)
  clear h
  obtain ⟨k, q, t⟩ := s
  go_enter Tryd.func3, Tryd.ntmps3
  go_wp2_with (first | (go_at_call 9; refine (alive14 _ (e 0) (kl HE.out.cell_state _)).mono ?_; rintro e' w1 ⟨rfl, b1⟩; have hr := (rb_new W (k, q, t) m (.slice al n cap)).hold b1; have HR1 := mkHid hr; have HB1 := mkHid (bt (ba (Below.refl _ _) _) b1); have x0 := hr.c0; have x1 := hr.c1; have x2 := hr.c2; have x3 := hr.c3; clear b1 hr) | (go_at_call 10; refine (new_none _ (k, q, t) m _ HO.out (HE.out.late HB1.out).cell_server).mono ?_; rintro e' w2 ⟨rfl, b2⟩; have HB2 := mkHid (bt HB1.out b2); have hr := HR1.out.hold b2; have HR2 := mkHid hr; clear x0 x1 x2 x3; have x0 := hr.c0; have x1 := hr.c1; have x2 := hr.c2; have x3 := hr.c3; clear b2 hr) | (go_at_call 11; refine (legal_no _ (k, q, t) m HN.out).mono ?_; rintro e' w3 ⟨rfl, b3⟩; have HB3 := mkHid (bt HB2.out b3); have hr := HR2.out.hold b3; have HR3 := mkHid hr; clear x0 x1 x2 x3; have x0 := hr.c0; have x1 := hr.c1; have x2 := hr.c2; have x3 := hr.c3; clear b3 hr) | (go_at_call 12; refine (reflegal_no _ (k, q, t) HO.out).mono ?_; rintro e' w4 ⟨rfl, b4⟩; have HB4 := mkHid (bt HB3.out b4); clear b4) | (go_at_call 13; refine (errnum_server _ e (HE.out.late HB4.out)).mono ?_; rintro e' w5 ⟨rfl, b5⟩; have HB5 := mkHid (bt HB4.out b5); clear b5))
  go_ret
  exact ⟨rfl, HB5.out⟩
set_option maxRecDepth 100000 in
set_option maxHeartbeats 3200000 in
theorem plays_far (W : World) (s : Sv) (m : Int) (al : Option Addr) (n cap : Nat) (e : Nat → Addr) (hE : Errs W e) (h : okS s) (hn : ¬ okN s m) : Calls Tryd.prog 3 #[vR s m (.slice al n cap)] W fun e w' => e = .returned (.bool true) ∧ Below W.heap.size W w' := by
  have HE := mkHid hE
  clear hE
  have HO := mkHid h
  have HN := mkHid hn
  have HF : Hid (m < 0 ∨ (0 ≤ m ∧ 1099511627776 < m)) := mkHid (by
    by_cases e : m < 0
    · exact .inl e
    · exact .inr ⟨by omega, Decidable.byContradiction fun h2 => hn ⟨h, by omega, by omega⟩⟩)
  clear h hn
  obtain ⟨k, q, t⟩ := s
  go_enter Tryd.func3, Tryd.ntmps3
  go_wp2_with (first | (go_at_call 9; refine (alive14 _ (e 0) (kl HE.out.cell_state _)).mono ?_; rintro e' w1 ⟨rfl, b1⟩; have hr := (rb_new W (k, q, t) m (.slice al n cap)).hold b1; have HR1 := mkHid hr; have HB1 := mkHid (bt (ba (Below.refl _ _) _) b1); have x0 := hr.c0; have x1 := hr.c1; have x2 := hr.c2; have x3 := hr.c3; clear b1 hr) | (go_at_call 10; refine (new_far _ (k, q, t) m _ HO.out HF.out (HE.out.late HB1.out).cell_number).mono ?_; rintro e' w2 ⟨rfl, b2⟩; have HB2 := mkHid (bt HB1.out b2); have hr := HR1.out.hold b2; have HR2 := mkHid hr; clear x0 x1 x2 x3; have x0 := hr.c0; have x1 := hr.c1; have x2 := hr.c2; have x3 := hr.c3; clear b2 hr) | (go_at_call 11; refine (legal_no _ (k, q, t) m HN.out).mono ?_; rintro e' w3 ⟨rfl, b3⟩; have HB3 := mkHid (bt HB2.out b3); have hr := HR2.out.hold b3; have HR3 := mkHid hr; clear x0 x1 x2 x3; have x0 := hr.c0; have x1 := hr.c1; have x2 := hr.c2; have x3 := hr.c3; clear b3 hr) | (go_at_call 12; refine (reflegal_ok _ (k, q, t) HO.out).mono ?_; rintro e' w4 ⟨rfl, b4⟩; have HB4 := mkHid (bt HB3.out b4); clear b4) | (go_at_call 13; refine (errnum_number _ e (HE.out.late HB4.out)).mono ?_; rintro e' w5 ⟨rfl, b5⟩; have HB5 := mkHid (bt HB4.out b5); clear b5))
  go_ret
  exact ⟨rfl, HB5.out⟩
/-- Both servers, a row of ticks and the listed error in memory. -/
structure PW (W w : World) (R b c : Nat) (s : Sv) (m : Int) (v : Value) (wk : Bool) (x : Ss) (wk2 : Bool) (x2 : Ss) (a : Addr) : Prop where
  lw : LW W w R b s m v wk x a
  mb : MB w c s m wk2 x2
  nb : ¬ c = b
  nr : ¬ R = c
  lc : W.heap.size ≤ c
theorem PW.one {W w w' : World} {R b c : Nat} {s : Sv} {m : Int} {v : Value} {wk wk' wk2 : Bool} {x x' x2 : Ss} {a : Addr} (h : PW W w R b c s m v wk x wk2 x2 a) (hk : Kb b w w') (hs : SB w' b s m wk' x') : PW W w' R b c s m v wk' x' wk2 x2 a :=
  ⟨h.lw.step hk hs, h.mb.kb hk h.nb, h.nb, h.nr, h.lc⟩
theorem PW.two {W w w' : World} {R b c : Nat} {s : Sv} {m : Int} {v : Value} {wk wk2 wk2' : Bool} {x x2 x2' : Ss} {a : Addr} (h : PW W w R b c s m v wk x wk2 x2 a) (hk : Kb c w w') (hs : MB w' c s m wk2' x2') : PW W w' R b c s m v wk x wk2' x2' a :=
  ⟨⟨Kb.below hk h.lw.bel h.lc h.mb.lt, h.lw.lb, h.lw.ne, h.lw.rb.kb hk h.nr, h.lw.sb.kept hk (fun e => h.nb e.symm), Kept.cell hk h.lw.er (by have := h.lc; have := h.lw.el; simp only; omega), h.lw.el⟩, hs, h.nb, h.nr, h.lc⟩
theorem PW.hold {W w w' : World} {R b c : Nat} {s : Sv} {m : Int} {v : Value} {wk wk2 : Bool} {x x2 : Ss} {a : Addr} (h : PW W w R b c s m v wk x wk2 x2 a) (hb : Below w.heap.size w w') : PW W w' R b c s m v wk x wk2 x2 a := ⟨h.lw.kb hb, h.mb.hold hb, h.nb, h.nr, h.lc⟩
theorem PW.drew {W w : World} {R b c : Nat} {s : Sv} {m : Int} {v : Value} {wk wk2 : Bool} {x x2 : Ss} {a : Addr} (h : PW W w R b c s m v wk x wk2 x2 a) : PW W w.drew R b c s m v wk x wk2 x2 a := ⟨h.lw.drewN 1, h.mb, h.nb, h.nr, h.lc⟩
set_option maxRecDepth 100000 in
set_option maxHeartbeats 12800000 in
theorem plays_yes (W : World) (s : Sv) (m : Int) (al : Option Addr) (cap : Nat) (ts : List Int) (a : Addr) (he : W.cell? ⟨0, 0, none⟩ = some (vE a)) (h : okN s m) (hI : Iw W (.slice al ts.length cap) ts) (hl : (ts.length : Int) ≤ 9223372036854775807) : Calls Tryd.prog 3 #[vR s m (.slice al ts.length cap)] W fun e w' => e = .returned (.bool true) ∧ Below W.heap.size W w' := by
  have HI := mkHid hI
  clear hI
  have HE := mkHid he
  have HO := mkHid h
  clear he h
  obtain ⟨k, q, t⟩ := s
  go_enter Tryd.func3, Tryd.ntmps3
  go_wp2_with (first | (go_at_call 9; refine (alive14 _ a (kl HE.out _)).mono ?_; rintro e w1 ⟨rfl, b1⟩; have hr := (rb_new W (k, q, t) m (.slice al ts.length cap)).hold b1; have HR1 := mkHid hr; have HB1 := mkHid (bt (ba (Below.refl _ _) _) b1); have x0 := hr.c0; have x1 := hr.c1; have x2 := hr.c2; have x3 := hr.c3; clear b1 hr) | (go_at_call 10; refine (new_ok _ (k, q, t) m HO.out).mono ?_; rintro e w3 ⟨b, rfl, hb3, hs3, b3⟩; have hr := HR1.out.hold b3; have HL3 : Hid (LW W w3 W.heap.size b (k, q, t) m (.slice al ts.length cap) false ⟨false, 0, m⟩ a) := mkHid ⟨bt HB1.out b3, Nat.le_trans HB1.out.size hb3, (by have := HR1.out.lt; omega), hr, hs3, kc (kc HE.out HB1.out) b3, World.block_lt_of_cell? W _ HE.out⟩; clear x0 x1 x2 x3; have x0 := hr.c0; have x1 := hr.c1; have x2 := hr.c2; have x3 := hr.c3; clear b3 hr hs3 hb3) | (go_at_call 11; refine (legal_yes _ (k, q, t) m HO.out).mono ?_; rintro e w4 ⟨rfl, b4⟩; have HL4 := mkHid (HL3.out.kb b4); clear x0 x1 x2 x3; have x0 := HL4.out.rb.c0; have x1 := HL4.out.rb.c1; have x2 := HL4.out.rb.c2; have x3 := HL4.out.rb.c3; clear b4) | (go_at_call 14; refine (mnew_is _ (k, q, t) m).mono ?_; rintro e w5 ⟨c, rfl, hc5, hs5, b5⟩; have HP5 : Hid (PW W w5 W.heap.size b c (k, q, t) m (.slice al ts.length cap) false ⟨false, 0, m⟩ false ⟨false, 0, m⟩ a) := mkHid ⟨HL4.out.kb b5, hs5, (by have := HL4.out.sb.lt; omega), (by have := HL4.out.rb.lt; omega), (by have := HL4.out.bel.size; omega)⟩; clear x0 x1 x2 x3; have x4 := HP5.out.lw.rb.c4; clear b5 hs5 hc5))
  obtain ⟨hk, hm0, hm1⟩ := HO.out
  have HK := mkHid hk
  clear hk x4
  go_loopw [51] (fun iv wr => ∃ (i : Nat) (wk wk2 : Bool) (x : Ss), iv = .int .i64 (i : Int) ∧ i ≤ ts.length ∧ i ≤ 3001 ∧ Hid (GI (k, q, t) m (m + (i : Int)) x) ∧ Hid (PW W wr W.heap.size b c (k, q, t) m (.slice al ts.length cap) wk x wk2 x a)) (fun iv _ => ts.length - (intOf iv).toNat)
  case atStart => exact ⟨0, false, false, _, rfl, by omega, by omega, mkHid (by simpa using GI.start HK.out m), HP5⟩
  case round =>
    obtain ⟨i, wk, wk2, x, rfl, hi, hi2, HG, HP⟩ := hrel
    by_cases hlt : i < ts.length
    · obtain ⟨bb, off, z, rfl, hz, hcell⟩ := HI.out.at HP.out.lw.bel i hlt
      have hli : (i : Int) < ts.length := by omega
      by_cases hle : i ≤ 3000
      · have hlj : (i : Int) ≤ 3000 := by omega
        obtain ⟨N, hN⟩ : ∃ N, N = m + (i : Int) := ⟨_, rfl⟩
        have eN : IntKind.i64.wrap (m + (i : Int)) = N := by rw [hN]; exact wfit (by omega) (by omega)
        have HN : Hid (m + ((i + 1 : Nat) : Int) = N + 1) := mkHid (by omega)
        rw [← hN] at HG
        obtain ⟨A1, hA1⟩ : ∃ A1, bits .and .i64 z 1 = A1 := ⟨_, rfl⟩
        obtain ⟨A2, v2, hA2, hv2⟩ := bit_cases z 2
        have HC : Hid (∀ w, SB w b (k, q, t) m wk x → Calls Tryd.prog 15 #[.pointer (some ⟨b, 0, none⟩), .int .i64 N, .bool (A1 == 1)] w fun e w' => e = .returned (.bool (rdyS (A1 == 1) (begS (k, q, t) m N (A1 == 1) x))) ∧ SB w' b (k, q, t) m (A1 == 1) (begS (k, q, t) m N (A1 == 1) x) ∧ Kb b w w') := mkHid (fun w hw => begin_is w b (k, q, t) m N wk (A1 == 1) x hw hm0 (by omega) (by omega) HK.out)
        have HC2 : Hid (∀ w, MB w c (k, q, t) m wk2 x → Calls Tryd.prog 16 #[.pointer (some ⟨c, 0, none⟩), .int .i64 N, .bool (A1 == 1)] w fun e w' => e = .returned (.bool (rdyS (A1 == 1) (begS (k, q, t) m N (A1 == 1) x))) ∧ MB w' c (k, q, t) m (A1 == 1) (begS (k, q, t) m N (A1 == 1) x) ∧ Kb c w w') := mkHid (fun w hw => mbegin_is w c (k, q, t) m N wk2 (A1 == 1) x hw hm0 (by omega) (by omega) HK.out HG.out.b0 HG.out.o)
        have HM := mkHid (HG.out.beg HK.out (by omega) (A1 == 1))
        clear hN
        generalize begS (k, q, t) m N (A1 == 1) x = y at *
        obtain ⟨on, bud, dl⟩ := y
        have HM2 := mkHid (HM.out.b2 HK.out)
        have hb0 := HM.out.b0
        have hb2 := HM2.out
        simp only at hb0 hb2
        have HSM : Hid ((i + 1 ≤ ts.length) ∧ i + 1 ≤ 3001) := mkHid ⟨by omega, by omega⟩
        have HMu : Hid (ts.length - (i + 1) < ts.length - i) := mkHid (by omega)
        have x3 := HP.out.lw.rb.c3
        have hcr : rdyS (A1 == 1) ⟨on, bud, dl⟩ = false ∨ (rdyS (A1 == 1) ⟨on, bud, dl⟩ = true ∧ 1 ≤ bud) := by
          cases hr : rdyS (A1 == 1) ⟨on, bud, dl⟩
          · exact .inl rfl
          · have := rdy_bud (b := true) (by rw [hr]; rfl)
            simp only at this
            exact .inr ⟨rfl, by omega⟩
        clear hlt hle hi2 hi
        rcases hcr with hr | ⟨hr, hb1⟩
        · rw [hr] at HC HC2
          have HRR := mkHid hr
          clear hr
          go_wp2
          go_region_held3 (fun w' => w'.cell? ⟨W.heap.size, 3, none⟩ = some (.int .i64 m)) (go_keep) (first | (go_at_call 15; refine (HC.out _ HP.out.drew.lw.sb).mono ?_; rintro e w6 ⟨rfl, hs6, hk6⟩; have HP6 := mkHid (HP.out.drew.one hk6 hs6); have y3 := HP6.out.lw.rb.c3; clear hs6 hk6) | (go_at_call 16; refine (HC2.out _ HP6.out.mb).mono ?_; rintro e w7 ⟨rfl, hs7, hk7⟩; have HP7 := mkHid (HP6.out.two hk7 hs7); have z3 := HP7.out.lw.rb.c3; clear hs7 hk7))
          rcases hv2 with ⟨rfl, rfl⟩ | ⟨rfl, e2⟩
          · go_wp2
            go_region_held3 (fun w' => True) (go_keep) (first | (go_at_call 17; refine (charge_any _ b _ m _ _ a HP7.out.drew.lw.sb hb0 hb2 HP7.out.drew.lw.er).mono ?_; rintro e w8 ⟨he8, hs8, hk8⟩; rw [HRR.out] at he8; simp only [if_false, Bool.false_eq_true] at he8; subst he8; rw [HRR.out] at hs8; have HP8 := mkHid (HP7.out.drew.one hk8 hs8); clear hs8 hk8) | (go_at_call 18; refine (mready_is w8 c _ m _ _ HP8.out.mb hb0).mono ?_; rintro e w9 ⟨rfl, hw⟩; rw [hw]; clear hw; rw [HRR.out]))
            go_wp2_with (first | (go_at_call 18; refine (mready_is w8 c _ m _ _ HP8.out.mb hb0).mono ?_; rintro e w9 ⟨rfl, hw⟩; rw [hw]; clear hw; rw [HRR.out]))
            obtain ⟨w9, hw9⟩ : ∃ W5, w8 = W5 := ⟨_, rfl⟩
            have HP9 : Hid (PW W (w8) W.heap.size b c (k, q, t) m (.slice (some ⟨bb, off, none⟩) ts.length cap) (A1 == 1) ⟨on, bud, dl⟩ (A1 == 1) ⟨on, bud, dl⟩ a) := mkHid HP8.out
            rw [hw9] at HP9 ⊢
            clear hw9
            have HGI : Hid (GI (k, q, t) m (N + 1) ⟨on, bud, dl⟩) := mkHid (HM.out.stay)
            obtain ⟨B, hB⟩ : ∃ B, B = bud := ⟨_, rfl⟩
            have hB0 : 0 ≤ B := by omega
            rw [← hB] at HP9 HGI
            clear hB
            obtain ⟨rr, hrr⟩ : ∃ rr, rdyS (A1 == 1) ⟨on, B, dl⟩ = rr := ⟨_, rfl⟩
            have HRB := mkHid hrr
            clear hrr
            have d4 := HP9.out.mb.c4
            have d5 := HP9.out.mb.c5
            have d6 := HP9.out.mb.c6
            have r0 := HP9.out.lw.rb.c0
            have r1 := HP9.out.lw.rb.c1
            have r2 := HP9.out.lw.rb.c2
            simp only at d4 d5 d6 r0 r1 r2
            go_region_held3 (fun w' => w'.cell? ⟨c, 4, none⟩ = some (.int .i64 B) ∧ w'.cell? ⟨c, 5, none⟩ = some (.int .i64 dl) ∧ w'.cell? ⟨c, 6, none⟩ = some (.bool on) ∧ w'.cell? ⟨W.heap.size, 0, none⟩ = some (.int .i64 k) ∧ w'.cell? ⟨W.heap.size, 1, none⟩ = some (.int .i64 q) ∧ w'.cell? ⟨W.heap.size, 2, none⟩ = some (.int .i64 t)) (go_keep) (first | (go_at_call 19; refine (ready_is _ b _ m _ _ HP9.out.drew.lw.sb).mono ?_; rintro e w11 ⟨rfl, hw⟩; rw [hw]; clear hw; rw [HRB.out]) | (go_at_call 18; refine (mready_is _ c _ m _ _ HP9.out.drew.mb hB0).mono ?_; rintro e w11 ⟨rfl, hw⟩; rw [hw]; clear hw; rw [HRB.out]) | (go_at_call 20; refine (budget_is _ b _ m _ _ HP9.out.drew.lw.sb).mono ?_; rintro e w11 ⟨rfl, hw⟩; rw [hw]; clear hw) | (go_at_call 21; refine (deadline_is _ b _ m _ _ HP9.out.drew.lw.sb).mono ?_; rintro e w11 ⟨rfl, hw⟩; rw [hw]; clear hw) | (go_at_call 22; refine (on_is _ b _ m _ _ HP9.out.drew.lw.sb).mono ?_; rintro e w11 ⟨rfl, hw⟩; rw [hw]; clear hw) | (go_at_call 23; refine (kind_is _ b _ m _ _ HP9.out.drew.lw.sb).mono ?_; rintro e w10 ⟨rfl, b10⟩; have HP10 := mkHid (HP9.out.drew.hold b10); have s4 := HP10.out.mb.c4; have s5 := HP10.out.mb.c5; have s6 := HP10.out.mb.c6; have t0 := HP10.out.lw.rb.c0; have t1 := HP10.out.lw.rb.c1; have t2 := HP10.out.lw.rb.c2; simp only at s4 s5 s6 t0 t1 t2; clear b10))
            all_goals
              go_wp2
              go_roundw
              case rel => exact ⟨i + 1, _, _, _, by go_num, HSM.out.1, HSM.out.2, mkHid (by rw [HN.out]; exact HGI.out), HP10⟩
              case measure => exact HMu.out
          · go_wp2
            obtain ⟨w9, hw9⟩ : ∃ W5, w7 = W5 := ⟨_, rfl⟩
            have HP9 : Hid (PW W (w7) W.heap.size b c (k, q, t) m (.slice (some ⟨bb, off, none⟩) ts.length cap) (A1 == 1) ⟨on, bud, dl⟩ (A1 == 1) ⟨on, bud, dl⟩ a) := mkHid HP7.out
            rw [hw9] at HP9 ⊢
            clear hw9
            have HGI : Hid (GI (k, q, t) m (N + 1) ⟨on, bud, dl⟩) := mkHid (HM.out.stay)
            obtain ⟨B, hB⟩ : ∃ B, B = bud := ⟨_, rfl⟩
            have hB0 : 0 ≤ B := by omega
            rw [← hB] at HP9 HGI
            clear hB
            obtain ⟨rr, hrr⟩ : ∃ rr, rdyS (A1 == 1) ⟨on, B, dl⟩ = rr := ⟨_, rfl⟩
            have HRB := mkHid hrr
            clear hrr
            have d4 := HP9.out.mb.c4
            have d5 := HP9.out.mb.c5
            have d6 := HP9.out.mb.c6
            have r0 := HP9.out.lw.rb.c0
            have r1 := HP9.out.lw.rb.c1
            have r2 := HP9.out.lw.rb.c2
            simp only at d4 d5 d6 r0 r1 r2
            go_region_held3 (fun w' => w'.cell? ⟨c, 4, none⟩ = some (.int .i64 B) ∧ w'.cell? ⟨c, 5, none⟩ = some (.int .i64 dl) ∧ w'.cell? ⟨c, 6, none⟩ = some (.bool on) ∧ w'.cell? ⟨W.heap.size, 0, none⟩ = some (.int .i64 k) ∧ w'.cell? ⟨W.heap.size, 1, none⟩ = some (.int .i64 q) ∧ w'.cell? ⟨W.heap.size, 2, none⟩ = some (.int .i64 t)) (go_keep) (first | (go_at_call 19; refine (ready_is _ b _ m _ _ HP9.out.drew.lw.sb).mono ?_; rintro e w11 ⟨rfl, hw⟩; rw [hw]; clear hw; rw [HRB.out]) | (go_at_call 18; refine (mready_is _ c _ m _ _ HP9.out.drew.mb hB0).mono ?_; rintro e w11 ⟨rfl, hw⟩; rw [hw]; clear hw; rw [HRB.out]) | (go_at_call 20; refine (budget_is _ b _ m _ _ HP9.out.drew.lw.sb).mono ?_; rintro e w11 ⟨rfl, hw⟩; rw [hw]; clear hw) | (go_at_call 21; refine (deadline_is _ b _ m _ _ HP9.out.drew.lw.sb).mono ?_; rintro e w11 ⟨rfl, hw⟩; rw [hw]; clear hw) | (go_at_call 22; refine (on_is _ b _ m _ _ HP9.out.drew.lw.sb).mono ?_; rintro e w11 ⟨rfl, hw⟩; rw [hw]; clear hw) | (go_at_call 23; refine (kind_is _ b _ m _ _ HP9.out.drew.lw.sb).mono ?_; rintro e w10 ⟨rfl, b10⟩; have HP10 := mkHid (HP9.out.drew.hold b10); have s4 := HP10.out.mb.c4; have s5 := HP10.out.mb.c5; have s6 := HP10.out.mb.c6; have t0 := HP10.out.lw.rb.c0; have t1 := HP10.out.lw.rb.c1; have t2 := HP10.out.lw.rb.c2; simp only at s4 s5 s6 t0 t1 t2; clear b10))
            all_goals
              go_wp2
              go_roundw
              case rel => exact ⟨i + 1, _, _, _, by go_num, HSM.out.1, HSM.out.2, mkHid (by rw [HN.out]; exact HGI.out), HP10⟩
              case measure => exact HMu.out
        · rw [hr] at HC HC2
          have HRR := mkHid hr
          clear hr
          go_wp2
          go_region_held3 (fun w' => w'.cell? ⟨W.heap.size, 3, none⟩ = some (.int .i64 m)) (go_keep) (first | (go_at_call 15; refine (HC.out _ HP.out.drew.lw.sb).mono ?_; rintro e w6 ⟨rfl, hs6, hk6⟩; have HP6 := mkHid (HP.out.drew.one hk6 hs6); have y3 := HP6.out.lw.rb.c3; clear hs6 hk6) | (go_at_call 16; refine (HC2.out _ HP6.out.mb).mono ?_; rintro e w7 ⟨rfl, hs7, hk7⟩; have HP7 := mkHid (HP6.out.two hk7 hs7); have z3 := HP7.out.lw.rb.c3; clear hs7 hk7))
          rcases hv2 with ⟨rfl, rfl⟩ | ⟨rfl, e2⟩
          · go_wp2
            go_region_held3 (fun w' => True) (go_keep) (first | (go_at_call 17; refine (charge_any _ b _ m _ _ a HP7.out.drew.lw.sb hb0 hb2 HP7.out.drew.lw.er).mono ?_; rintro e w8 ⟨he8, hs8, hk8⟩; rw [HRR.out] at he8; simp only [if_true] at he8; subst he8; rw [HRR.out] at hs8; have HP8 := mkHid (HP7.out.drew.one hk8 hs8); clear hs8 hk8) | (go_at_call 18; refine (mready_is w8 c _ m _ _ HP8.out.mb hb0).mono ?_; rintro e w9 ⟨rfl, hw⟩; rw [hw]; clear hw; rw [HRR.out]))
            have u4 := HP8.out.mb.c4
            have f4 := HP8.out.mb.fz 4
            simp only at u4
            go_wp2_with (first | (go_at_call 18; refine (mready_is w8 c _ m _ _ HP8.out.mb hb0).mono ?_; rintro e w9 ⟨rfl, hw⟩; rw [hw]; clear hw; rw [HRR.out]))
            obtain ⟨w9, hw9⟩ : ∃ W5, w8.setCell ⟨c, 4, none⟩ (.int .i64 (bud - 1)) = W5 := ⟨_, rfl⟩
            have HP9 : Hid (PW W (w8.setCell ⟨c, 4, none⟩ (.int .i64 (bud - 1))) W.heap.size b c (k, q, t) m (.slice (some ⟨bb, off, none⟩) ts.length cap) (A1 == 1) ⟨on, bud - 1, dl⟩ (A1 == 1) ⟨on, bud - 1, dl⟩ a) := mkHid (HP8.out.two (kb_set (Kept.refl (fun k => k = c) w8) 4 (.int .i64 (bud - 1))) (HP8.out.mb.put1 (bud - 1)))
            rw [hw9] at HP9 ⊢
            clear hw9
            have HGI : Hid (GI (k, q, t) m (N + 1) ⟨on, bud - 1, dl⟩) := mkHid (HM.out.charge (by simp only; omega))
            obtain ⟨B, hB⟩ : ∃ B, B = bud - 1 := ⟨_, rfl⟩
            have hB0 : 0 ≤ B := by omega
            rw [← hB] at HP9 HGI
            clear hB
            obtain ⟨rr, hrr⟩ : ∃ rr, rdyS (A1 == 1) ⟨on, B, dl⟩ = rr := ⟨_, rfl⟩
            have HRB := mkHid hrr
            clear hrr
            have d4 := HP9.out.mb.c4
            have d5 := HP9.out.mb.c5
            have d6 := HP9.out.mb.c6
            have r0 := HP9.out.lw.rb.c0
            have r1 := HP9.out.lw.rb.c1
            have r2 := HP9.out.lw.rb.c2
            simp only at d4 d5 d6 r0 r1 r2
            go_region_held3 (fun w' => w'.cell? ⟨c, 4, none⟩ = some (.int .i64 B) ∧ w'.cell? ⟨c, 5, none⟩ = some (.int .i64 dl) ∧ w'.cell? ⟨c, 6, none⟩ = some (.bool on) ∧ w'.cell? ⟨W.heap.size, 0, none⟩ = some (.int .i64 k) ∧ w'.cell? ⟨W.heap.size, 1, none⟩ = some (.int .i64 q) ∧ w'.cell? ⟨W.heap.size, 2, none⟩ = some (.int .i64 t)) (go_keep) (first | (go_at_call 19; refine (ready_is _ b _ m _ _ HP9.out.drew.lw.sb).mono ?_; rintro e w11 ⟨rfl, hw⟩; rw [hw]; clear hw; rw [HRB.out]) | (go_at_call 18; refine (mready_is _ c _ m _ _ HP9.out.drew.mb hB0).mono ?_; rintro e w11 ⟨rfl, hw⟩; rw [hw]; clear hw; rw [HRB.out]) | (go_at_call 20; refine (budget_is _ b _ m _ _ HP9.out.drew.lw.sb).mono ?_; rintro e w11 ⟨rfl, hw⟩; rw [hw]; clear hw) | (go_at_call 21; refine (deadline_is _ b _ m _ _ HP9.out.drew.lw.sb).mono ?_; rintro e w11 ⟨rfl, hw⟩; rw [hw]; clear hw) | (go_at_call 22; refine (on_is _ b _ m _ _ HP9.out.drew.lw.sb).mono ?_; rintro e w11 ⟨rfl, hw⟩; rw [hw]; clear hw) | (go_at_call 23; refine (kind_is _ b _ m _ _ HP9.out.drew.lw.sb).mono ?_; rintro e w10 ⟨rfl, b10⟩; have HP10 := mkHid (HP9.out.drew.hold b10); have s4 := HP10.out.mb.c4; have s5 := HP10.out.mb.c5; have s6 := HP10.out.mb.c6; have t0 := HP10.out.lw.rb.c0; have t1 := HP10.out.lw.rb.c1; have t2 := HP10.out.lw.rb.c2; simp only at s4 s5 s6 t0 t1 t2; clear b10))
            all_goals
              go_wp2
              go_roundw
              case rel => exact ⟨i + 1, _, _, _, by go_num, HSM.out.1, HSM.out.2, mkHid (by rw [HN.out]; exact HGI.out), HP10⟩
              case measure => exact HMu.out
          · go_wp2
            obtain ⟨w9, hw9⟩ : ∃ W5, w7 = W5 := ⟨_, rfl⟩
            have HP9 : Hid (PW W (w7) W.heap.size b c (k, q, t) m (.slice (some ⟨bb, off, none⟩) ts.length cap) (A1 == 1) ⟨on, bud, dl⟩ (A1 == 1) ⟨on, bud, dl⟩ a) := mkHid HP7.out
            rw [hw9] at HP9 ⊢
            clear hw9
            have HGI : Hid (GI (k, q, t) m (N + 1) ⟨on, bud, dl⟩) := mkHid (HM.out.stay)
            obtain ⟨B, hB⟩ : ∃ B, B = bud := ⟨_, rfl⟩
            have hB0 : 0 ≤ B := by omega
            rw [← hB] at HP9 HGI
            clear hB
            obtain ⟨rr, hrr⟩ : ∃ rr, rdyS (A1 == 1) ⟨on, B, dl⟩ = rr := ⟨_, rfl⟩
            have HRB := mkHid hrr
            clear hrr
            have d4 := HP9.out.mb.c4
            have d5 := HP9.out.mb.c5
            have d6 := HP9.out.mb.c6
            have r0 := HP9.out.lw.rb.c0
            have r1 := HP9.out.lw.rb.c1
            have r2 := HP9.out.lw.rb.c2
            simp only at d4 d5 d6 r0 r1 r2
            go_region_held3 (fun w' => w'.cell? ⟨c, 4, none⟩ = some (.int .i64 B) ∧ w'.cell? ⟨c, 5, none⟩ = some (.int .i64 dl) ∧ w'.cell? ⟨c, 6, none⟩ = some (.bool on) ∧ w'.cell? ⟨W.heap.size, 0, none⟩ = some (.int .i64 k) ∧ w'.cell? ⟨W.heap.size, 1, none⟩ = some (.int .i64 q) ∧ w'.cell? ⟨W.heap.size, 2, none⟩ = some (.int .i64 t)) (go_keep) (first | (go_at_call 19; refine (ready_is _ b _ m _ _ HP9.out.drew.lw.sb).mono ?_; rintro e w11 ⟨rfl, hw⟩; rw [hw]; clear hw; rw [HRB.out]) | (go_at_call 18; refine (mready_is _ c _ m _ _ HP9.out.drew.mb hB0).mono ?_; rintro e w11 ⟨rfl, hw⟩; rw [hw]; clear hw; rw [HRB.out]) | (go_at_call 20; refine (budget_is _ b _ m _ _ HP9.out.drew.lw.sb).mono ?_; rintro e w11 ⟨rfl, hw⟩; rw [hw]; clear hw) | (go_at_call 21; refine (deadline_is _ b _ m _ _ HP9.out.drew.lw.sb).mono ?_; rintro e w11 ⟨rfl, hw⟩; rw [hw]; clear hw) | (go_at_call 22; refine (on_is _ b _ m _ _ HP9.out.drew.lw.sb).mono ?_; rintro e w11 ⟨rfl, hw⟩; rw [hw]; clear hw) | (go_at_call 23; refine (kind_is _ b _ m _ _ HP9.out.drew.lw.sb).mono ?_; rintro e w10 ⟨rfl, b10⟩; have HP10 := mkHid (HP9.out.drew.hold b10); have s4 := HP10.out.mb.c4; have s5 := HP10.out.mb.c5; have s6 := HP10.out.mb.c6; have t0 := HP10.out.lw.rb.c0; have t1 := HP10.out.lw.rb.c1; have t2 := HP10.out.lw.rb.c2; simp only at s4 s5 s6 t0 t1 t2; clear b10))
            all_goals
              go_wp2
              go_roundw
              case rel => exact ⟨i + 1, _, _, _, by go_num, HSM.out.1, HSM.out.2, mkHid (by rw [HN.out]; exact HGI.out), HP10⟩
              case measure => exact HMu.out
      · have hlj : 3000 < (i : Int) := by omega
        clear hlt hle
        go_wp2
        go_ret
        exact ⟨rfl, HP.out.lw.bel⟩
    · obtain rfl : i = ts.length := by omega
      go_wp2
      go_ret
      exact ⟨rfl, HP.out.lw.bel⟩
end Go.Proofs.YtdkjoedebjinkaaDoor
