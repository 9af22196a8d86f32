/- The law ServerSupplies. -/
import Derived.Test.YtdkjoedebjinkaaDoorSrv11
import Derived.Test.YtdkjoedebjinkaaDoorSrv12
namespace Go.Proofs.YtdkjoedebjinkaaDoor
open Go.ChangeShapes Go.WideShapes Go.ChangeAt Go.RowKit

set_option maxHeartbeats 3200000 in
theorem supplies_no (W : World) (s : Sv) (m : Int) (al : Option Addr) (n cap : Nat) (a : Addr) (he : W.cell? ⟨0, 0, none⟩ = some (vE a)) (h : ¬ okN s m) : Calls Tryd.prog 6 #[vR s m (.slice al n cap)] W fun e w' => e = .returned (.bool true) ∧ Below W.heap.size W w' := by
  have HO := mkHid h
  have HE := mkHid he
  clear h he
  obtain ⟨k, q, t⟩ := s
  go_enter Tryd.func6, Tryd.ntmps6
  go_wp2_with (first | (go_at_call 9; refine (alive14 _ a (kl HE.out _)).mono ?_; rintro e w1 ⟨rfl, b1⟩; have hr := (rb_new W (k, q, t) m (.slice al n cap)).hold b1; have HB1 := mkHid (bt (ba (Below.refl _ _) _) b1); have x0 := hr.c0; have x1 := hr.c1; have x2 := hr.c2; have x3 := hr.c3; clear b1 hr) | (go_at_call 11; refine (legal_no _ (k, q, t) m HO.out).mono ?_; rintro e w2 ⟨rfl, b2⟩; have HB2 := mkHid (bt HB1.out b2); clear b2))
  go_ret
  exact ⟨rfl, HB2.out⟩
/-- Charged when it must be, or when the row says so. -/
def chM (ts : List Int) (m : Int) (i : Nat) (y : Ss) : Bool := decide (y.dl - (m + (i : Int)) ≤ y.bud) || btR ts i
theorem sup_law {s : Sv} (h : okS s) (m : Int) (ts : List Int) (a l : Nat) (hw : ∀ i, i < l → wkR ts (a + i) = true) : sb (gS s) (dS s) (qS s) (l : Int) ≤ cnt (chdS s m (wkR ts) (chM ts m)) a l := by
  have h0 : ¬ s.1 = 0 := by have := h.1; omega
  have e1 : dS s = s.2.2 - s.2.1 := if_neg h0
  have e2 : qS s = s.2.1 := if_neg h0
  have e3 : gS s = if s.1 = 3 then s.2.2 - s.2.1 else s.2.2 - 1 := if_neg h0
  rw [e1, e2]
  exact sup_least h m (wkR ts) (chM ts m) (fun i y hy => by unfold chM; rw [decide_eq_true hy]; rfl) a l hw _ e3
/-- The law's memory behind the row. -/
structure LE (W w : World) (R : Nat) (s : Sv) (m : Int) (v p c : Value) (f g : Nat → Bool) (n : Nat) : Prop where
  bel : Below W.heap.size W w
  rb : RB w R s m v
  b1 : Bw w p f n
  b2 : Bw w c g n
theorem Bw.hold {w w' : World} {v : Value} {f : Nat → Bool} {n : Nat} (h : Bw w v f n) (hb : Below w.heap.size w w') : Bw w' v f n := by
  obtain ⟨a, cap, rfl, hr⟩ := h
  exact ⟨a, cap, rfl, fun hp => by obtain ⟨g, rfl, hc⟩ := hr hp; exact ⟨g, rfl, fun i hi => kc (hc i hi) hb⟩⟩
theorem LE.hold {W w w' : World} {R : Nat} {s : Sv} {m : Int} {v p c : Value} {f g : Nat → Bool} {n : Nat} (h : LE W w R s m v p c f g n) (hb : Below w.heap.size w w') : LE W w' R s m v p c f g n := ⟨bt h.bel hb, h.rb.hold hb, h.b1.hold hb, h.b2.hold hb⟩
theorem Bw.at {w : World} {a : Option Addr} {n cap : Nat} {f : Nat → Bool} (h : Bw w (.slice a n cap) f n) {i : Nat} (hi : i < n) : ∃ g, a = some ⟨g, 0, none⟩ ∧ w.cell? ⟨g, i, none⟩ = some (.bool (f i)) := by
  obtain ⟨a', c', e, hr⟩ := h
  simp at e
  obtain ⟨rfl, rfl⟩ := e
  obtain ⟨g, rfl, hc⟩ := hr (by omega)
  exact ⟨g, rfl, hc i hi⟩
set_option maxRecDepth 100000 in
set_option maxHeartbeats 12800000 in
theorem supplies_yes (W : World) (s : Sv) (m : Int) (al : Option Addr) (cap : Nat) (ts : List Int) (a : Addr) (he : W.cell? ⟨0, 0, none⟩ = some (vE a)) (h : okN s m) (hI : Iw W (.slice al ts.length cap) ts) (hl : (ts.length : Int) ≤ 9223372036854775807) : Calls Tryd.prog 6 #[vR s m (.slice al ts.length cap)] W fun e w' => e = .returned (.bool true) ∧ Below W.heap.size W w' := by
  obtain ⟨ie, HIE⟩ := be_ex
  have HI := mkHid hI
  have HD := mkHid (fun (x l : Nat) (hw : ∀ i, i < l → wkR ts (x + i) = true) => sup_law h.1 m ts x l hw)
  have HBD := mkHid (fun (w : World) (l : Int) (l0 : 0 ≤ l) (l1 : l ≤ 1099511627776) => rbound_ok w s l h.1 l0 l1)
  have HSBN := mkHid (fun (l : Int) => sb_nonneg (g := gS s) (d := dS s) (q := qS s) (l := l) (by have := (show okW s from .inr h.1).nums; omega) (show okW s from .inr h.1).nums.2.1 (show okW s from .inr h.1).nums.2.2.1)
  clear hI
  have HE := mkHid he
  have HO := mkHid h
  clear he h
  obtain ⟨k, q, t⟩ := s
  go_enter Tryd.func6, Tryd.ntmps6
  go_wp2_with (first | (go_at_call 9; refine (alive14 _ a (kl HE.out _)).mono ?_; rintro e w1 ⟨rfl, b1⟩; have hr := (rb_new W (k, q, t) m (.slice al ts.length cap)).hold b1; have HR1 := mkHid hr; have HB1 := mkHid (bt (ba (Below.refl _ _) _) b1); have x0 := hr.c0; have x1 := hr.c1; have x2 := hr.c2; have x3 := hr.c3; clear b1 hr) | (go_at_call 11; refine (legal_yes _ (k, q, t) m HO.out).mono ?_; rintro e w2 ⟨rfl, b2⟩; have HB2 := mkHid (bt HB1.out b2); have hr := HR1.out.hold b2; have HR2 := mkHid hr; clear x0 x1 x2 x3; have x0 := hr.c0; have x1 := hr.c1; have x2 := hr.c2; have x3 := hr.c3; clear b2 hr) | (go_at_call 10; refine (new_ok _ (k, q, t) m HO.out).mono ?_; rintro e w3 ⟨b, rfl, hb3, hs3, b3⟩; have hr := HR2.out.hold b3; have HL3 : Hid (LW W w3 W.heap.size b (k, q, t) m (.slice al ts.length cap) false ⟨false, 0, m⟩ a) := mkHid ⟨bt HB2.out b3, Nat.le_trans HB2.out.size hb3, (by have := HR2.out.lt; omega), hr, hs3, kc (kc HE.out HB2.out) b3, World.block_lt_of_cell? W _ HE.out⟩; clear x0 x1 x2 x3; have x0 := hr.c0; have x1 := hr.c1; have x2 := hr.c2; have x3 := hr.c3; have x4 := hr.c4; have x5 := kl (kl hr.c4 (.cells #[] 4)) (.cells #[] 4); clear b3 hr hs3 hb3))
  have HS0 : Hid (RS W w3 ((w3.alloc (.cells #[] 4)).alloc (.cells #[] 4)) W.heap.size b w3.heap.size (k, q, t) m (.slice al ts.length cap) false ⟨false, 0, m⟩ a (.slice (some ⟨w3.heap.size, 0, none⟩) 0 0) (.slice (some ⟨w3.heap.size + 1, 0, none⟩) 0 0) [] []) := by
    have hlt := HL3.out.sb.lt
    have b1 : Below w3.heap.size w3 ((w3.alloc (.cells #[] 4)).alloc (.cells #[] 4)) := ba (ba (Below.refl _ _) _) _
    exact mkHid ⟨bt HL3.out.bel b1, b1.mono (by omega), HL3.out.lb, hlt, HL3.out.rb.lt, HL3.out.ne, HL3.out.rb.hold b1, (b1.block _ hlt).trans HL3.out.sb, kc HL3.out.er b1, HL3.out.el, TB.start w3⟩
  obtain ⟨hk, hm0, hm1⟩ := HO.out
  have HK := mkHid hk
  have g5 := hk.2.2.2.2
  have g4 := hk.2.2.2.1
  have g3 := hk.2.2.1
  simp only at g3 g4 g5
  clear hk x0 x1 x2 x3 x4 x5
  go_loopw [5, 6, 42] (fun uv vv iv wr => ∃ (i : Nat) (wk : Bool), iv = .int .i64 (i : Int) ∧ i ≤ ts.length ∧ i ≤ 400 ∧ Hid (RS W w3 wr W.heap.size b w3.heap.size (k, q, t) m (.slice al ts.length cap) wk (runS (k, q, t) m (wkR ts) (chM ts m) i) a uv vv ((List.range i).map (wkR ts)) ((List.range i).map (chdS (k, q, t) m (wkR ts) (chM ts m))))) (fun _ _ iv _ => ts.length - (intOf iv).toNat)
  case atStart => exact ⟨0, false, rfl, by omega, by omega, HS0⟩
  case round =>
    obtain ⟨i, wk, rfl, hi, hi2, HR⟩ := hrel
    clear HS0
    by_cases hlt : i < ts.length ∧ i < 400
    · obtain ⟨hlt, hle⟩ := hlt
      obtain ⟨bb, off, z, rfl, hz, hcell⟩ := HI.out.at HR.out.bel i hlt
      have hli : (i : Int) < ts.length := by omega
      have hlj : (i : Int) < 400 := by omega
      obtain ⟨N, hN⟩ : ∃ N, N = m + (i : Int) := ⟨_, rfl⟩
      have eN : IntKind.i64.wrap (m + (i : Int)) = N := by rw [hN]; exact wfit (by omega) (by omega)
      obtain ⟨A1, hA1⟩ : ∃ A1, bits .and .i64 z 1 = A1 := ⟨_, rfl⟩
      obtain ⟨A2, v2, hA2, hv2⟩ := bit_cases z 2
      have w1 : wkR ts i = (A1 == 1) := by unfold wkR; rw [getD_of hz, hA1]
      have w2 : btR ts i = v2 := by unfold btR; rw [getD_of hz, hA2]; rcases hv2 with ⟨rfl, rfl⟩ | ⟨rfl, e⟩ <;> simp_all
      have HC := mkHid (begin_is wr b (k, q, t) m N wk (A1 == 1) _ HR.out.sb hm0 (by omega) (by omega) HK.out)
      have HM := mkHid (mid_gm HK.out m (wkR ts) (chM ts m) i)
      have hmm : begS (k, q, t) m N (A1 == 1) (runS (k, q, t) m (wkR ts) (chM ts m) i) = midS (k, q, t) m (wkR ts) (chM ts m) i := by unfold midS; rw [w1, hN]
      rw [hmm] at HC
      have hch : chdS (k, q, t) m (wkR ts) (chM ts m) i = (rdyS (A1 == 1) (midS (k, q, t) m (wkR ts) (chM ts m) i) && (decide ((midS (k, q, t) m (wkR ts) (chM ts m) i).dl - N ≤ (midS (k, q, t) m (wkR ts) (chM ts m) i).bud) || v2)) := by
        have : chM ts m i = fun y => decide (y.dl - (m + (i : Int)) ≤ y.bud) || v2 := by funext y; unfold chM; rw [w2]
        unfold chdS
        rw [w1, this, hN]
      have HRU := mkHid (run_succ (k, q, t) m (wkR ts) (chM ts m) i)
      have HU1 := mkHid (range_snoc (wkR ts) i)
      have HV1 := mkHid (range_snoc (chdS (k, q, t) m (wkR ts) (chM ts m)) i)
      rw [w1] at HU1
      have HB2 := mkHid (HM.out.b2 HK.out)
      have HLN : Hid (((List.range i).map (wkR ts)).length ≤ 400 ∧ ((List.range i).map (chdS (k, q, t) m (wkR ts) (chM ts m))).length ≤ 400) := mkHid ⟨by rw [len_map]; omega, by rw [len_map]; omega⟩
      have HSM : Hid ((i + 1 ≤ ts.length) ∧ i + 1 ≤ 400) := mkHid ⟨by omega, by omega⟩
      have HMu : Hid (ts.length - (i + 1) < ts.length - i) := mkHid (by omega)
      have x3 := HR.out.rb.c3
      have hd0 := HM.out.d0
      have hd1 := HM.out.d1
      have hN0 : 0 ≤ N := by omega
      have hN1 : N ≤ 1099511628176 := by omega
      rw [hch] at HRU HV1
      clear hmm w1 w2 hch hz hlt hle hi hi2 HD
      generalize (List.range i).map (wkR ts) = US at *
      generalize (List.range i).map (chdS (k, q, t) m (wkR ts) (chM ts m)) = VS at *
      generalize hyy : midS (k, q, t) m (wkR ts) (chM ts m) i = y at *
      clear hyy
      generalize runS (k, q, t) m (wkR ts) (chM ts m) i = x at *
      obtain ⟨on, bud, dl⟩ := y
      simp only at hd0 hd1 HRU HV1
      obtain ⟨X, hX⟩ : ∃ X, X = dl - N := ⟨_, rfl⟩
      have eX : IntKind.i64.wrap (dl - N) = X := by rw [hX]; exact wfit (by omega) (by omega)
      rw [← hX] at HRU HV1
      obtain ⟨mu, hmu⟩ : ∃ mu, decide (X ≤ bud) = mu := ⟨_, rfl⟩
      rw [hmu] at HRU HV1
      clear hN hX hd0 hd1
      have hcs : (rdyS (A1 == 1) ⟨on, bud, dl⟩ = false) ∨ (rdyS (A1 == 1) ⟨on, bud, dl⟩ = true ∧ mu = true) ∨ (rdyS (A1 == 1) ⟨on, bud, dl⟩ = true ∧ mu = false ∧ v2 = true ∧ A2 = 2) ∨ (rdyS (A1 == 1) ⟨on, bud, dl⟩ = true ∧ mu = false ∧ v2 = false ∧ (A2 == 2) = false) := by
        cases rdyS (A1 == 1) ⟨on, bud, dl⟩
        · exact .inl rfl
        · cases mu
          · rcases hv2 with ⟨e1, e2⟩ | ⟨e1, e2⟩
            · exact .inr (.inr (.inl ⟨rfl, rfl, e1, e2⟩))
            · exact .inr (.inr (.inr ⟨rfl, rfl, e1, e2⟩))
          · exact .inr (.inl ⟨rfl, rfl⟩)
      clear hv2
      rcases hcs with hr | ⟨hr, rfl⟩ | ⟨hr, rfl, rfl, rfl⟩ | ⟨hr, rfl, rfl, e2⟩
      · have HRR := mkHid hr
        rw [hr] at HC HRU HV1
        clear hr
        go_wp2_with (first | (go_at_call 15; refine HC.out.mono ?_; rintro e w4 ⟨rfl, hs4, hk4⟩; have HR4 := mkHid (HR.out.step hk4 hs4); clear hs4 hk4 x3) | (go_at_call 21; refine (deadline_is w4 b _ m _ _ HR4.out.sb).mono ?_; rintro e w9 ⟨rfl, hw⟩; rw [hw]; clear hw) | (go_at_call 20; refine (budget_is w4 b _ m _ _ HR4.out.sb).mono ?_; rintro e w9 ⟨rfl, hw⟩; rw [hw]; clear hw) | (at_builtin; refine wpList_append_srcV _ rfl (.tmp 66) (.tmp 70) 45 45 rfl w3.heap.size 4 ie Tryd.underlying45 HIE.out.1 (.bool false) 1 HIE.out.2.1 rfl HIE.out.2.2.1 HIE.out.2.2.2 _ US.length (US.map Value.bool) rfl (HR4.out.alloc (.cells #[.bool (A1 == 1)] 4)).two.o1 (.slice (some ⟨w4.heap.size, 0, none⟩) 1 1) 1 [.bool (A1 == 1)] rfl (src_b1 w4 (A1 == 1)) (by have := HLN.out; unfold maxLen; omega) (by have := HLN.out; omega) (HR4.out.alloc (.cells #[.bool (A1 == 1)] 4)).two.sz ?_; intro v5 w5 ho5 hg5 hat5; have HR5 := mkHid ((HR4.out.alloc (.cells #[.bool (A1 == 1)] 4)).app1 ho5 hg5 hat5); clear ho5 hg5 hat5) | (at_builtin; refine wpList_append_srcV _ rfl (.tmp 72) (.tmp 87) 45 45 rfl w3.heap.size 4 ie Tryd.underlying45 HIE.out.1 (.bool false) 1 HIE.out.2.1 rfl HIE.out.2.2.1 HIE.out.2.2.2 _ VS.length (VS.map Value.bool) rfl (HR5.out.alloc (.cells #[.bool false] 4)).two.o2 (.slice (some ⟨w5.heap.size, 0, none⟩) 1 1) 1 [.bool false] rfl (src_b1 w5 false) (by have := HLN.out; unfold maxLen; omega) (by have := HLN.out; omega) (HR5.out.alloc (.cells #[.bool false] 4)).two.sz ?_; intro v7 w7 ho7 hg7 hat7; have HR7 := mkHid ((HR5.out.alloc (.cells #[.bool false] 4)).app2 ho7 hg7 hat7); clear ho7 hg7 hat7))
        go_roundw
        case rel => exact ⟨i + 1, _, by go_num, HSM.out.1, HSM.out.2, mkHid (by rw [HRU.out, HU1.out, HV1.out]; exact HR7.out)⟩
        case measure => exact HMu.out
      · have HRR := mkHid hr
        rw [hr] at HC HRU HV1
        clear hr
        go_wp2_with (first | (go_at_call 15; refine HC.out.mono ?_; rintro e w4 ⟨rfl, hs4, hk4⟩; have HR4 := mkHid (HR.out.step hk4 hs4); clear hs4 hk4 x3) | (go_at_call 21; refine (deadline_is w4 b _ m _ _ HR4.out.sb).mono ?_; rintro e w9 ⟨rfl, hw⟩; rw [hw]; clear hw) | (go_at_call 20; refine (budget_is w4 b _ m _ _ HR4.out.sb).mono ?_; rintro e w9 ⟨rfl, hw⟩; rw [hw]; clear hw) | (at_builtin; refine wpList_append_srcV _ rfl (.tmp 66) (.tmp 70) 45 45 rfl w3.heap.size 4 ie Tryd.underlying45 HIE.out.1 (.bool false) 1 HIE.out.2.1 rfl HIE.out.2.2.1 HIE.out.2.2.2 _ US.length (US.map Value.bool) rfl (HR4.out.alloc (.cells #[.bool (A1 == 1)] 4)).two.o1 (.slice (some ⟨w4.heap.size, 0, none⟩) 1 1) 1 [.bool (A1 == 1)] rfl (src_b1 w4 (A1 == 1)) (by have := HLN.out; unfold maxLen; omega) (by have := HLN.out; omega) (HR4.out.alloc (.cells #[.bool (A1 == 1)] 4)).two.sz ?_; intro v5 w5 ho5 hg5 hat5; have HR5 := mkHid ((HR4.out.alloc (.cells #[.bool (A1 == 1)] 4)).app1 ho5 hg5 hat5); clear ho5 hg5 hat5) | (go_at_call 17; refine (charge_yes w5 b _ m _ _ HR5.out.sb HRR.out HM.out.b0 HB2.out).mono ?_; rintro e w6 ⟨rfl, hs6, hk6⟩; have HR6 := mkHid (HR5.out.step hk6 hs6); clear hs6 hk6) | (at_builtin; refine wpList_append_srcV _ rfl (.tmp 72) (.tmp 87) 45 45 rfl w3.heap.size 4 ie Tryd.underlying45 HIE.out.1 (.bool false) 1 HIE.out.2.1 rfl HIE.out.2.2.1 HIE.out.2.2.2 _ VS.length (VS.map Value.bool) rfl (HR6.out.alloc (.cells #[.bool true] 4)).two.o2 (.slice (some ⟨w6.heap.size, 0, none⟩) 1 1) 1 [.bool true] rfl (src_b1 w6 true) (by have := HLN.out; unfold maxLen; omega) (by have := HLN.out; omega) (HR6.out.alloc (.cells #[.bool true] 4)).two.sz ?_; intro v7 w7 ho7 hg7 hat7; have HR7 := mkHid ((HR6.out.alloc (.cells #[.bool true] 4)).app2 ho7 hg7 hat7); clear ho7 hg7 hat7))
        go_roundw
        case rel => exact ⟨i + 1, _, by go_num, HSM.out.1, HSM.out.2, mkHid (by rw [HRU.out, HU1.out, HV1.out]; exact HR7.out)⟩
        case measure => exact HMu.out
      · have HRR := mkHid hr
        rw [hr] at HC HRU HV1
        clear hr
        go_wp2_with (first | (go_at_call 15; refine HC.out.mono ?_; rintro e w4 ⟨rfl, hs4, hk4⟩; have HR4 := mkHid (HR.out.step hk4 hs4); clear hs4 hk4 x3) | (go_at_call 21; refine (deadline_is w4 b _ m _ _ HR4.out.sb).mono ?_; rintro e w9 ⟨rfl, hw⟩; rw [hw]; clear hw) | (go_at_call 20; refine (budget_is w4 b _ m _ _ HR4.out.sb).mono ?_; rintro e w9 ⟨rfl, hw⟩; rw [hw]; clear hw) | (at_builtin; refine wpList_append_srcV _ rfl (.tmp 66) (.tmp 70) 45 45 rfl w3.heap.size 4 ie Tryd.underlying45 HIE.out.1 (.bool false) 1 HIE.out.2.1 rfl HIE.out.2.2.1 HIE.out.2.2.2 _ US.length (US.map Value.bool) rfl (HR4.out.alloc (.cells #[.bool (A1 == 1)] 4)).two.o1 (.slice (some ⟨w4.heap.size, 0, none⟩) 1 1) 1 [.bool (A1 == 1)] rfl (src_b1 w4 (A1 == 1)) (by have := HLN.out; unfold maxLen; omega) (by have := HLN.out; omega) (HR4.out.alloc (.cells #[.bool (A1 == 1)] 4)).two.sz ?_; intro v5 w5 ho5 hg5 hat5; have HR5 := mkHid ((HR4.out.alloc (.cells #[.bool (A1 == 1)] 4)).app1 ho5 hg5 hat5); clear ho5 hg5 hat5) | (go_at_call 17; refine (charge_yes w5 b _ m _ _ HR5.out.sb HRR.out HM.out.b0 HB2.out).mono ?_; rintro e w6 ⟨rfl, hs6, hk6⟩; have HR6 := mkHid (HR5.out.step hk6 hs6); clear hs6 hk6) | (at_builtin; refine wpList_append_srcV _ rfl (.tmp 72) (.tmp 87) 45 45 rfl w3.heap.size 4 ie Tryd.underlying45 HIE.out.1 (.bool false) 1 HIE.out.2.1 rfl HIE.out.2.2.1 HIE.out.2.2.2 _ VS.length (VS.map Value.bool) rfl (HR6.out.alloc (.cells #[.bool true] 4)).two.o2 (.slice (some ⟨w6.heap.size, 0, none⟩) 1 1) 1 [.bool true] rfl (src_b1 w6 true) (by have := HLN.out; unfold maxLen; omega) (by have := HLN.out; omega) (HR6.out.alloc (.cells #[.bool true] 4)).two.sz ?_; intro v7 w7 ho7 hg7 hat7; have HR7 := mkHid ((HR6.out.alloc (.cells #[.bool true] 4)).app2 ho7 hg7 hat7); clear ho7 hg7 hat7))
        go_roundw
        case rel => exact ⟨i + 1, _, by go_num, HSM.out.1, HSM.out.2, mkHid (by rw [HRU.out, HU1.out, HV1.out]; exact HR7.out)⟩
        case measure => exact HMu.out
      · have HRR := mkHid hr
        rw [hr] at HC HRU HV1
        clear hr
        go_wp2_with (first | (go_at_call 15; refine HC.out.mono ?_; rintro e w4 ⟨rfl, hs4, hk4⟩; have HR4 := mkHid (HR.out.step hk4 hs4); clear hs4 hk4 x3) | (go_at_call 21; refine (deadline_is w4 b _ m _ _ HR4.out.sb).mono ?_; rintro e w9 ⟨rfl, hw⟩; rw [hw]; clear hw) | (go_at_call 20; refine (budget_is w4 b _ m _ _ HR4.out.sb).mono ?_; rintro e w9 ⟨rfl, hw⟩; rw [hw]; clear hw) | (at_builtin; refine wpList_append_srcV _ rfl (.tmp 66) (.tmp 70) 45 45 rfl w3.heap.size 4 ie Tryd.underlying45 HIE.out.1 (.bool false) 1 HIE.out.2.1 rfl HIE.out.2.2.1 HIE.out.2.2.2 _ US.length (US.map Value.bool) rfl (HR4.out.alloc (.cells #[.bool (A1 == 1)] 4)).two.o1 (.slice (some ⟨w4.heap.size, 0, none⟩) 1 1) 1 [.bool (A1 == 1)] rfl (src_b1 w4 (A1 == 1)) (by have := HLN.out; unfold maxLen; omega) (by have := HLN.out; omega) (HR4.out.alloc (.cells #[.bool (A1 == 1)] 4)).two.sz ?_; intro v5 w5 ho5 hg5 hat5; have HR5 := mkHid ((HR4.out.alloc (.cells #[.bool (A1 == 1)] 4)).app1 ho5 hg5 hat5); clear ho5 hg5 hat5) | (at_builtin; refine wpList_append_srcV _ rfl (.tmp 72) (.tmp 87) 45 45 rfl w3.heap.size 4 ie Tryd.underlying45 HIE.out.1 (.bool false) 1 HIE.out.2.1 rfl HIE.out.2.2.1 HIE.out.2.2.2 _ VS.length (VS.map Value.bool) rfl (HR5.out.alloc (.cells #[.bool false] 4)).two.o2 (.slice (some ⟨w5.heap.size, 0, none⟩) 1 1) 1 [.bool false] rfl (src_b1 w5 false) (by have := HLN.out; unfold maxLen; omega) (by have := HLN.out; omega) (HR5.out.alloc (.cells #[.bool false] 4)).two.sz ?_; intro v7 w7 ho7 hg7 hat7; have HR7 := mkHid ((HR5.out.alloc (.cells #[.bool false] 4)).app2 ho7 hg7 hat7); clear ho7 hg7 hat7))
        go_roundw
        case rel => exact ⟨i + 1, _, by go_num, HSM.out.1, HSM.out.2, mkHid (by rw [HRU.out, HU1.out, HV1.out]; exact HR7.out)⟩
        case measure => exact HMu.out
    · have HLT := mkHid hlt
      have HLE := mkHid hi2
      have hex : ((i : Int) < ts.length ∧ 400 ≤ (i : Int)) ∨ ¬ (i : Int) < ts.length := by
        by_cases e : i < ts.length
        · exact .inl ⟨by omega, by have : ¬ i < 400 := fun h => hlt ⟨e, h⟩; omega⟩
        · exact .inr (by omega)
      have h400 : (i : Int) ≤ 400 := by omega
      have HL4 : Hid (LE W wr W.heap.size (k, q, t) m (.slice al ts.length cap) u5 u6 (wkR ts) (chdS (k, q, t) m (wkR ts) (chM ts m)) i) := mkHid ⟨HR.out.bel, HR.out.rb, by have := HR.out.two.o1; rw [len_map] at this; exact bw_of this, by have := HR.out.two.o2; rw [len_map] at this; exact bw_of this⟩
      obtain ⟨pa, pc, hpp⟩ : ∃ pa pc, u5 = .slice pa i pc := (by obtain ⟨ra, rc, e, _⟩ := HL4.out.b1; exact ⟨ra, rc, e⟩)
      obtain ⟨ra, rc, hrr⟩ : ∃ ra rc, u6 = .slice ra i rc := (by obtain ⟨ra, rc, e, _⟩ := HL4.out.b2; exact ⟨ra, rc, e⟩)
      subst hpp
      subst hrr
      have hel : ((i : Int) < ts.length ∧ ∃ bb off z, al = some ⟨bb, off, none⟩ ∧ wr.cell? ⟨bb, off + i, none⟩ = some (.int .i64 z)) ∨ ¬ (i : Int) < ts.length := by
        rcases hex with ⟨e1, e2⟩ | e
        · obtain ⟨bb, off, z, e3, _, hcell⟩ := HI.out.at HR.out.bel i (by omega)
          exact .inl ⟨e1, bb, off, z, e3, hcell⟩
        · exact .inr e
      clear HR hi hlt
      generalize chdS (k, q, t) m (wkR ts) (chM ts m) = f at *
      generalize wkR ts = wf at *
      rcases hex with ⟨hli, hlj⟩ | hli
      · rcases hel with ⟨_, bb, off, z, rfl, hcell⟩ | he2
        · clear hi2
          go_wp2
          have HLc := HL4
          clear HL4 hcell
          go_loopw [92] (fun iv wr2 => ∃ (x : Nat), iv = .int .i64 (x : Int) ∧ x ≤ i ∧ Hid (LE W wr2 W.heap.size (k, q, t) m (.slice (some ⟨bb, off, none⟩) ts.length cap) (.slice pa i pc) (.slice ra i rc) wf f i)) (fun iv _ => i - (intOf iv).toNat)
          case atStart => exact ⟨0, rfl, by omega, HLc⟩
          case round =>
            clear HLc
            obtain ⟨x, rfl, hx, HL⟩ := hrel
            by_cases hlt : x < i
            · have hxi : (x : Int) < i := by omega
              go_wp2
              go_loopw [13, 14] (fun nv jv wr3 => ∃ (j : Nat), nv = .int .i64 (cnt f x j) ∧ jv = .int .i64 ((x + j : Nat) : Int) ∧ x + j ≤ i ∧ Hid (∀ l, l < j → wf (x + l) = true) ∧ Hid (LE W wr3 W.heap.size (k, q, t) m (.slice (some ⟨bb, off, none⟩) ts.length cap) (.slice pa i pc) (.slice ra i rc) wf f i)) (fun _ jv _ => i - (intOf jv).toNat)
              case atStart => exact ⟨0, rfl, by simp, by omega, mkHid (fun l hl => by omega), HL⟩
              case round =>
                clear HL
                obtain ⟨j, rfl, rfl, hj, HW, HL⟩ := hrel
                have HMx : Hid (i - (x + 1) < i - x) := mkHid (by omega)
                have HXL : Hid (x + 1 ≤ i) := mkHid (by omega)
                by_cases hjt : x + j < i
                · obtain ⟨pg, hpg, hcp⟩ := HL.out.b1.at hjt
                  obtain ⟨rg, hrg, hcr⟩ := HL.out.b2.at hjt
                  subst hpg
                  subst hrg
                  have hji : ((x + j : Nat) : Int) < i := by omega
                  cases hwf : wf (x + j)
                  · rw [hwf] at hcp
                    generalize x + j = Y at *
                    clear hjt hj hwf hcr HW
                    go_wp2
                    go_roundw
                    case rel => exact ⟨x + 1, by go_num, HXL.out, HL⟩
                    case measure => exact HMx.out
                  · have HW2 : Hid (∀ l, l < j + 1 → wf (x + l) = true) := mkHid (fun l hl => by
                      by_cases e : l = j
                      · subst e; exact hwf
                      · exact HW.out l (by omega))
                    have hd := HD.out x (j + 1) HW2.out
                    have hsn := HSBN.out ((j + 1 : Nat) : Int)
                    have HBC := mkHid (HBD.out wr ((j + 1 : Nat) : Int) (by omega) (by omega))
                    have C0 := cnt_nonneg f x j
                    have C1 := cnt_le f x j
                    have C2 : cnt f x j ≤ 400 := by omega
                    have x0 := HL.out.rb.c0
                    have x1 := HL.out.rb.c1
                    have x2 := HL.out.rb.c2
                    generalize sb (gS (k, q, t)) (dS (k, q, t)) (qS (k, q, t)) ((j + 1 : Nat) : Int) = V at *
                    have e1 : IntKind.i64.wrap (((x + j : Nat) : Int) - (x : Int)) = (j : Int) := by rw [show ((x + j : Nat) : Int) - (x : Int) = (j : Int) by omega]; exact wfit (by omega) (by omega)
                    obtain ⟨J1, hJ1⟩ : ∃ J1, ((j + 1 : Nat) : Int) = J1 := ⟨_, rfl⟩
                    rw [hJ1] at HBC
                    have e2 : IntKind.i64.wrap ((j : Int) + 1) = J1 := by rw [← hJ1]; exact wfit (by omega) (by omega)
                    have HSM : Hid (x + (j + 1) ≤ i) := mkHid (by omega)
                    have HMu : Hid (i - (x + (j + 1)) < i - (x + j)) := mkHid (by omega)
                    have HXJ : Hid (((x + (j + 1) : Nat) : Int) = ((x + j : Nat) : Int) + 1) := mkHid (by omega)
                    rw [hwf] at hcp
                    clear hJ1 hwf
                    cases hf : f (x + j)
                    · rw [cnt_no hf] at hd
                      rw [hf] at hcr
                      have HCN := mkHid (cnt_no hf)
                      clear hf
                      generalize hY : x + j = Y at *
                      have HY := mkHid hY
                      have Y1 : (Y : Int) ≤ 400 := by omega
                      clear hjt hj hlt hx C1 hY
                      generalize cnt f x j = C at *
                      have hd2 : decide (C < V) = false := decide_eq_false (by omega)
                      clear hd
                      go_wp2_with (go_at_call 25; refine HBC.out.mono ?_; rintro e w8 ⟨rfl, b8⟩; have HL8 := mkHid (HL.out.hold b8); clear b8)
                      go_roundw
                      case rel => exact ⟨j + 1, by rw [HCN.out], by rw [HXJ.out], HSM.out, HW2, HL8⟩
                      case measure => have := HMu.out; have := HY.out; simp [intOf]; omega
                    · rw [cnt_yes hf] at hd
                      rw [hf] at hcr
                      have HCN := mkHid (cnt_yes hf)
                      clear hf
                      generalize hY : x + j = Y at *
                      have HY := mkHid hY
                      have Y1 : (Y : Int) ≤ 400 := by omega
                      clear hjt hj hlt hx C1 hY
                      generalize cnt f x j = C at *
                      have hd2 : decide (C + 1 < V) = false := decide_eq_false (by omega)
                      have e7 : IntKind.i64.wrap (C + 1) = C + 1 := wfit (by omega) (by omega)
                      clear hd
                      go_wp2_with (go_at_call 25; refine HBC.out.mono ?_; rintro e w8 ⟨rfl, b8⟩; have HL8 := mkHid (HL.out.hold b8); clear b8)
                      go_roundw
                      case rel => exact ⟨j + 1, by rw [HCN.out], by rw [HXJ.out], HSM.out, HW2, HL8⟩
                      case measure => have := HMu.out; have := HY.out; simp [intOf]; omega
                · have hge : ¬ ((x + j : Nat) : Int) < i := by omega
                  generalize x + j = Y at *
                  clear hjt hj
                  go_wp2
                  go_roundw
                  case rel => exact ⟨x + 1, by go_num, HXL.out, HL⟩
                  case measure => exact HMx.out
            · have hge : ¬ (x : Int) < i := by omega
              clear hlt
              go_wp2
              go_ret
              exact ⟨rfl, HL.out.bel⟩
        · exact absurd hli he2
      · clear hi2 hel
        go_wp2
        have HLc := HL4
        clear HL4
        go_loopw [92] (fun iv wr2 => ∃ (x : Nat), iv = .int .i64 (x : Int) ∧ x ≤ i ∧ Hid (LE W wr2 W.heap.size (k, q, t) m (.slice al ts.length cap) (.slice pa i pc) (.slice ra i rc) wf f i)) (fun iv _ => i - (intOf iv).toNat)
        case atStart => exact ⟨0, rfl, by omega, HLc⟩
        case round =>
          clear HLc
          obtain ⟨x, rfl, hx, HL⟩ := hrel
          by_cases hlt : x < i
          · have hxi : (x : Int) < i := by omega
            go_wp2
            go_loopw [13, 14] (fun nv jv wr3 => ∃ (j : Nat), nv = .int .i64 (cnt f x j) ∧ jv = .int .i64 ((x + j : Nat) : Int) ∧ x + j ≤ i ∧ Hid (∀ l, l < j → wf (x + l) = true) ∧ Hid (LE W wr3 W.heap.size (k, q, t) m (.slice al ts.length cap) (.slice pa i pc) (.slice ra i rc) wf f i)) (fun _ jv _ => i - (intOf jv).toNat)
            case atStart => exact ⟨0, rfl, by simp, by omega, mkHid (fun l hl => by omega), HL⟩
            case round =>
              clear HL
              obtain ⟨j, rfl, rfl, hj, HW, HL⟩ := hrel
              have HMx : Hid (i - (x + 1) < i - x) := mkHid (by omega)
              have HXL : Hid (x + 1 ≤ i) := mkHid (by omega)
              by_cases hjt : x + j < i
              · obtain ⟨pg, hpg, hcp⟩ := HL.out.b1.at hjt
                obtain ⟨rg, hrg, hcr⟩ := HL.out.b2.at hjt
                subst hpg
                subst hrg
                have hji : ((x + j : Nat) : Int) < i := by omega
                cases hwf : wf (x + j)
                · rw [hwf] at hcp
                  generalize x + j = Y at *
                  clear hjt hj hwf hcr HW
                  go_wp2
                  go_roundw
                  case rel => exact ⟨x + 1, by go_num, HXL.out, HL⟩
                  case measure => exact HMx.out
                · have HW2 : Hid (∀ l, l < j + 1 → wf (x + l) = true) := mkHid (fun l hl => by
                    by_cases e : l = j
                    · subst e; exact hwf
                    · exact HW.out l (by omega))
                  have hd := HD.out x (j + 1) HW2.out
                  have hsn := HSBN.out ((j + 1 : Nat) : Int)
                  have HBC := mkHid (HBD.out wr ((j + 1 : Nat) : Int) (by omega) (by omega))
                  have C0 := cnt_nonneg f x j
                  have C1 := cnt_le f x j
                  have C2 : cnt f x j ≤ 400 := by omega
                  have x0 := HL.out.rb.c0
                  have x1 := HL.out.rb.c1
                  have x2 := HL.out.rb.c2
                  generalize sb (gS (k, q, t)) (dS (k, q, t)) (qS (k, q, t)) ((j + 1 : Nat) : Int) = V at *
                  have e1 : IntKind.i64.wrap (((x + j : Nat) : Int) - (x : Int)) = (j : Int) := by rw [show ((x + j : Nat) : Int) - (x : Int) = (j : Int) by omega]; exact wfit (by omega) (by omega)
                  obtain ⟨J1, hJ1⟩ : ∃ J1, ((j + 1 : Nat) : Int) = J1 := ⟨_, rfl⟩
                  rw [hJ1] at HBC
                  have e2 : IntKind.i64.wrap ((j : Int) + 1) = J1 := by rw [← hJ1]; exact wfit (by omega) (by omega)
                  have HSM : Hid (x + (j + 1) ≤ i) := mkHid (by omega)
                  have HMu : Hid (i - (x + (j + 1)) < i - (x + j)) := mkHid (by omega)
                  have HXJ : Hid (((x + (j + 1) : Nat) : Int) = ((x + j : Nat) : Int) + 1) := mkHid (by omega)
                  rw [hwf] at hcp
                  clear hJ1 hwf
                  cases hf : f (x + j)
                  · rw [cnt_no hf] at hd
                    rw [hf] at hcr
                    have HCN := mkHid (cnt_no hf)
                    clear hf
                    generalize hY : x + j = Y at *
                    have HY := mkHid hY
                    have Y1 : (Y : Int) ≤ 400 := by omega
                    clear hjt hj hlt hx C1 hY
                    generalize cnt f x j = C at *
                    have hd2 : decide (C < V) = false := decide_eq_false (by omega)
                    clear hd
                    go_wp2_with (go_at_call 25; refine HBC.out.mono ?_; rintro e w8 ⟨rfl, b8⟩; have HL8 := mkHid (HL.out.hold b8); clear b8)
                    go_roundw
                    case rel => exact ⟨j + 1, by rw [HCN.out], by rw [HXJ.out], HSM.out, HW2, HL8⟩
                    case measure => have := HMu.out; have := HY.out; simp [intOf]; omega
                  · rw [cnt_yes hf] at hd
                    rw [hf] at hcr
                    have HCN := mkHid (cnt_yes hf)
                    clear hf
                    generalize hY : x + j = Y at *
                    have HY := mkHid hY
                    have Y1 : (Y : Int) ≤ 400 := by omega
                    clear hjt hj hlt hx C1 hY
                    generalize cnt f x j = C at *
                    have hd2 : decide (C + 1 < V) = false := decide_eq_false (by omega)
                    have e7 : IntKind.i64.wrap (C + 1) = C + 1 := wfit (by omega) (by omega)
                    clear hd
                    go_wp2_with (go_at_call 25; refine HBC.out.mono ?_; rintro e w8 ⟨rfl, b8⟩; have HL8 := mkHid (HL.out.hold b8); clear b8)
                    go_roundw
                    case rel => exact ⟨j + 1, by rw [HCN.out], by rw [HXJ.out], HSM.out, HW2, HL8⟩
                    case measure => have := HMu.out; have := HY.out; simp [intOf]; omega
              · have hge : ¬ ((x + j : Nat) : Int) < i := by omega
                generalize x + j = Y at *
                clear hjt hj
                go_wp2
                go_roundw
                case rel => exact ⟨x + 1, by go_num, HXL.out, HL⟩
                case measure => exact HMx.out
          · have hge : ¬ (x : Int) < i := by omega
            clear hlt
            go_wp2
            go_ret
            exact ⟨rfl, HL.out.bel⟩
end Go.Proofs.YtdkjoedebjinkaaDoor
