/- QueueLeast. -/
import Derived.Test.YtjlmkmhggkcbhaaDoorQleast
import Derived.Test.YtjlmkmhggkcbhaaDoorQsame
import Derived.Test.YtjlmkmhggkcbhaaDoorQsorts2
import Derived.Laws.Small
namespace Go.Proofs.YtjlmkmhggkcbhaaDoor
open Go.ChangeShapes Go.WideShapes Go.ChangeAt Go.RowKit
set_option maxRecDepth 100000

theorem Qp.fresh {w wr w' : World} {p : Nat} {V : List Th} {Pr Ps : Nat → Prop} (h : Qp w wr p V Pr) (hw : Below wr.heap.size wr w') (hs : ∀ k, Ps k → wr.heap.size ≤ k ∧ k < w'.heap.size) : Qp w w' p V Ps := by
  obtain ⟨⟨F, h1, h2, h3⟩, h4⟩ := h
  exact ⟨⟨F, h1.below hw, h2, fun k hk => ⟨fun f => by have := h1.lt k f; have := hs k hk; omega, (hs k hk).2⟩⟩, h4.trans (hw.mono h4.size)⟩
theorem qp_list {w wr : World} {p : Nat} {V : List Th} {Pr : Nat → Prop} (h : Qp w wr p V Pr) (hl : V.length ≤ 4096) :
    Calls Tryd.prog 24 #[.pointer (some ⟨p, 0, none⟩)] wr fun e w' => ∃ a c, e = .returned (.slice a V.length c) ∧ Hid ((0 < V.length → ∃ g, a = some ⟨g, 0, none⟩ ∧ TR w' g (srtd V) ∧ wr.heap.size ≤ g ∧ g < w'.heap.size) ∧ Below wr.heap.size wr w') := by
  obtain ⟨⟨F, h1, _⟩, _⟩ := h
  exact list_is F wr p V h1 hl
theorem Qp.start {w w1 w2 : World} {p : Nat} (h : ∃ F, Qu F w2 p [] ∧ (∀ k, F k → w1.heap.size ≤ k) ∧ Below w1.heap.size w1 w2) (hb : Below w.heap.size w w1) : Qp w w2 p [] (fun _ => False) := by
  obtain ⟨F, q1, q2, q3⟩ := h
  exact ⟨⟨F, q1, fun k hk => Nat.le_trans hb.size (q2 k hk), fun k hk => hk.elim⟩, hb.trans (q3.mono hb.size)⟩
theorem lcount_all (l : Nat) : lcount (l : Int) l = l := by unfold lcount; split <;> omega
theorem lcount_min (n : Int) (l : Nat) : min (max n 0) (l : Int) = (lcount n l : Int) := by unfold lcount; split <;> omega
theorem lcount_le (n : Int) (l : Nat) : lcount n l ≤ l := by unfold lcount; split <;> omega
theorem MemTo.perm {rs : List Int} {V : List Th} (h : MemTo rs rs.length V) (hn : V.Nodup) : V.Perm (prs rs) :=
  (List.perm_ext_iff_of_nodup hn (prs_nodup rs)).mpr (fun x => (h x).trans prs_mem.symm)
theorem drop_gt {ys : List Th} {i : Nat} (h : i < ys.length) : ys.drop i = gt ys i :: ys.drop (i + 1) := by
  rw [gt_get h]
  exact List.drop_eq_getElem_cons h
theorem leastL_take (rs : List Int) (n : Int) : leastL rs n = (leastL rs (rs.length : Int)).take (lcount n rs.length) := by
  unfold leastL
  rw [lcount_all, List.take_take]
  congr 1
  have := lcount_le n rs.length
  omega
theorem IR.sl {w : World} {xs : List Int} {a : Option Addr} {c : Nat} (h : 0 < xs.length → ∃ g, a = some ⟨g, 0, none⟩ ∧ IR w g xs) : Sl w (.slice a xs.length c) xs := by
  refine ⟨a, c, rfl, fun hp => ?_⟩
  obtain ⟨g, rfl, hr⟩ := h hp
  exact ⟨g, 0, rfl, fun i hi => by rw [Nat.zero_add]; exact (hr i hi).1⟩
theorem some_sl {w : World} {rs : List Int} {n : Int} {k c : Nat} {a : Option Addr} {B C : Nat} (hk : k = lcount n rs.length) (h : 0 < k → ∃ g, a = some ⟨g, 0, none⟩ ∧ IR w g (leastL rs n) ∧ B ≤ g ∧ g < C) : Sl w (.slice a k c) (leastL rs n) := by
  have hl : (leastL rs n).length = k := by rw [leastL_len, hk]
  refine ⟨a, c, by rw [hl], fun hp => ?_⟩
  obtain ⟨g, rfl, hr, _⟩ := h (by omega)
  exact ⟨g, 0, rfl, fun i hi => by rw [Nat.zero_add]; exact (hr i hi).1⟩
theorem cut_sl {w w' : World} {rs : List Int} {n : Int} {k c : Nat} {a : Option Addr} {B C : Nat} (hk : k = lcount n rs.length) (h : 0 < rs.length → ∃ g, a = some ⟨g, 0, none⟩ ∧ IR w g (leastL rs (rs.length : Int)) ∧ B ≤ g ∧ g < C) (hb : Below w.heap.size w w') : Sl w' (.slice a k c) (leastL rs n) := by
  have hl : (leastL rs n).length = k := by rw [leastL_len, hk]
  have hle := lcount_le n rs.length
  refine ⟨a, c, by rw [hl], fun hp => ?_⟩
  obtain ⟨g, rfl, hr, _⟩ := h (by omega)
  refine ⟨g, 0, rfl, fun i hi => ?_⟩
  rw [Nat.zero_add]
  have hi' : i < lcount n rs.length := by omega
  have h1 := (hr i (by rw [leastL_len, lcount_all]; omega)).1
  rw [leastL_at (by rw [lcount_all]; omega)] at h1
  rw [leastL_at hi']
  exact bcell hb h1
set_option maxHeartbeats 6400000 in
theorem least_walk (w : World) (v0 : Value) (rs : List Int) (n : Int) (ea : Addr) (text : List UInt8) (h0 : IRd w v0 rs) (E0 : Err w 0 text ea) :
    Calls Tryd.prog 7 #[v0, .int .i64 n] w fun e w' => e = .returned (.bool true) ∧ Below w.heap.size w w' := by
  obtain ⟨a0, c0, rfl, hb0, hx0⟩ := id h0
  have H0 := mkHid h0
  have HE := mkHid E0.1
  have heq := fun W' => E0.eq W'
  have HEQ := mkHid heq
  clear h0 E0 heq hx0
  by_cases hbig : (4096 : Int) < rs.length
  · go_enter Tryd.func7, Tryd.ntmps7
    go_wp2_with (first | (go_at_call 8; refine (alive_q _).mono ?_; rintro e w1 ⟨rfl, hb1'⟩; have HB1 := mkHid hb1'; clear hb1'))
    go_ret
    exact ⟨rfl, HB1.out⟩
  · have HS : Hid (rs.length ≤ 4096) := mkHid (by omega)
    go_enter Tryd.func7, Tryd.ntmps7
    go_wp2_with (first
      | (go_at_call 8; refine (alive_q _).mono ?_; rintro e w1 ⟨rfl, hb1'⟩; have HB1 := mkHid hb1'; clear hb1')
      | (go_at_call 9; refine (new_is w1).mono ?_; rintro e w2 ⟨p, rfl, hq⟩; have HQ2 := mkHid (Qp.start hq.out HB1.out); clear hq))
    clear hbig
    go_loopw [26] (fun iv wr => ∃ (j : Nat) (V : List Th), iv = .int .i64 (j : Int) ∧ j ≤ rs.length ∧ Qp w wr p V (fun _ => False) ∧ MemTo rs j V ∧ V.length = j) (fun iv _ => rs.length - (intOf iv).toNat)
    case atStart => exact ⟨0, [], rfl, Nat.zero_le _, HQ2.out, fun x => by simp, rfl⟩
    case round =>
      clear HQ2
      obtain ⟨j, V, rfl, hj, hQ, hM, hV⟩ := hrel
      have HQ := mkHid hQ
      have HM := mkHid hM
      have HV := mkHid hV
      clear hQ hM hV
      by_cases hlt : j < rs.length
      · obtain ⟨b, off, rfl, x0⟩ := H0.out.at HQ.out.2 j hlt
        have hji : (j : Int) < rs.length := by omega
        obtain ⟨x, hx⟩ : ∃ x, x = rs.getD j 0 := ⟨_, rfl⟩
        rw [← hx] at x0
        have HX := mkHid hx
        clear hx
        go_wp2_with (first
          | (go_at_call 18; refine (qp_push HQ.out (j : Int) x (fun y hy e => by obtain ⟨k, hk, a, _⟩ := (HM.out y).mp hy; omega) (by have := HV.out; have := HS.out; omega)).mono ?_; rintro e w3 ⟨rfl, hq⟩; obtain ⟨V', q1, q2, q3, q4⟩ := hq.out; have HQ3 := mkHid q1; have HM3 := mkHid q2; have HV3 : Hid (V'.length = j + 1) := mkHid (by rw [q3, HV.out]); have HV4 : Hid ((V'.length : Int) = (j : Int) + 1) := mkHid (by rw [q3, HV.out]; rfl); clear hq q1 q2 q3 q4)
          | (go_at_call 23; have hlen := qp_len HQ3.out; rw [HV4.out] at hlen; refine hlen.mono ?_; clear hlen; rintro e w4 ⟨rfl, rfl⟩))
        go_roundw
        case rel => exact ⟨j + 1, V', by go_num, by omega, HQ3.out, HM.out.push (by rw [← HX.out]; exact HM3.out), HV3.out⟩
        case measure => simp [intOf]; omega
      · obtain rfl : j = rs.length := by omega
        have HP := mkHid (HM.out.perm HQ.out.nodup)
        have hlist := qp_list HQ.out (by rw [HV.out]; exact HS.out)
        rw [HV.out, srtd_congr HP.out] at hlist
        have HLIST := mkHid hlist
        obtain ⟨k, hk⟩ : ∃ k, k = lcount n rs.length := ⟨_, rfl⟩
        have HK := mkHid hk
        have hmm : min (max n 0) (rs.length : Int) = (k : Int) := by rw [hk]; exact lcount_min n rs.length
        have HLB1 : Hid (∀ W, Below w.heap.size w W → Calls Tryd.prog 12 #[.slice a0 rs.length c0, .int .i64 (rs.length : Int)] W fun e w' => ∃ a c, e = .returned (.slice a rs.length c) ∧ Hid ((0 < rs.length → ∃ g, a = some ⟨g, 0, none⟩ ∧ IR w' g (leastL rs (rs.length : Int)) ∧ W.heap.size ≤ g ∧ g < w'.heap.size) ∧ (a = none → c = 0) ∧ rs.length ≤ c ∧ Below W.heap.size W w')) := mkHid (fun W hW => by
          have := least_is W (.slice a0 rs.length c0) rs (rs.length : Int) (H0.out.later hW) (by have := HS.out; omega)
          rw [lcount_all] at this
          exact this)
        have HLB2 : Hid (∀ W, Below w.heap.size w W → Calls Tryd.prog 12 #[.slice a0 rs.length c0, .int .i64 n] W fun e w' => ∃ a c, e = .returned (.slice a k c) ∧ Hid ((0 < k → ∃ g, a = some ⟨g, 0, none⟩ ∧ IR w' g (leastL rs n) ∧ W.heap.size ≤ g ∧ g < w'.heap.size) ∧ (a = none → c = 0) ∧ k ≤ c ∧ Below W.heap.size W w')) := mkHid (fun W hW => by
          have := least_is W (.slice a0 rs.length c0) rs n (H0.out.later hW) (by have := HS.out; omega)
          rw [← hk] at this
          exact this)
        have hkl : (k : Int) ≤ rs.length := by have := lcount_le n rs.length; omega
        have M1 : Hid True := mkHid trivial
        clear hlist hk
        go_wp2_with (first
          | (go_at_call 24; refine HLIST.out.mono ?_; rintro e w1' ⟨la, lc, rfl, h1⟩; have HL1 := h1; have HB1' : Hid (Below w.heap.size w w1') := mkHid (HQ.out.2.trans (h1.out.2.mono HQ.out.2.size)); clear h1)
          | (go_at_call 12; clear M1; refine (HLB1.out w1' HB1'.out).mono ?_; rintro e w2' ⟨ma, mc, rfl, h1⟩; have HL2 := h1; have HB2' : Hid (Below w.heap.size w w2') := mkHid (HB1'.out.trans (h1.out.2.2.2.mono HB1'.out.size)); have hmc : (rs.length : Int) ≤ mc := (by have := h1.out.2.2.1; omega); clear h1)
          | (go_at_call 12; refine (HLB2.out w2' HB2'.out).mono ?_; rintro e w3' ⟨sa, sc, rfl, h1⟩; have HL3 := h1; have HB3' : Hid (Below w.heap.size w w3') := mkHid (HB2'.out.trans (h1.out.2.2.2.mono HB2'.out.size)); clear h1)
          | (go_at_call 13; refine (same_true w3' _ _ (leastL rs n) (some_sl HK.out HL3.out.1) (cut_sl HK.out HL2.out.1 HL3.out.2.2.2) (by rw [leastL_len, ← HK.out]; have := HS.out; omega)).mono ?_; rintro e w4' ⟨rfl, h1⟩; have HB4' := mkHid h1; clear h1))
        clear HLIST HLB1 HLB2 hmm
        have HPs : Hid (Qp w w4' p V (fun k => wr.heap.size ≤ k ∧ k < w4'.heap.size)) := mkHid (HQ.out.fresh (HL1.out.2.trans ((HL2.out.2.2.2.mono HL1.out.2.size).trans ((HL3.out.2.2.2.mono (Nat.le_trans HL1.out.2.size HL2.out.2.2.2.size)).trans (HB4'.out.mono (Nat.le_trans HL1.out.2.size (Nat.le_trans HL2.out.2.2.2.size HL3.out.2.2.2.size)))))) (fun k hk => hk))
        have HROWS : Hid (0 < rs.length → ∃ g m, la = some ⟨g, 0, none⟩ ∧ ma = some ⟨m, 0, none⟩ ∧ (wr.heap.size ≤ g ∧ g < w4'.heap.size) ∧ (wr.heap.size ≤ m ∧ m < w4'.heap.size) ∧ TR w4' g (srtd (prs rs)) ∧ IR w4' m (leastL rs (rs.length : Int))) := mkHid (fun hp => by
          obtain ⟨g, e1, t1, g1, g2⟩ := HL1.out.1 hp
          obtain ⟨m, e2, t2, m1, m2⟩ := HL2.out.1 hp
          have s1 := HL1.out.2.size
          have b2 := HL2.out.2.2.2
          have b3 := HL3.out.2.2.2
          have b4 := HB4'.out
          have s2 := b2.size
          have s3 := b3.size
          have s4 := b4.size
          refine ⟨g, m, e1, e2, ⟨g1, by omega⟩, ⟨by omega, by omega⟩, fun i hi => ?_, fun i hi => ?_⟩
          · obtain ⟨⟨c1, c2⟩, c3, c4⟩ := t1 i hi
            exact ⟨⟨bcell b4 (bcell b3 (bcell b2 c1)), bcell b4 (bcell b3 (bcell b2 c2))⟩, bfrozen b4 (show g < _ by omega) (bfrozen b3 (show g < _ by omega) (bfrozen b2 g2 c3)), bfrozen b4 (show g < _ by omega) (bfrozen b3 (show g < _ by omega) (bfrozen b2 g2 c4))⟩
          · obtain ⟨c1, c2⟩ := t2 i hi
            exact ⟨bcell b4 (bcell b3 c1), bfrozen b4 (show m < _ by omega) (bfrozen b3 m2 c2)⟩)
        obtain ⟨Ps, hPs⟩ : ∃ Ps : Nat → Prop, Ps = (fun k => wr.heap.size ≤ k ∧ k < w4'.heap.size) := ⟨_, rfl⟩
        rw [← hPs] at HPs
        have HPS := mkHid hPs
        clear hPs HL1 HL2 HL3
        go_loopw [86] (fun iv wr' => ∃ (i : Nat) (V' : List Th), iv = .int .i64 (i : Int) ∧ i ≤ rs.length ∧ Qp w wr' p V' Ps ∧ V'.Perm ((srtd (prs rs)).drop i) ∧ Pk Ps w4' wr') (fun iv _ => rs.length - (intOf iv).toNat)
        case atStart => exact ⟨0, V, rfl, Nat.zero_le _, HPs.out, HP.out.trans (srtd_perm _).symm, Pk.below Ps (Below.refl _ _)⟩
        case round =>
          clear HPs HQ HM HV HP
          obtain ⟨i, V', rfl, hi, hQ, hP, hK⟩ := hrel
          have HQ := mkHid hQ
          have HP := mkHid hP
          have HKK := mkHid hK
          clear hQ hP hK
          by_cases hlt : i < rs.length
          · obtain ⟨g, m, rfl, rfl, hg, hm, ht, hr⟩ := HROWS.out (by omega)
            have his : i < (srtd (prs rs)).length := by rw [srtd_len, prs_len]; exact hlt
            have hd := HP.out
            rw [drop_gt his] at hd
            have hsr : Srt (gt (srtd (prs rs)) i :: (srtd (prs rs)).drop (i + 1)) := by rw [← drop_gt his]; exact (srtd_srt _).drop i
            have hfst := first_is hd hsr (fun z hz => HQ.out.first hz)
            have hmem : gt (srtd (prs rs)) i ∈ prs rs := (srtd_perm _).mem_iff.mp (mem_gt.mpr ⟨i, his, rfl⟩)
            obtain ⟨q, hq, hq1, hq2⟩ := prs_mem.mp hmem
            obtain ⟨r, hr'⟩ : ∃ r, r = rs.getD q 0 := ⟨_, rfl⟩
            have hy : gt (srtd (prs rs)) i = ((q : Int), r) := Prod.ext hq1 (by rw [hq2, hr'])
            obtain ⟨⟨t0', t1'⟩, _⟩ := ht i his
            have m0' := (hr i (by rw [leastL_len, lcount_all]; exact hlt)).1
            rw [leastL_at (by rw [lcount_all]; exact hlt)] at m0'
            rw [hy] at t0' t1' m0' hfst hd
            obtain ⟨b, off, rfl, x0'⟩ := H0.out.at (Below.refl _ w) q hq
            rw [← hr'] at x0'
            have hgP : Ps g := by rw [HPS.out]; exact hg
            have hmP : Ps m := by rw [HPS.out]; exact hm
            have t0 := HKK.out.cell t0' hgP
            have t1 := HKK.out.cell t1' hgP
            have m0 := HKK.out.cell m0' hmP
            have x0 := bcell HQ.out.2 x0'
            have hvl : 0 < V'.length := by rw [hd.length_eq]; simp
            have hvl2 : V'.length ≤ 4096 := by have h1 := HP.out.length_eq; rw [List.length_drop, srtd_len, prs_len] at h1; have := HS.out; omega
            have HPOP : Hid (Calls Tryd.prog 21 #[.pointer (some ⟨p, 0, none⟩)] wr fun e w' => e = .returned (.tuple #[.agg #[.int .i64 (q : Int), .int .i64 r], .nilIface]) ∧ Hid (∃ V'', Qp w w' p V'' Ps ∧ (∀ y, y ∈ V'' ↔ y ∈ V' ∧ y.1 ≠ (q : Int)) ∧ V''.length + 1 = V'.length ∧ Pk Ps wr w')) := mkHid (by
              have := qp_pop HQ.out hvl hvl2
              rw [hfst] at this
              exact this)
            have HD := mkHid hd
            have HGM := mkHid (And.intro hgP hmP)
            have HX0 := mkHid x0'
            have hii : (i : Int) < rs.length := by omega
            have hqi : (q : Int) < rs.length := by omega
            have REST : ∀ w3, Qp w w3 p [] Ps ∨ True → Below w.heap.size w w3 → Pk Ps wr w3 → Hid (w3.cell? ⟨g, i * 2, none⟩ = some (.int .i64 (q : Int)) ∧ w3.cell? ⟨g, i * 2 + 1, none⟩ = some (.int .i64 r) ∧ w3.cell? ⟨m, i, none⟩ = some (.int .i64 (q : Int)) ∧ w3.cell? ⟨b, off + q, none⟩ = some (.int .i64 r)) := fun w3 _ hb hk => mkHid ⟨hk.cell t0 hgP, hk.cell t1 hgP, hk.cell m0 hmP, bcell hb x0'⟩
            have HREST := mkHid REST
            clear REST ht hr hg hm his hd hsr hfst hmem hq hq1 hq2 hr' hy t0' t1' m0' t0 t1 m0 x0 x0' hgP hmP hvl hvl2
            go_wp2_with (first | (go_at_call 21; refine HPOP.out.mono ?_; rintro e w3 ⟨rfl, hq⟩; have HQ3 := hq; obtain ⟨V'', q1, q2, q3, q4⟩ := hq.out; obtain ⟨c1, c2, c3, c4⟩ := (HREST.out w3 (.inr trivial) q1.2 q4).out; clear hq q1 q2 q3 q4))
            obtain ⟨W4, hW4⟩ : ∃ W4, W4 = w3.alloc (.cells #[.int .i64 (q : Int), .int .i64 r] 52) := ⟨_, rfl⟩
            have hb4 : Below w3.heap.size w3 W4 := by rw [hW4]; exact (Below.refl _ w3).alloc (Nat.le_refl _) _
            have s0 : W4.cell? ⟨w3.heap.size, 0, none⟩ = some (.int .i64 (q : Int)) := by rw [hW4]; simp
            have s1 : W4.cell? ⟨w3.heap.size, 1, none⟩ = some (.int .i64 r) := by rw [hW4]; simp
            have d1 := bcell hb4 c1
            have d2 := bcell hb4 c2
            have d3 := bcell hb4 c3
            have d4 := bcell hb4 c4
            have HB4 := mkHid hb4
            rw [← hW4]
            clear hW4 hb4 c1 c2 c3 c4 HPOP HREST
            go_quiet (fail)
            go_wp2
            go_roundw
            case rel =>
              obtain ⟨V'', q1, q2, q3, q4⟩ := HQ3.out
              have hbd : Below W4.heap.size W4 (W4.drewN nq) := ⟨rfl, rfl, rfl, Nat.le_refl _, fun _ _ => rfl⟩
              exact ⟨i + 1, V'', by go_num, by omega, (q1.below HB4.out).below hbd, rest_is HD.out q1.nodup HQ.out.nodup (fun a ha b hb e => HQ.out.inj ha hb e) q2, ((HKK.out.trans q4).trans (Pk.below _ HB4.out)).trans (Pk.below _ hbd)⟩
            case measure => simp [intOf]; omega
          · obtain rfl : i = rs.length := by omega
            have hv : V' = [] := by
              refine List.eq_nil_of_length_eq_zero ?_
              have h1 := HP.out.length_eq
              rw [List.length_drop, srtd_len, prs_len] at h1
              omega
            subst hv
            have heq := HEQ.out
            go_wp2_with (first | (go_at_call 25; refine (qp_peek_gone HQ.out ea HE.out).mono ?_; rintro e w3 ⟨rfl, hb⟩; have HB3 := mkHid hb; have he3 : (w3.alloc (.cells #[.int .i64 0, .int .i64 0] 52)).cell? ⟨0, 0, none⟩ = some (.iface 111 (.pointer (some ea))) := bcell ((Below.refl _ w3).alloc (Nat.le_refl _) _) (bcell hb (bcell HQ.out.2 HE.out)); clear hb))
            go_ret
            refine ⟨rfl, ?_⟩
            have h1 := HQ.out.2.trans (HB3.out.mono HQ.out.2.size)
            exact h1.alloc h1.size _
end Go.Proofs.YtjlmkmhggkcbhaaDoor
