/- The law TreeRefused. -/
import Derived.Test.YtjhekemgcmhjoaaGreatDoorTr26
import Derived.Test.YtjhekemgcmhjoaaGreatDoorTr27
namespace Go.Proofs.YtjhekemgcmhjoaaGreatDoor
open Go.ChangeShapes Go.WideShapes Go.ChangeAt Go.RowKit
set_option maxRecDepth 100000
attribute [local go_sem] World.cell?_alloc_some frozen_alloc_some

theorem Ghs.at5 {w w' : World} {a : Option Addr} {l cap : Nat} {gs : List Gh} (h : Ghs w (.slice a l cap) gs) (hb : Below w.heap.size w w') (i : Nat) (hi : i < gs.length) : ∃ b off g, a = some ⟨b, off, none⟩ ∧ gs[i]? = some g ∧ w'.cell? ⟨b, off + i * 5, none⟩ = some (.int .i64 g.pa) ∧ w'.cell? ⟨b, off + i * 5 + 1, none⟩ = some (.int .i64 g.sv.1) ∧ w'.cell? ⟨b, off + i * 5 + 2, none⟩ = some (.int .i64 g.sv.2.1) ∧ w'.cell? ⟨b, off + i * 5 + 3, none⟩ = some (.int .i64 g.sv.2.2) ∧ w'.cell? ⟨b, off + i * 5 + 4, none⟩ = some (.int .i64 g.un) := by
  obtain ⟨b, off, x, ha, hx, hc⟩ := h.at hb i hi
  exact ⟨b, off, x, ha, hx, five hc⟩
theorem filt_at {α : Type} (p : α → Bool) (l : List α) (k : Nat) (x : α) (h : l[k]? = some x) (hp : p x = true) : (l.filter p)[((l.take k).filter p).length]? = some x := by
  have e : l = l.take k ++ x :: l.drop (k + 1) := by
    obtain ⟨h1, h2⟩ := List.getElem?_eq_some_iff.mp h
    rw [← h2, List.getElem_cons_drop, List.take_append_drop]
  have : l.filter p = (l.take k).filter p ++ x :: (l.drop (k + 1)).filter p := by
    conv => lhs; rw [e]
    rw [List.filter_append, List.filter_cons, if_pos hp]
  rw [this, List.getElem?_append_right (Nat.le_refl _)]
  simp
theorem take_filt {α : Type} (p : α → Bool) (l : List α) (k : Nat) (x : α) (h : l[k]? = some x) : (l.take (k + 1)).filter p = (l.take k).filter p ++ if p x = true then [x] else [] := by
  rw [List.take_add_one, h, List.filter_append]
  simp [List.filter_cons]
theorem len_filt {α : Type} (p : α → Bool) (l : List α) (k : Nat) : ((l.take k).filter p).length ≤ (l.filter p).length := ((List.take_sublist k l).filter p).length_le
set_option maxRecDepth 100000 in
set_option maxHeartbeats 25600000 in
theorem refused_walk (A : Ops) (w : World) (al : Option Addr) (cl : Nat) (os : List Op) (x : Op) (a : Nat → Addr) (h : Ods w (.slice al os.length cl) os) (hx : OpW w x) (hxs : smallO x) (E : Er6 w a) :
    Calls Tryz.prog 7 #[.slice al os.length cl, vOp x] w fun e w' => e = .returned (.bool true) ∧ Below w.heap.size w w' := by
  have hlen : (os.length : Int) ≤ 9223372036854775807 := by
    obtain ⟨_, _, _, _, hl, _⟩ := h.row
    exact hl
  have HE := mkHid (And.intro h E)
  have HX0 := mkHid (And.intro hx hxs)
  obtain ⟨⟨ki2, id2, ⟨k2, q2, T2⟩, po2, ts2, tm2⟩, ta2, tc2⟩ := x
  have HV : Hid (∀ W, Below w.heap.size w W → Calls Tryz.prog 8 #[] W fun e w' => e = .returned (.bool true) ∧ Below W.heap.size W w') := mkHid (fun W hW => talive A W a (E.late hW))
  clear h hx hxs E
  go_enter Tryz.func7, Tryz.ntmps7
  go_wp2_with (go_at_call 8; refine (HV.out _ (ba (Below.refl _ _) _)).mono ?_; rintro e w1 ⟨rfl, b1⟩; obtain ⟨r0, hb⟩ := new_last b1; have HB1 := mkHid (And.intro r0 hb); clear b1 r0 hb)
  obtain ⟨g, hg⟩ : ∃ g, g = w1.heap.size := ⟨_, rfl⟩
  obtain ⟨W1, hW1⟩ : ∃ W1, W1 = w1.alloc (.cells #[.slice none 0 0, .slice none 0 0, .int .i64 0, .int .i64 0] 27) := ⟨_, rfl⟩
  have HX1 : Hid (BX w g W1 (.slice none 0 0) (.slice none 0 0) [] t0) := mkHid ⟨by rw [hW1]; exact ba HB1.out.2 _, by rw [hg]; exact HB1.out.2.size, tro_nil _ _, rfl, by rw [hW1, hg]; exact heap_alloc_new w1 _⟩
  have HO1 : Hid (W1.heap[w.heap.size]? = some (.cells #[.int .i64 ki2, .int .i64 id2, .int .i64 k2, .int .i64 q2, .int .i64 T2, .int .i64 po2, .slice ta2 ts2.length tc2, .int .i64 tm2] 32 (0, 0)) ∧ ¬ g = w.heap.size) := mkHid ⟨by rw [hW1]; exact (heap_alloc_old w1 _ (lt_of_heap HB1.out.1)).trans HB1.out.1, by have := lt_of_heap HB1.out.1; omega⟩
  rw [← hW1, ← hg]
  clear hg hW1 HV HB1
  go_loopw [18] (fun iv wr => ∃ (j : Nat) (t : Tr) (nv gv : Value) (ps : List Np), iv = .int .i64 (j : Int) ∧ j ≤ os.length ∧ Hid (BX w g wr nv gv ps t) ∧ Hid (t.Ok (min j 60)) ∧ Hid (wr.heap[w.heap.size]? = some (.cells #[.int .i64 ki2, .int .i64 id2, .int .i64 k2, .int .i64 q2, .int .i64 T2, .int .i64 po2, .slice ta2 ts2.length tc2, .int .i64 tm2] 32 (0, 0)))) (fun iv _ => os.length - (intOf iv).toNat)
  case atStart => exact ⟨0, t0, _, _, [], rfl, Nat.zero_le _, HX1, mkHid ok_zero, mkHid HO1.out.1⟩
  case round =>
    obtain ⟨j, t, nv, gv, ps, rfl, hj, HX, HT, HO⟩ := hrel
    clear HX1
    have HNE := mkHid HO1.out.2
    clear HO1
    obtain ⟨na, nc, hnv, _⟩ := own_sh HX.out.own.nown
    obtain ⟨ga, gc, hgv, _⟩ := own_sh HX.out.own.gown
    subst hnv hgv
    by_cases hlt : j < os.length
    · obtain ⟨b, off, x, rfl, hxj, hat⟩ := HE.out.1.row.at HX.out.bel j hlt
      obtain ⟨q0, q1, q2, q3, q4, q5, q6, q7⟩ := eight_at hat
      have HW := mkHid (HE.out.1.each _ (List.mem_of_getElem? hxj))
      obtain ⟨⟨ki, id, ⟨k, q, T⟩, po, ts, tm⟩, ta, tc⟩ := x
      simp only [tvO] at q0 q1 q2 q3 q4 q5 q6 q7
      have hji : (j : Int) < os.length := by omega
      clear hat hxj
      by_cases h60 : j < 60
      · have hj60 : (j : Int) < 60 := by omega
        obtain ⟨m0, m1, m2, m3⟩ := four HX.out.blk
        have HA : Hid (∀ W, Below wr.heap.size wr W → Calls Tryz.prog 9 #[.agg #[.slice na ps.length nc, .slice ga t.gs.length gc, .int .i64 t.last, .int .i64 t.now], .agg #[.int .i64 ki, .int .i64 id, .int .i64 k, .int .i64 q, .int .i64 T, .int .i64 po, .slice ta ts.length tc, .int .i64 tm]] W (ApP W (t.app A ⟨ki, id, (k, q, T), po, ts, tm⟩))) := mkHid (fun W hW => apply_bx (x := (⟨ki, id, (k, q, T), po, ts, tm⟩, ta, tc)) HX.out HT.out (by omega) hW HE.out.2 HW.out.1 HW.out.2)
        have HOK : Hid ((t.app A ⟨ki, id, (k, q, T), po, ts, tm⟩).1.Ok (min (j + 1) 60)) := mkHid ((HT.out.app _).more (by omega))
        generalize t.app A ⟨ki, id, (k, q, T), po, ts, tm⟩ = R at *
        obtain ⟨u, rc, ri⟩ := R
        simp only at HOK
        go_wp2_with (first | (go_at_call 9; (with_reducible refine (HA.out _ (ba (Below.refl _ wr) _)).mono ?_); rintro e w2 ⟨nv2, gv2, ps2, rfl, ho2, he2, b2⟩; obtain ⟨na2, nc2, hnv2, _⟩ := own_sh ho2.nown; obtain ⟨ga2, gc2, hgv2, _⟩ := own_sh ho2.gown; subst hnv2 hgv2; have hb2 := (new_last b2).2; have hgb := (hb2.block g (lt_of_heap HX.out.blk)).trans HX.out.blk; have HO2 := mkHid (And.intro ho2 (And.intro he2 (And.intro hb2 (And.intro hgb (show wr.heap.size ≤ (wr.alloc (.cells #[.int .i64 ki, .int .i64 id, .int .i64 k, .int .i64 q, .int .i64 T, .int .i64 po, .slice ta ts.length tc, .int .i64 tm] 32)).heap.size by simp))))); clear ho2 he2 b2 hb2 hgb) | (refine wpList_store_box rfl 27 (.tmp 5) (.tmp 29) rfl g #[.slice na2 ps2.length nc2, .slice ga2 u.gs.length gc2, .int .i64 u.last, .int .i64 u.now] rfl rfl 27 _ HO2.out.2.2.2.1 size_tree rfl (one_tr _ _ _ _ _ _ _ _) ?_; intro w3 h3 k3; have HX3 := mkHid (HX.out.store HO2.out.2.2.1 HO2.out.1 HO2.out.2.2.2.2 HO2.out.2.1 h3 k3).1; have HO3 := mkHid ((k3.block w.heap.size (lt_of_heap ((HO2.out.2.2.1.block _ (lt_of_heap HO.out)).trans HO.out)) (fun e => HNE.out e.symm)).trans ((HO2.out.2.2.1.block _ (lt_of_heap HO.out)).trans HO.out)); clear h3 k3))
        go_roundw
        case rel => exact ⟨j + 1, u, _, _, ps2, by go_num, hlt, HX3, HOK, HO3⟩
        case measure => simp [intOf]; omega
      · have hj60 : 60 ≤ (j : Int) := by omega
        go_wp2
        go_roundw
        case rel => exact ⟨j + 1, t, _, _, ps, by go_num, hlt, mkHid (HX.out.hold (ba (Below.refl _ _) _)), mkHid (HT.out.more (by omega)), mkHid ((heap_alloc_old wr _ (lt_of_heap HO.out)).trans HO.out)⟩
        case measure => simp [intOf]; omega
    · obtain rfl : j = os.length := by omega
      clear hlt hj
      obtain ⟨m0, m1, m2, m3⟩ := four HX.out.blk
      obtain ⟨p0, p1, p2, p3, p4, p5, p6, p7⟩ := eight HO.out
      have HA : Hid (∀ W, Below wr.heap.size wr W → Calls Tryz.prog 9 #[.agg #[.slice na ps.length nc, .slice ga t.gs.length gc, .int .i64 t.last, .int .i64 t.now], .agg #[.int .i64 ki2, .int .i64 id2, .int .i64 k2, .int .i64 q2, .int .i64 T2, .int .i64 po2, .slice ta2 ts2.length tc2, .int .i64 tm2]] W (ApP W (t.app A ⟨ki2, id2, (k2, q2, T2), po2, ts2, tm2⟩))) := mkHid (fun W hW => apply_bx (x := (⟨ki2, id2, (k2, q2, T2), po2, ts2, tm2⟩, ta2, tc2)) HX.out HT.out (by omega) hW HE.out.2 HX0.out.1 HX0.out.2)
      have HOK : Hid ((t.app A ⟨ki2, id2, (k2, q2, T2), po2, ts2, tm2⟩).1.Ok 61) := mkHid ((HT.out.app _).more (by omega))
      have HAP := mkHid (app_ap A t ⟨ki2, id2, (k2, q2, T2), po2, ts2, tm2⟩)
      generalize t.app A ⟨ki2, id2, (k2, q2, T2), po2, ts2, tm2⟩ = R at *
      obtain ⟨u, rc, ri⟩ := R
      simp only at HOK HAP
      by_cases hrc : rc = 0
      · subst hrc
        have hri := (HAP.out.done HT.out.1 rfl).1
        have hun := HAP.out.now.2 rfl
        simp only at hri hun
        obtain ⟨uns, ugs, ul, un⟩ := u
        simp only at hun
        obtain ⟨tns, tgs, tl, tn⟩ := t
        simp only at hun
        have hpos : 0 < ri := by omega
        go_wp2_with (first | (go_at_call 9; (with_reducible refine (HA.out _ (Below.refl _ wr)).mono ?_); rintro e w2 ⟨nv2, gv2, ps2, rfl, ho2, he2, b2⟩; obtain ⟨na2, nc2, hnv2, _⟩ := own_sh ho2.nown; obtain ⟨ga2, gc2, hgv2, _⟩ := own_sh ho2.gown; subst hnv2 hgv2; have hgb := (b2.block g (lt_of_heap HX.out.blk)).trans HX.out.blk; have hob := (b2.block _ (lt_of_heap HO.out)).trans HO.out; obtain ⟨s0, s1, s2, s3⟩ := four hgb; obtain ⟨_, _, _, _, _, _, _, t7⟩ := eight hob; have HO2 := mkHid (And.intro ho2 (And.intro he2 (And.intro b2 (And.intro hgb hob)))); clear ho2 he2 b2 hgb hob))
        all_goals
          go_ret
          exact ⟨by simp; omega, ba (ba (bt HX.out.bel HO2.out.2.2.1) _) _⟩
      · have hrcb : (rc == 0) = false := by simpa using hrc
        obtain ⟨hri, hns, hul, hnw, hgs⟩ := HAP.out.refused HT.out.2.1 hrc
        simp only at hri
        subst hri
        have hunl : ¬ u.now < t.now := by omega
        have HNS := mkHid hns
        have HGS := mkHid hgs
        have h61 : Hid (u.Sm 1000 ∧ t.Sm 1000) := mkHid ⟨HOK.out.2.2.more (by omega), HT.out.2.2.more (by omega)⟩
        have HSN : Hid (∀ W B nv2, BX w g W (.slice na ps.length nc) (.slice ga t.gs.length gc) ps t → ∀ {gv2 ps2 na2 nc2}, nv2 = Value.slice na2 (ps2 : List Np).length nc2 → TrO B W nv2 gv2 ps2 u.gs → nds ps2 = u.ns → Calls Tryz.prog 22 #[.slice na ps.length nc, nv2] W fun e w' => e = .returned (.bool true) ∧ Below W.heap.size W w') := mkHid (fun W B nv2 hx gv2 ps2 na2 nc2 e ho he => by
          subst e
          exact same_nodes W na na2 nc nc2 ps ps2 (hx.own.trw h61.out.2 hx.e).n (ho.trw h61.out.1 he).n (by rw [hx.e, he, HNS.out]))
        clear hns hgs hnw hrc
        go_wp2_with (first | (go_at_call 9; (with_reducible refine (HA.out _ (Below.refl _ wr)).mono ?_); rintro e w2 ⟨nv2, gv2, ps2, rfl, ho2, he2, b2⟩; obtain ⟨na2, nc2, hnv2, _⟩ := own_sh ho2.nown; obtain ⟨ga2, gc2, hgv2, _⟩ := own_sh ho2.gown; subst hnv2 hgv2; have hgb := (b2.block g (lt_of_heap HX.out.blk)).trans HX.out.blk; have hob := (b2.block _ (lt_of_heap HO.out)).trans HO.out; obtain ⟨s0, s1, s2, s3⟩ := four hgb; obtain ⟨_, _, _, _, _, _, _, t7⟩ := eight hob; have HO2 := mkHid (And.intro ho2 (And.intro he2 (And.intro b2 (And.intro hgb hob)))); clear ho2 he2 b2 hgb hob) | (go_at_call 22; (with_reducible refine (HSN.out _ _ _ ((HX.out.hold HO2.out.2.2.1).hold (ba (ba (Below.refl _ _) _) _)) rfl (HO2.out.1.below (ba (ba (Below.refl _ _) _) _)) HO2.out.2.1).mono ?_); rintro e w5 ⟨rfl, b5⟩; have hb5 := bt (ba (ba (Below.refl _ w2) _) _) b5; have y1 := (hb5.block g (lt_of_heap HO2.out.2.2.2.1)).trans HO2.out.2.2.2.1; obtain ⟨hx5, hx6⟩ := new_two b5; obtain ⟨s0, s1, s2, s3⟩ := four y1; obtain ⟨v0, v1, v2, v3⟩ := four hx5; have HY5 := mkHid (And.intro y1 (And.intro hx5 (And.intro hx6 hb5))); clear b5 hb5 y1 hx5 hx6))
        clear s0 s1 s2 s3 v0 v1 v2 v3
        obtain ⟨G2, hG2⟩ : ∃ G2, G2 = w2.heap.size := ⟨_, rfl⟩
        have HG5 : Hid (w5.heap[G2]? = some (.cells #[.slice na2 ps2.length nc2, .slice ga2 u.gs.length gc2, .int .i64 t.last, .int .i64 u.now] 27 (0, 0))) := mkHid (by rw [hG2]; exact HY5.out.2.1)
        rw [← hG2]
        clear hG2
        have HT5 : Hid (Ghs w5 (.slice ga t.gs.length gc) t.gs) := mkHid (((HX.out.own.below HO2.out.2.2.1).below HY5.out.2.2.2).trw h61.out.2 HX.out.e).g
        have HU5 : Hid (Ghs w5 (.slice ga2 u.gs.length gc2) u.gs) := mkHid ((HO2.out.1.below HY5.out.2.2.2).trw h61.out.1 HO2.out.2.1).g
        have HBL : Hid (Below w.heap.size w w5) := mkHid (bt (bt HX.out.bel HO2.out.2.2.1) HY5.out.2.2.2)
        have HLT : Hid (w5.heap[g]? = some (.cells #[.slice na ps.length nc, .slice ga t.gs.length gc, .int .i64 t.last, .int .i64 t.now] 27 (0, 0))) := mkHid HY5.out.1
        have hgl : (t.gs.length : Int) ≤ 9223372036854775807 := by obtain ⟨_, _, _, _, hl, _⟩ := HT5.out; exact hl
        clear HY5 HO2 HX HSN HA HAP
        go_loopw [10, 82] (fun av iv wr => ∃ (i : Nat), av = .int .i64 ((((t.gs.take i).filter (fun g => decide (u.now < g.un))).length : Nat) : Int) ∧ iv = .int .i64 (i : Int) ∧ i ≤ t.gs.length ∧ Hid (Below w5.heap.size w5 wr)) (fun _ iv _ => t.gs.length - (intOf iv).toNat)
        case atStart => exact ⟨0, by simp, rfl, Nat.zero_le _, mkHid (Below.refl _ _)⟩
        case round =>
          obtain ⟨i, rfl, rfl, hi, HB⟩ := hrel
          have y1 := (HB.out.block _ (lt_of_heap HG5.out)).trans HG5.out
          obtain ⟨v0, v1, v2, v3⟩ := four y1
          clear y1
          by_cases hit : i < t.gs.length
          · obtain ⟨b1, o1, gg, rfl, e1, r0, r1, r2, r3, r4⟩ := Ghs.at5 HT5.out HB.out i hit
            have hil : (i : Int) < t.gs.length := by omega
            have HSI : Hid (i + 1 ≤ t.gs.length ∧ t.gs.length - (i + 1) < t.gs.length - i) := mkHid ⟨by omega, by omega⟩
            have HTF := mkHid (take_filt (fun g => decide (u.now < g.un)) t.gs i gg e1)
            have hle := len_filt (fun g => decide (u.now < g.un)) t.gs i
            rw [← HGS.out] at hle
            by_cases hp : u.now < gg.un
            · have hfa := filt_at (fun g => decide (u.now < g.un)) t.gs i gg e1 (decide_eq_true hp)
              rw [← HGS.out] at hfa
              have hal : ((t.gs.take i).filter (fun g => decide (u.now < g.un))).length < u.gs.length := (List.getElem?_eq_some_iff.mp hfa).1
              obtain ⟨b2, o2, g2, rfl, e2, s0, s1, s2, s3, s4⟩ := Ghs.at5 HU5.out HB.out _ hal
              rw [hfa] at e2
              simp at e2
              subst e2
              rw [if_pos (decide_eq_true hp)] at HTF
              obtain ⟨pa, ⟨gk, gq, gt⟩, un⟩ := gg
              simp only at r0 r1 r2 r3 r4 s0 s1 s2 s3 s4 hp
              have HLN : Hid ((((t.gs.take (i + 1)).filter (fun g => decide (u.now < g.un))).length : Nat) = ((t.gs.take i).filter (fun g => decide (u.now < g.un))).length + 1) := mkHid (by rw [HTF.out]; simp)
              generalize ((t.gs.take i).filter (fun g => decide (u.now < g.un))).length = m at *
              have hmi : (m : Int) < u.gs.length := by omega
              have hmu : (u.gs.length : Int) ≤ 2000 := by have := h61.out.1.g; omega
              clear e1 hit hi hfa hle hal HTF
              go_wp2
              go_quiet (fail)
              go_wp2
              go_roundw
              case rel => exact ⟨i + 1, by first | (rw [HLN.out]; done) | (rw [HLN.out]; rfl), by go_num, HSI.out.1, mkHid (drewN_below (ba HB.out _) _)⟩
              case measure => have := HSI.out.2; simp [intOf]; omega
            · rw [if_neg (by simpa using hp)] at HTF
              obtain ⟨pa, ⟨gk, gq, gt⟩, un⟩ := gg
              simp only at r0 r1 r2 r3 r4 hp
              have HLN : Hid ((((t.gs.take (i + 1)).filter (fun g => decide (u.now < g.un))).length : Nat) = ((t.gs.take i).filter (fun g => decide (u.now < g.un))).length) := mkHid (by rw [HTF.out]; simp)
              by_cases hal : ((t.gs.take i).filter (fun g => decide (u.now < g.un))).length < u.gs.length
              · obtain ⟨b2, o2, g2, rfl, e2, s0, s1, s2, s3, s4⟩ := Ghs.at5 HU5.out HB.out _ hal
                have hg2 : u.now < g2.un := by
                  have := List.mem_of_getElem? e2
                  rw [HGS.out] at this
                  simpa using (List.mem_filter.mp this).2
                obtain ⟨pa2, ⟨gk2, gq2, gt2⟩, un2⟩ := g2
                simp only at s0 s1 s2 s3 s4 hg2
                have hun : (un2 == un) = false := beq_eq_false_iff_ne.mpr (by omega)
                have hdf : (pa2 == pa) = false ∨ (pa2 = pa ∧ (gk2 == gk) = false) ∨ (pa2 = pa ∧ gk2 = gk ∧ (gq2 == gq) = false) ∨ (pa2 = pa ∧ gk2 = gk ∧ gq2 = gq ∧ (gt2 == gt) = false) ∨ (pa2 = pa ∧ gk2 = gk ∧ gq2 = gq ∧ gt2 = gt) := by simp only [beq_eq_false_iff_ne, ne_eq]; omega
                generalize ((t.gs.take i).filter (fun g => decide (u.now < g.un))).length = m at *
                have hmi : (m : Int) < u.gs.length := by omega
                clear e1 hit hi hle hal HTF e2 hg2
                rcases hdf with h1 | ⟨rfl, h1⟩ | ⟨rfl, rfl, h1⟩ | ⟨rfl, rfl, rfl, h1⟩ | ⟨rfl, rfl, rfl, rfl⟩
                all_goals
                  go_wp2
                  go_quiet (fail)
                  go_wp2
                  go_roundw
                  case rel => exact ⟨i + 1, by first | (rw [HLN.out]; done) | (rw [HLN.out]; rfl), by go_num, HSI.out.1, mkHid (drewN_below (ba HB.out _) _)⟩
                  case measure => have := HSI.out.2; simp [intOf]; omega
              · generalize ((t.gs.take i).filter (fun g => decide (u.now < g.un))).length = m at *
                have hmi : decide ((m : Int) < u.gs.length) = false := decide_eq_false (by omega)
                have hmj : decide (m < u.gs.length) = false := decide_eq_false (by omega)
                have hmk : u.gs.length ≤ m := by omega
                have hml : (u.gs.length : Int) ≤ m := by omega
                clear e1 hit hi hle hal HTF
                go_wp2
                go_quiet (fail)
                go_wp2
                go_roundw
                case rel => exact ⟨i + 1, by first | (rw [HLN.out]; done) | (rw [HLN.out]; rfl), by go_num, HSI.out.1, mkHid (drewN_below (ba HB.out _) _)⟩
                case measure => have := HSI.out.2; simp [intOf]; omega
          · obtain rfl : i = t.gs.length := by omega
            have hfin : ((t.gs.take t.gs.length).filter (fun g => decide (u.now < g.un))).length = u.gs.length := by rw [List.take_length, HGS.out]
            rw [hfin]
            clear hfin hit hi
            go_wp2
            go_ret
            exact ⟨by simp, bt HBL.out HB.out⟩
end Go.Proofs.YtjhekemgcmhjoaaGreatDoor
