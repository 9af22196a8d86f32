import Derived.Test.YtjhekemgcmhjoaaGreatDoorTr26
import Derived.Test.YtjhekemgcmhjoaaGreatDoorTr27
import Derived.Test.YtjhekemgcmhjoaaGreatDoorAdD
/- The law TreeShares. -/
namespace Go.Proofs.YtjhekemgcmhjoaaGreatDoor
open Go.ChangeShapes Go.WideShapes Go.ChangeAt Go.RowKit
set_option maxRecDepth 100000
attribute [local go_sem] World.cell?_alloc_some frozen_alloc_some

theorem BX.drew {W0 w : World} {g : Nat} {nv gv : Value} {ps : List Np} {t : Tr} (h : BX W0 g w nv gv ps t) : BX W0 g w.drew nv gv ps t := h.hold ((Below.refl _ w).drew)
/-- A node in its box. -/
def NB (w : World) (B : Nat) (n : Nd) (ta : Option Addr) (tc : Nat) : Prop := w.heap[B]? = some (.cells #[.int .i64 n.id, .int .i64 n.pa, .int .i64 n.sv.1, .int .i64 n.sv.2.1, .int .i64 n.sv.2.2, .int .i64 n.po, .slice ta n.ts.length tc] 39 (0, 0))
theorem NB.hold {w w' : World} {B : Nat} {n : Nd} {ta : Option Addr} {tc : Nat} (h : NB w B n ta tc) (hb : Below w.heap.size w w') : NB w' B n ta tc := (hb.block B (lt_of_heap h)).trans h
theorem counted_bx {W0 W : World} {g : Nat} {nv gv : Value} {ps : List Np} {t : Tr} {k : Nat} (i : Int) (h : BX W0 g W nv gv ps t) (hok : t.Ok k) (hk : k ≤ 100) : Calls Tryz.prog 17 #[vTr nv gv t, .int .i64 i] W fun e w' => ∃ a c, e = .returned (.slice a (t.cnt i).length c) ∧ Svs w' (.slice a (t.cnt i).length c) (t.cnt i) ∧ Below W.heap.size W w' := by
  have h8 : t.Sm 1000 := hok.2.2.more (by omega)
  refine (counted_is W t nv gv ps i (h.own.trw h8 h.e) h8).mono ?_
  rintro e w' ⟨a, c, rfl, ho, hb⟩
  have hlen : (t.cnt i).length ≤ 2000 := by
    have h1 := h8.n
    have h2 := h8.g
    unfold Tr.cnt
    have h3 := List.length_filter_le (bel i) t.ns
    have h4 := List.length_filter_le (belG i) t.gs
    simp only [List.length_append, List.length_map]
    omega
  obtain ⟨la, lc, e, hs⟩ := svs_of_owns (xs := t.cnt i) (by omega) ho
  exact ⟨a, c, rfl, by rw [e]; exact hs, hb⟩
theorem depth_bx {W0 W : World} {g : Nat} {nv gv : Value} {ps : List Np} {t : Tr} {k : Nat} (i : Int) (h : BX W0 g W nv gv ps t) (hok : t.Ok k) (hk : k ≤ 100) : Calls Tryz.prog 20 #[vTr nv gv t, .int .i64 i] W fun e w' => e = .returned (.int .i64 (t.dep i)) ∧ Below W.heap.size W w' := by
  have h8 : t.Sm 1000 := hok.2.2.more (by omega)
  exact depth_is W t nv gv ps i _ (h.own.trw h8 h.e) h8 rfl
theorem rise_drop {l : List Nd} (h : l.Pairwise (fun a b => a.id < b.id)) {j : Nat} {n : Nd} (hn : l[j]? = some n) : ∀ m ∈ l.drop (j + 1), n.id < m.id := by
  obtain ⟨h1, h2⟩ := List.getElem?_eq_some_iff.mp hn
  have e : l.drop j = n :: l.drop (j + 1) := by rw [← h2, List.getElem_cons_drop]
  have := h.sublist (List.drop_sublist j l)
  rw [e] at this
  exact (List.pairwise_cons.mp this).1
set_option maxRecDepth 100000 in
set_option maxHeartbeats 25600000 in
theorem shares_walk (A : Ops) (w : World) (al : Option Addr) (cl : Nat) (os : List Op) (a : Nat → Addr) (h : Ods w (.slice al os.length cl) os) (E : Er6 w a) :
    Calls Tryz.prog 6 #[.slice al os.length cl] w fun e w' => e = .returned (.bool true) ∧ Below w.heap.size w w' := by
  have hlen : (os.length : Int) ≤ 9223372036854775807 := by
    obtain ⟨_, _, _, _, hl, _⟩ := h.row
    exact hl
  have HE := mkHid (And.intro h E)
  have HV : Hid (∀ W, Below w.heap.size w W → Calls Tryz.prog 8 #[] W fun e w' => e = .returned (.bool true) ∧ Below W.heap.size W w') := mkHid (fun W hW => talive A W a (E.late hW))
  clear h E
  go_enter Tryz.func6, Tryz.ntmps6
  go_wp2_with (go_at_call 8; refine (HV.out _ (Below.refl _ _)).mono ?_; rintro e w1 ⟨rfl, b1⟩; have HB1 := mkHid b1; clear b1)
  obtain ⟨g, hg⟩ : ∃ g, g = w1.heap.size := ⟨_, rfl⟩
  obtain ⟨W1, hW1⟩ : ∃ W1, W1 = w1.alloc (.cells #[.slice none 0 0, .slice none 0 0, .int .i64 0, .int .i64 0] 27) := ⟨_, rfl⟩
  have HX1 : Hid (BX w g W1 (.slice none 0 0) (.slice none 0 0) [] t0) := mkHid ⟨by rw [hW1]; exact ba HB1.out _, by rw [hg]; exact HB1.out.size, tro_nil _ _, rfl, by rw [hW1, hg]; exact heap_alloc_new w1 _⟩
  rw [← hW1, ← hg]
  clear hg hW1 HV HB1
  go_loopw [14] (fun iv wr => ∃ (j : Nat) (t : Tr) (nv gv : Value) (ps : List Np), iv = .int .i64 (j : Int) ∧ j ≤ os.length ∧ j ≤ 60 ∧ Hid (BX w g wr nv gv ps t) ∧ Hid (t.Ok j)) (fun iv _ => os.length - (intOf iv).toNat)
  case atStart => exact ⟨0, t0, _, _, [], rfl, Nat.zero_le _, by omega, HX1, mkHid ok_zero⟩
  case round =>
    obtain ⟨j, t, nv, gv, ps, rfl, hj, hj6, HX, HT⟩ := hrel
    clear HX1
    obtain ⟨na, nc, hnv, _⟩ := own_sh HX.out.own.nown
    obtain ⟨ga, gc, hgv, _⟩ := own_sh HX.out.own.gown
    subst hnv hgv
    by_cases hlt : j < os.length
    · obtain ⟨b, off, x, rfl, hxj, hat⟩ := HE.out.1.row.at HX.out.bel j hlt
      obtain ⟨q0, q1, q2, q3, q4, q5, q6, q7⟩ := eight_at hat
      have HW := mkHid (HE.out.1.each _ (List.mem_of_getElem? hxj))
      obtain ⟨⟨ki, id, ⟨k, q, T⟩, po, ts, tm⟩, ta, tc⟩ := x
      simp only [tvO] at q0 q1 q2 q3 q4 q5 q6 q7
      have hji : (j : Int) < os.length := by omega
      clear hat hxj
      by_cases h60 : j < 60
      · have hj60 : (60 ≤ (j : Int)) = False := by simp; omega
        obtain ⟨m0, m1, m2, m3⟩ := four HX.out.blk
        have HA : Hid (∀ W, Below wr.heap.size wr W → Calls Tryz.prog 9 #[.agg #[.slice na ps.length nc, .slice ga t.gs.length gc, .int .i64 t.last, .int .i64 t.now], .agg #[.int .i64 ki, .int .i64 id, .int .i64 k, .int .i64 q, .int .i64 T, .int .i64 po, .slice ta ts.length tc, .int .i64 tm]] W (ApP W (t.app A ⟨ki, id, (k, q, T), po, ts, tm⟩))) := mkHid (fun W hW => apply_bx (x := (⟨ki, id, (k, q, T), po, ts, tm⟩, ta, tc)) HX.out HT.out (by omega) hW HE.out.2 HW.out.1 HW.out.2)
        have HOK : Hid ((t.app A ⟨ki, id, (k, q, T), po, ts, tm⟩).1.Ok (j + 1)) := mkHid (HT.out.app _)
        generalize t.app A ⟨ki, id, (k, q, T), po, ts, tm⟩ = R at *
        obtain ⟨u, rc, ri⟩ := R
        simp only at HOK
        have HSM : Hid (j + 1 ≤ os.length ∧ j + 1 ≤ 60 ∧ os.length - (j + 1) < os.length - j) := mkHid ⟨by omega, by omega, by omega⟩
        have HK0 : Hid (∀ W v, Below w.heap.size w W → Svs W v (u.cnt 0) → Calls Tryz.prog 33 #[vS (0, 0, 0), v] W fun e w' => e = .returned .nilIface ∧ Below W.heap.size W w') := mkHid (fun W v hW hv => kids_is W (0, 0, 0) v (u.cnt 0) a 0 hv (HE.out.2.late hW) HOK.out.1.fitRoot)
        have HR0 : Hid (∀ W v, Svs W v (u.cnt 0) → Calls Tryz.prog 34 #[vS (0, 0, 0), v] W fun e w' => e = .returned (.int .i64 0) ∧ Below W.heap.size W w') := mkHid (fun W v hv => rkids_is W (0, 0, 0) v (u.cnt 0) 0 hv HOK.out.1.fitRoot)
        clear hlt hj hj6 h60
        go_wp2_with (first | (go_at_call 9; (with_reducible refine (HA.out _ (ba (Below.refl _ wr) _)).mono ?_); rintro e w2 ⟨nv2, gv2, ps2, rfl, ho2, he2, b2⟩; obtain ⟨na2, nc2, hnv2, _⟩ := own_sh ho2.nown; obtain ⟨ga2, gc2, hgv2, _⟩ := own_sh ho2.gown; subst hnv2 hgv2; have hb2 := (new_last b2).2; have hgb := (hb2.block g (lt_of_heap HX.out.blk)).trans HX.out.blk; have HO2 := mkHid (And.intro ho2 (And.intro he2 (And.intro hb2 (And.intro hgb (show wr.heap.size ≤ (wr.alloc (.cells #[.int .i64 ki, .int .i64 id, .int .i64 k, .int .i64 q, .int .i64 T, .int .i64 po, .slice ta ts.length tc, .int .i64 tm] 32)).heap.size by simp))))); clear ho2 he2 b2 hb2 hgb m0 m1 m2 m3 q0 q1 q2 q3 q4 q5 q6 q7) | (refine wpList_store_box rfl 27 (.tmp 3) (.tmp 25) rfl g #[.slice na2 ps2.length nc2, .slice ga2 u.gs.length gc2, .int .i64 u.last, .int .i64 u.now] rfl rfl 27 _ HO2.out.2.2.2.1 size_tree rfl (one_tr _ _ _ _ _ _ _ _) ?_; intro w3 h3 k3; have HX3 := mkHid (HX.out.store HO2.out.2.2.1 HO2.out.1 HO2.out.2.2.2.2 HO2.out.2.1 h3 k3).1; obtain ⟨m0, m1, m2, m3⟩ := four h3; clear h3 k3 HX HO2 HA HW) | (go_at_call 17; (with_reducible refine (counted_bx 0 HX3.out HOK.out (by have := HSM.out; omega)).mono ?_); rintro e w4 ⟨a4, c4, rfl, hs4, b4⟩; have HX4 := mkHid (HX3.out.hold b4); have HS4 := mkHid hs4; clear hs4 b4 m0 m1 m2 m3; obtain ⟨m0, m1, m2, m3⟩ := four HX4.out.blk) | (go_at_call 33; (with_reducible refine (HK0.out _ _ HX4.out.bel HS4.out).mono ?_); rintro e w5 ⟨rfl, b5⟩; have HX5 := mkHid (HX4.out.hold b5); clear b5 m0 m1 m2 m3 HX4 HS4; obtain ⟨m0, m1, m2, m3⟩ := four HX5.out.blk) | (go_at_call 17; (with_reducible refine (counted_bx 0 HX5.out HOK.out (by have := HSM.out; omega)).mono ?_); rintro e w6 ⟨a6, c6, rfl, hs6, b6⟩; have HX6 := mkHid (HX5.out.hold b6); have HS6 := mkHid hs6; clear hs6 b6 m0 m1 m2 m3 HX5; obtain ⟨m0, m1, m2, m3⟩ := four HX6.out.blk) | (go_at_call 34; (with_reducible refine (HR0.out _ _ HS6.out).mono ?_); rintro e w7 ⟨rfl, b7⟩; have HX7 := mkHid (HX6.out.hold b7); clear b7 m0 m1 m2 m3 HX6 HS6; obtain ⟨m0, m1, m2, m3⟩ := four HX7.out.blk))
        clear m0 m1 m2 m3
        go_loopw [6, 42] (fun lv iv wr => ∃ (i : Nat) (L : Int), lv = .int .i64 L ∧ iv = .int .i64 (i : Int) ∧ i ≤ ps2.length ∧ Hid (∀ n ∈ u.ns.drop i, L < n.id) ∧ Hid (BX w g wr (.slice na2 ps2.length nc2) (.slice ga2 u.gs.length gc2) ps2 u)) (fun _ iv _ => ps2.length - (intOf iv).toNat)
        case atStart => exact ⟨0, 0, rfl, rfl, Nat.zero_le _, mkHid (fun n hn => by have := HOK.out.1.ids n (by simpa using hn); omega), HX7⟩
        case round =>
          obtain ⟨i, L, rfl, rfl, hi, HL, HX⟩ := hrel
          clear HX7
          by_cases hit : i < ps2.length
          · have h8 : Hid (u.Sm 1000) := mkHid (HOK.out.2.2.more (by have := HSM.out; omega))
            obtain ⟨b2, o2, n, nta, ntc, rfl, e1, TK, r0, r1, r2, r3, r4, r5, r6⟩ := (HX.out.own.trw h8.out HX.out.e).n.node (Below.refl _ wr) i hit
            have hni : u.ns[i]? = some n := by have := nds_at e1; rw [HX.out.e] at this; exact this
            have hmem : n ∈ u.ns := List.mem_of_getElem? hni
            have hcapn := ((HX.out.own.trw h8.out HX.out.e).n.tk _ (List.mem_of_getElem? e1)).2
            have HLn : L < n.id := HL.out n (by
              obtain ⟨h1, h2⟩ := List.getElem?_eq_some_iff.mp hni
              rw [← h2]
              exact List.mem_drop_iff_getElem.mpr ⟨0, by omega, by simp⟩)
            have HRI := mkHid (rise_drop HOK.out.1.rise hni)
            have HKN : Hid (∀ W v, Below w.heap.size w W → Svs W v (u.cnt n.id) → Calls Tryz.prog 33 #[vS n.sv, v] W fun e w' => e = .returned .nilIface ∧ Below W.heap.size W w') := mkHid (fun W v hW hv => kids_is W n.sv v (u.cnt n.id) a 0 hv (HE.out.2.late hW) (HOK.out.1.fitOf hmem))
            have hdp := HOK.out.1.dp n hmem
            have HGS := mkHid (HOK.out.1.gst n hmem)
            have HTK0 := mkHid TK
            have HCAP := mkHid hcapn
            have hil : (i : Int) < ps2.length := by omega
            have hpl : (ps2.length : Int) ≤ 1000 := by have := h8.out.n; rw [← HX.out.e, List.length_map] at this; omega
            have HSI : Hid (i + 1 ≤ ps2.length ∧ ps2.length - (i + 1) < ps2.length - i) := mkHid ⟨by omega, by omega⟩
            obtain ⟨nid, npa, ⟨nk, nq, nt⟩, npo, nts⟩ := n
            simp only at r0 r1 r2 r3 r4 r5 r6 HLn HRI HKN hdp HGS HTK0 HCAP
            have hd1 := hdp.1
            have hd2 := hdp.2
            obtain ⟨D, hD⟩ : ∃ D, u.dep nid = D := ⟨_, rfl⟩
            rw [hD] at hd1 hd2
            have hLd : decide (nid ≤ L) = false := decide_eq_false (by omega)
            have hd3 : decide (4 < D) = false := decide_eq_false (by omega)
            have hd4 : decide (D < 1) = false := decide_eq_false (by omega)
            have HDD := mkHid hD
            clear e1 TK hni hmem hcapn hdp hit hi hD
            go_wp2
            obtain ⟨B, hB⟩ : ∃ B, B = wr.heap.size := ⟨_, rfl⟩
            obtain ⟨W8, hW8⟩ : ∃ W8, W8 = wr.alloc (.cells #[.int .i64 nid, .int .i64 npa, .int .i64 nk, .int .i64 nq, .int .i64 nt, .int .i64 npo, .slice nta nts.length ntc] 39) := ⟨_, rfl⟩
            have HX8 : Hid (BX w g W8 (.slice (some ⟨b2, o2, none⟩) ps2.length nc2) (.slice ga2 u.gs.length gc2) ps2 u) := mkHid (by rw [hW8]; exact HX.out.hold (ba (Below.refl _ _) _))
            have HN8 : Hid (NB W8 B ⟨nid, npa, (nk, nq, nt), npo, nts⟩ nta ntc) := mkHid (by rw [hW8, hB]; exact heap_alloc_new wr _)
            have HT8 : Hid (Below wr.heap.size wr W8) := mkHid (by rw [hW8]; exact ba (Below.refl _ _) _)
            rw [← hW8, ← hB]
            clear hW8 hB r0 r1 r2 r3 r4 r5 r6
            have on0 := cell_of_block (i := 0) HN8.out rfl
            have on2 := cell_of_block (i := 2) HN8.out rfl
            have on3 := cell_of_block (i := 3) HN8.out rfl
            have on4 := cell_of_block (i := 4) HN8.out rfl
            obtain ⟨om0, om1, om2, om3⟩ := four HX8.out.blk
            simp only at on0 on2 on3 on4
            have M1 : Hid True := mkHid trivial
            go_region_held3 (fun w' => w'.cell? ⟨B, 0, none⟩ = some (.int .i64 nid) ∧ w'.cell? ⟨B, 2, none⟩ = some (.int .i64 nk) ∧ w'.cell? ⟨B, 3, none⟩ = some (.int .i64 nq) ∧ w'.cell? ⟨B, 4, none⟩ = some (.int .i64 nt) ∧ w'.cell? ⟨g, 0, none⟩ = some (.slice (some ⟨b2, o2, none⟩) ps2.length nc2) ∧ w'.cell? ⟨g, 1, none⟩ = some (.slice ga2 u.gs.length gc2) ∧ w'.cell? ⟨g, 2, none⟩ = some (.int .i64 u.last) ∧ w'.cell? ⟨g, 3, none⟩ = some (.int .i64 u.now)) (go_keep) (first | (go_at_call 17; (with_reducible refine (counted_bx nid HX8.out.drew HOK.out (by have := HSM.out; omega)).mono ?_); rintro e w9 ⟨a9, c9, rfl, hs9, b9⟩; have HX9 := mkHid (HX8.out.drew.hold b9); have HN9 := mkHid (NB.hold (w := W8.drew) HN8.out b9); have HS9 := mkHid hs9; have HTK9 := mkHid ((HTK0.out.below (HT8.out.drew)).below b9); clear hs9 b9; have pn0 := cell_of_block (i := 0) HN9.out rfl; have pn2 := cell_of_block (i := 2) HN9.out rfl; have pn3 := cell_of_block (i := 3) HN9.out rfl; have pn4 := cell_of_block (i := 4) HN9.out rfl; obtain ⟨pm0, pm1, pm2, pm3⟩ := four HX9.out.blk; simp only at pn0 pn2 pn3 pn4) | (go_at_call 33; (with_reducible refine (HKN.out _ _ HX9.out.bel HS9.out).mono ?_); rintro e wa ⟨rfl, ba'⟩; have HXa := mkHid (HX9.out.hold ba'); have HNa := mkHid (HN9.out.hold ba'); have HTKa := mkHid (HTK9.out.below ba'); clear ba' HS9; have rn0 := cell_of_block (i := 0) HNa.out rfl; have rn2 := cell_of_block (i := 2) HNa.out rfl; have rn3 := cell_of_block (i := 3) HNa.out rfl; have rn4 := cell_of_block (i := 4) HNa.out rfl; obtain ⟨rm0, rm1, rm2, rm3⟩ := four HXa.out.blk; simp only at rn0 rn2 rn3 rn4) | (go_at_call 20; clear M1; (with_reducible refine (depth_bx nid HXa.out HOK.out (by have := HSM.out; omega)).mono ?_); rintro e wb ⟨rfl, bb'⟩; rw [HDD.out]; have HXb := mkHid (HXa.out.hold bb'); have HNb := mkHid (HNa.out.hold bb'); have HTKb := mkHid (HTKa.out.below bb'); clear bb'; have sn0 := cell_of_block (i := 0) HNb.out rfl; have sn2 := cell_of_block (i := 2) HNb.out rfl; have sn3 := cell_of_block (i := 3) HNb.out rfl; have sn4 := cell_of_block (i := 4) HNb.out rfl; obtain ⟨sm0, sm1, sm2, sm3⟩ := four HXb.out.blk; simp only at sn0 sn2 sn3 sn4) | (go_at_call 20; (with_reducible refine (depth_bx nid HXb.out HOK.out (by have := HSM.out; omega)).mono ?_); rintro e wc ⟨rfl, bc'⟩; rw [HDD.out]; have HXc := mkHid (HXb.out.hold bc'); have HNc := mkHid (HNb.out.hold bc'); have HTKc := mkHid (HTKb.out.below bc'); clear bc'; have vn0 := cell_of_block (i := 0) HNc.out rfl; have vn2 := cell_of_block (i := 2) HNc.out rfl; have vn3 := cell_of_block (i := 3) HNc.out rfl; have vn4 := cell_of_block (i := 4) HNc.out rfl; obtain ⟨vm0, vm1, vm2, vm3⟩ := four HXc.out.blk; simp only at vn0 vn2 vn3 vn4))
            by_cases hpo : npo = 0
            · subst hpo
              have vn5 := cell_of_block (i := 5) HNc.out rfl
              simp only at vn5
              go_wp2
              go_roundw
              case rel => exact ⟨i + 1, nid, rfl, by go_num, HSI.out.1, HRI, HXc⟩
              case measure => have := HSI.out.2; simp [intOf]; omega
            · have hpob : (npo == 0) = false := by simpa using hpo
              obtain ⟨hgc, hce⟩ := HGS.out.resolve_left hpo
              have HCE := mkHid hce
              have HGU : Hid (∀ W, Below w.heap.size w W → Tks W (.slice nta nts.length ntc) nts → Calls Tryz.prog 35 #[vS (nk, nq, nt), .int .i64 npo, .slice nta nts.length ntc] W fun e w' => e = .returned .nilIface ∧ Below W.heap.size W w') := mkHid (fun W hW ht => guestA_is W (nk, nq, nt) npo nta ntc nts a 0 ht HCAP.out (HE.out.2.late hW) hgc)
              have vn5 := cell_of_block (i := 5) HNc.out rfl
              have vn6 := cell_of_block (i := 6) HNc.out rfl
              simp only at vn5 vn6
              clear hgc hce HGS
              go_wp2_with (first | (go_at_call 35; (with_reducible refine (HGU.out _ HXc.out.bel HTKc.out).mono ?_); rintro e wd ⟨rfl, bd'⟩; have HXd := mkHid (HXc.out.hold bd'); have HNd := mkHid (HNc.out.hold bd'); clear bd'; have yn0 := cell_of_block (i := 0) HNd.out rfl; have yn2 := cell_of_block (i := 2) HNd.out rfl; have yn3 := cell_of_block (i := 3) HNd.out rfl; have yn4 := cell_of_block (i := 4) HNd.out rfl; obtain ⟨ym0, ym1, ym2, ym3⟩ := four HXd.out.blk; simp only at yn0 yn2 yn3 yn4) | (go_at_call 17; (with_reducible refine (counted_bx nid HXd.out HOK.out (by have := HSM.out; omega)).mono ?_); rintro e we ⟨ae, ce, rfl, _, be'⟩; have HXe := mkHid (HXd.out.hold be'); have HNe := mkHid (HNd.out.hold be'); clear be'; rw [HCE.out]; have zn0 := cell_of_block (i := 0) HNe.out rfl; have zn2 := cell_of_block (i := 2) HNe.out rfl; have zn3 := cell_of_block (i := 3) HNe.out rfl; have zn4 := cell_of_block (i := 4) HNe.out rfl; obtain ⟨zm0, zm1, zm2, zm3⟩ := four HXe.out.blk; simp only at zn0 zn2 zn3 zn4))
              go_roundw
              case rel => exact ⟨i + 1, nid, rfl, by go_num, HSI.out.1, HRI, HXe⟩
              case measure => have := HSI.out.2; simp [intOf]; omega
          · have hie : ¬ (i : Int) < ps2.length := by omega
            clear hit hi
            go_wp2
            go_roundw
            case rel => exact ⟨j + 1, u, _, _, ps2, by go_num, HSM.out.1, HSM.out.2.1, HX, HOK⟩
            case measure => have := HSM.out.2.2; simp [intOf]; omega
      · obtain rfl : j = 60 := by omega
        have hj60 : (60 : Int) < os.length := by omega
        clear hlt hj hj6 h60
        go_wp2
        go_ret
        exact ⟨rfl, ba HX.out.bel _⟩
    · obtain rfl : j = os.length := by omega
      clear hlt hj hj6
      go_wp2
      go_ret
      exact ⟨rfl, HX.out.bel⟩
end Go.Proofs.YtjhekemgcmhjoaaGreatDoor
