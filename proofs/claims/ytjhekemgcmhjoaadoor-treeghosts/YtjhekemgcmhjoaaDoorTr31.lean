/- The law TreeGhosts. -/
import Derived.Test.YtjhekemgcmhjoaaDoorTr27
import Derived.BigQuiet
namespace Go.Proofs.YtjhekemgcmhjoaaDoor
open Go.ChangeShapes Go.WideShapes Go.ChangeAt Go.RowKit
set_option maxRecDepth 100000
attribute [local go_sem] World.cell?_alloc_some frozen_alloc_some

theorem Ghs.at5 {w w' : World} {a : Option Addr} {l cap : Nat} {gs : List Gh} (h : Ghs w (.slice a l cap) gs) (hb : Below w.heap.size w w') (i : Nat) (hi : i < gs.length) : ∃ b off g, a = some ⟨b, off, none⟩ ∧ gs[i]? = some g ∧ w'.cell? ⟨b, off + i * 5, none⟩ = some (.int .i64 g.pa) ∧ w'.cell? ⟨b, off + i * 5 + 1, none⟩ = some (.int .i64 g.sv.1) ∧ w'.cell? ⟨b, off + i * 5 + 2, none⟩ = some (.int .i64 g.sv.2.1) ∧ w'.cell? ⟨b, off + i * 5 + 3, none⟩ = some (.int .i64 g.sv.2.2) ∧ w'.cell? ⟨b, off + i * 5 + 4, none⟩ = some (.int .i64 g.un) := by
  obtain ⟨b, off, x, ha, hx, hc⟩ := h.at hb i hi
  exact ⟨b, off, x, ha, hx, five hc⟩
theorem BX.drew {W0 w : World} {g : Nat} {nv gv : Value} {ps : List Np} {t : Tr} (h : BX W0 g w nv gv ps t) : BX W0 g w.drew nv gv ps t := h.hold ((Below.refl _ w).drew)
theorem counted_bx {W0 W : World} {g : Nat} {nv gv : Value} {ps : List Np} {t : Tr} {k : Nat} (i : Int) (h : BX W0 g W nv gv ps t) (hok : t.Ok k) (hk : k ≤ 100) : Calls Tryd.prog 9 #[vTr nv gv t, .int .i64 i] W fun e w' => ∃ a c, e = .returned (.slice a (t.cnt i).length c) ∧ Svs w' (.slice a (t.cnt i).length c) (t.cnt i) ∧ Below W.heap.size W w' := by
  have h8 : t.Sm 1000 := hok.2.2.more (by omega)
  refine (counted_is W t nv gv ps i (h.own.trw h8 h.e) h8).mono ?_
  rintro e w' ⟨a, c, rfl, ho, hb⟩
  have hlen : (t.cnt i).length ≤ 2000 := by
    have h1 := h8.n
    have h2 := h8.g
    unfold Tr.cnt
    have h3 := List.length_filter_le (bel i) t.ns
    have h4 := List.length_filter_le (belG i) t.gs
    simp only [List.length_append, List.length_map]
    omega
  obtain ⟨la, lc, e, hs⟩ := svs_of_owns (xs := t.cnt i) (by omega) ho
  exact ⟨a, c, rfl, by rw [e]; exact hs, hb⟩
theorem Ap.node {A : Ops} {t u : Tr} {o : Od} {r : Rs} (h : Ap A t o u r) (h0 : r.1 = 0) (h1 : ¬ o.ki = 1) : ∃ n, t.nd o.id = some n := by
  cases h with
  | bad _ => simp at h0
  | no _ _ _ _ _ h => exact absurd h0 h
  | create hk _ _ _ => exact absurd hk h1
  | resize _ _ _ h3 => obtain ⟨⟨n, hn⟩, _⟩ := leaf_facts (rsC_zero h3).2.1; exact ⟨n, hn⟩
  | remove _ _ _ h3 => obtain ⟨⟨n, hn⟩, _⟩ := leaf_facts h3; exact ⟨n, hn⟩
  | bind _ _ _ h3 => obtain ⟨⟨n, hn⟩, _⟩ := leaf_facts (bdC_zero h3).2.1; exact ⟨n, hn⟩
set_option maxRecDepth 100000 in
set_option maxHeartbeats 25600000 in
theorem ghosts_walk (A : Ops) (w : World) (al : Option Addr) (cl : Nat) (os : List Op) (a : Nat → Addr) (h : Ods w (.slice al os.length cl) os) (E : Er6 w a) :
    Calls Tryd.prog 3 #[.slice al os.length cl] w fun e w' => e = .returned (.bool true) ∧ Below w.heap.size w w' := by
  have hlen : (os.length : Int) ≤ 9223372036854775807 := by
    obtain ⟨_, _, _, _, hl, _⟩ := h.row
    exact hl
  have HE := mkHid (And.intro h E)
  have HV : Hid (∀ W, Below w.heap.size w W → Calls Tryd.prog 4 #[] W fun e w' => e = .returned (.bool true) ∧ Below W.heap.size W w') := mkHid (fun W hW => talive A W a (E.late hW))
  clear h E
  go_enter Tryd.func3, Tryd.ntmps3
  go_wp2_with (go_at_call 4; refine (HV.out _ (Below.refl _ _)).mono ?_; rintro e w1 ⟨rfl, b1⟩; have HB1 := mkHid b1; clear b1)
  obtain ⟨g, hg⟩ : ∃ g, g = w1.heap.size := ⟨_, rfl⟩
  obtain ⟨W1, hW1⟩ : ∃ W1, W1 = w1.alloc (.cells #[.slice none 0 0, .slice none 0 0, .int .i64 0, .int .i64 0] 27) := ⟨_, rfl⟩
  have HX1 : Hid (BX w g W1 (.slice none 0 0) (.slice none 0 0) [] t0) := mkHid ⟨by rw [hW1]; exact ba HB1.out _, by rw [hg]; exact HB1.out.size, tro_nil _ _, rfl, by rw [hW1, hg]; exact heap_alloc_new w1 _⟩
  rw [← hW1, ← hg]
  clear hg hW1 HV HB1
  go_loopw [24] (fun iv wr => ∃ (j : Nat) (t : Tr) (nv gv : Value) (ps : List Np), iv = .int .i64 (j : Int) ∧ j ≤ os.length ∧ j ≤ 60 ∧ Hid (BX w g wr nv gv ps t) ∧ Hid (t.Ok j)) (fun iv _ => os.length - (intOf iv).toNat)
  case atStart => exact ⟨0, t0, _, _, [], rfl, Nat.zero_le _, by omega, HX1, mkHid ok_zero⟩
  case round =>
    obtain ⟨j, t, nv, gv, ps, rfl, hj, hj6, HX, HT⟩ := hrel
    clear HX1
    obtain ⟨na, nc, hnv, _⟩ := own_sh HX.out.own.nown
    obtain ⟨ga, gc, hgv, _⟩ := own_sh HX.out.own.gown
    subst hnv hgv
    by_cases hlt : j < os.length
    · obtain ⟨b, off, x, rfl, hxj, hat⟩ := HE.out.1.row.at HX.out.bel j hlt
      obtain ⟨q0, q1, q2, q3, q4, q5, q6, q7⟩ := eight_at hat
      have HW := mkHid (HE.out.1.each _ (List.mem_of_getElem? hxj))
      obtain ⟨⟨ki, id, ⟨k, q, T⟩, po, ts, tm⟩, ta, tc⟩ := x
      simp only [tvO] at q0 q1 q2 q3 q4 q5 q6 q7
      have hji : (j : Int) < os.length := by omega
      clear hat hxj
      by_cases h60 : j < 60
      · have hj60 : (60 ≤ (j : Int)) = False := by simp; omega
        obtain ⟨m0, m1, m2, m3⟩ := four HX.out.blk
        have HA : Hid (∀ W, Below wr.heap.size wr W → Calls Tryd.prog 5 #[.agg #[.slice na ps.length nc, .slice ga t.gs.length gc, .int .i64 t.last, .int .i64 t.now], .agg #[.int .i64 ki, .int .i64 id, .int .i64 k, .int .i64 q, .int .i64 T, .int .i64 po, .slice ta ts.length tc, .int .i64 tm]] W (ApP W (t.app A ⟨ki, id, (k, q, T), po, ts, tm⟩))) := mkHid (fun W hW => apply_bx (x := (⟨ki, id, (k, q, T), po, ts, tm⟩, ta, tc)) HX.out HT.out (by omega) hW HE.out.2 HW.out.1 HW.out.2)
        have HOK : Hid ((t.app A ⟨ki, id, (k, q, T), po, ts, tm⟩).1.Ok (j + 1)) := mkHid (HT.out.app _)
        have HAP := mkHid (app_ap A t ⟨ki, id, (k, q, T), po, ts, tm⟩)
        generalize t.app A ⟨ki, id, (k, q, T), po, ts, tm⟩ = R at *
        obtain ⟨u, rc, ri⟩ := R
        simp only at HOK HAP
        have HSM : Hid (j + 1 ≤ os.length ∧ j + 1 ≤ 60 ∧ os.length - (j + 1) < os.length - j) := mkHid ⟨by omega, by omega, by omega⟩
        have HU8 : Hid (u.Sm 1000 ∧ t.Sm 1000) := mkHid ⟨HOK.out.2.2.more (by omega), HT.out.2.2.more (by omega)⟩
        clear hlt hj hj6 h60
        by_cases hrc : rc = 0
        · subst hrc
          by_cases hk4 : ki = 4
          · subst hk4
            go_wp2_with (first | (go_at_call 5; (with_reducible refine (HA.out _ (ba (ba (Below.refl _ wr) _) _)).mono ?_); rintro e w2 ⟨nv2, gv2, ps2, rfl, ho2, he2, b2⟩; obtain ⟨na2, nc2, hnv2, _⟩ := own_sh ho2.nown; obtain ⟨ga2, gc2, hgv2, _⟩ := own_sh ho2.gown; subst hnv2 hgv2; obtain ⟨hx5, hx6, hb2⟩ := new_two b2; have hgb := (hb2.block g (lt_of_heap HX.out.blk)).trans HX.out.blk; have HO2 := mkHid (And.intro ho2 (And.intro he2 (And.intro hb2 (And.intro hx5 (And.intro hx6 (show wr.heap.size ≤ ((wr.alloc (.cells #[.int .i64 4, .int .i64 id, .int .i64 k, .int .i64 q, .int .i64 T, .int .i64 po, .slice ta ts.length tc, .int .i64 tm] 32)).alloc (.cells #[.slice na ps.length nc, .slice ga t.gs.length gc, .int .i64 t.last, .int .i64 t.now] 27)).heap.size by simp; omega)))))); have HGB : Hid (((w2.alloc (.cells #[.slice na2 ps2.length nc2, .slice ga2 u.gs.length gc2, .int .i64 u.last, .int .i64 u.now] 27)).alloc (.cells #[.int .i64 0, .int .i64 ri] 34)).heap[g]? = some (.cells #[.slice na ps.length nc, .slice ga t.gs.length gc, .int .i64 t.last, .int .i64 t.now] 27 (0, 0))) := mkHid ((heap_alloc_old _ _ (by have := lt_of_heap hgb; simp; omega)).trans ((heap_alloc_old w2 _ (lt_of_heap hgb)).trans hgb)); clear ho2 he2 b2 hb2 hgb hx5 hx6 m0 m1 m2 m3 q0 q1 q2 q3 q4 q5 q6 q7) | (refine wpList_store_box rfl 27 (.tmp 3) (.tmp 38) rfl g #[.slice na2 ps2.length nc2, .slice ga2 u.gs.length gc2, .int .i64 u.last, .int .i64 u.now] rfl rfl 27 _ HGB.out size_tree rfl (one_tr _ _ _ _ _ _ _ _) ?_; intro w3 h3 k3; have ba2 := ba (ba (Below.refl _ w2) (.cells #[.slice na2 ps2.length nc2, .slice ga2 u.gs.length gc2, .int .i64 u.last, .int .i64 u.now] 27)) (.cells #[.int .i64 0, .int .i64 ri] 34); obtain ⟨X3, Y3⟩ := HX.out.store (bt HO2.out.2.2.1 ba2) (HO2.out.1.below ba2) HO2.out.2.2.2.2.2 HO2.out.2.1 h3 k3; have z5 := (k3.block _ (lt_of_heap ((ba2.block _ (lt_of_heap HO2.out.2.2.2.1)).trans HO2.out.2.2.2.1)) (by have := lt_of_heap HX.out.blk; omega)).trans ((ba2.block _ (lt_of_heap HO2.out.2.2.2.1)).trans HO2.out.2.2.2.1); have z6 := (k3.block _ (lt_of_heap ((ba2.block _ (lt_of_heap HO2.out.2.2.2.2.1)).trans HO2.out.2.2.2.2.1)) (by have := lt_of_heap HX.out.blk; omega)).trans ((ba2.block _ (lt_of_heap HO2.out.2.2.2.2.1)).trans HO2.out.2.2.2.2.1); have z8 : w3.heap[w2.heap.size + 1]? = some (.cells #[.int .i64 0, .int .i64 ri] 34 (0, 0)) := (k3.block _ (by simp) (by have := lt_of_heap HX.out.blk; have := HO2.out.2.2.1.size; omega)).trans (by have := heap_alloc_new (w2.alloc (.cells #[.slice na2 ps2.length nc2, .slice ga2 u.gs.length gc2, .int .i64 u.last, .int .i64 u.now] 27)) (.cells #[.int .i64 0, .int .i64 ri] 34); simpa using this); have HX3 := mkHid X3; have HY3 := mkHid (And.intro Y3 (And.intro z5 (And.intro z6 z8))); obtain ⟨c0, c1, c2, c3, c4, c5, c6, c7⟩ := eight z5; obtain ⟨t0, t1, t2, t3⟩ := four z6; obtain ⟨m0, m1, m2, m3⟩ := four h3; have r0 := cell_of_block (i := 0) z8 rfl; clear h3 k3 ba2 X3 Y3 z5 z6 z8 HO2 HGB))
            go_roundw
            case rel => exact ⟨j + 1, u, _, _, ps2, by go_num, HSM.out.1, HSM.out.2.1, HX3, HOK⟩
            case measure => have := HSM.out.2.2; simp [intOf]; omega
          · have hk4b : (ki == 4) = false := by simpa using hk4
            have HGH : Hid (∀ p, p = (if ki = 1 then id else t.par id) → KC (u.srv p) (u.cnt p) 0 ∧ ∀ k g, u.gs[k]? = some g → g.pa = p → (¬ ki = 3 ∨ k + 1 = u.gs.length) → u.now + A.d (u.srv p) (u.cnt p) ≤ g.un) := mkHid (fun p hp => HAP.out.ghosts HT.out.1 rfl hk4 hp)
            by_cases hk1 : ki = 1
            · subst hk1
              obtain ⟨hkc, hgh⟩ := HGH.out id (by simp)
              have HGH2 := mkHid hgh
              obtain ⟨hdr, hdr1, hdc⟩ := d_some (A := A) hkc
              have HD1 : Hid (1 ≤ A.d (u.srv id) (u.cnt id) ∧ A.d (u.srv id) (u.cnt id) ≤ 4096) := mkHid ⟨hdr1, (d_range _ _).2⟩
              have HDR : Hid (∀ W v, Below w.heap.size w W → Svs W v (u.cnt id) → Calls Tryd.prog 8 #[vS (u.srv id), v] W fun e w' => e = .returned (.tuple #[.int .i64 (A.d (u.srv id) (u.cnt id)), .nilIface]) ∧ Below W.heap.size W w') := mkHid (fun W v hW hv => drain_is W (u.srv id) v (u.cnt id) a _ 0 hv (HE.out.2.late hW) hdc)
              have HS : Hid (∀ W nv gv ps, BX w g W nv gv ps u → Calls Tryd.prog 7 #[vTr nv gv u, .int .i64 id] W fun e w' => e = .returned (.tuple #[vS (u.srv id), .bool (u.hasB id)]) ∧ Below W.heap.size W w') := mkHid (fun W nv gv ps hx => server_is W u nv gv ps id (hx.own.trw HU8.out.1 hx.e) HU8.out.1)
              clear hkc hgh hdr hdr1 hdc HGH
              generalize A.d (u.srv id) (u.cnt id) = D at *
              generalize hsv : u.srv id = sv at *
              generalize u.hasB id = hb at *
              clear hsv
              obtain ⟨pk, pq, pt⟩ := sv
              go_wp2_with (first | (go_at_call 5; (with_reducible refine (HA.out _ (ba (ba (Below.refl _ wr) _) _)).mono ?_); rintro e w2 ⟨nv2, gv2, ps2, rfl, ho2, he2, b2⟩; obtain ⟨na2, nc2, hnv2, _⟩ := own_sh ho2.nown; obtain ⟨ga2, gc2, hgv2, _⟩ := own_sh ho2.gown; subst hnv2 hgv2; obtain ⟨hx5, hx6, hb2⟩ := new_two b2; have hgb := (hb2.block g (lt_of_heap HX.out.blk)).trans HX.out.blk; have HO2 := mkHid (And.intro ho2 (And.intro he2 (And.intro hb2 (And.intro hx5 (And.intro hx6 (show wr.heap.size ≤ ((wr.alloc (.cells #[.int .i64 1, .int .i64 id, .int .i64 k, .int .i64 q, .int .i64 T, .int .i64 po, .slice ta ts.length tc, .int .i64 tm] 32)).alloc (.cells #[.slice na ps.length nc, .slice ga t.gs.length gc, .int .i64 t.last, .int .i64 t.now] 27)).heap.size by simp; omega)))))); have HGB : Hid (((w2.alloc (.cells #[.slice na2 ps2.length nc2, .slice ga2 u.gs.length gc2, .int .i64 u.last, .int .i64 u.now] 27)).alloc (.cells #[.int .i64 0, .int .i64 ri] 34)).heap[g]? = some (.cells #[.slice na ps.length nc, .slice ga t.gs.length gc, .int .i64 t.last, .int .i64 t.now] 27 (0, 0))) := mkHid ((heap_alloc_old _ _ (by have := lt_of_heap hgb; simp; omega)).trans ((heap_alloc_old w2 _ (lt_of_heap hgb)).trans hgb)); clear ho2 he2 b2 hb2 hgb hx5 hx6 m0 m1 m2 m3 q0 q1 q2 q3 q4 q5 q6 q7) | (refine wpList_store_box rfl 27 (.tmp 3) (.tmp 38) rfl g #[.slice na2 ps2.length nc2, .slice ga2 u.gs.length gc2, .int .i64 u.last, .int .i64 u.now] rfl rfl 27 _ HGB.out size_tree rfl (one_tr _ _ _ _ _ _ _ _) ?_; intro w3 h3 k3; have ba2 := ba (ba (Below.refl _ w2) (.cells #[.slice na2 ps2.length nc2, .slice ga2 u.gs.length gc2, .int .i64 u.last, .int .i64 u.now] 27)) (.cells #[.int .i64 0, .int .i64 ri] 34); obtain ⟨X3, Y3⟩ := HX.out.store (bt HO2.out.2.2.1 ba2) (HO2.out.1.below ba2) HO2.out.2.2.2.2.2 HO2.out.2.1 h3 k3; have z5 := (k3.block _ (lt_of_heap ((ba2.block _ (lt_of_heap HO2.out.2.2.2.1)).trans HO2.out.2.2.2.1)) (by have := lt_of_heap HX.out.blk; omega)).trans ((ba2.block _ (lt_of_heap HO2.out.2.2.2.1)).trans HO2.out.2.2.2.1); have z6 := (k3.block _ (lt_of_heap ((ba2.block _ (lt_of_heap HO2.out.2.2.2.2.1)).trans HO2.out.2.2.2.2.1)) (by have := lt_of_heap HX.out.blk; omega)).trans ((ba2.block _ (lt_of_heap HO2.out.2.2.2.2.1)).trans HO2.out.2.2.2.2.1); have z8 : w3.heap[w2.heap.size + 1]? = some (.cells #[.int .i64 0, .int .i64 ri] 34 (0, 0)) := (k3.block _ (by simp) (by have := lt_of_heap HX.out.blk; have := HO2.out.2.2.1.size; omega)).trans (by have := heap_alloc_new (w2.alloc (.cells #[.slice na2 ps2.length nc2, .slice ga2 u.gs.length gc2, .int .i64 u.last, .int .i64 u.now] 27)) (.cells #[.int .i64 0, .int .i64 ri] 34); simpa using this); have HX3 := mkHid X3; have HY3 := mkHid (And.intro Y3 (And.intro z5 (And.intro z6 z8))); obtain ⟨c0, c1, c2, c3, c4, c5, c6, c7⟩ := eight z5; obtain ⟨t0, t1, t2, t3⟩ := four z6; obtain ⟨m0, m1, m2, m3⟩ := four h3; have r0 := cell_of_block (i := 0) z8 rfl; clear h3 k3 ba2 X3 Y3 z5 z6 z8 HO2 HGB) | (go_at_call 7; (with_reducible refine (HS.out _ _ _ _ HX3.out).mono ?_); rintro e w5 ⟨rfl, b5⟩; have HX5 := mkHid (HX3.out.hold b5); have HO5 : Hid (w5.heap[wr.heap.size]? = some (.cells #[.int .i64 1, .int .i64 id, .int .i64 k, .int .i64 q, .int .i64 T, .int .i64 po, .slice ta ts.length tc, .int .i64 tm] 32 (0, 0))) := mkHid ((b5.block _ (lt_of_heap HY3.out.2.1)).trans HY3.out.2.1); clear b5 m0 m1 m2 m3 c0 c1 c2 c3 c4 c5 c6 c7 t0 t1 t2 t3 r0; obtain ⟨m0, m1, m2, m3⟩ := four HX5.out.blk; obtain ⟨c0, c1, _, _, _, _, _, _⟩ := eight HO5.out))
              obtain ⟨B, hB⟩ : ∃ B, B = w5.heap.size := ⟨_, rfl⟩
              obtain ⟨W8, hW8⟩ : ∃ W8, W8 = w5.alloc (.cells #[.int .i64 pk, .int .i64 pq, .int .i64 pt] 29) := ⟨_, rfl⟩
              have HX8 : Hid (BX w g W8 (.slice na2 ps2.length nc2) (.slice ga2 u.gs.length gc2) ps2 u) := mkHid (by rw [hW8]; exact HX5.out.hold (ba (Below.refl _ _) _))
              have HN8 : Hid (W8.heap[B]? = some (.cells #[.int .i64 pk, .int .i64 pq, .int .i64 pt] 29 (0, 0))) := mkHid (by rw [hW8, hB]; exact heap_alloc_new w5 _)
              have HO8 : Hid (W8.heap[wr.heap.size]? = some (.cells #[.int .i64 1, .int .i64 id, .int .i64 k, .int .i64 q, .int .i64 T, .int .i64 po, .slice ta ts.length tc, .int .i64 tm] 32 (0, 0))) := mkHid (by rw [hW8]; exact (heap_alloc_old w5 _ (lt_of_heap HO5.out)).trans HO5.out)
              rw [← hW8, ← hB]
              clear hW8 hB m0 m1 m2 m3 c0 c1
              have ob0 := cell_of_block (i := 0) HN8.out rfl
              have ob1 := cell_of_block (i := 1) HN8.out rfl
              have ob2 := cell_of_block (i := 2) HN8.out rfl
              obtain ⟨om0, om1, om2, om3⟩ := four HX8.out.blk
              go_region_held3 (fun w' => w'.cell? ⟨B, 0, none⟩ = some (.int .i64 pk) ∧ w'.cell? ⟨B, 1, none⟩ = some (.int .i64 pq) ∧ w'.cell? ⟨B, 2, none⟩ = some (.int .i64 pt) ∧ w'.cell? ⟨g, 0, none⟩ = some (.slice na2 ps2.length nc2) ∧ w'.cell? ⟨g, 1, none⟩ = some (.slice ga2 u.gs.length gc2) ∧ w'.cell? ⟨g, 2, none⟩ = some (.int .i64 u.last) ∧ w'.cell? ⟨g, 3, none⟩ = some (.int .i64 u.now)) (go_keep) (first | (go_at_call 9; (with_reducible refine (counted_bx id HX8.out.drew HOK.out (by have := HSM.out; omega)).mono ?_); rintro e w9 ⟨a9, c9, rfl, hs9, b9⟩; have HX9 := mkHid (HX8.out.drew.hold b9); have HN9 : Hid (w9.heap[B]? = some (.cells #[.int .i64 pk, .int .i64 pq, .int .i64 pt] 29 (0, 0))) := mkHid ((b9.block B (lt_of_heap HN8.out)).trans HN8.out); have HO9 : Hid (w9.heap[wr.heap.size]? = some (.cells #[.int .i64 1, .int .i64 id, .int .i64 k, .int .i64 q, .int .i64 T, .int .i64 po, .slice ta ts.length tc, .int .i64 tm] 32 (0, 0))) := mkHid ((b9.block _ (lt_of_heap HO8.out)).trans HO8.out); have HS9 := mkHid hs9; clear hs9 b9; have pb0 := cell_of_block (i := 0) HN9.out rfl; have pb1 := cell_of_block (i := 1) HN9.out rfl; have pb2 := cell_of_block (i := 2) HN9.out rfl; obtain ⟨pm0, pm1, pm2, pm3⟩ := four HX9.out.blk) | (go_at_call 8; (with_reducible refine (HDR.out _ _ HX9.out.bel HS9.out).mono ?_); rintro e wa ⟨rfl, ba'⟩; have HXa := mkHid (HX9.out.hold ba'); have HNa : Hid (wa.heap[B]? = some (.cells #[.int .i64 pk, .int .i64 pq, .int .i64 pt] 29 (0, 0))) := mkHid ((ba'.block B (lt_of_heap HN9.out)).trans HN9.out); have HOa : Hid (wa.heap[wr.heap.size]? = some (.cells #[.int .i64 1, .int .i64 id, .int .i64 k, .int .i64 q, .int .i64 T, .int .i64 po, .slice ta ts.length tc, .int .i64 tm] 32 (0, 0))) := mkHid ((ba'.block _ (lt_of_heap HO9.out)).trans HO9.out); clear ba' HS9; have sb0 := cell_of_block (i := 0) HNa.out rfl; have sb1 := cell_of_block (i := 1) HNa.out rfl; have sb2 := cell_of_block (i := 2) HNa.out rfl; obtain ⟨sm0, sm1, sm2, sm3⟩ := four HXa.out.blk))
              have hd1 : decide (D < 1) = false := decide_eq_false (by have := HD1.out; omega)
              go_wp2
              clear sm0 sm1 sm2 sm3 om0 om1 om2 om3 pm0 pm1 pm2 pm3 pb0 pb1 pb2 sb0 sb1 sb2 ob0 ob1 ob2
              have HGW : Hid (Ghs wa (.slice ga2 u.gs.length gc2) u.gs) := mkHid (HXa.out.own.trw HU8.out.1 HXa.out.e).g
              go_loopw [84] (fun iv wr2 => ∃ (i : Nat), iv = .int .i64 (i : Int) ∧ i ≤ u.gs.length ∧ Hid (Below wa.heap.size wa wr2)) (fun iv _ => u.gs.length - (intOf iv).toNat)
              case atStart => exact ⟨0, rfl, Nat.zero_le _, mkHid (Below.refl _ _)⟩
              case round =>
                obtain ⟨i, rfl, hi, HB7⟩ := hrel
                rename World => w7
                have hgl2 : (u.gs.length : Int) ≤ 1000 := by have := HU8.out.1.g; omega
                obtain ⟨m0, m1, m2, m3⟩ := four ((HB7.out.block _ (lt_of_heap HXa.out.blk)).trans HXa.out.blk)
                obtain ⟨c0, c1, _, _, _, _, _, _⟩ := eight ((HB7.out.block _ (lt_of_heap HOa.out)).trans HOa.out)
                by_cases hit : i < u.gs.length
                · obtain ⟨b1, o1, gg, rfl, e1, r0, r1, r2, r3, r4⟩ := Ghs.at5 HGW.out HB7.out i hit
                  have HUN := mkHid (HGH2.out i gg e1)
                  obtain ⟨gpa, ⟨gk, gq, gt⟩, gun⟩ := gg
                  simp only at r0 r1 r2 r3 r4 HUN
                  have hil : (i : Int) < u.gs.length := by omega
                  have HSI : Hid (i + 1 ≤ u.gs.length ∧ u.gs.length - (i + 1) < u.gs.length - i) := mkHid ⟨by omega, by omega⟩
                  have hnow0 := HOK.out.1.now0
                  have hnow1 := HOK.out.1.now1
                  have hD4 := HD1.out
                  obtain ⟨N, hN⟩ : ∃ N, N = u.now + D := ⟨_, rfl⟩
                  have eN : IntKind.i64.wrap (u.now + D) = N := by rw [hN]; exact wfit (by omega) (by omega)
                  by_cases hgp : gpa = id
                  · subst hgp
                    have hun : decide (gun < N) = false := decide_eq_false (by have := HUN.out rfl (.inl (by omega)); omega)
                    clear e1 hit hi hN HUN
                    go_wp2
                    go_roundw
                    case rel => exact ⟨i + 1, by go_num, HSI.out.1, mkHid (ba HB7.out _)⟩
                    case measure => have := HSI.out.2; simp [intOf]; omega
                  · have hgpb : (gpa == id) = false := by simpa using hgp
                    clear e1 hit hi hN
                    go_wp2
                    go_roundw
                    case rel => exact ⟨i + 1, by go_num, HSI.out.1, mkHid (ba HB7.out _)⟩
                    case measure => have := HSI.out.2; simp [intOf]; omega
                · have hil : ¬ (i : Int) < u.gs.length := by omega
                  have HXz := mkHid (HXa.out.hold HB7.out)
                  clear hit hi
                  go_wp2
                  go_roundw
                  case rel => exact ⟨j + 1, u, _, _, ps2, by go_num, HSM.out.1, HSM.out.2.1, HXz, HOK⟩
                  case measure => have := HSM.out.2.2; simp [intOf]; omega
            · have hk1b : (ki == 1) = false := by simpa using hk1
              obtain ⟨n, hn⟩ := HAP.out.node rfl hk1
              simp only at hn
              have HN := mkHid hn
              have HPA : Hid (n.pa = if ki = 1 then id else t.par id) := mkHid (by rw [if_neg hk1, par_of hn])
              clear hn
              obtain ⟨hkc, hgh⟩ := HGH.out n.pa (HPA.out)
              have HGH2 := mkHid hgh
              obtain ⟨hdr, hdr1, hdc⟩ := d_some (A := A) hkc
              have HD1 : Hid (1 ≤ A.d (u.srv n.pa) (u.cnt n.pa) ∧ A.d (u.srv n.pa) (u.cnt n.pa) ≤ 4096) := mkHid ⟨hdr1, (d_range _ _).2⟩
              have HDR : Hid (∀ W v, Below w.heap.size w W → Svs W v (u.cnt n.pa) → Calls Tryd.prog 8 #[vS (u.srv n.pa), v] W fun e w' => e = .returned (.tuple #[.int .i64 (A.d (u.srv n.pa) (u.cnt n.pa)), .nilIface]) ∧ Below W.heap.size W w') := mkHid (fun W v hW hv => drain_is W (u.srv n.pa) v (u.cnt n.pa) a _ 0 hv (HE.out.2.late hW) hdc)
              have HS : Hid (∀ W nv gv ps, BX w g W nv gv ps u → Calls Tryd.prog 7 #[vTr nv gv u, .int .i64 n.pa] W fun e w' => e = .returned (.tuple #[vS (u.srv n.pa), .bool (u.hasB n.pa)]) ∧ Below W.heap.size W w') := mkHid (fun W nv gv ps hx => server_is W u nv gv ps n.pa (hx.own.trw HU8.out.1 hx.e) HU8.out.1)
              clear hkc hgh hdr hdr1 hdc HGH
              generalize A.d (u.srv n.pa) (u.cnt n.pa) = D at *
              generalize hsv : u.srv n.pa = sv at *
              generalize u.hasB n.pa = hb at *
              clear hsv
              obtain ⟨pk, pq, pt⟩ := sv
              obtain ⟨nid, npa, ⟨nk, nq, nt⟩, npo, nts⟩ := n
              simp only at HS HGH2
              go_wp2_with (first | (go_at_call 5; (with_reducible refine (HA.out _ (ba (ba (Below.refl _ wr) _) _)).mono ?_); rintro e w2 ⟨nv2, gv2, ps2, rfl, ho2, he2, b2⟩; obtain ⟨na2, nc2, hnv2, _⟩ := own_sh ho2.nown; obtain ⟨ga2, gc2, hgv2, _⟩ := own_sh ho2.gown; subst hnv2 hgv2; obtain ⟨hx5, hx6, hb2⟩ := new_two b2; have hgb := (hb2.block g (lt_of_heap HX.out.blk)).trans HX.out.blk; have HO2 := mkHid (And.intro ho2 (And.intro he2 (And.intro hb2 (And.intro hx5 (And.intro hx6 (show wr.heap.size ≤ ((wr.alloc (.cells #[.int .i64 ki, .int .i64 id, .int .i64 k, .int .i64 q, .int .i64 T, .int .i64 po, .slice ta ts.length tc, .int .i64 tm] 32)).alloc (.cells #[.slice na ps.length nc, .slice ga t.gs.length gc, .int .i64 t.last, .int .i64 t.now] 27)).heap.size by simp; omega)))))); have HGB : Hid (((w2.alloc (.cells #[.slice na2 ps2.length nc2, .slice ga2 u.gs.length gc2, .int .i64 u.last, .int .i64 u.now] 27)).alloc (.cells #[.int .i64 0, .int .i64 ri] 34)).heap[g]? = some (.cells #[.slice na ps.length nc, .slice ga t.gs.length gc, .int .i64 t.last, .int .i64 t.now] 27 (0, 0))) := mkHid ((heap_alloc_old _ _ (by have := lt_of_heap hgb; simp; omega)).trans ((heap_alloc_old w2 _ (lt_of_heap hgb)).trans hgb)); clear ho2 he2 b2 hb2 hgb hx5 hx6 m0 m1 m2 m3 q0 q1 q2 q3 q4 q5 q6 q7) | (refine wpList_store_box rfl 27 (.tmp 3) (.tmp 38) rfl g #[.slice na2 ps2.length nc2, .slice ga2 u.gs.length gc2, .int .i64 u.last, .int .i64 u.now] rfl rfl 27 _ HGB.out size_tree rfl (one_tr _ _ _ _ _ _ _ _) ?_; intro w3 h3 k3; have ba2 := ba (ba (Below.refl _ w2) (.cells #[.slice na2 ps2.length nc2, .slice ga2 u.gs.length gc2, .int .i64 u.last, .int .i64 u.now] 27)) (.cells #[.int .i64 0, .int .i64 ri] 34); obtain ⟨X3, Y3⟩ := HX.out.store (bt HO2.out.2.2.1 ba2) (HO2.out.1.below ba2) HO2.out.2.2.2.2.2 HO2.out.2.1 h3 k3; have z5 := (k3.block _ (lt_of_heap ((ba2.block _ (lt_of_heap HO2.out.2.2.2.1)).trans HO2.out.2.2.2.1)) (by have := lt_of_heap HX.out.blk; omega)).trans ((ba2.block _ (lt_of_heap HO2.out.2.2.2.1)).trans HO2.out.2.2.2.1); have z6 := (k3.block _ (lt_of_heap ((ba2.block _ (lt_of_heap HO2.out.2.2.2.2.1)).trans HO2.out.2.2.2.2.1)) (by have := lt_of_heap HX.out.blk; omega)).trans ((ba2.block _ (lt_of_heap HO2.out.2.2.2.2.1)).trans HO2.out.2.2.2.2.1); have z8 : w3.heap[w2.heap.size + 1]? = some (.cells #[.int .i64 0, .int .i64 ri] 34 (0, 0)) := (k3.block _ (by simp) (by have := lt_of_heap HX.out.blk; have := HO2.out.2.2.1.size; omega)).trans (by have := heap_alloc_new (w2.alloc (.cells #[.slice na2 ps2.length nc2, .slice ga2 u.gs.length gc2, .int .i64 u.last, .int .i64 u.now] 27)) (.cells #[.int .i64 0, .int .i64 ri] 34); simpa using this); have HX3 := mkHid X3; have HY3 := mkHid (And.intro Y3 (And.intro z5 (And.intro z6 z8))); obtain ⟨c0, c1, c2, c3, c4, c5, c6, c7⟩ := eight z5; obtain ⟨t0, t1, t2, t3⟩ := four z6; obtain ⟨m0, m1, m2, m3⟩ := four h3; have r0 := cell_of_block (i := 0) z8 rfl; clear h3 k3 ba2 X3 Y3 z5 z6 z8 HO2 HGB) | (go_at_call 6; (with_reducible refine (find_yes w3 t _ _ ps id _ (HY3.out.1.trw HU8.out.2 HX.out.e) HN.out (by have := HU8.out.2.s _ (nd_some HN.out).1; omega)).mono ?_); rintro e w4 ⟨fa, fc, rfl, _, b4⟩; have HX4 := mkHid (HX3.out.hold b4); have HO4 : Hid (w4.heap[wr.heap.size]? = some (.cells #[.int .i64 ki, .int .i64 id, .int .i64 k, .int .i64 q, .int .i64 T, .int .i64 po, .slice ta ts.length tc, .int .i64 tm] 32 (0, 0))) := mkHid ((b4.block _ (lt_of_heap HY3.out.2.1)).trans HY3.out.2.1); clear b4 m0 m1 m2 m3 c0 c1 c2 c3 c4 c5 c6 c7 t0 t1 t2 t3 r0; obtain ⟨m0, m1, m2, m3⟩ := four HX4.out.blk; obtain ⟨c0, c1, _, _, _, _, _, _⟩ := eight HO4.out) | (go_at_call 7; (with_reducible refine (HS.out _ _ _ _ (HX4.out.hold (ba (Below.refl _ _) _))).mono ?_); rintro e w5 ⟨rfl, b5⟩; have HX5 := mkHid ((HX4.out.hold (ba (Below.refl _ _) _)).hold b5); have HO5 : Hid (w5.heap[wr.heap.size]? = some (.cells #[.int .i64 ki, .int .i64 id, .int .i64 k, .int .i64 q, .int .i64 T, .int .i64 po, .slice ta ts.length tc, .int .i64 tm] 32 (0, 0))) := mkHid ((b5.block _ (by have := lt_of_heap HO4.out; simp; omega)).trans ((heap_alloc_old w4 _ (lt_of_heap HO4.out)).trans HO4.out)); clear b5 m0 m1 m2 m3 c0 c1; obtain ⟨m0, m1, m2, m3⟩ := four HX5.out.blk; obtain ⟨c0, c1, _, _, _, _, _, _⟩ := eight HO5.out))
              obtain ⟨B, hB⟩ : ∃ B, B = w5.heap.size := ⟨_, rfl⟩
              obtain ⟨W8, hW8⟩ : ∃ W8, W8 = w5.alloc (.cells #[.int .i64 pk, .int .i64 pq, .int .i64 pt] 29) := ⟨_, rfl⟩
              have HX8 : Hid (BX w g W8 (.slice na2 ps2.length nc2) (.slice ga2 u.gs.length gc2) ps2 u) := mkHid (by rw [hW8]; exact HX5.out.hold (ba (Below.refl _ _) _))
              have HN8 : Hid (W8.heap[B]? = some (.cells #[.int .i64 pk, .int .i64 pq, .int .i64 pt] 29 (0, 0))) := mkHid (by rw [hW8, hB]; exact heap_alloc_new w5 _)
              have HO8 : Hid (W8.heap[wr.heap.size]? = some (.cells #[.int .i64 ki, .int .i64 id, .int .i64 k, .int .i64 q, .int .i64 T, .int .i64 po, .slice ta ts.length tc, .int .i64 tm] 32 (0, 0))) := mkHid (by rw [hW8]; exact (heap_alloc_old w5 _ (lt_of_heap HO5.out)).trans HO5.out)
              rw [← hW8, ← hB]
              clear hW8 hB m0 m1 m2 m3 c0 c1
              have ob0 := cell_of_block (i := 0) HN8.out rfl
              have ob1 := cell_of_block (i := 1) HN8.out rfl
              have ob2 := cell_of_block (i := 2) HN8.out rfl
              obtain ⟨om0, om1, om2, om3⟩ := four HX8.out.blk
              go_region_held3 (fun w' => w'.cell? ⟨B, 0, none⟩ = some (.int .i64 pk) ∧ w'.cell? ⟨B, 1, none⟩ = some (.int .i64 pq) ∧ w'.cell? ⟨B, 2, none⟩ = some (.int .i64 pt) ∧ w'.cell? ⟨g, 0, none⟩ = some (.slice na2 ps2.length nc2) ∧ w'.cell? ⟨g, 1, none⟩ = some (.slice ga2 u.gs.length gc2) ∧ w'.cell? ⟨g, 2, none⟩ = some (.int .i64 u.last) ∧ w'.cell? ⟨g, 3, none⟩ = some (.int .i64 u.now)) (go_keep) (first | (go_at_call 9; (with_reducible refine (counted_bx npa HX8.out.drew HOK.out (by have := HSM.out; omega)).mono ?_); rintro e w9 ⟨a9, c9, rfl, hs9, b9⟩; have HX9 := mkHid (HX8.out.drew.hold b9); have HN9 : Hid (w9.heap[B]? = some (.cells #[.int .i64 pk, .int .i64 pq, .int .i64 pt] 29 (0, 0))) := mkHid ((b9.block B (lt_of_heap HN8.out)).trans HN8.out); have HO9 : Hid (w9.heap[wr.heap.size]? = some (.cells #[.int .i64 ki, .int .i64 id, .int .i64 k, .int .i64 q, .int .i64 T, .int .i64 po, .slice ta ts.length tc, .int .i64 tm] 32 (0, 0))) := mkHid ((b9.block _ (lt_of_heap HO8.out)).trans HO8.out); have HS9 := mkHid hs9; clear hs9 b9; have pb0 := cell_of_block (i := 0) HN9.out rfl; have pb1 := cell_of_block (i := 1) HN9.out rfl; have pb2 := cell_of_block (i := 2) HN9.out rfl; obtain ⟨pm0, pm1, pm2, pm3⟩ := four HX9.out.blk) | (go_at_call 8; (with_reducible refine (HDR.out _ _ HX9.out.bel HS9.out).mono ?_); rintro e wa ⟨rfl, ba'⟩; have HXa := mkHid (HX9.out.hold ba'); have HNa : Hid (wa.heap[B]? = some (.cells #[.int .i64 pk, .int .i64 pq, .int .i64 pt] 29 (0, 0))) := mkHid ((ba'.block B (lt_of_heap HN9.out)).trans HN9.out); have HOa : Hid (wa.heap[wr.heap.size]? = some (.cells #[.int .i64 ki, .int .i64 id, .int .i64 k, .int .i64 q, .int .i64 T, .int .i64 po, .slice ta ts.length tc, .int .i64 tm] 32 (0, 0))) := mkHid ((ba'.block _ (lt_of_heap HO9.out)).trans HO9.out); clear ba' HS9; have sb0 := cell_of_block (i := 0) HNa.out rfl; have sb1 := cell_of_block (i := 1) HNa.out rfl; have sb2 := cell_of_block (i := 2) HNa.out rfl; obtain ⟨sm0, sm1, sm2, sm3⟩ := four HXa.out.blk))
              have hd1 : decide (D < 1) = false := decide_eq_false (by have := HD1.out; omega)
              go_wp2
              clear sm0 sm1 sm2 sm3 om0 om1 om2 om3 pm0 pm1 pm2 pm3 pb0 pb1 pb2 sb0 sb1 sb2 ob0 ob1 ob2
              have HGW : Hid (Ghs wa (.slice ga2 u.gs.length gc2) u.gs) := mkHid (HXa.out.own.trw HU8.out.1 HXa.out.e).g
              go_loopw [84] (fun iv wr2 => ∃ (i : Nat), iv = .int .i64 (i : Int) ∧ i ≤ u.gs.length ∧ Hid (Below wa.heap.size wa wr2)) (fun iv _ => u.gs.length - (intOf iv).toNat)
              case atStart => exact ⟨0, rfl, Nat.zero_le _, mkHid (Below.refl _ _)⟩
              case round =>
                obtain ⟨i, rfl, hi, HB7⟩ := hrel
                rename World => w7
                have hgl2 : (u.gs.length : Int) ≤ 1000 := by have := HU8.out.1.g; omega
                obtain ⟨m0, m1, m2, m3⟩ := four ((HB7.out.block _ (lt_of_heap HXa.out.blk)).trans HXa.out.blk)
                obtain ⟨c0, c1, _, _, _, _, _, _⟩ := eight ((HB7.out.block _ (lt_of_heap HOa.out)).trans HOa.out)
                by_cases hit : i < u.gs.length
                · obtain ⟨b1, o1, gg, rfl, e1, r0, r1, r2, r3, r4⟩ := Ghs.at5 HGW.out HB7.out i hit
                  have HUN := mkHid (HGH2.out i gg e1)
                  obtain ⟨gpa, ⟨gk, gq, gt⟩, gun⟩ := gg
                  simp only at r0 r1 r2 r3 r4 HUN
                  have hil : (i : Int) < u.gs.length := by omega
                  have HSI : Hid (i + 1 ≤ u.gs.length ∧ u.gs.length - (i + 1) < u.gs.length - i) := mkHid ⟨by omega, by omega⟩
                  have hnow0 := HOK.out.1.now0
                  have hnow1 := HOK.out.1.now1
                  have hD4 := HD1.out
                  obtain ⟨N, hN⟩ : ∃ N, N = u.now + D := ⟨_, rfl⟩
                  have eN : IntKind.i64.wrap (u.now + D) = N := by rw [hN]; exact wfit (by omega) (by omega)
                  by_cases hgp : gpa = npa
                  · subst hgp
                    by_cases hk3 : ki = 3
                    · subst hk3
                      by_cases hla : i + 1 = u.gs.length
                      · have hun : decide (gun < N) = false := decide_eq_false (by have := HUN.out rfl (.inr hla); omega)
                        have hlb : (i : Int) = (u.gs.length : Int) - 1 := by omega
                        have hlc : IntKind.i64.wrap ((u.gs.length : Int) - 1) = (i : Int) := by rw [← hlb]; exact wfit (by omega) (by omega)
                        clear hlb hla
                        clear e1 hit hi hN HUN
                        go_wp2
                        go_roundw
                        case rel => exact ⟨i + 1, by go_num, HSI.out.1, mkHid (ba HB7.out _)⟩
                        case measure => have := HSI.out.2; simp [intOf]; omega
                      · obtain ⟨Y, hY⟩ : ∃ Y, Y = (u.gs.length : Int) - 1 := ⟨_, rfl⟩
                        have hlc : IntKind.i64.wrap ((u.gs.length : Int) - 1) = Y := by rw [hY]; exact wfit (by omega) (by omega)
                        have hlb : ((i : Int) == Y) = false := beq_eq_false_iff_ne.mpr (by omega)
                        clear hY hla
                        clear e1 hit hi hN HUN
                        go_wp2
                        go_roundw
                        case rel => exact ⟨i + 1, by go_num, HSI.out.1, mkHid (ba HB7.out _)⟩
                        case measure => have := HSI.out.2; simp [intOf]; omega
                    · have hk3b : (ki == 3) = false := by simpa using hk3
                      have hun : decide (gun < N) = false := decide_eq_false (by have := HUN.out rfl (.inl hk3); omega)
                      clear e1 hit hi hN HUN
                      go_wp2
                      go_roundw
                      case rel => exact ⟨i + 1, by go_num, HSI.out.1, mkHid (ba HB7.out _)⟩
                      case measure => have := HSI.out.2; simp [intOf]; omega
                  · have hgpb : (gpa == npa) = false := by simpa using hgp
                    clear e1 hit hi hN
                    go_wp2
                    go_roundw
                    case rel => exact ⟨i + 1, by go_num, HSI.out.1, mkHid (ba HB7.out _)⟩
                    case measure => have := HSI.out.2; simp [intOf]; omega
                · have hil : ¬ (i : Int) < u.gs.length := by omega
                  have HXz := mkHid (HXa.out.hold HB7.out)
                  clear hit hi
                  go_wp2
                  go_roundw
                  case rel => exact ⟨j + 1, u, _, _, ps2, by go_num, HSM.out.1, HSM.out.2.1, HXz, HOK⟩
                  case measure => have := HSM.out.2.2; simp [intOf]; omega
        · have hrcb : (rc == 0) = false := by simpa using hrc
          go_wp2_with (first | (go_at_call 5; (with_reducible refine (HA.out _ (ba (ba (Below.refl _ wr) _) _)).mono ?_); rintro e w2 ⟨nv2, gv2, ps2, rfl, ho2, he2, b2⟩; obtain ⟨na2, nc2, hnv2, _⟩ := own_sh ho2.nown; obtain ⟨ga2, gc2, hgv2, _⟩ := own_sh ho2.gown; subst hnv2 hgv2; obtain ⟨hx5, hx6, hb2⟩ := new_two b2; have hgb := (hb2.block g (lt_of_heap HX.out.blk)).trans HX.out.blk; have HO2 := mkHid (And.intro ho2 (And.intro he2 (And.intro hb2 (And.intro hx5 (And.intro hx6 (show wr.heap.size ≤ ((wr.alloc (.cells #[.int .i64 ki, .int .i64 id, .int .i64 k, .int .i64 q, .int .i64 T, .int .i64 po, .slice ta ts.length tc, .int .i64 tm] 32)).alloc (.cells #[.slice na ps.length nc, .slice ga t.gs.length gc, .int .i64 t.last, .int .i64 t.now] 27)).heap.size by simp; omega)))))); have HGB : Hid (((w2.alloc (.cells #[.slice na2 ps2.length nc2, .slice ga2 u.gs.length gc2, .int .i64 u.last, .int .i64 u.now] 27)).alloc (.cells #[.int .i64 rc, .int .i64 ri] 34)).heap[g]? = some (.cells #[.slice na ps.length nc, .slice ga t.gs.length gc, .int .i64 t.last, .int .i64 t.now] 27 (0, 0))) := mkHid ((heap_alloc_old _ _ (by have := lt_of_heap hgb; simp; omega)).trans ((heap_alloc_old w2 _ (lt_of_heap hgb)).trans hgb)); clear ho2 he2 b2 hb2 hgb hx5 hx6 m0 m1 m2 m3 q0 q1 q2 q3 q4 q5 q6 q7) | (refine wpList_store_box rfl 27 (.tmp 3) (.tmp 38) rfl g #[.slice na2 ps2.length nc2, .slice ga2 u.gs.length gc2, .int .i64 u.last, .int .i64 u.now] rfl rfl 27 _ HGB.out size_tree rfl (one_tr _ _ _ _ _ _ _ _) ?_; intro w3 h3 k3; have ba2 := ba (ba (Below.refl _ w2) (.cells #[.slice na2 ps2.length nc2, .slice ga2 u.gs.length gc2, .int .i64 u.last, .int .i64 u.now] 27)) (.cells #[.int .i64 rc, .int .i64 ri] 34); obtain ⟨X3, Y3⟩ := HX.out.store (bt HO2.out.2.2.1 ba2) (HO2.out.1.below ba2) HO2.out.2.2.2.2.2 HO2.out.2.1 h3 k3; have z5 := (k3.block _ (lt_of_heap ((ba2.block _ (lt_of_heap HO2.out.2.2.2.1)).trans HO2.out.2.2.2.1)) (by have := lt_of_heap HX.out.blk; omega)).trans ((ba2.block _ (lt_of_heap HO2.out.2.2.2.1)).trans HO2.out.2.2.2.1); have z6 := (k3.block _ (lt_of_heap ((ba2.block _ (lt_of_heap HO2.out.2.2.2.2.1)).trans HO2.out.2.2.2.2.1)) (by have := lt_of_heap HX.out.blk; omega)).trans ((ba2.block _ (lt_of_heap HO2.out.2.2.2.2.1)).trans HO2.out.2.2.2.2.1); have z8 : w3.heap[w2.heap.size + 1]? = some (.cells #[.int .i64 rc, .int .i64 ri] 34 (0, 0)) := (k3.block _ (by simp) (by have := lt_of_heap HX.out.blk; have := HO2.out.2.2.1.size; omega)).trans (by have := heap_alloc_new (w2.alloc (.cells #[.slice na2 ps2.length nc2, .slice ga2 u.gs.length gc2, .int .i64 u.last, .int .i64 u.now] 27)) (.cells #[.int .i64 rc, .int .i64 ri] 34); simpa using this); have HX3 := mkHid X3; have HY3 := mkHid (And.intro Y3 (And.intro z5 (And.intro z6 z8))); obtain ⟨c0, c1, c2, c3, c4, c5, c6, c7⟩ := eight z5; obtain ⟨t0, t1, t2, t3⟩ := four z6; obtain ⟨m0, m1, m2, m3⟩ := four h3; have r0 := cell_of_block (i := 0) z8 rfl; clear h3 k3 ba2 X3 Y3 z5 z6 z8 HO2 HGB))
          go_roundw
          case rel => exact ⟨j + 1, u, _, _, ps2, by go_num, HSM.out.1, HSM.out.2.1, HX3, HOK⟩
          case measure => have := HSM.out.2.2; simp [intOf]; omega
      · obtain rfl : j = 60 := by omega
        have hj60 : (60 : Int) < os.length := by omega
        clear hlt hj hj6 h60
        go_wp2
        go_ret
        exact ⟨rfl, ba HX.out.bel _⟩
    · obtain rfl : j = os.length := by omega
      clear hlt hj hj6
      go_wp2
      go_ret
      exact ⟨rfl, HX.out.bel⟩
end Go.Proofs.YtjhekemgcmhjoaaDoor
