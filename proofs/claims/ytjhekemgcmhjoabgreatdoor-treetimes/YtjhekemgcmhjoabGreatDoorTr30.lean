/- The document's Same of trees that are the same; the law TreeTimes. -/
import Derived.Test.YtjhekemgcmhjoabGreatDoorTr26
import Derived.Test.YtjhekemgcmhjoabGreatDoorTr27
namespace Go.Proofs.YtjhekemgcmhjoabGreatDoor
open Go.ChangeShapes Go.WideShapes Go.ChangeAt Go.RowKit
set_option maxRecDepth 100000
attribute [local go_sem] World.cell?_alloc_some frozen_alloc_some

theorem Ghs.at5 {w w' : World} {a : Option Addr} {l cap : Nat} {gs : List Gh} (h : Ghs w (.slice a l cap) gs) (hb : Below w.heap.size w w') (i : Nat) (hi : i < gs.length) : ∃ b off g, a = some ⟨b, off, none⟩ ∧ gs[i]? = some g ∧ w'.cell? ⟨b, off + i * 5, none⟩ = some (.int .i64 g.pa) ∧ w'.cell? ⟨b, off + i * 5 + 1, none⟩ = some (.int .i64 g.sv.1) ∧ w'.cell? ⟨b, off + i * 5 + 2, none⟩ = some (.int .i64 g.sv.2.1) ∧ w'.cell? ⟨b, off + i * 5 + 3, none⟩ = some (.int .i64 g.sv.2.2) ∧ w'.cell? ⟨b, off + i * 5 + 4, none⟩ = some (.int .i64 g.un) := by
  obtain ⟨b, off, x, ha, hx, hc⟩ := h.at hb i hi
  exact ⟨b, off, x, ha, hx, five hc⟩
set_option maxRecDepth 100000 in
set_option maxHeartbeats 12800000 in
theorem same_tree (w : World) (t : Tr) (na na2 ga ga2 : Option Addr) (nc nc2 gc gc2 : Nat) (ps qs : List Np) (h1 : TrW w (.slice na ps.length nc) (.slice ga t.gs.length gc) ps t) (h2 : TrW w (.slice na2 qs.length nc2) (.slice ga2 t.gs.length gc2) qs t) :
    Calls Tryz.prog 6 #[vTr (.slice na ps.length nc) (.slice ga t.gs.length gc) t, vTr (.slice na2 qs.length nc2) (.slice ga2 t.gs.length gc2) t] w fun e w' => e = .returned (.bool true) ∧ Below w.heap.size w w' := by
  have hl : (t.gs.length : Int) ≤ 9223372036854775807 := by obtain ⟨_, _, _, _, hl, _⟩ := h1.g; exact hl
  have HN : Hid (∀ W, Below w.heap.size w W → Calls Tryz.prog 11 #[.slice na ps.length nc, .slice na2 qs.length nc2] W fun e w' => e = .returned (.bool true) ∧ Below W.heap.size W w') := mkHid (fun W hW => same_nodes W na na2 nc nc2 ps qs (h1.n.below hW) (h2.n.below hW) (h1.e.trans h2.e.symm))
  have H1 := mkHid h1
  have H2 := mkHid h2
  clear h1 h2
  obtain ⟨ns, gs, last, now⟩ := t
  simp only at hl H1 H2 ⊢
  go_enter Tryz.func6, Tryz.ntmps6
  go_wp2_with (go_at_call 11; (with_reducible refine (HN.out _ (ba (ba (Below.refl _ _) _) _)).mono ?_); rintro e w1 ⟨rfl, b1⟩; obtain ⟨x1, x2, _⟩ := new_two b1; have HB1 := mkHid (And.intro x1 (And.intro x2 (bt (ba (ba (Below.refl _ _) _) _) b1))); obtain ⟨m0, m1, m2, m3⟩ := four x1; obtain ⟨n0, n1, n2, n3⟩ := four x2; clear x1 x2 b1)
  clear m0 m1 m2 m3 n0 n1 n2 n3
  go_loopw [38] (fun iv wr => ∃ j : Nat, iv = .int .i64 (j : Int) ∧ j ≤ gs.length ∧ Hid (Below w1.heap.size w1 wr)) (fun iv _ => gs.length - (intOf iv).toNat)
  case atStart => exact ⟨0, rfl, Nat.zero_le _, mkHid (Below.refl _ _)⟩
  case round =>
    obtain ⟨j, rfl, hj, HB⟩ := hrel
    have x1 : wr.cell? ⟨w.heap.size, 1, none⟩ = some (.slice ga gs.length gc) := kc (cell_of_block (i := 1) HB1.out.1 rfl) HB.out
    have y1 : wr.cell? ⟨w.heap.size + 1, 1, none⟩ = some (.slice ga2 gs.length gc2) := kc (cell_of_block (i := 1) HB1.out.2.1 rfl) HB.out
    by_cases hlt : j < gs.length
    · obtain ⟨b1, o1, g, rfl, e1, r0, r1, r2, r3, r4⟩ := Ghs.at5 H1.out.g (bt HB1.out.2.2 HB.out) j hlt
      obtain ⟨b2, o2, g', rfl, e2, s0, s1, s2, s3, s4⟩ := Ghs.at5 H2.out.g (bt HB1.out.2.2 HB.out) j hlt
      simp only at e1 e2
      rw [e1] at e2
      simp at e2
      subst e2
      obtain ⟨pa, ⟨k, q, t⟩, un⟩ := g
      simp only at r0 r1 r2 r3 r4 s0 s1 s2 s3 s4
      have hji : (j : Int) < gs.length := by omega
      clear e1
      go_wp2
      go_quiet (fail)
      have HD := mkHid (drewN_below HB.out nq)
      go_wp2
      go_roundw
      case rel => exact ⟨j + 1, by go_num, hlt, HD⟩
      case measure => simp [intOf]; omega
    · obtain rfl : j = gs.length := by omega
      go_wp2
      go_ret
      exact ⟨rfl, bt HB1.out.2.2 HB.out⟩
set_option maxRecDepth 100000 in
set_option maxHeartbeats 25600000 in
theorem times_walk (A : Ops) (w : World) (al : Option Addr) (cl : Nat) (os : List Op) (a : Nat → Addr) (h : Ods w (.slice al os.length cl) os) (E : Er6 w a) :
    Calls Tryz.prog 3 #[.slice al os.length cl] w fun e w' => e = .returned (.bool true) ∧ Below w.heap.size w w' := by
  have hlen : (os.length : Int) ≤ 9223372036854775807 := by
    obtain ⟨_, _, _, _, hl, _⟩ := h.row
    exact hl
  have HE := mkHid (And.intro h E)
  have HV : Hid (∀ W, Below w.heap.size w W → Calls Tryz.prog 4 #[] W fun e w' => e = .returned (.bool true) ∧ Below W.heap.size W w') := mkHid (fun W hW => talive A W a (E.late hW))
  clear h E
  go_enter Tryz.func3, Tryz.ntmps3
  go_wp2_with (go_at_call 4; refine (HV.out _ (Below.refl _ _)).mono ?_; rintro e w1 ⟨rfl, b1⟩; have HB1 := mkHid b1; clear b1)
  obtain ⟨g, hg⟩ : ∃ g, g = w1.heap.size := ⟨_, rfl⟩
  obtain ⟨W1, hW1⟩ : ∃ W1, W1 = w1.alloc (.cells #[.slice none 0 0, .slice none 0 0, .int .i64 0, .int .i64 0] 27) := ⟨_, rfl⟩
  have HX1 : Hid (BX w g W1 (.slice none 0 0) (.slice none 0 0) [] t0) := mkHid ⟨by rw [hW1]; exact ba HB1.out _, by rw [hg]; exact HB1.out.size, tro_nil _ _, rfl, by rw [hW1, hg]; exact heap_alloc_new w1 _⟩
  rw [← hW1, ← hg]
  clear hg hW1 HV HB1
  go_loopw [17] (fun iv wr => ∃ (j : Nat) (t : Tr) (nv gv : Value) (ps : List Np), iv = .int .i64 (j : Int) ∧ j ≤ os.length ∧ j ≤ 60 ∧ Hid (BX w g wr nv gv ps t) ∧ Hid (t.Ok j)) (fun iv _ => os.length - (intOf iv).toNat)
  case atStart => exact ⟨0, t0, _, _, [], rfl, Nat.zero_le _, by omega, HX1, mkHid ok_zero⟩
  case round =>
    obtain ⟨j, t, nv, gv, ps, rfl, hj, hj6, HX, HT⟩ := hrel
    clear HX1
    obtain ⟨na, nc, hnv, _⟩ := own_sh HX.out.own.nown
    obtain ⟨ga, gc, hgv, _⟩ := own_sh HX.out.own.gown
    subst hnv hgv
    by_cases hlt : j < os.length
    · obtain ⟨b, off, x, rfl, hxj, hat⟩ := HE.out.1.row.at HX.out.bel j hlt
      obtain ⟨q0, q1, q2, q3, q4, q5, q6, q7⟩ := eight_at hat
      have HW := mkHid (HE.out.1.each _ (List.mem_of_getElem? hxj))
      obtain ⟨⟨ki, id, ⟨k, q, T⟩, po, ts, tm⟩, ta, tc⟩ := x
      simp only [tvO] at q0 q1 q2 q3 q4 q5 q6 q7
      have hji : (j : Int) < os.length := by omega
      clear hat hxj
      by_cases h60 : j < 60
      · have hj60 : (60 ≤ (j : Int)) = False := by simp; omega
        obtain ⟨m0, m1, m2, m3⟩ := four HX.out.blk
        have HA : Hid (∀ W, Below wr.heap.size wr W → Calls Tryz.prog 5 #[.agg #[.slice na ps.length nc, .slice ga t.gs.length gc, .int .i64 t.last, .int .i64 t.now], .agg #[.int .i64 ki, .int .i64 id, .int .i64 k, .int .i64 q, .int .i64 T, .int .i64 po, .slice ta ts.length tc, .int .i64 tm]] W (ApP W (t.app A ⟨ki, id, (k, q, T), po, ts, tm⟩))) := mkHid (fun W hW => apply_bx (x := (⟨ki, id, (k, q, T), po, ts, tm⟩, ta, tc)) HX.out HT.out (by omega) hW HE.out.2 HW.out.1 HW.out.2)
        have HOK : Hid ((t.app A ⟨ki, id, (k, q, T), po, ts, tm⟩).1.Ok (j + 1)) := mkHid (HT.out.app _)
        have HAG : Hid (¬ (t.app A ⟨ki, id, (k, q, T), po, ts, tm⟩).2.1 = 0 → (t.app A ⟨ki, id, (k, q, T), po, ts, tm⟩).1.app A ⟨ki, id, (k, q, T), po, ts, tm⟩ = t.app A ⟨ki, id, (k, q, T), po, ts, tm⟩) := mkHid (app_again A t _)
        have hnow : ¬ (t.app A ⟨ki, id, (k, q, T), po, ts, tm⟩).1.now < t.now := by have := (app_ap A t ⟨ki, id, (k, q, T), po, ts, tm⟩).now.1; omega
        have HA2 : Hid (∀ W B nv gv ps, TrO B W nv gv ps (t.app A ⟨ki, id, (k, q, T), po, ts, tm⟩).1.gs → nds ps = (t.app A ⟨ki, id, (k, q, T), po, ts, tm⟩).1.ns → Below w.heap.size w W → Calls Tryz.prog 5 #[vTr nv gv (t.app A ⟨ki, id, (k, q, T), po, ts, tm⟩).1, .agg #[.int .i64 ki, .int .i64 id, .int .i64 k, .int .i64 q, .int .i64 T, .int .i64 po, .slice ta ts.length tc, .int .i64 tm]] W (ApP W ((t.app A ⟨ki, id, (k, q, T), po, ts, tm⟩).1.app A ⟨ki, id, (k, q, T), po, ts, tm⟩))) := mkHid (fun W B nv gv ps ho he hW => by
          have h8 : (t.app A ⟨ki, id, (k, q, T), po, ts, tm⟩).1.Sm 800 := HOK.out.2.2.more (by omega)
          exact apply_is A W _ nv gv ps ⟨ki, id, (k, q, T), po, ts, tm⟩ ta tc a (ho.trw (h8.more (by omega)) he) h8 HOK.out.1.now0 HOK.out.1.now1 HOK.out.1.last0 (HE.out.2.late hW) (HW.out.1.ts.below hW) HW.out.1.cap HW.out.2)
        generalize t.app A ⟨ki, id, (k, q, T), po, ts, tm⟩ = R at *
        obtain ⟨u, rc, ri⟩ := R
        simp only at HOK hnow HAG HA2
        have HSM : Hid (j + 1 ≤ os.length ∧ j + 1 ≤ 60 ∧ os.length - (j + 1) < os.length - j) := mkHid ⟨by omega, by omega, by omega⟩
        have HU8 : Hid (u.Sm 1000) := mkHid (HOK.out.2.2.more (by omega))
        clear hlt hj hj6 h60
        by_cases hrc : rc = 0
        · subst hrc
          have M1 : Hid True := mkHid trivial
          go_wp2_with (first | (go_at_call 5; clear M1; (with_reducible refine (HA.out _ (ba (Below.refl _ wr) _)).mono ?_); rintro e w2 ⟨nv2, gv2, ps2, rfl, ho2, he2, b2⟩; obtain ⟨na2, nc2, hnv2, _⟩ := own_sh ho2.nown; obtain ⟨ga2, gc2, hgv2, _⟩ := own_sh ho2.gown; subst hnv2 hgv2; obtain ⟨hx2, hb2⟩ := new_last b2; have hgb := (hb2.block g (lt_of_heap HX.out.blk)).trans HX.out.blk; obtain ⟨s0, s1, s2, s3⟩ := four hgb; obtain ⟨t0, t1, t2, t3, t4, t5, t6, t7⟩ := eight hx2; have HO2 := mkHid (And.intro ho2 (And.intro he2 (And.intro hb2 (And.intro hgb (And.intro hx2 (show wr.heap.size ≤ (wr.alloc (.cells #[.int .i64 ki, .int .i64 id, .int .i64 k, .int .i64 q, .int .i64 T, .int .i64 po, .slice ta ts.length tc, .int .i64 tm] 32)).heap.size by simp)))))); clear ho2 he2 b2 hb2 hgb hx2 m0 m1 m2 m3 q0 q1 q2 q3 q4 q5 q6 q7))
          obtain ⟨G2, hG2⟩ : ∃ G2, G2 = w2.heap.size := ⟨_, rfl⟩
          obtain ⟨W5, hW5⟩ : ∃ W5, W5 = (w2.alloc (.cells #[.slice na2 ps2.length nc2, .slice ga2 u.gs.length gc2, .int .i64 u.last, .int .i64 u.now] 27)).alloc (.cells #[.int .i64 0, .int .i64 ri] 34) := ⟨_, rfl⟩
          have HB5 : Hid (Below wr.heap.size wr W5) := mkHid (by rw [hW5]; exact ba (ba HO2.out.2.2.1 _) _)
          have HG5 : Hid (W5.heap[G2]? = some (.cells #[.slice na2 ps2.length nc2, .slice ga2 u.gs.length gc2, .int .i64 u.last, .int .i64 u.now] 27 (0, 0))) := mkHid (by rw [hW5, hG2]; exact (heap_alloc_old _ _ (by simp)).trans (heap_alloc_new w2 _))
          have HR5 : Hid (W5.heap[G2 + 1]? = some (.cells #[.int .i64 0, .int .i64 ri] 34 (0, 0))) := mkHid (by rw [hW5, hG2]; have := heap_alloc_new (w2.alloc (.cells #[.slice na2 ps2.length nc2, .slice ga2 u.gs.length gc2, .int .i64 u.last, .int .i64 u.now] 27)) (.cells #[.int .i64 0, .int .i64 ri] 34); simpa using this)
          have HO5 : Hid (TrO (wr.alloc (.cells #[.int .i64 ki, .int .i64 id, .int .i64 k, .int .i64 q, .int .i64 T, .int .i64 po, .slice ta ts.length tc, .int .i64 tm] 32)).heap.size W5 (.slice na2 ps2.length nc2) (.slice ga2 u.gs.length gc2) ps2 u.gs) := mkHid (by rw [hW5]; exact HO2.out.1.below (ba (ba (Below.refl _ _) _) _))
          have HE5 := mkHid HO2.out.2.1
          have HL5 := mkHid HO2.out.2.2.2.2.2
          rw [← hW5, ← hG2]
          clear hW5 hG2 HO2 s0 s1 s2 s3 t0 t1 t2 t3 t4 t5 t6 t7
          go_loopw [56] (fun iv wr2 => ∃ (i : Nat), iv = .int .i64 (i : Int) ∧ i ≤ u.gs.length ∧ Hid (Below W5.heap.size W5 wr2)) (fun iv _ => u.gs.length - (intOf iv).toNat)
          case atStart => exact ⟨0, rfl, Nat.zero_le _, mkHid (Below.refl _ _)⟩
          case round =>
            obtain ⟨i, rfl, hi, HB7⟩ := hrel
            have hgl2 : (u.gs.length : Int) ≤ 1000 := by have := HU8.out.g; omega
            rename World => w7
            have y1 := (HB7.out.block _ (lt_of_heap HG5.out)).trans HG5.out
            have y2 := (HB7.out.block _ (lt_of_heap HR5.out)).trans HR5.out
            obtain ⟨s0, s1, s2, s3⟩ := four y1
            have z0 := cell_of_block (i := 0) y2 rfl
            try simp only at z0
            by_cases hit : i < u.gs.length
            · obtain ⟨b1, o1, gg, rfl, e1, r0, r1, r2, r3, r4⟩ := Ghs.at5 (HO5.out.trw HU8.out HE5.out).g HB7.out i hit
              have hliv := HOK.out.2.1 gg (List.mem_of_getElem? e1)
              obtain ⟨gpa, ⟨gk, gq, gt⟩, gun⟩ := gg
              simp only at r0 r1 r2 r3 r4 hliv
              have hnl : ¬ gun ≤ u.now := by omega
              have hil : (i : Int) < u.gs.length := by omega
              have HSI : Hid (i + 1 ≤ u.gs.length ∧ u.gs.length - (i + 1) < u.gs.length - i) := mkHid ⟨by omega, by omega⟩
              clear e1 hit hi hliv
              go_wp2
              go_roundw
              case rel => exact ⟨i + 1, by go_num, HSI.out.1, mkHid (ba HB7.out _)⟩
              case measure => have := HSI.out.2; simp [intOf]; omega
            · have hil : ¬ (i : Int) < u.gs.length := by omega
              clear hit hi
              have hgb7 := ((bt HB5.out HB7.out).block g (lt_of_heap HX.out.blk)).trans HX.out.blk
              have HGB7 := mkHid hgb7
              clear hgb7
              go_wp2_with (refine wpList_store_box rfl 27 (.tmp 3) (.tmp 71) rfl g #[.slice na2 ps2.length nc2, .slice ga2 u.gs.length gc2, .int .i64 u.last, .int .i64 u.now] rfl rfl 27 _ HGB7.out size_tree rfl (one_tr _ _ _ _ _ _ _ _) ?_; intro w8 h8 k8; have HX8 := mkHid (HX.out.store (bt HB5.out HB7.out) (HO5.out.below HB7.out) HL5.out HE5.out h8 k8).1; clear h8 k8)
              go_roundw
              case rel => exact ⟨j + 1, u, _, _, ps2, by go_num, HSM.out.1, HSM.out.2.1, HX8, HOK⟩
              case measure => have := HSM.out.2.2; simp [intOf]; omega
        · have hrcb : (rc == 0) = false := by simpa using hrc
          have hag := HAG.out hrc
          rw [hag] at HA2
          clear hag
          have M1 : Hid True := mkHid trivial
          by_cases h7 : rc = 7
          · subst h7
            go_wp2_with (first | (go_at_call 5; clear M1; (with_reducible refine (HA.out _ (ba (Below.refl _ wr) _)).mono ?_); rintro e w2 ⟨nv2, gv2, ps2, rfl, ho2, he2, b2⟩; obtain ⟨na2, nc2, hnv2, _⟩ := own_sh ho2.nown; obtain ⟨ga2, gc2, hgv2, _⟩ := own_sh ho2.gown; subst hnv2 hgv2; obtain ⟨hx2, hb2⟩ := new_last b2; have hgb := (hb2.block g (lt_of_heap HX.out.blk)).trans HX.out.blk; obtain ⟨s0, s1, s2, s3⟩ := four hgb; obtain ⟨t0, t1, t2, t3, t4, t5, t6, t7⟩ := eight hx2; have HO2 := mkHid (And.intro ho2 (And.intro he2 (And.intro hb2 (And.intro hgb (And.intro hx2 (show wr.heap.size ≤ (wr.alloc (.cells #[.int .i64 ki, .int .i64 id, .int .i64 k, .int .i64 q, .int .i64 T, .int .i64 po, .slice ta ts.length tc, .int .i64 tm] 32)).heap.size by simp)))))); clear ho2 he2 b2 hb2 hgb hx2 m0 m1 m2 m3 q0 q1 q2 q3 q4 q5 q6 q7) | (go_at_call 5; (with_reducible refine (HA2.out _ _ _ _ _ (HO2.out.1.below (ba (ba (Below.refl _ _) _) _)) HO2.out.2.1 (ba (ba (bt HX.out.bel HO2.out.2.2.1) _) _)).mono ?_); rintro e w4 ⟨nv4, gv4, ps4, rfl, ho4, he4, b4⟩; obtain ⟨na4, nc4, hnv4, _⟩ := own_sh ho4.nown; obtain ⟨ga4, gc4, hgv4, _⟩ := own_sh ho4.gown; subst hnv4 hgv4; obtain ⟨y1, y2, _⟩ := new_two b4; obtain ⟨s0, s1, s2, s3⟩ := four y1; have z0 := cell_of_block (i := 0) y2 rfl; have z1 := cell_of_block (i := 1) y2 rfl; (try simp only at z0 z1); have HO4 := mkHid (And.intro ho4 (And.intro he4 (And.intro (bt (ba (ba (Below.refl _ _) _) _) b4) (And.intro y1 y2)))); clear ho4 he4 b4 y1 y2) | (go_at_call 6; (with_reducible refine (same_tree _ u na2 na4 ga2 ga4 nc2 nc4 gc2 gc4 ps2 ps4 (((HO2.out.1.below HO4.out.2.2.1).below (ba (ba (Below.refl _ _) _) _)).trw HU8.out HO2.out.2.1) ((HO4.out.1.below (ba (ba (Below.refl _ _) _) _)).trw HU8.out HO4.out.2.1)).mono ?_); rintro e w6 ⟨rfl, b6⟩; have hb6 := bt (ba (ba HO4.out.2.2.1 _) _) b6; have HB6 := mkHid hb6; have y1 := (bt (ba (ba (Below.refl _ _) _) _) b6).block _ (lt_of_heap HO4.out.2.2.2.1) |>.trans HO4.out.2.2.2.1; have y2 := (bt (ba (ba (Below.refl _ _) _) _) b6).block _ (lt_of_heap HO4.out.2.2.2.2) |>.trans HO4.out.2.2.2.2; obtain ⟨s0, s1, s2, s3⟩ := four y1; have HY6 := mkHid (And.intro y1 y2); clear b6 hb6 y1 y2))
            obtain ⟨G2, hG2⟩ : ∃ G2, G2 = w2.heap.size := ⟨_, rfl⟩
            have HB5 : Hid (Below wr.heap.size wr w6) := mkHid (bt HO2.out.2.2.1 HB6.out)
            have HG5 : Hid (w6.heap[G2]? = some (.cells #[.slice na2 ps2.length nc2, .slice ga2 u.gs.length gc2, .int .i64 u.last, .int .i64 u.now] 27 (0, 0))) := mkHid (by rw [hG2]; exact HY6.out.1)
            have HR5 : Hid (w6.heap[G2 + 1]? = some (.cells #[.int .i64 7, .int .i64 ri] 34 (0, 0))) := mkHid (by rw [hG2]; exact HY6.out.2)
            have HO5 := mkHid (HO2.out.1.below HB6.out)
            have HE5 := mkHid HO2.out.2.1
            have HL5 := mkHid HO2.out.2.2.2.2.2
            rw [← hG2]
            clear hG2 HO2 HO4 HY6 s0 s1 s2 s3 t0 t1 t2 t3 t4 t5 t6 t7 z0 z1
            go_loopw [56] (fun iv wr2 => ∃ (i : Nat), iv = .int .i64 (i : Int) ∧ i ≤ u.gs.length ∧ Hid (Below w6.heap.size w6 wr2)) (fun iv _ => u.gs.length - (intOf iv).toNat)
            case atStart => exact ⟨0, rfl, Nat.zero_le _, mkHid (Below.refl _ _)⟩
            case round =>
              obtain ⟨i, rfl, hi, HB7⟩ := hrel
              have hgl2 : (u.gs.length : Int) ≤ 1000 := by have := HU8.out.g; omega
              rename World => w7
              have y1 := (HB7.out.block _ (lt_of_heap HG5.out)).trans HG5.out
              have y2 := (HB7.out.block _ (lt_of_heap HR5.out)).trans HR5.out
              obtain ⟨s0, s1, s2, s3⟩ := four y1
              have z0 := cell_of_block (i := 0) y2 rfl
              try simp only at z0
              by_cases hit : i < u.gs.length
              · obtain ⟨b1, o1, gg, rfl, e1, r0, r1, r2, r3, r4⟩ := Ghs.at5 (HO5.out.trw HU8.out HE5.out).g HB7.out i hit
                have hliv := HOK.out.2.1 gg (List.mem_of_getElem? e1)
                obtain ⟨gpa, ⟨gk, gq, gt⟩, gun⟩ := gg
                simp only at r0 r1 r2 r3 r4 hliv
                have hnl : ¬ gun ≤ u.now := by omega
                have hil : (i : Int) < u.gs.length := by omega
                have HSI : Hid (i + 1 ≤ u.gs.length ∧ u.gs.length - (i + 1) < u.gs.length - i) := mkHid ⟨by omega, by omega⟩
                clear e1 hit hi hliv
                go_wp2
                go_roundw
                case rel => exact ⟨i + 1, by go_num, HSI.out.1, mkHid (ba HB7.out _)⟩
                case measure => have := HSI.out.2; simp [intOf]; omega
              · have hil : ¬ (i : Int) < u.gs.length := by omega
                clear hit hi
                have hgb7 := ((bt HB5.out HB7.out).block g (lt_of_heap HX.out.blk)).trans HX.out.blk
                have HGB7 := mkHid hgb7
                clear hgb7
                go_wp2_with (refine wpList_store_box rfl 27 (.tmp 3) (.tmp 71) rfl g #[.slice na2 ps2.length nc2, .slice ga2 u.gs.length gc2, .int .i64 u.last, .int .i64 u.now] rfl rfl 27 _ HGB7.out size_tree rfl (one_tr _ _ _ _ _ _ _ _) ?_; intro w8 h8 k8; have HX8 := mkHid (HX.out.store (bt HB5.out HB7.out) (HO5.out.below HB7.out) HL5.out HE5.out h8 k8).1; clear h8 k8)
                go_roundw
                case rel => exact ⟨j + 1, u, _, _, ps2, by go_num, HSM.out.1, HSM.out.2.1, HX8, HOK⟩
                case measure => have := HSM.out.2.2; simp [intOf]; omega
          · have h7b : (rc == 7) = false := by simpa using h7
            go_wp2_with (first | (go_at_call 5; clear M1; (with_reducible refine (HA.out _ (ba (Below.refl _ wr) _)).mono ?_); rintro e w2 ⟨nv2, gv2, ps2, rfl, ho2, he2, b2⟩; obtain ⟨na2, nc2, hnv2, _⟩ := own_sh ho2.nown; obtain ⟨ga2, gc2, hgv2, _⟩ := own_sh ho2.gown; subst hnv2 hgv2; obtain ⟨hx2, hb2⟩ := new_last b2; have hgb := (hb2.block g (lt_of_heap HX.out.blk)).trans HX.out.blk; obtain ⟨s0, s1, s2, s3⟩ := four hgb; obtain ⟨t0, t1, t2, t3, t4, t5, t6, t7⟩ := eight hx2; have HO2 := mkHid (And.intro ho2 (And.intro he2 (And.intro hb2 (And.intro hgb (And.intro hx2 (show wr.heap.size ≤ (wr.alloc (.cells #[.int .i64 ki, .int .i64 id, .int .i64 k, .int .i64 q, .int .i64 T, .int .i64 po, .slice ta ts.length tc, .int .i64 tm] 32)).heap.size by simp)))))); clear ho2 he2 b2 hb2 hgb hx2 m0 m1 m2 m3 q0 q1 q2 q3 q4 q5 q6 q7) | (go_at_call 5; (with_reducible refine (HA2.out _ _ _ _ _ (HO2.out.1.below (ba (ba (Below.refl _ _) _) _)) HO2.out.2.1 (ba (ba (bt HX.out.bel HO2.out.2.2.1) _) _)).mono ?_); rintro e w4 ⟨nv4, gv4, ps4, rfl, ho4, he4, b4⟩; obtain ⟨na4, nc4, hnv4, _⟩ := own_sh ho4.nown; obtain ⟨ga4, gc4, hgv4, _⟩ := own_sh ho4.gown; subst hnv4 hgv4; obtain ⟨y1, y2, _⟩ := new_two b4; obtain ⟨s0, s1, s2, s3⟩ := four y1; have z0 := cell_of_block (i := 0) y2 rfl; have z1 := cell_of_block (i := 1) y2 rfl; (try simp only at z0 z1); have HO4 := mkHid (And.intro ho4 (And.intro he4 (And.intro (bt (ba (ba (Below.refl _ _) _) _) b4) (And.intro y1 y2)))); clear ho4 he4 b4 y1 y2) | (go_at_call 6; (with_reducible refine (same_tree _ u na2 na4 ga2 ga4 nc2 nc4 gc2 gc4 ps2 ps4 (((HO2.out.1.below HO4.out.2.2.1).below (ba (ba (Below.refl _ _) _) _)).trw HU8.out HO2.out.2.1) ((HO4.out.1.below (ba (ba (Below.refl _ _) _) _)).trw HU8.out HO4.out.2.1)).mono ?_); rintro e w6 ⟨rfl, b6⟩; have hb6 := bt (ba (ba HO4.out.2.2.1 _) _) b6; have HB6 := mkHid hb6; have y1 := (bt (ba (ba (Below.refl _ _) _) _) b6).block _ (lt_of_heap HO4.out.2.2.2.1) |>.trans HO4.out.2.2.2.1; have y2 := (bt (ba (ba (Below.refl _ _) _) _) b6).block _ (lt_of_heap HO4.out.2.2.2.2) |>.trans HO4.out.2.2.2.2; obtain ⟨s0, s1, s2, s3⟩ := four y1; have HY6 := mkHid (And.intro y1 y2); clear b6 hb6 y1 y2))
            obtain ⟨G2, hG2⟩ : ∃ G2, G2 = w2.heap.size := ⟨_, rfl⟩
            have HB5 : Hid (Below wr.heap.size wr w6) := mkHid (bt HO2.out.2.2.1 HB6.out)
            have HG5 : Hid (w6.heap[G2]? = some (.cells #[.slice na2 ps2.length nc2, .slice ga2 u.gs.length gc2, .int .i64 u.last, .int .i64 u.now] 27 (0, 0))) := mkHid (by rw [hG2]; exact HY6.out.1)
            have HR5 : Hid (w6.heap[G2 + 1]? = some (.cells #[.int .i64 rc, .int .i64 ri] 34 (0, 0))) := mkHid (by rw [hG2]; exact HY6.out.2)
            have HO5 := mkHid (HO2.out.1.below HB6.out)
            have HE5 := mkHid HO2.out.2.1
            have HL5 := mkHid HO2.out.2.2.2.2.2
            rw [← hG2]
            clear hG2 HO2 HO4 HY6 s0 s1 s2 s3 t0 t1 t2 t3 t4 t5 t6 t7 z0 z1
            go_loopw [56] (fun iv wr2 => ∃ (i : Nat), iv = .int .i64 (i : Int) ∧ i ≤ u.gs.length ∧ Hid (Below w6.heap.size w6 wr2)) (fun iv _ => u.gs.length - (intOf iv).toNat)
            case atStart => exact ⟨0, rfl, Nat.zero_le _, mkHid (Below.refl _ _)⟩
            case round =>
              obtain ⟨i, rfl, hi, HB7⟩ := hrel
              have hgl2 : (u.gs.length : Int) ≤ 1000 := by have := HU8.out.g; omega
              rename World => w7
              have y1 := (HB7.out.block _ (lt_of_heap HG5.out)).trans HG5.out
              have y2 := (HB7.out.block _ (lt_of_heap HR5.out)).trans HR5.out
              obtain ⟨s0, s1, s2, s3⟩ := four y1
              have z0 := cell_of_block (i := 0) y2 rfl
              try simp only at z0
              by_cases hit : i < u.gs.length
              · obtain ⟨b1, o1, gg, rfl, e1, r0, r1, r2, r3, r4⟩ := Ghs.at5 (HO5.out.trw HU8.out HE5.out).g HB7.out i hit
                have hliv := HOK.out.2.1 gg (List.mem_of_getElem? e1)
                obtain ⟨gpa, ⟨gk, gq, gt⟩, gun⟩ := gg
                simp only at r0 r1 r2 r3 r4 hliv
                have hnl : ¬ gun ≤ u.now := by omega
                have hil : (i : Int) < u.gs.length := by omega
                have HSI : Hid (i + 1 ≤ u.gs.length ∧ u.gs.length - (i + 1) < u.gs.length - i) := mkHid ⟨by omega, by omega⟩
                clear e1 hit hi hliv
                go_wp2
                go_roundw
                case rel => exact ⟨i + 1, by go_num, HSI.out.1, mkHid (ba HB7.out _)⟩
                case measure => have := HSI.out.2; simp [intOf]; omega
              · have hil : ¬ (i : Int) < u.gs.length := by omega
                clear hit hi
                have hgb7 := ((bt HB5.out HB7.out).block g (lt_of_heap HX.out.blk)).trans HX.out.blk
                have HGB7 := mkHid hgb7
                clear hgb7
                go_wp2_with (refine wpList_store_box rfl 27 (.tmp 3) (.tmp 71) rfl g #[.slice na2 ps2.length nc2, .slice ga2 u.gs.length gc2, .int .i64 u.last, .int .i64 u.now] rfl rfl 27 _ HGB7.out size_tree rfl (one_tr _ _ _ _ _ _ _ _) ?_; intro w8 h8 k8; have HX8 := mkHid (HX.out.store (bt HB5.out HB7.out) (HO5.out.below HB7.out) HL5.out HE5.out h8 k8).1; clear h8 k8)
                go_roundw
                case rel => exact ⟨j + 1, u, _, _, ps2, by go_num, HSM.out.1, HSM.out.2.1, HX8, HOK⟩
                case measure => have := HSM.out.2.2; simp [intOf]; omega
      · obtain rfl : j = 60 := by omega
        have hj60 : (60 : Int) < os.length := by omega
        clear hlt hj hj6 h60
        go_wp2
        go_ret
        exact ⟨rfl, ba HX.out.bel _⟩
    · obtain rfl : j = os.length := by omega
      clear hlt hj hj6
      go_wp2
      go_ret
      exact ⟨rfl, HX.out.bel⟩
end Go.Proofs.YtjhekemgcmhjoabGreatDoor
