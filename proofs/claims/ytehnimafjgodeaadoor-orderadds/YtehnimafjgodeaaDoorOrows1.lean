/- The law OrderRows, where the entry is there. -/
import Derived.Test.YtehnimafjgodeaaDoorOradd
import Derived.Test.YtehnimafjgodeaaDoorObegins
import Derived.Test.YtehnimafjgodeaaDoorOlast
import Derived.Test.YtehnimafjgodeaaDoorOmut
namespace Go.Proofs.YtehnimafjgodeaaDoor
open Go.ChangeMaps Go.ChangeShapes Go.WideShapes Go.ChangeAt Go.RowKit
set_option maxRecDepth 100000
attribute [local go_sem] World.cell?_alloc_some frozen_alloc_some

set_option maxHeartbeats 51200000 in
theorem rows_there (w : World) (v : Value) (ma : Option Addr) (mc : Nat) (ps ms : List Ep) (t : Ep) (a : Nat → Addr) (N : Int) (k : Nat) (R : List En) (bb : Bool) (hE : Errs w a) (h : Ens w v ps) (hl : ps.length * 96 ≤ 140737488355328) (hs : ∀ t ∈ ps, small t) (hm : Ens w (.slice ma ms.length mc) ms) (hmc : ms.length ≤ mc)
    (h1 : ∀ W V (qs : List Ep), Ens W V qs → fs1 qs = fs1 ps → Below w.heap.size w W → Calls Tryd.prog 27 #[V, vP t] W fun r W' => ∃ oa oc, ∃ rs : List Ep, r = .returned (.tuple #[.slice oa rs.length oc, .int .i64 N, .nilIface]) ∧ Led W.heap.size W' (.slice oa rs.length oc) rs ∧ fs1 rs = R ∧ rs.length ≤ oc ∧ Below W.heap.size W W')
    (h2 : ∀ W, Below w.heap.size w W → Calls Tryd.prog 28 #[v, vP t] W fun r W' => ∃ ua uc, ∃ us : List Ep, r = .returned (.tuple #[.slice ua us.length uc, .int .i64 N, .int .i64 0]) ∧ Ens W' (.slice ua us.length uc) us ∧ fs1 us = R ∧ Below W.heap.size W W')
    (h3 : ∀ W V (qs : List Ep), Ens W V qs → fs1 qs = fs1 ps → Below w.heap.size w W → Calls Tryd.prog 29 #[V, .int .i64 t.1.cl, .int .i64 t.1.nu] W fun r W' => r = .returned (.tuple #[.int .i64 ((k : Int) + 1), .nilIface]) ∧ Below W.heap.size W W')
    (h4 : ∀ W, Below w.heap.size w W → Calls Tryd.prog 30 #[v, .int .i64 t.1.cl, .int .i64 t.1.nu] W fun r W' => r = .returned (.int .i64 ((k : Int) + 1)) ∧ Below W.heap.size W W')
    (h6 : ∀ W V (rs : List Ep), (∃ B, Led B W V rs) → fs1 rs = R → Ens W V rs) (hbg : ∀ qs : List Ep, fs1 qs = fs1 ps → (bb = true ↔ bgn qs ms)) (hR : ∀ qs rs : List Ep, fs1 qs = fs1 ps → fs1 rs = R → bgn qs rs) :
    Calls Tryd.prog 6 #[v, .slice ma ms.length mc, vP t] w fun r w' => r = .returned (.bool true) ∧ Below w.heap.size w w' := by
  obtain ⟨a0, cap0, rfl, hl0, _⟩ := id h
  obtain ⟨_, _, _, hlm, _⟩ := id hm
  obtain ⟨e, ta, tc⟩ := t
  have R0 := fun W (hW : Below (w.alloc (oE e (.slice ta e.ts.length tc))).heap.size (w.alloc (oE e (.slice ta e.ts.length tc))) W) => (hW.block w.heap.size (by simp)).trans (entO w e (.slice ta e.ts.length tc))
  have HA : Hid (Below w.heap.size w (w.alloc (oE e (.slice ta e.ts.length tc)))) := mkHid (ba (Below.refl _ w) _)
  have HL := mkHid h
  have HM := mkHid hm
  have HLL := mkHid hl
  have HS := mkHid hs
  have HER := mkHid hE
  have H1 := mkHid h1
  have H2 := mkHid h2
  have H3 := mkHid h3
  have H4 := mkHid h4
  have H6 := mkHid h6
  have HBG := mkHid hbg
  have HRR := mkHid hR
  clear h hm hl hs hE h1 h2 h3 h4 h6 hbg hR
  simp only [vP, vN, tv] at H1 H2 H3 H4 ⊢
  go_enter Tryd.func6, Tryd.ntmps6
  go_wp2_with (first
    | (go_at_call 9; refine (alive_any _).mono ?_; rintro r w1 ⟨rfl, b1⟩; have HB1 : Hid (Below (w.alloc (oE e (.slice ta e.ts.length tc))).heap.size (w.alloc (oE e (.slice ta e.ts.length tc))) w1) := mkHid b1; clear b1; obtain ⟨p0, p1, p2, p3, p4, p5, p6, p7, p8, p9⟩ := ent_cells (R0 _ HB1.out))
    | (go_at_call 10; refine (copy_any w1 _ ps (HL.out.below (bt HA.out HB1.out)) HLL.out HS.out).mono ?_; rintro r w2 ⟨v2, qs, rfl, hl2, hq2, b2⟩; obtain ⟨ia, ic, rfl, hic⟩ := own_sh hl2.own; have HQF : Hid (fs1 qs = fs1 ps) := mkHid hq2; have HQL : Hid (qs.length = ps.length) := mkHid (by have := congrArg List.length hq2; simpa using this); have HIN : Hid (Led w1.heap.size w2 (.slice ia qs.length ic) qs) := mkHid hl2; have HQE : Hid (Ens w2 (.slice ia qs.length ic) qs) := mkHid (hl2.ens (by have := HLL.out; have := HQL.out; omega) (fs_small HQF.out HS.out)); clear hl2 hq2; have HB2 := mkHid (bt HB1.out b2); clear b2; clear p0 p1 p2 p3 p4 p5 p6 p7 p8 p9; obtain ⟨p0, p1, p2, p3, p4, p5, p6, p7, p8, p9⟩ := ent_cells (R0 _ HB2.out))
    | (go_at_call 27; refine (H1.out w2 _ qs HQE.out HQF.out (bt HA.out HB2.out)).mono ?_; rintro r w3 ⟨oa, oc, rs, rfl, hl3, hq3, hoc, b3⟩; have HOUT := mkHid (And.intro hl3 (And.intro hq3 hoc)); have HP3 := mkHid b3; clear hl3 hq3 hoc; have HB3 := mkHid (bt HB2.out b3); clear b3; clear p0 p1 p2 p3 p4 p5 p6 p7 p8 p9; obtain ⟨p0, p1, p2, p3, p4, p5, p6, p7, p8, p9⟩ := ent_cells (R0 _ HB3.out))
    | (go_at_call 28; refine (H2.out w3 (bt HA.out HB3.out)).mono ?_; rintro r w4 ⟨ua, uc, us, rfl, he4, hq4, b4⟩; have HU4 := mkHid (And.intro he4 hq4); have HP4 := mkHid b4; clear he4 hq4; have HB4 := mkHid (bt HB3.out b4); clear b4; clear p0 p1 p2 p3 p4 p5 p6 p7 p8 p9; obtain ⟨p0, p1, p2, p3, p4, p5, p6, p7, p8, p9⟩ := ent_cells (R0 _ HB4.out))
    | (go_at_call 22; refine (sameL_yes w4 _ _ rs us ((H6.out w3 _ rs ⟨_, HOUT.out.1⟩ HOUT.out.2.1).below HP4.out) HU4.out.1 (HOUT.out.2.1.trans HU4.out.2.symm)).mono ?_; rintro r w5 ⟨rfl, b5⟩; have HP5 := mkHid (bt HP4.out b5); have HB5 := mkHid (bt HB4.out b5); clear b5; clear p0 p1 p2 p3 p4 p5 p6 p7 p8 p9; obtain ⟨p0, p1, p2, p3, p4, p5, p6, p7, p8, p9⟩ := ent_cells (R0 _ HB5.out))
    | (go_at_call 26; refine (errnum_nil w5).mono ?_; rintro r w6 ⟨rfl, hw6⟩; have b6 : Below w5.heap.size w5 w6 := by { rw [hw6]; exact Below.refl _ _ }; clear hw6; have HP6 := mkHid (bt HP5.out b6); have HB6 := mkHid (bt HB5.out b6); clear b6; clear p0 p1 p2 p3 p4 p5 p6 p7 p8 p9; obtain ⟨p0, p1, p2, p3, p4, p5, p6, p7, p8, p9⟩ := ent_cells (R0 _ HB6.out))
    | (go_at_call 29; refine (H3.out w6 _ qs (HQE.out.below (bt HP3.out HP6.out)) HQF.out (bt HA.out HB6.out)).mono ?_; rintro r w7 ⟨rfl, b7⟩; have HP7 := mkHid (bt HP6.out b7); have HB7 := mkHid (bt HB6.out b7); clear b7; clear p0 p1 p2 p3 p4 p5 p6 p7 p8 p9; obtain ⟨p0, p1, p2, p3, p4, p5, p6, p7, p8, p9⟩ := ent_cells (R0 _ HB7.out))
    | (go_at_call 30; refine (H4.out w7 (bt HA.out HB7.out)).mono ?_; rintro r w8 ⟨rfl, b8⟩; have HP8 := mkHid (bt HP7.out b8); have ce := (HER.out.late (bt HA.out (bt HB7.out b8))).cell_gone; have ceq := HER.out.2.2.1.same; have HB8 := mkHid (bt HB7.out b8); clear b8; clear p0 p1 p2 p3 p4 p5 p6 p7 p8 p9; obtain ⟨p0, p1, p2, p3, p4, p5, p6, p7, p8, p9⟩ := ent_cells (R0 _ HB8.out))
    | (go_at_call 31; refine (begins_any w8 _ ma mc qs ms (HQE.out.below (bt HP3.out HP8.out)) (HM.out.below (bt HA.out HB8.out)) hmc bb (HBG.out qs HQF.out)).mono ?_; rintro r w9 ⟨rfl, b9⟩; have HP9 := mkHid (bt HP8.out b9); have HB9 := mkHid (bt HB8.out b9); clear b9; clear p0 p1 p2 p3 p4 p5 p6 p7 p8 p9; obtain ⟨p0, p1, p2, p3, p4, p5, p6, p7, p8, p9⟩ := ent_cells (R0 _ HB9.out))
    | (go_at_call 32; refine (rbegins_any w9 _ ma mc ps ms (HL.out.below (bt HA.out HB9.out)) (HM.out.below (bt HA.out HB9.out)) hmc bb (HBG.out ps rfl)).mono ?_; rintro r w10 ⟨rfl, b10⟩; have HP10 := mkHid (bt HP9.out b10); have HB10 := mkHid (bt HB9.out b10); clear b10; clear p0 p1 p2 p3 p4 p5 p6 p7 p8 p9; obtain ⟨p0, p1, p2, p3, p4, p5, p6, p7, p8, p9⟩ := ent_cells (R0 _ HB10.out))
    | (go_at_call 33; refine (last_any w10 _ qs (HQE.out.below (bt HP3.out HP10.out))).mono ?_; rintro r w11 ⟨rfl, hm11, b11⟩; rw [HQF.out] at hm11; have HMJ := mkHid hm11; have HP11 := mkHid (bt HP10.out b11); have HLT : Hid (w10.heap.size < w11.heap.size) := mkHid hm11.lt; clear hm11; have HB11 := mkHid (bt HB10.out b11); clear b11; clear p0 p1 p2 p3 p4 p5 p6 p7 p8 p9; obtain ⟨p0, p1, p2, p3, p4, p5, p6, p7, p8, p9⟩ := ent_cells (R0 _ HB11.out)))
  obtain ⟨mb, hmb⟩ : ∃ mb, mb = w10.heap.size := ⟨_, rfl⟩
  rw [← hmb] at HMJ HLT ⊢
  clear hmb ce ceq
  have HW11 : Hid (Below w.heap.size w w11) := mkHid (bt HA.out HB11.out)
  go_loopw [104] (fun iv wr => ∃ j : Nat, iv = .int .i64 (j : Int) ∧ j ≤ ps.length ∧ Hid (Below w11.heap.size w11 wr)) (fun iv _ => ps.length - (intOf iv).toNat)
  case atStart => exact ⟨0, rfl, Nat.zero_le _, mkHid (Below.refl _ _)⟩
  case round =>
    obtain ⟨j, rfl, hj, HBr⟩ := hrel
    by_cases hlt : j < ps.length
    · obtain ⟨b1, o1, ⟨y, ya, yc⟩, rfl, hxj, hat, _⟩ := HL.out.at (bt HW11.out HBr.out) j hlt
      obtain ⟨q0, q1, q2, q3, q4, q5, q6, q7, q8, q9⟩ := hat.ten
      simp only [tv] at q0 q1 q2 q3 q4 q5 q6 q7 q8 q9
      have hji : (j : Int) < ps.length := by omega
      obtain ⟨n, hn, hge⟩ := lastOf_ge (fs1 ps) y (List.mem_map.mpr ⟨_, List.mem_of_getElem? hxj, rfl⟩)
      obtain ⟨pk, hpk⟩ := plis_ex (fs1 ps) y.cl n
      have hpos := plis_there hpk (lastOf_from _ _ _ hn)
      obtain ⟨pj, rfl⟩ : ∃ pj, pk = pj + 1 := ⟨pk - 1, by omega⟩
      have HPK := mkHid hpk
      have hlk := (HMJ.out.below (bt HBr.out (ba (Below.refl _ wr) (oE y (.slice ya y.ts.length yc))))).get1 y.cl
      rw [hn] at hlk
      simp only [Option.getD_some] at hlk
      have hnn : ¬ n < y.nu := by omega
      clear hxj hat hn hge hpk hpos p0 p1 p2 p3 p4 p5 p6 p7 p8 p9
      go_wp2_with (go_at_call 30; refine (rplace_any _ _ ps y.cl n (pj + 1) (HL.out.below (bt (bt HW11.out HBr.out) (ba (Below.refl _ wr) _))) (by have := HLL.out; omega) HPK.out).mono ?_; rintro r w12 ⟨rfl, b12⟩; have HB12 := mkHid (bt HBr.out (bt (ba (Below.refl _ wr) _) b12)); clear b12)
      go_roundw
      case rel => exact ⟨j + 1, by go_num, by omega, HB12⟩
      case measure => simp [intOf]; omega
    · obtain rfl : j = ps.length := by omega
      obtain ⟨es, clock, hmap, hik, hnd, hborn, hlook⟩ := HMJ.out.below HBr.out
      have hrg := run_range_map (P := Tryd.prog) wr 65 3 3 mb es clock Tryd.underlying65 hmap
      have HMP := mkHid (And.intro hik (And.intro hnd (And.intro hborn hlook)))
      have HMB := mkHid hmap
      have HN : Hid (mb < wr.heap.size) := mkHid (by have := HLT.out; have := HBr.out.size; omega)
      clear hik hnd hborn hlook p0 p1 p2 p3 p4 p5 p6 p7 p8 p9 hmap
      go_wp2
      clear hrg
      obtain ⟨rb, hrb⟩ : ∃ rb, rb = wr.heap.size := ⟨_, rfl⟩
      have HI0 : Hid ((wr.alloc (.mapIter (some mb) clock #[] clock)).heap[rb]? = some (.mapIter (some mb) clock #[] clock)) := mkHid (by rw [hrb]; exact heap_alloc_new wr _)
      have HB0 : Hid ((wr.alloc (.mapIter (some mb) clock #[] clock)).heap[mb]? = some (.map es clock)) := mkHid (by rw [heap_alloc_old wr _ HN.out]; exact HMB.out)
      have HC0 : Hid (Below w11.heap.size w11 (wr.alloc (.mapIter (some mb) clock #[] clock))) := mkHid (ba HBr.out _)
      have HRB : Hid (w11.heap.size ≤ rb ∧ mb ≠ rb) := mkHid ⟨by rw [hrb]; exact HBr.out.size, by have := HN.out; omega⟩
      rw [← hrb]
      generalize wr.alloc (.mapIter (some mb) clock #[] clock) = wi at *
      clear hrb HBr HN HMB
      go_loopw [20] (fun _ wr => ∃ seen, Hid (wr.heap[rb]? = some (.mapIter (some mb) clock seen clock) ∧ wr.heap[mb]? = some (.map es clock) ∧ Below w11.heap.size w11 wr)) (fun _ wr => (leftOf es (wr.iterSeen rb)).size)
      case atStart => exact ⟨#[], mkHid ⟨HI0.out, HB0.out, HC0.out⟩⟩
      case round =>
        clear HI0 HB0 HC0
        obtain ⟨seen, HH⟩ := hrel
        rcases map_step HH.out.1 HH.out.2.1 HMP.out.1 HMP.out.2.1 HMP.out.2.2.1 HMP.out.2.2.2 HH.out.2.2 HRB.out.1 HRB.out.2 with hnx | ⟨c, n, w4', seen', hmc2, hnx, hen, hr4, hb4, hB4, hsm⟩
        case inr =>
          obtain ⟨pk, hpk⟩ := plis_ex (fs1 ps) c n
          have hpos := plis_there hpk (lastOf_from _ _ _ hmc2)
          obtain ⟨pj, rfl⟩ : ∃ pj, pk = pj + 1 := ⟨pk - 1, by omega⟩
          have HPK := mkHid hpk
          have HR4 := mkHid (And.intro hr4 (And.intro hb4 hB4))
          have HSM := mkHid hsm
          clear hpk hpos hmc2 hr4 hb4 hB4 hsm
          go_wp2_with (go_at_call 30; refine (rplace_any w4' _ ps c n (pj + 1) (HL.out.below (bt HW11.out HR4.out.2.2)) (by have := HLL.out; omega) HPK.out).mono ?_; rintro r w12 ⟨rfl, b12⟩; have HR5 : Hid (w12.heap[rb]? = some (.mapIter (some mb) clock seen' clock) ∧ w12.heap[mb]? = some (.map es clock) ∧ Below w11.heap.size w11 w12) := mkHid ⟨(b12.block rb (lt_of_heap HR4.out.1)).trans HR4.out.1, (b12.block mb (lt_of_heap HR4.out.2.1)).trans HR4.out.2.1, bt HR4.out.2.2 b12⟩; clear b12)
          go_roundw
          case rel => exact ⟨seen', HR5⟩
          case measure => have h5 := iter_of HR5.out.1; have h4 := iter_of HR4.out.1; rw [h5, ← h4]; exact HSM.out
        have HBr : Hid (Below w11.heap.size w11 wr) := mkHid HH.out.2.2
        clear HH
        go_wp2
        clear hnx
        by_cases hp0 : ps.length = 0
        · have hp0' : (ps.length : Int) = 0 := by omega
          have HBq : Hid (∀ n, Below w11.heap.size w11 (wr.drewN n)) := mkHid (fun n => drb HBr.out n)
          go_quiet (fail)
          have HBr2 := mkHid (HBq.out nq)
          generalize wr.drewN nq = wd at *
          clear HBq hp0
          go_wp2_with (go_at_call 31; refine (begins_any wd _ oa oc qs rs (HQE.out.below (bt HP3.out (bt HP11.out HBr2.out))) ((H6.out w3 _ rs ⟨_, HOUT.out.1⟩ HOUT.out.2.1).below (bt HP11.out HBr2.out)) HOUT.out.2.2 true (by simp only [true_iff]; exact HRR.out qs rs HQF.out HOUT.out.2.1)).mono ?_; rintro r w14 ⟨rfl, b14⟩; have HB14 := mkHid (bt HBr2.out b14); clear b14)
          have HLD : Hid (Led w2.heap.size w14 (.slice oa rs.length oc) rs) := mkHid (HOUT.out.1.below (bt HP11.out HB14.out))
          have hrl : (rs.length : Int) ≤ 9223372036854775807 := by obtain ⟨_, _, _, hh, _⟩ := H6.out w3 _ rs ⟨_, HOUT.out.1⟩ HOUT.out.2.1; exact hh
          have HTL : Hid (∀ t ∈ rs, (t.1.ts.length : Int) ≤ 9223372036854775807) := mkHid (fun t ht => by obtain ⟨_, _, _, _, _, hw⟩ := H6.out w3 _ rs ⟨_, HOUT.out.1⟩ HOUT.out.2.1; obtain ⟨_, _, _, hh, _⟩ := hw t ht; exact hh)
          have HFIN : Hid (∀ W, Below w2.heap.size w14 W → Ens W (.slice ia qs.length ic) qs ∧ Ens W (.slice a0 ps.length cap0) ps ∧ Below w.heap.size w W) := mkHid (fun W hW => by
            have b2 : Below w2.heap.size w2 w14 := bt HP3.out (bt HP11.out HB14.out)
            have b3 : Below w2.heap.size w2 W := b2.trans hW
            have b4 : Below w.heap.size w W := bt (bt HA.out HB2.out) b3
            exact ⟨HQE.out.below b3, HL.out.below b4, b4⟩)
          by_cases hr0 : rs.length = 0
          · have hr0' : (rs.length : Int) = 0 := by omega
            go_loopw [174] (fun iv wr => iv = .int .i64 0 ∧ Hid (wr = w14)) (fun iv _ => 0)
            case atStart => exact ⟨rfl, mkHid rfl⟩
            case round =>
              obtain ⟨rfl, HWE⟩ := hrel
              go_wp2_with (go_at_call 22; refine (sameL_yes wr _ _ qs ps (HFIN.out wr (by rw [HWE.out]; exact Below.refl _ _)).1 (HFIN.out wr (by rw [HWE.out]; exact Below.refl _ _)).2.1 HQF.out).mono ?_; rintro r w15 ⟨rfl, b15⟩; have HB15 := mkHid (bt (HFIN.out wr (by rw [HWE.out]; exact Below.refl _ _)).2.2 b15); clear b15)
              go_ret
              exact ⟨rfl, HB15.out⟩
          · obtain ⟨g, hog⟩ : ∃ g, oa = some ⟨g, 0, none⟩ := by
              rcases HLD.out.own.2 with ⟨e1, e2⟩ | ⟨g', cap', cur, e1, _⟩
              · exact absurd e2 hr0
              · simp only [Value.slice.injEq] at e1
                exact ⟨g', e1.1⟩
            subst hog
            have HM0 := mkHid (Mut.start HLD.out)
            clear hr0
            go_loopw [174] (fun iv wr => ∃ i : Nat, iv = .int .i64 (i : Int) ∧ i ≤ rs.length ∧ Hid (Mut w2.heap.size w14 wr g rs)) (fun iv _ => rs.length - (intOf iv).toNat)
            case atStart => exact ⟨0, rfl, Nat.zero_le _, HM0⟩
            case round =>
              clear HM0
              obtain ⟨i, rfl, hi, HMU⟩ := hrel
              by_cases hlt : i < rs.length
              · obtain ⟨⟨y, ya, yc⟩, hy⟩ : ∃ t, rs[i]? = some t := ⟨_, List.getElem?_eq_getElem hlt⟩
                have hii : (i : Int) < rs.length := by omega
                obtain ⟨c8, _, _⟩ := HMU.out.at hy
                simp only [tv] at c8
                have hyl : (y.ts.length : Int) ≤ 9223372036854775807 := HTL.out _ (List.mem_of_getElem? hy)
                have HY := mkHid hy
                clear hy
                go_wp2
                clear c8
                go_loopw [184] (fun jv wr => ∃ j : Nat, jv = .int .i64 (j : Int) ∧ j ≤ y.ts.length ∧ Hid (Mut w2.heap.size w14 wr g rs)) (fun jv _ => y.ts.length - (intOf jv).toNat)
                case atStart => exact ⟨0, rfl, Nat.zero_le _, HMU⟩
                case round =>
                  clear HMU
                  obtain ⟨j, rfl, hj, HMU⟩ := hrel
                  obtain ⟨c8, ⟨u0, c0⟩, f0⟩ := HMU.out.at HY.out
                  by_cases hjl : j < y.ts.length
                  · obtain ⟨tb, tcap, ht2, htg, htB, ⟨u, ct⟩, ft⟩ := HMU.out.at2 HY.out hjl
                    simp only [Prod.mk.injEq] at ht2
                    obtain ⟨rfl, rfl⟩ := ht2
                    simp only [tv] at c8
                    have hjj : (j : Int) < y.ts.length := by omega
                    have HT := mkHid (And.intro htg htB)
                    clear htg htB c0 f0
                    go_wp2
                    go_roundw
                    case rel => exact ⟨j + 1, by go_num, by omega, mkHid (HMU.out.task HT.out.1 HT.out.2 (j * 4) _)⟩
                    case measure => simp [intOf]; omega
                  · obtain rfl : j = y.ts.length := by omega
                    simp only [tv] at c8
                    go_wp2
                    go_roundw
                    case rel => exact ⟨i + 1, by go_num, by omega, mkHid (HMU.out.client i _)⟩
                    case measure => simp [intOf]; omega
              · obtain rfl : i = rs.length := by omega
                go_wp2_with (go_at_call 22; refine (sameL_yes wr _ _ qs ps (HFIN.out wr HMU.out.bel).1 (HFIN.out wr HMU.out.bel).2.1 HQF.out).mono ?_; rintro r w15 ⟨rfl, b15⟩; have HB15 := mkHid (bt (HFIN.out wr HMU.out.bel).2.2 b15); clear b15)
                go_ret
                exact ⟨rfl, HB15.out⟩
        by_cases hm0 : ms.length = 0
        · have hm0' : (ms.length : Int) = 0 := by omega
          have hp1 : ¬ (ps.length : Int) ≤ 0 := by omega
          have hpN : 0 < ps.length := by omega
          have HBq : Hid (∀ n, Below w11.heap.size w11 (wr.drewN n)) := mkHid (fun n => drb HBr.out n)
          clear hp0 hm0
          go_quiet (fail)
          have HBr2 := mkHid (HBq.out nq)
          generalize wr.drewN nq = wd at *
          clear HBq
          go_wp2_with (go_at_call 31; refine (begins_any wd _ oa oc qs rs (HQE.out.below (bt HP3.out (bt HP11.out HBr2.out))) ((H6.out w3 _ rs ⟨_, HOUT.out.1⟩ HOUT.out.2.1).below (bt HP11.out HBr2.out)) HOUT.out.2.2 true (by simp only [true_iff]; exact HRR.out qs rs HQF.out HOUT.out.2.1)).mono ?_; rintro r w14 ⟨rfl, b14⟩; have HB14 := mkHid (bt HBr2.out b14); clear b14)
          have HLD : Hid (Led w2.heap.size w14 (.slice oa rs.length oc) rs) := mkHid (HOUT.out.1.below (bt HP11.out HB14.out))
          have hrl : (rs.length : Int) ≤ 9223372036854775807 := by obtain ⟨_, _, _, hh, _⟩ := H6.out w3 _ rs ⟨_, HOUT.out.1⟩ HOUT.out.2.1; exact hh
          have HTL : Hid (∀ t ∈ rs, (t.1.ts.length : Int) ≤ 9223372036854775807) := mkHid (fun t ht => by obtain ⟨_, _, _, _, _, hw⟩ := H6.out w3 _ rs ⟨_, HOUT.out.1⟩ HOUT.out.2.1; obtain ⟨_, _, _, hh, _⟩ := hw t ht; exact hh)
          have HFIN : Hid (∀ W, Below w2.heap.size w14 W → Ens W (.slice ia qs.length ic) qs ∧ Ens W (.slice a0 ps.length cap0) ps ∧ Below w.heap.size w W) := mkHid (fun W hW => by
            have b2 : Below w2.heap.size w2 w14 := bt HP3.out (bt HP11.out HB14.out)
            have b3 : Below w2.heap.size w2 W := b2.trans hW
            have b4 : Below w.heap.size w W := bt (bt HA.out HB2.out) b3
            exact ⟨HQE.out.below b3, HL.out.below b4, b4⟩)
          by_cases hr0 : rs.length = 0
          · have hr0' : (rs.length : Int) = 0 := by omega
            go_loopw [174] (fun iv wr => iv = .int .i64 0 ∧ Hid (wr = w14)) (fun iv _ => 0)
            case atStart => exact ⟨rfl, mkHid rfl⟩
            case round =>
              obtain ⟨rfl, HWE⟩ := hrel
              go_wp2_with (go_at_call 22; refine (sameL_yes wr _ _ qs ps (HFIN.out wr (by rw [HWE.out]; exact Below.refl _ _)).1 (HFIN.out wr (by rw [HWE.out]; exact Below.refl _ _)).2.1 HQF.out).mono ?_; rintro r w15 ⟨rfl, b15⟩; have HB15 := mkHid (bt (HFIN.out wr (by rw [HWE.out]; exact Below.refl _ _)).2.2 b15); clear b15)
              go_ret
              exact ⟨rfl, HB15.out⟩
          · obtain ⟨g, hog⟩ : ∃ g, oa = some ⟨g, 0, none⟩ := by
              rcases HLD.out.own.2 with ⟨e1, e2⟩ | ⟨g', cap', cur, e1, _⟩
              · exact absurd e2 hr0
              · simp only [Value.slice.injEq] at e1
                exact ⟨g', e1.1⟩
            subst hog
            have HM0 := mkHid (Mut.start HLD.out)
            clear hr0
            go_loopw [174] (fun iv wr => ∃ i : Nat, iv = .int .i64 (i : Int) ∧ i ≤ rs.length ∧ Hid (Mut w2.heap.size w14 wr g rs)) (fun iv _ => rs.length - (intOf iv).toNat)
            case atStart => exact ⟨0, rfl, Nat.zero_le _, HM0⟩
            case round =>
              clear HM0
              obtain ⟨i, rfl, hi, HMU⟩ := hrel
              by_cases hlt : i < rs.length
              · obtain ⟨⟨y, ya, yc⟩, hy⟩ : ∃ t, rs[i]? = some t := ⟨_, List.getElem?_eq_getElem hlt⟩
                have hii : (i : Int) < rs.length := by omega
                obtain ⟨c8, _, _⟩ := HMU.out.at hy
                simp only [tv] at c8
                have hyl : (y.ts.length : Int) ≤ 9223372036854775807 := HTL.out _ (List.mem_of_getElem? hy)
                have HY := mkHid hy
                clear hy
                go_wp2
                clear c8
                go_loopw [184] (fun jv wr => ∃ j : Nat, jv = .int .i64 (j : Int) ∧ j ≤ y.ts.length ∧ Hid (Mut w2.heap.size w14 wr g rs)) (fun jv _ => y.ts.length - (intOf jv).toNat)
                case atStart => exact ⟨0, rfl, Nat.zero_le _, HMU⟩
                case round =>
                  clear HMU
                  obtain ⟨j, rfl, hj, HMU⟩ := hrel
                  obtain ⟨c8, ⟨u0, c0⟩, f0⟩ := HMU.out.at HY.out
                  by_cases hjl : j < y.ts.length
                  · obtain ⟨tb, tcap, ht2, htg, htB, ⟨u, ct⟩, ft⟩ := HMU.out.at2 HY.out hjl
                    simp only [Prod.mk.injEq] at ht2
                    obtain ⟨rfl, rfl⟩ := ht2
                    simp only [tv] at c8
                    have hjj : (j : Int) < y.ts.length := by omega
                    have HT := mkHid (And.intro htg htB)
                    clear htg htB c0 f0
                    go_wp2
                    go_roundw
                    case rel => exact ⟨j + 1, by go_num, by omega, mkHid (HMU.out.task HT.out.1 HT.out.2 (j * 4) _)⟩
                    case measure => simp [intOf]; omega
                  · obtain rfl : j = y.ts.length := by omega
                    simp only [tv] at c8
                    go_wp2
                    go_roundw
                    case rel => exact ⟨i + 1, by go_num, by omega, mkHid (HMU.out.client i _)⟩
                    case measure => simp [intOf]; omega
              · obtain rfl : i = rs.length := by omega
                go_wp2_with (go_at_call 22; refine (sameL_yes wr _ _ qs ps (HFIN.out wr HMU.out.bel).1 (HFIN.out wr HMU.out.bel).2.1 HQF.out).mono ?_; rintro r w15 ⟨rfl, b15⟩; have HB15 := mkHid (bt (HFIN.out wr HMU.out.bel).2.2 b15); clear b15)
                go_ret
                exact ⟨rfl, HB15.out⟩
        obtain ⟨b1, o1, ⟨y, ya, yc⟩, rfl, _, hat, hyw⟩ := HL.out.at (bt HW11.out HBr.out) 0 (by omega)
        obtain ⟨b2, o2, ⟨z, za, zc⟩, rfl, _, hbt, hzw⟩ := HM.out.at (bt HW11.out HBr.out) 0 (by omega)
        simp only [Nat.zero_mul, Nat.add_zero] at hat hbt
        have hp1 : (0 : Int) < ps.length := by omega
        have hm1 : (0 : Int) < ms.length := by omega
        have hpN : 0 < ps.length := by omega
        have hmN : 0 < ms.length := by omega
        have hpn : ¬ ps = [] := fun e2 => by rw [e2] at hpN; simp at hpN
        have hmn : ¬ ms = [] := fun e2 => by rw [e2] at hmN; simp at hmN
        obtain ⟨sb, hsb⟩ := ex_bool (y = z)
        have HC1 : Hid (∀ W, Below wr.heap.size wr W → Calls Tryd.prog 17 #[vP (y, ya, yc), vP (z, za, zc)] W fun r w' => r = .returned (.bool sb) ∧ Below W.heap.size W w') := mkHid (fun W hW => by
          by_cases he : y = z
          · rw [hsb.mpr he]; exact oSame_yes W _ _ (EnW.below hyw hW) (EnW.below hzw hW) he
          · have : sb = false := by cases sb with | false => rfl | true => exact absurd (hsb.mp rfl) he
            rw [this]; exact oSame_no W _ _ (EnW.below hyw hW) (EnW.below hzw hW) he)
        have HC2 : Hid (∀ W, Below wr.heap.size wr W → Calls Tryd.prog 13 #[vP (y, ya, yc), vP (z, za, zc)] W fun r w' => r = .returned (.bool sb) ∧ Below W.heap.size W w') := mkHid (fun W hW => by
          by_cases he : y = z
          · rw [hsb.mpr he]; exact refSame_yes W _ _ (EnW.below hyw hW) (EnW.below hzw hW) he
          · have : sb = false := by cases sb with | false => rfl | true => exact absurd (hsb.mp rfl) he
            rw [this]; exact refSame_no W _ _ (EnW.below hyw hW) (EnW.below hzw hW) he)
        simp only [vP, vN, tv] at HC1 HC2
        have HAT := mkHid hat
        have HBT := mkHid hbt
        clear hat hbt hyw hzw hsb hp0 hm0
        have hd : Below wr.heap.size wr wr.drew := (Below.refl _ wr).drew
        obtain ⟨p0, p1, p2, p3, p4, p5, p6, p7, p8, p9⟩ := (HAT.out.below hd).ten
        obtain ⟨q0, q1, q2, q3, q4, q5, q6, q7, q8, q9⟩ := (HBT.out.below hd).ten
        simp only [tv] at p0 p1 p2 p3 p4 p5 p6 p7 p8 p9 q0 q1 q2 q3 q4 q5 q6 q7 q8 q9
        clear hd
        refine wp_region_held_drew (S := fun w' => w'.cell? ⟨b1, o1, none⟩ = some (.int .i64 y.cl) ∧ w'.cell? ⟨b1, o1 + 1, none⟩ = some (.int .i64 y.nu) ∧ w'.cell? ⟨b1, o1 + 2, none⟩ = some (.int .i64 y.ki) ∧ w'.cell? ⟨b1, o1 + 3, none⟩ = some (.int .i64 y.id) ∧ w'.cell? ⟨b1, o1 + 4, none⟩ = some (.int .i64 y.sk) ∧ w'.cell? ⟨b1, o1 + 5, none⟩ = some (.int .i64 y.sq) ∧ w'.cell? ⟨b1, o1 + 6, none⟩ = some (.int .i64 y.st) ∧ w'.cell? ⟨b1, o1 + 7, none⟩ = some (.int .i64 y.po) ∧ w'.cell? ⟨b1, o1 + 8, none⟩ = some (.slice ya y.ts.length yc) ∧ w'.cell? ⟨b1, o1 + 9, none⟩ = some (.int .i64 y.tm) ∧ w'.cell? ⟨b2, o2, none⟩ = some (.int .i64 z.cl) ∧ w'.cell? ⟨b2, o2 + 1, none⟩ = some (.int .i64 z.nu) ∧ w'.cell? ⟨b2, o2 + 2, none⟩ = some (.int .i64 z.ki) ∧ w'.cell? ⟨b2, o2 + 3, none⟩ = some (.int .i64 z.id) ∧ w'.cell? ⟨b2, o2 + 4, none⟩ = some (.int .i64 z.sk) ∧ w'.cell? ⟨b2, o2 + 5, none⟩ = some (.int .i64 z.sq) ∧ w'.cell? ⟨b2, o2 + 6, none⟩ = some (.int .i64 z.st) ∧ w'.cell? ⟨b2, o2 + 7, none⟩ = some (.int .i64 z.po) ∧ w'.cell? ⟨b2, o2 + 8, none⟩ = some (.slice za z.ts.length zc) ∧ w'.cell? ⟨b2, o2 + 9, none⟩ = some (.int .i64 z.tm)) (by kernel_rfl) ⟨p0, p1, p2, p3, p4, p5, p6, p7, p8, p9, q0, q1, q2, q3, q4, q5, q6, q7, q8, q9⟩ (fun hHeld => ?_)
        refine takeD 0 139 (.slice (some ⟨b1, o1, none⟩) ps.length cap0) rfl rfl (by kernel_rfl) (by kernel_rfl) (by kernel_rfl) (fun _ _ _ h => h) (Or.inl ⟨by kernel_rfl, by intro w hSw; (try dsimp only at hSw); go_simp⟩) hHeld ?_
        simp only [List.set_cons_zero, List.set_cons_succ]
        refine takeD 1 140 (.int .i64 (ps.length : Int)) rfl rfl (by kernel_rfl) (by kernel_rfl) (by kernel_rfl) (fun _ _ _ h => h) (Or.inl ⟨by kernel_rfl, by intro w hSw; (try dsimp only at hSw); go_simp⟩) hHeld ?_
        simp only [List.set_cons_zero, List.set_cons_succ]
        refine takeD 2 141 (.bool true) rfl rfl (by kernel_rfl) (by kernel_rfl) (by kernel_rfl) (fun _ _ _ h => h) (Or.inl ⟨by kernel_rfl, by intro w hSw; (try dsimp only at hSw); go_simp⟩) hHeld ?_
        simp only [List.set_cons_zero, List.set_cons_succ]
        refine takeD 3 142 (.bool true) rfl rfl (by kernel_rfl) (by kernel_rfl) (by kernel_rfl) (fun _ _ _ h => h) (Or.inl ⟨by kernel_rfl, by intro w hSw; (try dsimp only at hSw); go_simp⟩) hHeld ?_
        simp only [List.set_cons_zero, List.set_cons_succ]
        refine takeD 4 143 (.slice (some ⟨b2, o2, none⟩) ms.length mc) rfl rfl (by kernel_rfl) (by kernel_rfl) (by kernel_rfl) (fun _ _ _ h => h) (Or.inl ⟨by kernel_rfl, by intro w hSw; (try dsimp only at hSw); go_simp⟩) hHeld ?_
        simp only [List.set_cons_zero, List.set_cons_succ]
        refine takeD 5 144 (.int .i64 (ms.length : Int)) rfl rfl (by kernel_rfl) (by kernel_rfl) (by kernel_rfl) (fun _ _ _ h => h) (Or.inl ⟨by kernel_rfl, by intro w hSw; (try dsimp only at hSw); go_simp⟩) hHeld ?_
        simp only [List.set_cons_zero, List.set_cons_succ]
        refine takeD 6 145 (.bool true) rfl rfl (by kernel_rfl) (by kernel_rfl) (by kernel_rfl) (fun _ _ _ h => h) (Or.inl ⟨by kernel_rfl, by intro w hSw; (try dsimp only at hSw); go_simp⟩) hHeld ?_
        simp only [List.set_cons_zero, List.set_cons_succ]
        refine takeD 7 146 (.bool true) rfl rfl (by kernel_rfl) (by kernel_rfl) (by kernel_rfl) (fun _ _ _ h => h) (Or.inl ⟨by kernel_rfl, by intro w hSw; (try dsimp only at hSw); go_simp⟩) hHeld ?_
        simp only [List.set_cons_zero, List.set_cons_succ]
        refine takeD 8 147 (.bool true) rfl rfl (by kernel_rfl) (by kernel_rfl) (by kernel_rfl) (fun _ _ _ h => h) (Or.inl ⟨by kernel_rfl, by intro w hSw; (try dsimp only at hSw); go_simp⟩) hHeld ?_
        simp only [List.set_cons_zero, List.set_cons_succ]
        refine takeD 9 148 (.slice (some ⟨b1, o1, none⟩) ps.length cap0) rfl rfl (by kernel_rfl) (by kernel_rfl) (by kernel_rfl) (fun _ _ _ h => h) (Or.inl ⟨by kernel_rfl, by intro w hSw; (try dsimp only at hSw); go_simp⟩) hHeld ?_
        simp only [List.set_cons_zero, List.set_cons_succ]
        refine takeD 10 149 (.pointer (some ⟨b1, o1, none⟩)) rfl rfl (by kernel_rfl) (by kernel_rfl) (by kernel_rfl) (fun _ _ _ h => h) (Or.inl ⟨by kernel_rfl, by intro w hSw; (try dsimp only at hSw); go_simp⟩) hHeld ?_
        simp only [List.set_cons_zero, List.set_cons_succ]
        refine takeD 11 150 (.agg #[.int .i64 y.cl, .int .i64 y.nu, .int .i64 y.ki, .int .i64 y.id, .int .i64 y.sk, .int .i64 y.sq, .int .i64 y.st, .int .i64 y.po, .slice ya y.ts.length yc, .int .i64 y.tm]) rfl rfl (by kernel_rfl) (by kernel_rfl) (by kernel_rfl) (fun _ _ _ h => h) (Or.inl ⟨by kernel_rfl, by intro w hSw; (try dsimp only at hSw); go_simp⟩) hHeld ?_
        simp only [List.set_cons_zero, List.set_cons_succ]
        refine takeD 12 151 (.slice (some ⟨b2, o2, none⟩) ms.length mc) rfl rfl (by kernel_rfl) (by kernel_rfl) (by kernel_rfl) (fun _ _ _ h => h) (Or.inl ⟨by kernel_rfl, by intro w hSw; (try dsimp only at hSw); go_simp⟩) hHeld ?_
        simp only [List.set_cons_zero, List.set_cons_succ]
        refine takeD 13 152 (.pointer (some ⟨b2, o2, none⟩)) rfl rfl (by kernel_rfl) (by kernel_rfl) (by kernel_rfl) (fun _ _ _ h => h) (Or.inl ⟨by kernel_rfl, by intro w hSw; (try dsimp only at hSw); go_simp⟩) hHeld ?_
        simp only [List.set_cons_zero, List.set_cons_succ]
        refine takeD 14 153 (.agg #[.int .i64 z.cl, .int .i64 z.nu, .int .i64 z.ki, .int .i64 z.id, .int .i64 z.sk, .int .i64 z.sq, .int .i64 z.st, .int .i64 z.po, .slice za z.ts.length zc, .int .i64 z.tm]) rfl rfl (by kernel_rfl) (by kernel_rfl) (by kernel_rfl) (fun _ _ _ h => h) (Or.inl ⟨by kernel_rfl, by intro w hSw; (try dsimp only at hSw); go_simp⟩) hHeld ?_
        simp only [List.set_cons_zero, List.set_cons_succ]
        refine takeD 16 155 (.slice (some ⟨b1, o1, none⟩) ps.length cap0) rfl rfl (by kernel_rfl) (by kernel_rfl) (by kernel_rfl) (fun _ _ _ h => h) (Or.inl ⟨by kernel_rfl, by intro w hSw; (try dsimp only at hSw); go_simp⟩) hHeld ?_
        simp only [List.set_cons_zero, List.set_cons_succ]
        refine takeD 17 156 (.pointer (some ⟨b1, o1, none⟩)) rfl rfl (by kernel_rfl) (by kernel_rfl) (by kernel_rfl) (fun _ _ _ h => h) (Or.inl ⟨by kernel_rfl, by intro w hSw; (try dsimp only at hSw); go_simp⟩) hHeld ?_
        simp only [List.set_cons_zero, List.set_cons_succ]
        refine takeD 18 157 (.agg #[.int .i64 y.cl, .int .i64 y.nu, .int .i64 y.ki, .int .i64 y.id, .int .i64 y.sk, .int .i64 y.sq, .int .i64 y.st, .int .i64 y.po, .slice ya y.ts.length yc, .int .i64 y.tm]) rfl rfl (by kernel_rfl) (by kernel_rfl) (by kernel_rfl) (fun _ _ _ h => h) (Or.inl ⟨by kernel_rfl, by intro w hSw; (try dsimp only at hSw); go_simp⟩) hHeld ?_
        simp only [List.set_cons_zero, List.set_cons_succ]
        refine takeD 19 158 (.slice (some ⟨b2, o2, none⟩) ms.length mc) rfl rfl (by kernel_rfl) (by kernel_rfl) (by kernel_rfl) (fun _ _ _ h => h) (Or.inl ⟨by kernel_rfl, by intro w hSw; (try dsimp only at hSw); go_simp⟩) hHeld ?_
        simp only [List.set_cons_zero, List.set_cons_succ]
        refine takeD 20 159 (.pointer (some ⟨b2, o2, none⟩)) rfl rfl (by kernel_rfl) (by kernel_rfl) (by kernel_rfl) (fun _ _ _ h => h) (Or.inl ⟨by kernel_rfl, by intro w hSw; (try dsimp only at hSw); go_simp⟩) hHeld ?_
        simp only [List.set_cons_zero, List.set_cons_succ]
        refine takeD 21 160 (.agg #[.int .i64 z.cl, .int .i64 z.nu, .int .i64 z.ki, .int .i64 z.id, .int .i64 z.sk, .int .i64 z.sq, .int .i64 z.st, .int .i64 z.po, .slice za z.ts.length zc, .int .i64 z.tm]) rfl rfl (by kernel_rfl) (by kernel_rfl) (by kernel_rfl) (fun _ _ _ h => h) (Or.inl ⟨by kernel_rfl, by intro w hSw; (try dsimp only at hSw); go_simp⟩) hHeld ?_
        simp only [List.set_cons_zero, List.set_cons_succ]
        refine wpAnyH_ready (rs := [15]) (by kernel_rfl) (by simp) (AllReadyH.cons rfl (fun K hK => ?_) AllReadyH.nil)
        go_simp
        refine (HC1.out _ (Below.refl _ wr).drew).mono ?_
        rintro r w12 ⟨rfl, b12⟩
        have HB12 : Hid (Below wr.heap.size wr w12) := mkHid (bt (Below.refl _ wr).drew b12)
        clear hHeld p0 p1 p2 p3 p4 p5 p6 p7 p8 p9 q0 q1 q2 q3 q4 q5 q6 q7 q8 q9
        obtain ⟨p0, p1, p2, p3, p4, p5, p6, p7, p8, p9⟩ := (HAT.out.below HB12.out).ten
        obtain ⟨q0, q1, q2, q3, q4, q5, q6, q7, q8, q9⟩ := (HBT.out.below HB12.out).ten
        simp only [tv] at p0 p1 p2 p3 p4 p5 p6 p7 p8 p9 q0 q1 q2 q3 q4 q5 q6 q7 q8 q9
        clear b12
        refine hK.out _ _ ⟨p0, p1, p2, p3, p4, p5, p6, p7, p8, p9, q0, q1, q2, q3, q4, q5, q6, q7, q8, q9⟩ (fun hHeld => ?_)
        clear hK K
        refine wpAnyH_ready (rs := [22]) (by kernel_rfl) (by simp) (AllReadyH.cons rfl (fun K hK => ?_) AllReadyH.nil)
        go_simp
        refine (HC2.out w12 HB12.out).mono ?_
        rintro r w13 ⟨rfl, b13⟩
        have HB13 : Hid (Below wr.heap.size wr w13) := mkHid (bt HB12.out b13)
        clear hHeld p0 p1 p2 p3 p4 p5 p6 p7 p8 p9 q0 q1 q2 q3 q4 q5 q6 q7 q8 q9
        obtain ⟨p0, p1, p2, p3, p4, p5, p6, p7, p8, p9⟩ := (HAT.out.below HB13.out).ten
        obtain ⟨q0, q1, q2, q3, q4, q5, q6, q7, q8, q9⟩ := (HBT.out.below HB13.out).ten
        simp only [tv] at p0 p1 p2 p3 p4 p5 p6 p7 p8 p9 q0 q1 q2 q3 q4 q5 q6 q7 q8 q9
        clear b13
        refine hK.out _ _ ⟨p0, p1, p2, p3, p4, p5, p6, p7, p8, p9, q0, q1, q2, q3, q4, q5, q6, q7, q8, q9⟩ (fun hHeld => ?_)
        clear hK K
        refine takeD 23 162 (.bool false) rfl rfl (by kernel_rfl) (by kernel_rfl) (by kernel_rfl) (fun _ _ _ h => h) (Or.inl ⟨by kernel_rfl, by intro w hSw; (try dsimp only at hSw); (cases sb <;> go_simp)⟩) hHeld ?_
        simp only [List.set_cons_zero, List.set_cons_succ]
        refine takeD 24 163 (.bool false) rfl rfl (by kernel_rfl) (by kernel_rfl) (by kernel_rfl) (fun _ _ _ h => h) (Or.inl ⟨by kernel_rfl, by intro w hSw; (try dsimp only at hSw); go_simp⟩) hHeld ?_
        simp only [List.set_cons_zero, List.set_cons_succ]
        refine wpAnyH_done (by kernel_rfl) ?_ _
        have HB13b : Hid (Below w11.heap.size w11 w13) := mkHid (bt HBr.out HB13.out)
        clear hpN hmN hpn hmn hp1 hm1 HC1 HC2 HAT HBT HBr HB12 HB13
        clear hHeld p0 p1 p2 p3 p4 p5 p6 p7 p8 p9 q0 q1 q2 q3 q4 q5 q6 q7 q8 q9
        go_wp2_with (go_at_call 31; refine (begins_any w13 _ oa oc qs rs (HQE.out.below (bt HP3.out (bt HP11.out HB13b.out))) ((H6.out w3 _ rs ⟨_, HOUT.out.1⟩ HOUT.out.2.1).below (bt HP11.out HB13b.out)) HOUT.out.2.2 true (by simp only [true_iff]; exact HRR.out qs rs HQF.out HOUT.out.2.1)).mono ?_; rintro r w14 ⟨rfl, b14⟩; have HB14 := mkHid (bt HB13b.out b14); clear b14)
        have HLD : Hid (Led w2.heap.size w14 (.slice oa rs.length oc) rs) := mkHid (HOUT.out.1.below (bt HP11.out HB14.out))
        have hrl : (rs.length : Int) ≤ 9223372036854775807 := by obtain ⟨_, _, _, hh, _⟩ := H6.out w3 _ rs ⟨_, HOUT.out.1⟩ HOUT.out.2.1; exact hh
        have HTL : Hid (∀ t ∈ rs, (t.1.ts.length : Int) ≤ 9223372036854775807) := mkHid (fun t ht => by obtain ⟨_, _, _, _, _, hw⟩ := H6.out w3 _ rs ⟨_, HOUT.out.1⟩ HOUT.out.2.1; obtain ⟨_, _, _, hh, _⟩ := hw t ht; exact hh)
        have HFIN : Hid (∀ W, Below w2.heap.size w14 W → Ens W (.slice ia qs.length ic) qs ∧ Ens W (.slice (some ⟨b1, o1, none⟩) ps.length cap0) ps ∧ Below w.heap.size w W) := mkHid (fun W hW => by
          have b2 : Below w2.heap.size w2 w14 := bt HP3.out (bt HP11.out HB14.out)
          have b3 : Below w2.heap.size w2 W := b2.trans hW
          have b4 : Below w.heap.size w W := bt (bt HA.out HB2.out) b3
          exact ⟨HQE.out.below b3, HL.out.below b4, b4⟩)
        by_cases hr0 : rs.length = 0
        · have hr0' : (rs.length : Int) = 0 := by omega
          go_loopw [174] (fun iv wr => iv = .int .i64 0 ∧ Hid (wr = w14)) (fun iv _ => 0)
          case atStart => exact ⟨rfl, mkHid rfl⟩
          case round =>
            obtain ⟨rfl, HWE⟩ := hrel
            go_wp2_with (go_at_call 22; refine (sameL_yes wr _ _ qs ps (HFIN.out wr (by rw [HWE.out]; exact Below.refl _ _)).1 (HFIN.out wr (by rw [HWE.out]; exact Below.refl _ _)).2.1 HQF.out).mono ?_; rintro r w15 ⟨rfl, b15⟩; have HB15 := mkHid (bt (HFIN.out wr (by rw [HWE.out]; exact Below.refl _ _)).2.2 b15); clear b15)
            go_ret
            exact ⟨rfl, HB15.out⟩
        · obtain ⟨g, hog⟩ : ∃ g, oa = some ⟨g, 0, none⟩ := by
            rcases HLD.out.own.2 with ⟨e1, e2⟩ | ⟨g', cap', cur, e1, _⟩
            · exact absurd e2 hr0
            · simp only [Value.slice.injEq] at e1
              exact ⟨g', e1.1⟩
          subst hog
          have HM0 := mkHid (Mut.start HLD.out)
          clear hr0
          go_loopw [174] (fun iv wr => ∃ i : Nat, iv = .int .i64 (i : Int) ∧ i ≤ rs.length ∧ Hid (Mut w2.heap.size w14 wr g rs)) (fun iv _ => rs.length - (intOf iv).toNat)
          case atStart => exact ⟨0, rfl, Nat.zero_le _, HM0⟩
          case round =>
            clear HM0
            obtain ⟨i, rfl, hi, HMU⟩ := hrel
            by_cases hlt : i < rs.length
            · obtain ⟨⟨y, ya, yc⟩, hy⟩ : ∃ t, rs[i]? = some t := ⟨_, List.getElem?_eq_getElem hlt⟩
              have hii : (i : Int) < rs.length := by omega
              obtain ⟨c8, _, _⟩ := HMU.out.at hy
              simp only [tv] at c8
              have hyl : (y.ts.length : Int) ≤ 9223372036854775807 := HTL.out _ (List.mem_of_getElem? hy)
              have HY := mkHid hy
              clear hy
              go_wp2
              clear c8
              go_loopw [184] (fun jv wr => ∃ j : Nat, jv = .int .i64 (j : Int) ∧ j ≤ y.ts.length ∧ Hid (Mut w2.heap.size w14 wr g rs)) (fun jv _ => y.ts.length - (intOf jv).toNat)
              case atStart => exact ⟨0, rfl, Nat.zero_le _, HMU⟩
              case round =>
                clear HMU
                obtain ⟨j, rfl, hj, HMU⟩ := hrel
                obtain ⟨c8, ⟨u0, c0⟩, f0⟩ := HMU.out.at HY.out
                by_cases hjl : j < y.ts.length
                · obtain ⟨tb, tcap, ht2, htg, htB, ⟨u, ct⟩, ft⟩ := HMU.out.at2 HY.out hjl
                  simp only [Prod.mk.injEq] at ht2
                  obtain ⟨rfl, rfl⟩ := ht2
                  simp only [tv] at c8
                  have hjj : (j : Int) < y.ts.length := by omega
                  have HT := mkHid (And.intro htg htB)
                  clear htg htB c0 f0
                  go_wp2
                  go_roundw
                  case rel => exact ⟨j + 1, by go_num, by omega, mkHid (HMU.out.task HT.out.1 HT.out.2 (j * 4) _)⟩
                  case measure => simp [intOf]; omega
                · obtain rfl : j = y.ts.length := by omega
                  simp only [tv] at c8
                  go_wp2
                  go_roundw
                  case rel => exact ⟨i + 1, by go_num, by omega, mkHid (HMU.out.client i _)⟩
                  case measure => simp [intOf]; omega
            · obtain rfl : i = rs.length := by omega
              go_wp2_with (go_at_call 22; refine (sameL_yes wr _ _ qs ps (HFIN.out wr HMU.out.bel).1 (HFIN.out wr HMU.out.bel).2.1 HQF.out).mono ?_; rintro r w15 ⟨rfl, b15⟩; have HB15 := mkHid (bt (HFIN.out wr HMU.out.bel).2.2 b15); clear b15)
              go_ret
              exact ⟨rfl, HB15.out⟩
end Go.Proofs.YtehnimafjgodeaaDoor
