/- The law TreeIds. -/
import Derived.Test.YtjhekemgcmhjoabDoorTr32
import Derived.BigQuiet
namespace Go.Proofs.YtjhekemgcmhjoabDoor
open Go.ChangeMaps Go.ChangeShapes Go.WideShapes Go.ChangeAt Go.RowKit
set_option maxRecDepth 100000
attribute [local go_sem] World.cell?_alloc_some frozen_alloc_some

/-- A tree in a box that is read. -/
structure UX (w : World) (M U : Nat) (nv gv : Value) (ps : List Np) (u : Tr) : Prop where
  own : TrO (M + 1) w nv gv ps u.gs
  e : nds ps = u.ns
  blk : w.heap[U]? = some (.cells #[nv, gv, .int .i64 u.last, .int .i64 u.now] 27 (0, 0))
  lt : M < U
theorem UX.hold {w w' : World} {M U : Nat} {nv gv : Value} {ps : List Np} {u : Tr} (h : UX w M U nv gv ps u) (hb : Below w.heap.size w w') : UX w' M U nv gv ps u := ⟨h.own.below hb, h.e, blk_late h.blk hb, h.lt⟩
theorem UX.off {w w' : World} {M U : Nat} {nv gv : Value} {ps : List Np} {u : Tr} (h : UX w M U nv gv ps u) (hk : Kept (fun k => k = M) w w') : UX w' M U nv gv ps u :=
  ⟨h.own.kept hk (fun k e => .inl (by subst e; exact h.own.off (by omega))), h.e, (hk.block U (lt_of_heap h.blk) (by have := h.lt; omega)).trans h.blk, h.lt⟩
theorem UX.trw {w : World} {M U : Nat} {nv gv : Value} {ps : List Np} {u : Tr} (h : UX w M U nv gv ps u) (hs : u.Sm 1000) : TrW w nv gv ps u := h.own.trw hs h.e
/-- The tree is put into the law's box. -/
theorem store_ux {W0 w w' : World} {g M U : Nat} {nv gv : Value} {ps : List Np} {u : Tr} (h : UX w M U nv gv ps u) (hl : W0.heap.size ≤ g) (hg : g < M) (hb : Below W0.heap.size W0 w) (h3 : w'.heap[g]? = some (.cells #[nv, gv, .int .i64 u.last, .int .i64 u.now] 27 (0, 0))) (hk : Kept (fun k => k = g) w w') : BX W0 g w' nv gv ps u ∧ TrO (M + 1) w' nv gv ps u.gs := by
  have ho : TrO (M + 1) w' nv gv ps u.gs := h.own.kept hk (fun k e => .inl (by subst e; exact h.own.off (by omega)))
  exact ⟨⟨hb.trans (hk.below (fun k e => by omega) hb.size), hl, ho.wider (by omega), h.e, h3⟩, ho⟩
/-- Which ids are gone. -/
def Gn (t : Tr) (m : Int → Option Bool) : Prop := ∀ k b, m k = some b → ¬ k = 0 ∧ k ≤ t.last ∧ ∀ n ∈ t.ns, ¬ n.id = k
theorem Ap.gone {A : Ops} {t u : Tr} {o : Od} {r : Rs} (h : Ap A t o u r) (hg : t.Good) (h0 : r.1 = 0) (h1 : o.ki = 3) : 1 ≤ r.2 ∧ r.2 ≤ t.last := by
  cases h with
  | bad _ => simp at h0
  | no _ _ _ _ _ h => exact absurd h0 h
  | create hk _ _ _ => omega
  | resize hk _ _ _ => omega
  | remove hk h1 h2 h3 =>
    obtain ⟨⟨n0, hn0⟩, _⟩ := leaf_facts h3
    obtain ⟨hm, hi⟩ := nd_some hn0
    have := (hg.pass h1 h2).ids n0 hm
    simp only [Tr.pass] at this
    simp only
    omega
  | bind hk _ _ _ => omega
theorem Gn.next {A : Ops} {t u : Tr} {o : Od} {r : Rs} {m : Int → Option Bool} (h : Ap A t o u r) (hg : t.Good) (hm : Gn t m) : Gn u m := by
  obtain ⟨h1, h2, h3, h4⟩ := h.ids hg
  have hl : t.last ≤ u.last := by
    by_cases e : r.1 = 0 ∧ o.ki = 1
    · have := (h1 e).2; omega
    · rw [h2 e]; exact Int.le_refl _
  intro k b hk
  obtain ⟨q1, q2, q3⟩ := hm k b hk
  refine ⟨q1, by omega, fun n hn e => ?_⟩
  rcases h3 n hn with ⟨n', hn', e'⟩ | ⟨_, _, e'⟩
  · exact q3 n' hn' (e'.trans e)
  · omega
theorem Gn.del {A : Ops} {t u : Tr} {o : Od} {r : Rs} {m : Int → Option Bool} (h : Ap A t o u r) (hg : t.Good) (hm : Gn t m) (h0 : r.1 = 0) (hk : o.ki = 3) : Gn u (upn m r.2 true) := by
  obtain ⟨h1, h2, h3, h4⟩ := h.ids hg
  have hl := h2 (by omega)
  obtain ⟨g1, g2⟩ := h.gone hg h0 hk
  intro k b hkb
  unfold upn at hkb
  split at hkb
  · rename_i e
    rw [e]
    exact ⟨by omega, by omega, h4 h0 hk⟩
  · exact Gn.next h hg hm k b hkb
theorem Gn.none {t : Tr} {m : Int → Option Bool} (h : Gn t m) {n : Nd} (hn : n ∈ t.ns) : m n.id = none := by
  cases e : m n.id with
  | none => rfl
  | some b => exact absurd rfl ((h _ _ e).2.2 n hn)
theorem nd_of_not {t : Tr} {i : Int} (h : ∀ n ∈ t.ns, ¬ n.id = i) : t.nd i = none := by
  cases e : t.nd i with
  | none => rfl
  | some n => exact absurd (nd_some e).2 (h n (nd_some e).1)
theorem nd_of_has {t : Tr} {i : Int} (h : ∃ n ∈ t.ns, n.id = i) : ∃ n, t.nd i = some n := by
  cases e : t.nd i with
  | none => obtain ⟨n, hn, hi⟩ := h; exact absurd hi (nd_none e n hn)
  | some n => exact ⟨n, rfl⟩
theorem rs_cells {w : World} {p : Nat} {c0 c1 : Value} {ty : TypeId} (h : w.heap[p]? = some (.cells #[c0, c1] ty (0, 0))) : w.cell? ⟨p, 0, none⟩ = some c0 ∧ w.cell? ⟨p, 1, none⟩ = some c1 := ⟨cell_of_block h rfl, cell_of_block h rfl⟩
set_option maxRecDepth 100000 in
set_option maxHeartbeats 25600000 in
theorem ids_walk (A : Ops) (w : World) (al : Option Addr) (cl : Nat) (os : List Op) (a : Nat → Addr) (h : Ods w (.slice al os.length cl) os) (E : Er6 w a) :
    Calls Tryd.prog 3 #[.slice al os.length cl] w fun e w' => e = .returned (.bool true) ∧ Below w.heap.size w w' := by
  have hlen : (os.length : Int) ≤ 9223372036854775807 := by
    obtain ⟨_, _, _, _, hl, _⟩ := h.row
    exact hl
  have HE := mkHid (And.intro h E)
  have HV : Hid (∀ W, Below w.heap.size w W → Calls Tryd.prog 4 #[] W fun e w' => e = .returned (.bool true) ∧ Below W.heap.size W w') := mkHid (fun W hW => talive A W a (E.late hW))
  clear h E
  have hmm := @run_makeMap Tryd.prog
  go_enter Tryd.func3, Tryd.ntmps3
  go_wp2_with (go_at_call 4; refine (HV.out _ (Below.refl _ _)).mono ?_; rintro e w1 ⟨rfl, b1⟩; have HB1 := mkHid b1; clear b1)
  clear hmm
  obtain ⟨g, hg⟩ : ∃ g, g = w1.heap.size := ⟨_, rfl⟩
  obtain ⟨M, hM⟩ : ∃ M, M = w1.heap.size + 1 := ⟨_, rfl⟩
  obtain ⟨W1, hW1⟩ : ∃ W1, W1 = (w1.alloc (.cells #[.slice none 0 0, .slice none 0 0, .int .i64 0, .int .i64 0] 27)).alloc (.map #[] 0) := ⟨_, rfl⟩
  have HX1 : Hid (BX w g W1 (.slice none 0 0) (.slice none 0 0) [] t0) := mkHid ⟨by rw [hW1]; exact ba (ba HB1.out _) _, by rw [hg]; exact HB1.out.size, tro_nil _ _, rfl, by rw [hW1, hg]; exact (heap_alloc_old _ _ (by simp)).trans (heap_alloc_new w1 _)⟩
  have HM1 : Hid (Mj W1 M (fun _ => none)) := mkHid ⟨#[], 0, by rw [hW1, hM]; have := heap_alloc_new (w1.alloc (.cells #[.slice none 0 0, .slice none 0 0, .int .i64 0, .int .i64 0] 27)) (.map #[] 0); simpa using this, by intro e he; simp at he, by simp, ⟨by intro e he; simp at he, by simp⟩, fun k => by simp [look]⟩
  have HGM : Hid (g < M) := mkHid (by omega)
  rw [← hW1, ← hM, ← hg]
  clear hg hM hW1 HV HB1
  go_loopw [4, 23] (fun gvv iv wr => ∃ (j : Nat) (t : Tr) (nv gv : Value) (ps : List Np) (m : Int → Option Bool), gvv = .int .i64 t.last ∧ iv = .int .i64 (j : Int) ∧ j ≤ os.length ∧ j ≤ 60 ∧ Hid (BX w g wr nv gv ps t ∧ TrO (M + 1) wr nv gv ps t.gs) ∧ Hid (t.Ok j) ∧ Hid (Mj wr M m) ∧ Hid (Gn t m)) (fun _ iv _ => os.length - (intOf iv).toNat)
  case atStart => exact ⟨0, t0, _, _, [], _, rfl, rfl, Nat.zero_le _, by omega, mkHid ⟨HX1.out, tro_nil _ _⟩, mkHid ok_zero, HM1, mkHid (fun k b e => by cases e)⟩
  case round =>
    obtain ⟨j, t, nv, gv, ps, m, rfl, rfl, hj, hj6, HXO, HT, HM, HG⟩ := hrel
    clear HX1 HM1
    have HX := mkHid HXO.out.1
    obtain ⟨na, nc, hnv, _⟩ := own_sh HX.out.own.nown
    obtain ⟨ga, gc, hgv, _⟩ := own_sh HX.out.own.gown
    subst hnv hgv
    by_cases hlt : j < os.length
    · obtain ⟨b, off, x, rfl, hxj, hat⟩ := HE.out.1.row.at HX.out.bel j hlt
      obtain ⟨q0, q1, q2, q3, q4, q5, q6, q7⟩ := eight_at hat
      have HW := mkHid (HE.out.1.each _ (List.mem_of_getElem? hxj))
      obtain ⟨⟨ki, id, ⟨k, q, T⟩, po, ts, tm⟩, ta, tc⟩ := x
      simp only [tvO] at q0 q1 q2 q3 q4 q5 q6 q7
      have hji : (j : Int) < os.length := by omega
      clear hat hxj
      by_cases h60 : j < 60
      · have hj60 : (60 ≤ (j : Int)) = False := by simp; omega
        obtain ⟨m0, m1, m2, m3⟩ := four HX.out.blk
        have HA : Hid (∀ W, Below wr.heap.size wr W → Calls Tryd.prog 5 #[.agg #[.slice na ps.length nc, .slice ga t.gs.length gc, .int .i64 t.last, .int .i64 t.now], .agg #[.int .i64 ki, .int .i64 id, .int .i64 k, .int .i64 q, .int .i64 T, .int .i64 po, .slice ta ts.length tc, .int .i64 tm]] W (ApP W (t.app A ⟨ki, id, (k, q, T), po, ts, tm⟩))) := mkHid (fun W hW => apply_bx (x := (⟨ki, id, (k, q, T), po, ts, tm⟩, ta, tc)) HX.out HT.out (by omega) hW HE.out.2 HW.out.1 HW.out.2)
        have HOK : Hid ((t.app A ⟨ki, id, (k, q, T), po, ts, tm⟩).1.Ok (j + 1)) := mkHid (HT.out.app _)
        have HAP := mkHid (app_ap A t ⟨ki, id, (k, q, T), po, ts, tm⟩)
        generalize t.app A ⟨ki, id, (k, q, T), po, ts, tm⟩ = R at *
        obtain ⟨u, rc, ri⟩ := R
        simp only at HOK HAP
        have HSM : Hid (j + 1 ≤ os.length ∧ j + 1 ≤ 60 ∧ os.length - (j + 1) < os.length - j) := mkHid ⟨by omega, by omega, by omega⟩
        have HU8 : Hid (u.Sm 1000) := mkHid (HOK.out.2.2.more (by omega))
        have hids := HAP.out.ids HT.out.1
        have hlast : 0 ≤ t.last ∧ t.last ≤ 2000 := ⟨HT.out.1.last0, by have := HT.out.2.2.l; omega⟩
        clear hlt hj hj6 h60
        by_cases hrc : rc = 0
        · subst hrc
          by_cases hk1 : ki = 1
          · subst hk1
            obtain ⟨i1, i2⟩ := hids.1 ⟨rfl, rfl⟩
            simp only at i1
            have ew : IntKind.i64.wrap (t.last + 1) = t.last + 1 := wfit (by omega) (by omega)
            have HUL : Hid (u.last = t.last + 1) := mkHid i2
            have HGU : Hid (Gn u m) := mkHid (HG.out.next HAP.out HT.out.1)
            subst i1
            clear hids i2 hlast
            have hneq : (u.last != (t.last + 1)) = false := by rw [HUL.out]; simp
            go_wp2_with (first | (go_at_call 5; (with_reducible refine (HA.out _ (ba (Below.refl _ wr) _)).mono ?_); rintro e w2 ⟨nv2, gv2, ps2, rfl, ho2, he2, b2⟩; obtain ⟨na2, nc2, hnv2, _⟩ := own_sh ho2.nown; obtain ⟨ga2, gc2, hgv2, _⟩ := own_sh ho2.gown; subst hnv2 hgv2; obtain ⟨hx5, hb2⟩ := new_last b2; have hgb := (hb2.block g (lt_of_heap HX.out.blk)).trans HX.out.blk; have hob := hx5; have HO2 := mkHid (And.intro ho2 (And.intro he2 hb2)); have HGB := mkHid hgb; have HOB := mkHid hob; have HMM := mkHid (HM.out.below hb2); have HMS : Hid (M < (wr.alloc (.cells #[.int .i64 1, .int .i64 id, .int .i64 k, .int .i64 q, .int .i64 T, .int .i64 po, .slice ta ts.length tc, .int .i64 tm] 33)).heap.size ∧ M < w2.heap.size) := mkHid ⟨by have := HM.out.lt; simp; omega, (HM.out.below hb2).lt⟩; have HBE : Hid (Below w.heap.size w w2) := mkHid (bt HX.out.bel hb2); clear ho2 he2 b2 hb2 hgb hob hx5 m0 m1 m2 m3 q0 q1 q2 q3 q4 q5 q6 q7; have c7 : w2.cell? ⟨wr.heap.size, 0, none⟩ = some (.int .i64 1) := cell_of_block (i := 0) HOB.out rfl))
            have ba2 : Below w2.heap.size w2 ((w2.alloc (.cells #[.slice na2 ps2.length nc2, .slice ga2 u.gs.length gc2, .int .i64 u.last, .int .i64 u.now] 27)).alloc (.cells #[.int .i64 0, .int .i64 (t.last + 1)] 35)) := ba (ba (Below.refl _ w2) _) _
            have HU3 : Hid (UX ((w2.alloc (.cells #[.slice na2 ps2.length nc2, .slice ga2 u.gs.length gc2, .int .i64 u.last, .int .i64 u.now] 27)).alloc (.cells #[.int .i64 0, .int .i64 (t.last + 1)] 35)) M w2.heap.size (.slice na2 ps2.length nc2) (.slice ga2 u.gs.length gc2) ps2 u) := mkHid ⟨(HO2.out.1.below ba2).wider (by have := HMS.out.1; omega), HO2.out.2.1, (heap_alloc_old _ _ (by simp)).trans (heap_alloc_new w2 _), HMS.out.2⟩
            have HB3 : Hid (Below w.heap.size w ((w2.alloc (.cells #[.slice na2 ps2.length nc2, .slice ga2 u.gs.length gc2, .int .i64 u.last, .int .i64 u.now] 27)).alloc (.cells #[.int .i64 0, .int .i64 (t.last + 1)] 35))) := mkHid (bt HBE.out ba2)
            have HG3 : Hid ((((w2.alloc (.cells #[.slice na2 ps2.length nc2, .slice ga2 u.gs.length gc2, .int .i64 u.last, .int .i64 u.now] 27)).alloc (.cells #[.int .i64 0, .int .i64 (t.last + 1)] 35))).heap[g]? = some (.cells #[.slice na ps.length nc, .slice ga t.gs.length gc, .int .i64 t.last, .int .i64 t.now] 27 (0, 0))) := mkHid (blk_late HGB.out ba2)
            have HM4 : Hid (Mj ((w2.alloc (.cells #[.slice na2 ps2.length nc2, .slice ga2 u.gs.length gc2, .int .i64 u.last, .int .i64 u.now] 27)).alloc (.cells #[.int .i64 0, .int .i64 (t.last + 1)] 35)) M m) := mkHid (HMM.out.below ba2)
            obtain ⟨wu, hwu⟩ : ∃ wu, wu = ((w2.alloc (.cells #[.slice na2 ps2.length nc2, .slice ga2 u.gs.length gc2, .int .i64 u.last, .int .i64 u.now] 27)).alloc (.cells #[.int .i64 0, .int .i64 (t.last + 1)] 35)) := ⟨_, rfl⟩
            have HU4 := HU3
            have HB4 := HB3
            have HG4 := HG3
            clear HU3 HB3 HG3
            rw [← hwu] at HU4 HB4 HG4 HM4 ⊢
            clear hwu HMM HO2 HOB HGB HBE ba2 c7
            generalize w2.heap.size = U at *
            obtain ⟨mm, hmm⟩ : ∃ mm, mm = m := ⟨_, rfl⟩
            rw [← hmm] at HM4 HGU
            clear hmm HMS
            clear hneq
            have hp2 : ps2.length ≤ 1000 := by have := HU8.out.n; rw [← HU4.out.e, List.length_map] at this; exact this
            go_loopw [69] (fun iv wr => ∃ i : Nat, iv = .int .i64 (i : Int) ∧ i ≤ ps2.length ∧ Hid (Below wu.heap.size wu wr)) (fun iv _ => ps2.length - (intOf iv).toNat)
            case atStart => exact ⟨0, rfl, Nat.zero_le _, Below.refl _ _⟩
            case round =>
              obtain ⟨i, rfl, hi, HB5⟩ := hrel
              have HU5 := mkHid (HU4.out.hold HB5.out)
              have HM5 := mkHid (HM4.out.below HB5.out)
              obtain ⟨u0, u1, u2', u3'⟩ := four HU5.out.blk
              by_cases hil : i < ps2.length
              · obtain ⟨b7, off7, x7, hna, hx7, hc7⟩ := (HU5.out.trw HU8.out).n.row.at (Below.refl _ _) i hil
                subst hna
                obtain ⟨y0, y1, y2, y3, y4, y5, y6⟩ := seven hc7
                have hn7 : x7.1 ∈ u.ns := by rw [← HU5.out.e]; exact List.mem_map.mpr ⟨x7, List.mem_of_getElem? hx7, rfl⟩
                have hid := HOK.out.1.ids _ hn7
                have hgn := HGU.out.none hn7
                have hpar := HOK.out.1.par _ hn7
                have HPC : Hid ((x7.1.pa = 0 ∧ u.nd x7.1.pa = none) ∨ (∃ n', u.nd x7.1.pa = some n' ∧ n'.ts.length ≤ 1000)) := mkHid (by
                  rcases hpar with e0 | hex
                  · exact .inl ⟨e0, nd_of_not (fun n hn e => by have := HOK.out.1.ids n hn; omega)⟩
                  · obtain ⟨n', hn'⟩ := nd_of_has hex
                    exact .inr ⟨n', hn', by have := HU8.out.s n' (nd_some hn').1; omega⟩)
                have HGN := mkHid hgn
                clear hn7 hgn hpar hc7 hx7
                obtain ⟨⟨nid, npa, ⟨nk, nq, nT⟩, npo, nts⟩, nxa, nxc⟩ := x7
                simp only [tvN] at y0 y1 y2 y3 y4 y5 y6 hid HPC HGN
                have hii : (i : Int) < ps2.length := by omega
                have hid1 : decide (nid < 1) = false := decide_eq_false (by omega)
                have hid2 : decide ((t.last + 1) < nid) = false := decide_eq_false (by have := HUL.out; omega)
                clear hid
                have HTW : Hid (∀ o, TrW (wr.alloc o) (.slice (some ⟨b7, off7, none⟩) ps2.length nc2) (.slice ga2 u.gs.length gc2) ps2 u) := mkHid (fun o => (HU5.out.hold (ba (Below.refl _ wr) o)).trw HU8.out)
                rcases HPC.out with ⟨e0, hnd⟩ | ⟨n', hnd, h8⟩
                · subst e0
                  have HND := mkHid hnd
                  clear hnd
                  go_wp2_with (go_at_call 6; (with_reducible refine (find_no _ u _ _ ps2 0 (HTW.out _) HND.out).mono ?_); rintro e w6 ⟨rfl, b6⟩; obtain ⟨hx6, hb6⟩ := new_last b6; have v0 := cell_of_block (i := 0) hx6 rfl; have v1 := cell_of_block (i := 1) hx6 rfl; have HB6 := mkHid (bt HB5.out hb6); have hlk : (Instr.lookup 28 (.map (some M)) (.int .i64 nid) false).run Tryd.prog (w6.alloc (.cells #[.int .i64 0, .int .i64 0, .int .i64 0, .int .i64 0, .int .i64 0, .int .i64 0, .slice none 0 0] 39)) = .ok (.bool false) (w6.alloc (.cells #[.int .i64 0, .int .i64 0, .int .i64 0, .int .i64 0, .int .i64 0, .int .i64 0, .slice none 0 0] 39)) := (by have := (HM4.out.below (ba HB6.out (.cells #[.int .i64 0, .int .i64 0, .int .i64 0, .int .i64 0, .int .i64 0, .int .i64 0, .slice none 0 0] 39))).get1 nid; rw [HGN.out] at this; exact this); clear b6 hx6 hb6)
                  clear hlk
                  go_roundw
                  case rel => exact ⟨i + 1, by go_num, by omega, mkHid (ba HB6.out _)⟩
                  case measure => simp [intOf]; omega
                · obtain ⟨fid, fpa, ⟨fk, fq, fT⟩, fpo, fts⟩ := n'
                  simp only at h8
                  have HND := mkHid hnd
                  have H8 := mkHid h8
                  clear hnd h8
                  go_wp2_with (go_at_call 6; (with_reducible refine (find_yes _ u _ _ ps2 npa _ (HTW.out _) HND.out H8.out).mono ?_); rintro e w6 ⟨fa, fc, rfl, _, b6⟩; obtain ⟨hx6, hb6⟩ := new_last b6; have v0 := cell_of_block (i := 0) hx6 rfl; have v1 := cell_of_block (i := 1) hx6 rfl; have HB6 := mkHid (bt HB5.out hb6); have hlk : (Instr.lookup 28 (.map (some M)) (.int .i64 nid) false).run Tryd.prog (w6.alloc (.cells #[.int .i64 fid, .int .i64 fpa, .int .i64 fk, .int .i64 fq, .int .i64 fT, .int .i64 fpo, .slice fa fts.length fc] 39)) = .ok (.bool false) (w6.alloc (.cells #[.int .i64 fid, .int .i64 fpa, .int .i64 fk, .int .i64 fq, .int .i64 fT, .int .i64 fpo, .slice fa fts.length fc] 39)) := (by have := (HM4.out.below (ba HB6.out (.cells #[.int .i64 fid, .int .i64 fpa, .int .i64 fk, .int .i64 fq, .int .i64 fT, .int .i64 fpo, .slice fa fts.length fc] 39))).get1 nid; rw [HGN.out] at this; exact this); clear b6 hx6 hb6)
                  clear hlk
                  go_roundw
                  case rel => exact ⟨i + 1, by go_num, by omega, mkHid (ba HB6.out _)⟩
                  case measure => simp [intOf]; omega
              · obtain rfl : i = ps2.length := by omega
                obtain ⟨es, clock, hmap, hik, hnd, hborn, hlook⟩ := HM5.out
                have hrg := run_range_map (P := Tryd.prog) wr 28 3 4 M es clock Tryd.underlying28 hmap
                have HMP := mkHid (And.intro hik (And.intro hnd (And.intro hborn hlook)))
                have HMB := mkHid hmap
                have HN := mkHid (lt_of_heap hmap)
                clear hik hnd hborn hlook hmap u0 u1 u2' u3' hil
                go_wp2
                clear hrg
                obtain ⟨rb, hrb⟩ : ∃ rb, rb = wr.heap.size := ⟨_, rfl⟩
                have HI0 : Hid ((wr.alloc (.mapIter (some M) clock #[] clock)).heap[rb]? = some (.mapIter (some M) clock #[] clock)) := mkHid (by rw [hrb]; exact heap_alloc_new wr _)
                have HB0 : Hid ((wr.alloc (.mapIter (some M) clock #[] clock)).heap[M]? = some (.map es clock)) := mkHid (by rw [heap_alloc_old wr _ HN.out]; exact HMB.out)
                have HC0 : Hid (Below wu.heap.size wu (wr.alloc (.mapIter (some M) clock #[] clock))) := mkHid (ba HB5.out _)
                have HRB : Hid (wu.heap.size ≤ rb ∧ M ≠ rb) := mkHid ⟨by rw [hrb]; exact HB5.out.size, by have := HN.out; omega⟩
                rw [← hrb]
                generalize wr.alloc (.mapIter (some M) clock #[] clock) = wi at *
                clear hrb HB5 HU5 HM5 HN HMB
                go_loopw [107] (fun _ wr => ∃ seen, Hid (wr.heap[rb]? = some (.mapIter (some M) clock seen clock) ∧ wr.heap[M]? = some (.map es clock) ∧ Below wu.heap.size wu wr)) (fun _ wr => (leftOf es (wr.iterSeen rb)).size)
                case atStart => exact ⟨#[], mkHid ⟨HI0.out, HB0.out, HC0.out⟩⟩
                case round =>
                  clear HI0 HB0 HC0
                  obtain ⟨seen, HH⟩ := hrel
                  rcases map_step HH.out.1 HH.out.2.1 HMP.out.1 HMP.out.2.1 HMP.out.2.2.1 HMP.out.2.2.2 HH.out.2.2 HRB.out.1 HRB.out.2 with hnx | ⟨kk, bb, w4', seen', hmc2, hnx, hen, hr4, hb4, hB4, hsm⟩
                  case inr =>
                    obtain ⟨g1, g2, g3⟩ := HGU.out kk bb hmc2
                    have HND := mkHid (nd_of_not g3)
                    have HDP : Hid (-1 = u.dep kk) := mkHid (dep_gone g1 g3).symm
                    have HR4 := mkHid (And.intro hr4 (And.intro hb4 hB4))
                    have HSM4 := mkHid hsm
                    have HU7 := mkHid (HU4.out.hold hB4)
                    obtain ⟨u0, u1, u2', u3'⟩ := four HU7.out.blk
                    clear hmc2 hr4 hb4 hB4 hsm g1 g2 g3
                    go_wp2_with (first | (go_at_call 6; (with_reducible refine (find_no w4' u _ _ ps2 kk (HU7.out.trw HU8.out) HND.out).mono ?_); rintro e w6 ⟨rfl, b6⟩; have HB6 : Hid (Below w4'.heap.size w4' (w6.alloc (.cells #[.int .i64 0, .int .i64 0, .int .i64 0, .int .i64 0, .int .i64 0, .int .i64 0, .slice none 0 0] 39))) := mkHid (ba b6 _); have HU8b := mkHid (HU7.out.hold HB6.out); clear b6 u0 u1 u2' u3'; obtain ⟨u0, u1, u2', u3'⟩ := four HU8b.out.blk) | (go_at_call 7; (with_reducible refine (depth_is _ u _ _ ps2 kk (-1) (HU8b.out.trw HU8.out) HU8.out HDP.out).mono ?_); rintro e w7 ⟨rfl, b7'⟩; have HB7 := mkHid (bt HB6.out b7'); have HR5 : Hid (w7.heap[rb]? = some (.mapIter (some M) clock seen' clock) ∧ w7.heap[M]? = some (.map es clock) ∧ Below wu.heap.size wu w7) := mkHid ⟨blk_late HR4.out.1 HB7.out, blk_late HR4.out.2.1 HB7.out, bt HR4.out.2.2 HB7.out⟩; clear b7'))
                    go_roundw
                    case rel => exact ⟨seen', HR5⟩
                    case measure => have h5 := iter_of HR5.out.1; have h4 := iter_of HR4.out.1; rw [h5, ← h4]; exact HSM4.out
                  have HB7 : Hid (Below wu.heap.size wu wr) := mkHid HH.out.2.2
                  have HM7 : Hid (Mj wr M mm) := mkHid ⟨es, clock, HH.out.2.1, HMP.out.1, HMP.out.2.1, HMP.out.2.2.1, HMP.out.2.2.2⟩
                  have HU7 := mkHid (HU4.out.hold HB7.out)
                  have HG7 := mkHid (blk_late HG4.out HB7.out)
                  clear HH
                  obtain ⟨u0, u1, u2', u3'⟩ := four HU7.out.blk
                  go_wp2_with (refine wpList_store_box rfl 27 (.tmp 3) (.tmp 124) rfl g #[.slice na2 ps2.length nc2, .slice ga2 u.gs.length gc2, .int .i64 u.last, .int .i64 u.now] rfl rfl 27 _ HG7.out size_tree rfl (one_tr _ _ _ _ _ _ _ _) ?_; intro w8 h8 k8; have HX8 : Hid (BX w g w8 (.slice na2 ps2.length nc2) (.slice ga2 u.gs.length gc2) ps2 u ∧ TrO (M + 1) w8 (.slice na2 ps2.length nc2) (.slice ga2 u.gs.length gc2) ps2 u.gs) := mkHid (store_ux HU7.out HX.out.lg HGM.out (bt HB4.out HB7.out) h8 k8); have HM8 := mkHid (HM7.out.kept k8 (by have := HGM.out; omega)); clear h8 k8)
                  clear hnx
                  go_roundw
                  case rel => exact ⟨j + 1, u, _, _, ps2, mm, by rw [HUL.out], by go_num, HSM.out.1, HSM.out.2.1, HX8, HOK, HM8, HGU⟩
                  case measure => have := HSM.out.2.2; simp [intOf]; omega
          · have hul := hids.2.1 (by simp only; omega)
            have hk1b : (ki == 1) = false := by simpa using hk1
            by_cases hk3 : ki = 3
            · subst hk3
              have HUL : Hid (u.last = t.last) := mkHid hul
              have HGU : Hid (Gn u (upn m ri true)) := mkHid (HG.out.del HAP.out HT.out.1 rfl rfl)
              clear hids hlast hul
              have hneq : (u.last != t.last) = false := by rw [HUL.out]; simp
              go_wp2_with (first | (go_at_call 5; (with_reducible refine (HA.out _ (ba (Below.refl _ wr) _)).mono ?_); rintro e w2 ⟨nv2, gv2, ps2, rfl, ho2, he2, b2⟩; obtain ⟨na2, nc2, hnv2, _⟩ := own_sh ho2.nown; obtain ⟨ga2, gc2, hgv2, _⟩ := own_sh ho2.gown; subst hnv2 hgv2; obtain ⟨hx5, hb2⟩ := new_last b2; have hgb := (hb2.block g (lt_of_heap HX.out.blk)).trans HX.out.blk; have hob := hx5; have HO2 := mkHid (And.intro ho2 (And.intro he2 hb2)); have HGB := mkHid hgb; have HOB := mkHid hob; have HMM := mkHid (HM.out.below hb2); have HMS : Hid (M < (wr.alloc (.cells #[.int .i64 3, .int .i64 id, .int .i64 k, .int .i64 q, .int .i64 T, .int .i64 po, .slice ta ts.length tc, .int .i64 tm] 33)).heap.size ∧ M < w2.heap.size) := mkHid ⟨by have := HM.out.lt; simp; omega, (HM.out.below hb2).lt⟩; have HBE : Hid (Below w.heap.size w w2) := mkHid (bt HX.out.bel hb2); clear ho2 he2 b2 hb2 hgb hob hx5 m0 m1 m2 m3 q0 q1 q2 q3 q4 q5 q6 q7; have HM3 : Hid (Mj ((w2.alloc (.cells #[.slice na2 ps2.length nc2, .slice ga2 u.gs.length gc2, .int .i64 u.last, .int .i64 u.now] 27)).alloc (.cells #[.int .i64 0, .int .i64 ri] 35)) M m) := mkHid ((HMM.out.below (ba (Below.refl _ w2) _)).below (ba (Below.refl _ _) _)); obtain ⟨wu, hput, hMu, hKu⟩ := HM3.out.put ri true; have HMU := mkHid (And.intro hMu hKu); have hub : wu.heap[w2.heap.size]? = some (.cells #[.slice na2 ps2.length nc2, .slice ga2 u.gs.length gc2, .int .i64 u.last, .int .i64 u.now] 27 (0, 0)) := ((hKu.block _ (by simp; omega) (by have := HMS.out.2; omega)).trans ((heap_alloc_old _ _ (by simp)).trans (heap_alloc_new w2 _))); obtain ⟨z0, z1, z2, z3⟩ := four hub; clear hMu hKu hub; have c7 : w2.cell? ⟨wr.heap.size, 0, none⟩ = some (.int .i64 3) := cell_of_block (i := 0) HOB.out rfl))
              have ba2 : Below w2.heap.size w2 ((w2.alloc (.cells #[.slice na2 ps2.length nc2, .slice ga2 u.gs.length gc2, .int .i64 u.last, .int .i64 u.now] 27)).alloc (.cells #[.int .i64 0, .int .i64 ri] 35)) := ba (ba (Below.refl _ w2) _) _
              have HU3 : Hid (UX ((w2.alloc (.cells #[.slice na2 ps2.length nc2, .slice ga2 u.gs.length gc2, .int .i64 u.last, .int .i64 u.now] 27)).alloc (.cells #[.int .i64 0, .int .i64 ri] 35)) M w2.heap.size (.slice na2 ps2.length nc2) (.slice ga2 u.gs.length gc2) ps2 u) := mkHid ⟨(HO2.out.1.below ba2).wider (by have := HMS.out.1; omega), HO2.out.2.1, (heap_alloc_old _ _ (by simp)).trans (heap_alloc_new w2 _), HMS.out.2⟩
              have HB3 : Hid (Below w.heap.size w ((w2.alloc (.cells #[.slice na2 ps2.length nc2, .slice ga2 u.gs.length gc2, .int .i64 u.last, .int .i64 u.now] 27)).alloc (.cells #[.int .i64 0, .int .i64 ri] 35))) := mkHid (bt HBE.out ba2)
              have HG3 : Hid ((((w2.alloc (.cells #[.slice na2 ps2.length nc2, .slice ga2 u.gs.length gc2, .int .i64 u.last, .int .i64 u.now] 27)).alloc (.cells #[.int .i64 0, .int .i64 ri] 35))).heap[g]? = some (.cells #[.slice na ps.length nc, .slice ga t.gs.length gc, .int .i64 t.last, .int .i64 t.now] 27 (0, 0))) := mkHid (blk_late HGB.out ba2)
              have HU4 := mkHid (HU3.out.off HMU.out.2)
              have HB4 : Hid (Below w.heap.size w wu) := mkHid (HB3.out.trans (HMU.out.2.below (fun k e => by have := HX.out.lg; have := HGM.out; omega) HB3.out.size))
              have HG4 : Hid (wu.heap[g]? = some (.cells #[.slice na ps.length nc, .slice ga t.gs.length gc, .int .i64 t.last, .int .i64 t.now] 27 (0, 0))) := mkHid ((HMU.out.2.block g (lt_of_heap HG3.out) (by have := HGM.out; omega)).trans HG3.out)
              have HM4 := mkHid HMU.out.1
              clear HU3 HB3 HG3 HM3 HMU HMM HO2 HOB HGB HBE ba2 c7 hput z0 z1 z2 z3
              generalize w2.heap.size = U at *
              obtain ⟨mm, hmm⟩ : ∃ mm, mm = (upn m ri true) := ⟨_, rfl⟩
              rw [← hmm] at HM4 HGU
              clear hmm HMS
              clear hneq
              have hp2 : ps2.length ≤ 1000 := by have := HU8.out.n; rw [← HU4.out.e, List.length_map] at this; exact this
              go_loopw [69] (fun iv wr => ∃ i : Nat, iv = .int .i64 (i : Int) ∧ i ≤ ps2.length ∧ Hid (Below wu.heap.size wu wr)) (fun iv _ => ps2.length - (intOf iv).toNat)
              case atStart => exact ⟨0, rfl, Nat.zero_le _, Below.refl _ _⟩
              case round =>
                obtain ⟨i, rfl, hi, HB5⟩ := hrel
                have HU5 := mkHid (HU4.out.hold HB5.out)
                have HM5 := mkHid (HM4.out.below HB5.out)
                obtain ⟨u0, u1, u2', u3'⟩ := four HU5.out.blk
                by_cases hil : i < ps2.length
                · obtain ⟨b7, off7, x7, hna, hx7, hc7⟩ := (HU5.out.trw HU8.out).n.row.at (Below.refl _ _) i hil
                  subst hna
                  obtain ⟨y0, y1, y2, y3, y4, y5, y6⟩ := seven hc7
                  have hn7 : x7.1 ∈ u.ns := by rw [← HU5.out.e]; exact List.mem_map.mpr ⟨x7, List.mem_of_getElem? hx7, rfl⟩
                  have hid := HOK.out.1.ids _ hn7
                  have hgn := HGU.out.none hn7
                  have hpar := HOK.out.1.par _ hn7
                  have HPC : Hid ((x7.1.pa = 0 ∧ u.nd x7.1.pa = none) ∨ (∃ n', u.nd x7.1.pa = some n' ∧ n'.ts.length ≤ 1000)) := mkHid (by
                    rcases hpar with e0 | hex
                    · exact .inl ⟨e0, nd_of_not (fun n hn e => by have := HOK.out.1.ids n hn; omega)⟩
                    · obtain ⟨n', hn'⟩ := nd_of_has hex
                      exact .inr ⟨n', hn', by have := HU8.out.s n' (nd_some hn').1; omega⟩)
                  have HGN := mkHid hgn
                  clear hn7 hgn hpar hc7 hx7
                  obtain ⟨⟨nid, npa, ⟨nk, nq, nT⟩, npo, nts⟩, nxa, nxc⟩ := x7
                  simp only [tvN] at y0 y1 y2 y3 y4 y5 y6 hid HPC HGN
                  have hii : (i : Int) < ps2.length := by omega
                  have hid1 : decide (nid < 1) = false := decide_eq_false (by omega)
                  have hid2 : decide (t.last < nid) = false := decide_eq_false (by have := HUL.out; omega)
                  clear hid
                  have HTW : Hid (∀ o, TrW (wr.alloc o) (.slice (some ⟨b7, off7, none⟩) ps2.length nc2) (.slice ga2 u.gs.length gc2) ps2 u) := mkHid (fun o => (HU5.out.hold (ba (Below.refl _ wr) o)).trw HU8.out)
                  rcases HPC.out with ⟨e0, hnd⟩ | ⟨n', hnd, h8⟩
                  · subst e0
                    have HND := mkHid hnd
                    clear hnd
                    go_wp2_with (go_at_call 6; (with_reducible refine (find_no _ u _ _ ps2 0 (HTW.out _) HND.out).mono ?_); rintro e w6 ⟨rfl, b6⟩; obtain ⟨hx6, hb6⟩ := new_last b6; have v0 := cell_of_block (i := 0) hx6 rfl; have v1 := cell_of_block (i := 1) hx6 rfl; have HB6 := mkHid (bt HB5.out hb6); have hlk : (Instr.lookup 28 (.map (some M)) (.int .i64 nid) false).run Tryd.prog (w6.alloc (.cells #[.int .i64 0, .int .i64 0, .int .i64 0, .int .i64 0, .int .i64 0, .int .i64 0, .slice none 0 0] 39)) = .ok (.bool false) (w6.alloc (.cells #[.int .i64 0, .int .i64 0, .int .i64 0, .int .i64 0, .int .i64 0, .int .i64 0, .slice none 0 0] 39)) := (by have := (HM4.out.below (ba HB6.out (.cells #[.int .i64 0, .int .i64 0, .int .i64 0, .int .i64 0, .int .i64 0, .int .i64 0, .slice none 0 0] 39))).get1 nid; rw [HGN.out] at this; exact this); clear b6 hx6 hb6)
                    clear hlk
                    go_roundw
                    case rel => exact ⟨i + 1, by go_num, by omega, mkHid (ba HB6.out _)⟩
                    case measure => simp [intOf]; omega
                  · obtain ⟨fid, fpa, ⟨fk, fq, fT⟩, fpo, fts⟩ := n'
                    simp only at h8
                    have HND := mkHid hnd
                    have H8 := mkHid h8
                    clear hnd h8
                    go_wp2_with (go_at_call 6; (with_reducible refine (find_yes _ u _ _ ps2 npa _ (HTW.out _) HND.out H8.out).mono ?_); rintro e w6 ⟨fa, fc, rfl, _, b6⟩; obtain ⟨hx6, hb6⟩ := new_last b6; have v0 := cell_of_block (i := 0) hx6 rfl; have v1 := cell_of_block (i := 1) hx6 rfl; have HB6 := mkHid (bt HB5.out hb6); have hlk : (Instr.lookup 28 (.map (some M)) (.int .i64 nid) false).run Tryd.prog (w6.alloc (.cells #[.int .i64 fid, .int .i64 fpa, .int .i64 fk, .int .i64 fq, .int .i64 fT, .int .i64 fpo, .slice fa fts.length fc] 39)) = .ok (.bool false) (w6.alloc (.cells #[.int .i64 fid, .int .i64 fpa, .int .i64 fk, .int .i64 fq, .int .i64 fT, .int .i64 fpo, .slice fa fts.length fc] 39)) := (by have := (HM4.out.below (ba HB6.out (.cells #[.int .i64 fid, .int .i64 fpa, .int .i64 fk, .int .i64 fq, .int .i64 fT, .int .i64 fpo, .slice fa fts.length fc] 39))).get1 nid; rw [HGN.out] at this; exact this); clear b6 hx6 hb6)
                    clear hlk
                    go_roundw
                    case rel => exact ⟨i + 1, by go_num, by omega, mkHid (ba HB6.out _)⟩
                    case measure => simp [intOf]; omega
                · obtain rfl : i = ps2.length := by omega
                  obtain ⟨es, clock, hmap, hik, hnd, hborn, hlook⟩ := HM5.out
                  have hrg := run_range_map (P := Tryd.prog) wr 28 3 4 M es clock Tryd.underlying28 hmap
                  have HMP := mkHid (And.intro hik (And.intro hnd (And.intro hborn hlook)))
                  have HMB := mkHid hmap
                  have HN := mkHid (lt_of_heap hmap)
                  clear hik hnd hborn hlook hmap u0 u1 u2' u3' hil
                  go_wp2
                  clear hrg
                  obtain ⟨rb, hrb⟩ : ∃ rb, rb = wr.heap.size := ⟨_, rfl⟩
                  have HI0 : Hid ((wr.alloc (.mapIter (some M) clock #[] clock)).heap[rb]? = some (.mapIter (some M) clock #[] clock)) := mkHid (by rw [hrb]; exact heap_alloc_new wr _)
                  have HB0 : Hid ((wr.alloc (.mapIter (some M) clock #[] clock)).heap[M]? = some (.map es clock)) := mkHid (by rw [heap_alloc_old wr _ HN.out]; exact HMB.out)
                  have HC0 : Hid (Below wu.heap.size wu (wr.alloc (.mapIter (some M) clock #[] clock))) := mkHid (ba HB5.out _)
                  have HRB : Hid (wu.heap.size ≤ rb ∧ M ≠ rb) := mkHid ⟨by rw [hrb]; exact HB5.out.size, by have := HN.out; omega⟩
                  rw [← hrb]
                  generalize wr.alloc (.mapIter (some M) clock #[] clock) = wi at *
                  clear hrb HB5 HU5 HM5 HN HMB
                  go_loopw [107] (fun _ wr => ∃ seen, Hid (wr.heap[rb]? = some (.mapIter (some M) clock seen clock) ∧ wr.heap[M]? = some (.map es clock) ∧ Below wu.heap.size wu wr)) (fun _ wr => (leftOf es (wr.iterSeen rb)).size)
                  case atStart => exact ⟨#[], mkHid ⟨HI0.out, HB0.out, HC0.out⟩⟩
                  case round =>
                    clear HI0 HB0 HC0
                    obtain ⟨seen, HH⟩ := hrel
                    rcases map_step HH.out.1 HH.out.2.1 HMP.out.1 HMP.out.2.1 HMP.out.2.2.1 HMP.out.2.2.2 HH.out.2.2 HRB.out.1 HRB.out.2 with hnx | ⟨kk, bb, w4', seen', hmc2, hnx, hen, hr4, hb4, hB4, hsm⟩
                    case inr =>
                      obtain ⟨g1, g2, g3⟩ := HGU.out kk bb hmc2
                      have HND := mkHid (nd_of_not g3)
                      have HDP : Hid (-1 = u.dep kk) := mkHid (dep_gone g1 g3).symm
                      have HR4 := mkHid (And.intro hr4 (And.intro hb4 hB4))
                      have HSM4 := mkHid hsm
                      have HU7 := mkHid (HU4.out.hold hB4)
                      obtain ⟨u0, u1, u2', u3'⟩ := four HU7.out.blk
                      clear hmc2 hr4 hb4 hB4 hsm g1 g2 g3
                      go_wp2_with (first | (go_at_call 6; (with_reducible refine (find_no w4' u _ _ ps2 kk (HU7.out.trw HU8.out) HND.out).mono ?_); rintro e w6 ⟨rfl, b6⟩; have HB6 : Hid (Below w4'.heap.size w4' (w6.alloc (.cells #[.int .i64 0, .int .i64 0, .int .i64 0, .int .i64 0, .int .i64 0, .int .i64 0, .slice none 0 0] 39))) := mkHid (ba b6 _); have HU8b := mkHid (HU7.out.hold HB6.out); clear b6 u0 u1 u2' u3'; obtain ⟨u0, u1, u2', u3'⟩ := four HU8b.out.blk) | (go_at_call 7; (with_reducible refine (depth_is _ u _ _ ps2 kk (-1) (HU8b.out.trw HU8.out) HU8.out HDP.out).mono ?_); rintro e w7 ⟨rfl, b7'⟩; have HB7 := mkHid (bt HB6.out b7'); have HR5 : Hid (w7.heap[rb]? = some (.mapIter (some M) clock seen' clock) ∧ w7.heap[M]? = some (.map es clock) ∧ Below wu.heap.size wu w7) := mkHid ⟨blk_late HR4.out.1 HB7.out, blk_late HR4.out.2.1 HB7.out, bt HR4.out.2.2 HB7.out⟩; clear b7'))
                      go_roundw
                      case rel => exact ⟨seen', HR5⟩
                      case measure => have h5 := iter_of HR5.out.1; have h4 := iter_of HR4.out.1; rw [h5, ← h4]; exact HSM4.out
                    have HB7 : Hid (Below wu.heap.size wu wr) := mkHid HH.out.2.2
                    have HM7 : Hid (Mj wr M mm) := mkHid ⟨es, clock, HH.out.2.1, HMP.out.1, HMP.out.2.1, HMP.out.2.2.1, HMP.out.2.2.2⟩
                    have HU7 := mkHid (HU4.out.hold HB7.out)
                    have HG7 := mkHid (blk_late HG4.out HB7.out)
                    clear HH
                    obtain ⟨u0, u1, u2', u3'⟩ := four HU7.out.blk
                    go_wp2_with (refine wpList_store_box rfl 27 (.tmp 3) (.tmp 124) rfl g #[.slice na2 ps2.length nc2, .slice ga2 u.gs.length gc2, .int .i64 u.last, .int .i64 u.now] rfl rfl 27 _ HG7.out size_tree rfl (one_tr _ _ _ _ _ _ _ _) ?_; intro w8 h8 k8; have HX8 : Hid (BX w g w8 (.slice na2 ps2.length nc2) (.slice ga2 u.gs.length gc2) ps2 u ∧ TrO (M + 1) w8 (.slice na2 ps2.length nc2) (.slice ga2 u.gs.length gc2) ps2 u.gs) := mkHid (store_ux HU7.out HX.out.lg HGM.out (bt HB4.out HB7.out) h8 k8); have HM8 := mkHid (HM7.out.kept k8 (by have := HGM.out; omega)); clear h8 k8)
                    clear hnx
                    go_roundw
                    case rel => exact ⟨j + 1, u, _, _, ps2, mm, by rw [HUL.out], by go_num, HSM.out.1, HSM.out.2.1, HX8, HOK, HM8, HGU⟩
                    case measure => have := HSM.out.2.2; simp [intOf]; omega
            · have hk3b : (ki == 3) = false := by simpa using hk3
              have HUL : Hid (u.last = t.last) := mkHid hul
              have HGU : Hid (Gn u m) := mkHid (HG.out.next HAP.out HT.out.1)
              clear hids hlast hul hk1 hk3
              have hneq : (u.last != t.last) = false := by rw [HUL.out]; simp
              go_wp2_with (first | (go_at_call 5; (with_reducible refine (HA.out _ (ba (Below.refl _ wr) _)).mono ?_); rintro e w2 ⟨nv2, gv2, ps2, rfl, ho2, he2, b2⟩; obtain ⟨na2, nc2, hnv2, _⟩ := own_sh ho2.nown; obtain ⟨ga2, gc2, hgv2, _⟩ := own_sh ho2.gown; subst hnv2 hgv2; obtain ⟨hx5, hb2⟩ := new_last b2; have hgb := (hb2.block g (lt_of_heap HX.out.blk)).trans HX.out.blk; have hob := hx5; have HO2 := mkHid (And.intro ho2 (And.intro he2 hb2)); have HGB := mkHid hgb; have HOB := mkHid hob; have HMM := mkHid (HM.out.below hb2); have HMS : Hid (M < (wr.alloc (.cells #[.int .i64 ki, .int .i64 id, .int .i64 k, .int .i64 q, .int .i64 T, .int .i64 po, .slice ta ts.length tc, .int .i64 tm] 33)).heap.size ∧ M < w2.heap.size) := mkHid ⟨by have := HM.out.lt; simp; omega, (HM.out.below hb2).lt⟩; have HBE : Hid (Below w.heap.size w w2) := mkHid (bt HX.out.bel hb2); clear ho2 he2 b2 hb2 hgb hob hx5 m0 m1 m2 m3 q0 q1 q2 q3 q4 q5 q6 q7; have c7 : w2.cell? ⟨wr.heap.size, 0, none⟩ = some (.int .i64 ki) := cell_of_block (i := 0) HOB.out rfl))
              have ba2 : Below w2.heap.size w2 ((w2.alloc (.cells #[.slice na2 ps2.length nc2, .slice ga2 u.gs.length gc2, .int .i64 u.last, .int .i64 u.now] 27)).alloc (.cells #[.int .i64 0, .int .i64 ri] 35)) := ba (ba (Below.refl _ w2) _) _
              have HU3 : Hid (UX ((w2.alloc (.cells #[.slice na2 ps2.length nc2, .slice ga2 u.gs.length gc2, .int .i64 u.last, .int .i64 u.now] 27)).alloc (.cells #[.int .i64 0, .int .i64 ri] 35)) M w2.heap.size (.slice na2 ps2.length nc2) (.slice ga2 u.gs.length gc2) ps2 u) := mkHid ⟨(HO2.out.1.below ba2).wider (by have := HMS.out.1; omega), HO2.out.2.1, (heap_alloc_old _ _ (by simp)).trans (heap_alloc_new w2 _), HMS.out.2⟩
              have HB3 : Hid (Below w.heap.size w ((w2.alloc (.cells #[.slice na2 ps2.length nc2, .slice ga2 u.gs.length gc2, .int .i64 u.last, .int .i64 u.now] 27)).alloc (.cells #[.int .i64 0, .int .i64 ri] 35))) := mkHid (bt HBE.out ba2)
              have HG3 : Hid ((((w2.alloc (.cells #[.slice na2 ps2.length nc2, .slice ga2 u.gs.length gc2, .int .i64 u.last, .int .i64 u.now] 27)).alloc (.cells #[.int .i64 0, .int .i64 ri] 35))).heap[g]? = some (.cells #[.slice na ps.length nc, .slice ga t.gs.length gc, .int .i64 t.last, .int .i64 t.now] 27 (0, 0))) := mkHid (blk_late HGB.out ba2)
              have HM4 : Hid (Mj ((w2.alloc (.cells #[.slice na2 ps2.length nc2, .slice ga2 u.gs.length gc2, .int .i64 u.last, .int .i64 u.now] 27)).alloc (.cells #[.int .i64 0, .int .i64 ri] 35)) M m) := mkHid (HMM.out.below ba2)
              obtain ⟨wu, hwu⟩ : ∃ wu, wu = ((w2.alloc (.cells #[.slice na2 ps2.length nc2, .slice ga2 u.gs.length gc2, .int .i64 u.last, .int .i64 u.now] 27)).alloc (.cells #[.int .i64 0, .int .i64 ri] 35)) := ⟨_, rfl⟩
              have HU4 := HU3
              have HB4 := HB3
              have HG4 := HG3
              clear HU3 HB3 HG3
              rw [← hwu] at HU4 HB4 HG4 HM4 ⊢
              clear hwu HMM HO2 HOB HGB HBE ba2 c7
              generalize w2.heap.size = U at *
              obtain ⟨mm, hmm⟩ : ∃ mm, mm = m := ⟨_, rfl⟩
              rw [← hmm] at HM4 HGU
              clear hmm HMS
              clear hneq
              have hp2 : ps2.length ≤ 1000 := by have := HU8.out.n; rw [← HU4.out.e, List.length_map] at this; exact this
              go_loopw [69] (fun iv wr => ∃ i : Nat, iv = .int .i64 (i : Int) ∧ i ≤ ps2.length ∧ Hid (Below wu.heap.size wu wr)) (fun iv _ => ps2.length - (intOf iv).toNat)
              case atStart => exact ⟨0, rfl, Nat.zero_le _, Below.refl _ _⟩
              case round =>
                obtain ⟨i, rfl, hi, HB5⟩ := hrel
                have HU5 := mkHid (HU4.out.hold HB5.out)
                have HM5 := mkHid (HM4.out.below HB5.out)
                obtain ⟨u0, u1, u2', u3'⟩ := four HU5.out.blk
                by_cases hil : i < ps2.length
                · obtain ⟨b7, off7, x7, hna, hx7, hc7⟩ := (HU5.out.trw HU8.out).n.row.at (Below.refl _ _) i hil
                  subst hna
                  obtain ⟨y0, y1, y2, y3, y4, y5, y6⟩ := seven hc7
                  have hn7 : x7.1 ∈ u.ns := by rw [← HU5.out.e]; exact List.mem_map.mpr ⟨x7, List.mem_of_getElem? hx7, rfl⟩
                  have hid := HOK.out.1.ids _ hn7
                  have hgn := HGU.out.none hn7
                  have hpar := HOK.out.1.par _ hn7
                  have HPC : Hid ((x7.1.pa = 0 ∧ u.nd x7.1.pa = none) ∨ (∃ n', u.nd x7.1.pa = some n' ∧ n'.ts.length ≤ 1000)) := mkHid (by
                    rcases hpar with e0 | hex
                    · exact .inl ⟨e0, nd_of_not (fun n hn e => by have := HOK.out.1.ids n hn; omega)⟩
                    · obtain ⟨n', hn'⟩ := nd_of_has hex
                      exact .inr ⟨n', hn', by have := HU8.out.s n' (nd_some hn').1; omega⟩)
                  have HGN := mkHid hgn
                  clear hn7 hgn hpar hc7 hx7
                  obtain ⟨⟨nid, npa, ⟨nk, nq, nT⟩, npo, nts⟩, nxa, nxc⟩ := x7
                  simp only [tvN] at y0 y1 y2 y3 y4 y5 y6 hid HPC HGN
                  have hii : (i : Int) < ps2.length := by omega
                  have hid1 : decide (nid < 1) = false := decide_eq_false (by omega)
                  have hid2 : decide (t.last < nid) = false := decide_eq_false (by have := HUL.out; omega)
                  clear hid
                  have HTW : Hid (∀ o, TrW (wr.alloc o) (.slice (some ⟨b7, off7, none⟩) ps2.length nc2) (.slice ga2 u.gs.length gc2) ps2 u) := mkHid (fun o => (HU5.out.hold (ba (Below.refl _ wr) o)).trw HU8.out)
                  rcases HPC.out with ⟨e0, hnd⟩ | ⟨n', hnd, h8⟩
                  · subst e0
                    have HND := mkHid hnd
                    clear hnd
                    go_wp2_with (go_at_call 6; (with_reducible refine (find_no _ u _ _ ps2 0 (HTW.out _) HND.out).mono ?_); rintro e w6 ⟨rfl, b6⟩; obtain ⟨hx6, hb6⟩ := new_last b6; have v0 := cell_of_block (i := 0) hx6 rfl; have v1 := cell_of_block (i := 1) hx6 rfl; have HB6 := mkHid (bt HB5.out hb6); have hlk : (Instr.lookup 28 (.map (some M)) (.int .i64 nid) false).run Tryd.prog (w6.alloc (.cells #[.int .i64 0, .int .i64 0, .int .i64 0, .int .i64 0, .int .i64 0, .int .i64 0, .slice none 0 0] 39)) = .ok (.bool false) (w6.alloc (.cells #[.int .i64 0, .int .i64 0, .int .i64 0, .int .i64 0, .int .i64 0, .int .i64 0, .slice none 0 0] 39)) := (by have := (HM4.out.below (ba HB6.out (.cells #[.int .i64 0, .int .i64 0, .int .i64 0, .int .i64 0, .int .i64 0, .int .i64 0, .slice none 0 0] 39))).get1 nid; rw [HGN.out] at this; exact this); clear b6 hx6 hb6)
                    clear hlk
                    go_roundw
                    case rel => exact ⟨i + 1, by go_num, by omega, mkHid (ba HB6.out _)⟩
                    case measure => simp [intOf]; omega
                  · obtain ⟨fid, fpa, ⟨fk, fq, fT⟩, fpo, fts⟩ := n'
                    simp only at h8
                    have HND := mkHid hnd
                    have H8 := mkHid h8
                    clear hnd h8
                    go_wp2_with (go_at_call 6; (with_reducible refine (find_yes _ u _ _ ps2 npa _ (HTW.out _) HND.out H8.out).mono ?_); rintro e w6 ⟨fa, fc, rfl, _, b6⟩; obtain ⟨hx6, hb6⟩ := new_last b6; have v0 := cell_of_block (i := 0) hx6 rfl; have v1 := cell_of_block (i := 1) hx6 rfl; have HB6 := mkHid (bt HB5.out hb6); have hlk : (Instr.lookup 28 (.map (some M)) (.int .i64 nid) false).run Tryd.prog (w6.alloc (.cells #[.int .i64 fid, .int .i64 fpa, .int .i64 fk, .int .i64 fq, .int .i64 fT, .int .i64 fpo, .slice fa fts.length fc] 39)) = .ok (.bool false) (w6.alloc (.cells #[.int .i64 fid, .int .i64 fpa, .int .i64 fk, .int .i64 fq, .int .i64 fT, .int .i64 fpo, .slice fa fts.length fc] 39)) := (by have := (HM4.out.below (ba HB6.out (.cells #[.int .i64 fid, .int .i64 fpa, .int .i64 fk, .int .i64 fq, .int .i64 fT, .int .i64 fpo, .slice fa fts.length fc] 39))).get1 nid; rw [HGN.out] at this; exact this); clear b6 hx6 hb6)
                    clear hlk
                    go_roundw
                    case rel => exact ⟨i + 1, by go_num, by omega, mkHid (ba HB6.out _)⟩
                    case measure => simp [intOf]; omega
                · obtain rfl : i = ps2.length := by omega
                  obtain ⟨es, clock, hmap, hik, hnd, hborn, hlook⟩ := HM5.out
                  have hrg := run_range_map (P := Tryd.prog) wr 28 3 4 M es clock Tryd.underlying28 hmap
                  have HMP := mkHid (And.intro hik (And.intro hnd (And.intro hborn hlook)))
                  have HMB := mkHid hmap
                  have HN := mkHid (lt_of_heap hmap)
                  clear hik hnd hborn hlook hmap u0 u1 u2' u3' hil
                  go_wp2
                  clear hrg
                  obtain ⟨rb, hrb⟩ : ∃ rb, rb = wr.heap.size := ⟨_, rfl⟩
                  have HI0 : Hid ((wr.alloc (.mapIter (some M) clock #[] clock)).heap[rb]? = some (.mapIter (some M) clock #[] clock)) := mkHid (by rw [hrb]; exact heap_alloc_new wr _)
                  have HB0 : Hid ((wr.alloc (.mapIter (some M) clock #[] clock)).heap[M]? = some (.map es clock)) := mkHid (by rw [heap_alloc_old wr _ HN.out]; exact HMB.out)
                  have HC0 : Hid (Below wu.heap.size wu (wr.alloc (.mapIter (some M) clock #[] clock))) := mkHid (ba HB5.out _)
                  have HRB : Hid (wu.heap.size ≤ rb ∧ M ≠ rb) := mkHid ⟨by rw [hrb]; exact HB5.out.size, by have := HN.out; omega⟩
                  rw [← hrb]
                  generalize wr.alloc (.mapIter (some M) clock #[] clock) = wi at *
                  clear hrb HB5 HU5 HM5 HN HMB
                  go_loopw [107] (fun _ wr => ∃ seen, Hid (wr.heap[rb]? = some (.mapIter (some M) clock seen clock) ∧ wr.heap[M]? = some (.map es clock) ∧ Below wu.heap.size wu wr)) (fun _ wr => (leftOf es (wr.iterSeen rb)).size)
                  case atStart => exact ⟨#[], mkHid ⟨HI0.out, HB0.out, HC0.out⟩⟩
                  case round =>
                    clear HI0 HB0 HC0
                    obtain ⟨seen, HH⟩ := hrel
                    rcases map_step HH.out.1 HH.out.2.1 HMP.out.1 HMP.out.2.1 HMP.out.2.2.1 HMP.out.2.2.2 HH.out.2.2 HRB.out.1 HRB.out.2 with hnx | ⟨kk, bb, w4', seen', hmc2, hnx, hen, hr4, hb4, hB4, hsm⟩
                    case inr =>
                      obtain ⟨g1, g2, g3⟩ := HGU.out kk bb hmc2
                      have HND := mkHid (nd_of_not g3)
                      have HDP : Hid (-1 = u.dep kk) := mkHid (dep_gone g1 g3).symm
                      have HR4 := mkHid (And.intro hr4 (And.intro hb4 hB4))
                      have HSM4 := mkHid hsm
                      have HU7 := mkHid (HU4.out.hold hB4)
                      obtain ⟨u0, u1, u2', u3'⟩ := four HU7.out.blk
                      clear hmc2 hr4 hb4 hB4 hsm g1 g2 g3
                      go_wp2_with (first | (go_at_call 6; (with_reducible refine (find_no w4' u _ _ ps2 kk (HU7.out.trw HU8.out) HND.out).mono ?_); rintro e w6 ⟨rfl, b6⟩; have HB6 : Hid (Below w4'.heap.size w4' (w6.alloc (.cells #[.int .i64 0, .int .i64 0, .int .i64 0, .int .i64 0, .int .i64 0, .int .i64 0, .slice none 0 0] 39))) := mkHid (ba b6 _); have HU8b := mkHid (HU7.out.hold HB6.out); clear b6 u0 u1 u2' u3'; obtain ⟨u0, u1, u2', u3'⟩ := four HU8b.out.blk) | (go_at_call 7; (with_reducible refine (depth_is _ u _ _ ps2 kk (-1) (HU8b.out.trw HU8.out) HU8.out HDP.out).mono ?_); rintro e w7 ⟨rfl, b7'⟩; have HB7 := mkHid (bt HB6.out b7'); have HR5 : Hid (w7.heap[rb]? = some (.mapIter (some M) clock seen' clock) ∧ w7.heap[M]? = some (.map es clock) ∧ Below wu.heap.size wu w7) := mkHid ⟨blk_late HR4.out.1 HB7.out, blk_late HR4.out.2.1 HB7.out, bt HR4.out.2.2 HB7.out⟩; clear b7'))
                      go_roundw
                      case rel => exact ⟨seen', HR5⟩
                      case measure => have h5 := iter_of HR5.out.1; have h4 := iter_of HR4.out.1; rw [h5, ← h4]; exact HSM4.out
                    have HB7 : Hid (Below wu.heap.size wu wr) := mkHid HH.out.2.2
                    have HM7 : Hid (Mj wr M mm) := mkHid ⟨es, clock, HH.out.2.1, HMP.out.1, HMP.out.2.1, HMP.out.2.2.1, HMP.out.2.2.2⟩
                    have HU7 := mkHid (HU4.out.hold HB7.out)
                    have HG7 := mkHid (blk_late HG4.out HB7.out)
                    clear HH
                    obtain ⟨u0, u1, u2', u3'⟩ := four HU7.out.blk
                    go_wp2_with (refine wpList_store_box rfl 27 (.tmp 3) (.tmp 124) rfl g #[.slice na2 ps2.length nc2, .slice ga2 u.gs.length gc2, .int .i64 u.last, .int .i64 u.now] rfl rfl 27 _ HG7.out size_tree rfl (one_tr _ _ _ _ _ _ _ _) ?_; intro w8 h8 k8; have HX8 : Hid (BX w g w8 (.slice na2 ps2.length nc2) (.slice ga2 u.gs.length gc2) ps2 u ∧ TrO (M + 1) w8 (.slice na2 ps2.length nc2) (.slice ga2 u.gs.length gc2) ps2 u.gs) := mkHid (store_ux HU7.out HX.out.lg HGM.out (bt HB4.out HB7.out) h8 k8); have HM8 := mkHid (HM7.out.kept k8 (by have := HGM.out; omega)); clear h8 k8)
                    clear hnx
                    go_roundw
                    case rel => exact ⟨j + 1, u, _, _, ps2, mm, by rw [HUL.out], by go_num, HSM.out.1, HSM.out.2.1, HX8, HOK, HM8, HGU⟩
                    case measure => have := HSM.out.2.2; simp [intOf]; omega
        · have hrcb : (rc == 0) = false := by simpa using hrc
          have hul := hids.2.1 (by simp only; omega)
          have HUL : Hid (u.last = t.last) := mkHid hul
          have HGU : Hid (Gn u m) := mkHid (HG.out.next HAP.out HT.out.1)
          clear hids hlast hul hrc
          have hneq : (u.last != t.last) = false := by rw [HUL.out]; simp
          go_wp2_with (first | (go_at_call 5; (with_reducible refine (HA.out _ (ba (Below.refl _ wr) _)).mono ?_); rintro e w2 ⟨nv2, gv2, ps2, rfl, ho2, he2, b2⟩; obtain ⟨na2, nc2, hnv2, _⟩ := own_sh ho2.nown; obtain ⟨ga2, gc2, hgv2, _⟩ := own_sh ho2.gown; subst hnv2 hgv2; obtain ⟨hx5, hb2⟩ := new_last b2; have hgb := (hb2.block g (lt_of_heap HX.out.blk)).trans HX.out.blk; have hob := hx5; have HO2 := mkHid (And.intro ho2 (And.intro he2 hb2)); have HGB := mkHid hgb; have HOB := mkHid hob; have HMM := mkHid (HM.out.below hb2); have HMS : Hid (M < (wr.alloc (.cells #[.int .i64 ki, .int .i64 id, .int .i64 k, .int .i64 q, .int .i64 T, .int .i64 po, .slice ta ts.length tc, .int .i64 tm] 33)).heap.size ∧ M < w2.heap.size) := mkHid ⟨by have := HM.out.lt; simp; omega, (HM.out.below hb2).lt⟩; have HBE : Hid (Below w.heap.size w w2) := mkHid (bt HX.out.bel hb2); clear ho2 he2 b2 hb2 hgb hob hx5 m0 m1 m2 m3 q0 q1 q2 q3 q4 q5 q6 q7; have c7 : w2.cell? ⟨wr.heap.size, 0, none⟩ = some (.int .i64 ki) := cell_of_block (i := 0) HOB.out rfl))
          have ba2 : Below w2.heap.size w2 ((w2.alloc (.cells #[.slice na2 ps2.length nc2, .slice ga2 u.gs.length gc2, .int .i64 u.last, .int .i64 u.now] 27)).alloc (.cells #[.int .i64 rc, .int .i64 ri] 35)) := ba (ba (Below.refl _ w2) _) _
          have HU3 : Hid (UX ((w2.alloc (.cells #[.slice na2 ps2.length nc2, .slice ga2 u.gs.length gc2, .int .i64 u.last, .int .i64 u.now] 27)).alloc (.cells #[.int .i64 rc, .int .i64 ri] 35)) M w2.heap.size (.slice na2 ps2.length nc2) (.slice ga2 u.gs.length gc2) ps2 u) := mkHid ⟨(HO2.out.1.below ba2).wider (by have := HMS.out.1; omega), HO2.out.2.1, (heap_alloc_old _ _ (by simp)).trans (heap_alloc_new w2 _), HMS.out.2⟩
          have HB3 : Hid (Below w.heap.size w ((w2.alloc (.cells #[.slice na2 ps2.length nc2, .slice ga2 u.gs.length gc2, .int .i64 u.last, .int .i64 u.now] 27)).alloc (.cells #[.int .i64 rc, .int .i64 ri] 35))) := mkHid (bt HBE.out ba2)
          have HG3 : Hid ((((w2.alloc (.cells #[.slice na2 ps2.length nc2, .slice ga2 u.gs.length gc2, .int .i64 u.last, .int .i64 u.now] 27)).alloc (.cells #[.int .i64 rc, .int .i64 ri] 35))).heap[g]? = some (.cells #[.slice na ps.length nc, .slice ga t.gs.length gc, .int .i64 t.last, .int .i64 t.now] 27 (0, 0))) := mkHid (blk_late HGB.out ba2)
          have HM4 : Hid (Mj ((w2.alloc (.cells #[.slice na2 ps2.length nc2, .slice ga2 u.gs.length gc2, .int .i64 u.last, .int .i64 u.now] 27)).alloc (.cells #[.int .i64 rc, .int .i64 ri] 35)) M m) := mkHid (HMM.out.below ba2)
          obtain ⟨wu, hwu⟩ : ∃ wu, wu = ((w2.alloc (.cells #[.slice na2 ps2.length nc2, .slice ga2 u.gs.length gc2, .int .i64 u.last, .int .i64 u.now] 27)).alloc (.cells #[.int .i64 rc, .int .i64 ri] 35)) := ⟨_, rfl⟩
          have HU4 := HU3
          have HB4 := HB3
          have HG4 := HG3
          clear HU3 HB3 HG3
          rw [← hwu] at HU4 HB4 HG4 HM4 ⊢
          clear hwu HMM HO2 HOB HGB HBE ba2 c7
          generalize w2.heap.size = U at *
          obtain ⟨mm, hmm⟩ : ∃ mm, mm = m := ⟨_, rfl⟩
          rw [← hmm] at HM4 HGU
          clear hmm HMS
          clear hneq
          have hp2 : ps2.length ≤ 1000 := by have := HU8.out.n; rw [← HU4.out.e, List.length_map] at this; exact this
          go_loopw [69] (fun iv wr => ∃ i : Nat, iv = .int .i64 (i : Int) ∧ i ≤ ps2.length ∧ Hid (Below wu.heap.size wu wr)) (fun iv _ => ps2.length - (intOf iv).toNat)
          case atStart => exact ⟨0, rfl, Nat.zero_le _, Below.refl _ _⟩
          case round =>
            obtain ⟨i, rfl, hi, HB5⟩ := hrel
            have HU5 := mkHid (HU4.out.hold HB5.out)
            have HM5 := mkHid (HM4.out.below HB5.out)
            obtain ⟨u0, u1, u2', u3'⟩ := four HU5.out.blk
            by_cases hil : i < ps2.length
            · obtain ⟨b7, off7, x7, hna, hx7, hc7⟩ := (HU5.out.trw HU8.out).n.row.at (Below.refl _ _) i hil
              subst hna
              obtain ⟨y0, y1, y2, y3, y4, y5, y6⟩ := seven hc7
              have hn7 : x7.1 ∈ u.ns := by rw [← HU5.out.e]; exact List.mem_map.mpr ⟨x7, List.mem_of_getElem? hx7, rfl⟩
              have hid := HOK.out.1.ids _ hn7
              have hgn := HGU.out.none hn7
              have hpar := HOK.out.1.par _ hn7
              have HPC : Hid ((x7.1.pa = 0 ∧ u.nd x7.1.pa = none) ∨ (∃ n', u.nd x7.1.pa = some n' ∧ n'.ts.length ≤ 1000)) := mkHid (by
                rcases hpar with e0 | hex
                · exact .inl ⟨e0, nd_of_not (fun n hn e => by have := HOK.out.1.ids n hn; omega)⟩
                · obtain ⟨n', hn'⟩ := nd_of_has hex
                  exact .inr ⟨n', hn', by have := HU8.out.s n' (nd_some hn').1; omega⟩)
              have HGN := mkHid hgn
              clear hn7 hgn hpar hc7 hx7
              obtain ⟨⟨nid, npa, ⟨nk, nq, nT⟩, npo, nts⟩, nxa, nxc⟩ := x7
              simp only [tvN] at y0 y1 y2 y3 y4 y5 y6 hid HPC HGN
              have hii : (i : Int) < ps2.length := by omega
              have hid1 : decide (nid < 1) = false := decide_eq_false (by omega)
              have hid2 : decide (t.last < nid) = false := decide_eq_false (by have := HUL.out; omega)
              clear hid
              have HTW : Hid (∀ o, TrW (wr.alloc o) (.slice (some ⟨b7, off7, none⟩) ps2.length nc2) (.slice ga2 u.gs.length gc2) ps2 u) := mkHid (fun o => (HU5.out.hold (ba (Below.refl _ wr) o)).trw HU8.out)
              rcases HPC.out with ⟨e0, hnd⟩ | ⟨n', hnd, h8⟩
              · subst e0
                have HND := mkHid hnd
                clear hnd
                go_wp2_with (go_at_call 6; (with_reducible refine (find_no _ u _ _ ps2 0 (HTW.out _) HND.out).mono ?_); rintro e w6 ⟨rfl, b6⟩; obtain ⟨hx6, hb6⟩ := new_last b6; have v0 := cell_of_block (i := 0) hx6 rfl; have v1 := cell_of_block (i := 1) hx6 rfl; have HB6 := mkHid (bt HB5.out hb6); have hlk : (Instr.lookup 28 (.map (some M)) (.int .i64 nid) false).run Tryd.prog (w6.alloc (.cells #[.int .i64 0, .int .i64 0, .int .i64 0, .int .i64 0, .int .i64 0, .int .i64 0, .slice none 0 0] 39)) = .ok (.bool false) (w6.alloc (.cells #[.int .i64 0, .int .i64 0, .int .i64 0, .int .i64 0, .int .i64 0, .int .i64 0, .slice none 0 0] 39)) := (by have := (HM4.out.below (ba HB6.out (.cells #[.int .i64 0, .int .i64 0, .int .i64 0, .int .i64 0, .int .i64 0, .int .i64 0, .slice none 0 0] 39))).get1 nid; rw [HGN.out] at this; exact this); clear b6 hx6 hb6)
                clear hlk
                go_roundw
                case rel => exact ⟨i + 1, by go_num, by omega, mkHid (ba HB6.out _)⟩
                case measure => simp [intOf]; omega
              · obtain ⟨fid, fpa, ⟨fk, fq, fT⟩, fpo, fts⟩ := n'
                simp only at h8
                have HND := mkHid hnd
                have H8 := mkHid h8
                clear hnd h8
                go_wp2_with (go_at_call 6; (with_reducible refine (find_yes _ u _ _ ps2 npa _ (HTW.out _) HND.out H8.out).mono ?_); rintro e w6 ⟨fa, fc, rfl, _, b6⟩; obtain ⟨hx6, hb6⟩ := new_last b6; have v0 := cell_of_block (i := 0) hx6 rfl; have v1 := cell_of_block (i := 1) hx6 rfl; have HB6 := mkHid (bt HB5.out hb6); have hlk : (Instr.lookup 28 (.map (some M)) (.int .i64 nid) false).run Tryd.prog (w6.alloc (.cells #[.int .i64 fid, .int .i64 fpa, .int .i64 fk, .int .i64 fq, .int .i64 fT, .int .i64 fpo, .slice fa fts.length fc] 39)) = .ok (.bool false) (w6.alloc (.cells #[.int .i64 fid, .int .i64 fpa, .int .i64 fk, .int .i64 fq, .int .i64 fT, .int .i64 fpo, .slice fa fts.length fc] 39)) := (by have := (HM4.out.below (ba HB6.out (.cells #[.int .i64 fid, .int .i64 fpa, .int .i64 fk, .int .i64 fq, .int .i64 fT, .int .i64 fpo, .slice fa fts.length fc] 39))).get1 nid; rw [HGN.out] at this; exact this); clear b6 hx6 hb6)
                clear hlk
                go_roundw
                case rel => exact ⟨i + 1, by go_num, by omega, mkHid (ba HB6.out _)⟩
                case measure => simp [intOf]; omega
            · obtain rfl : i = ps2.length := by omega
              obtain ⟨es, clock, hmap, hik, hnd, hborn, hlook⟩ := HM5.out
              have hrg := run_range_map (P := Tryd.prog) wr 28 3 4 M es clock Tryd.underlying28 hmap
              have HMP := mkHid (And.intro hik (And.intro hnd (And.intro hborn hlook)))
              have HMB := mkHid hmap
              have HN := mkHid (lt_of_heap hmap)
              clear hik hnd hborn hlook hmap u0 u1 u2' u3' hil
              go_wp2
              clear hrg
              obtain ⟨rb, hrb⟩ : ∃ rb, rb = wr.heap.size := ⟨_, rfl⟩
              have HI0 : Hid ((wr.alloc (.mapIter (some M) clock #[] clock)).heap[rb]? = some (.mapIter (some M) clock #[] clock)) := mkHid (by rw [hrb]; exact heap_alloc_new wr _)
              have HB0 : Hid ((wr.alloc (.mapIter (some M) clock #[] clock)).heap[M]? = some (.map es clock)) := mkHid (by rw [heap_alloc_old wr _ HN.out]; exact HMB.out)
              have HC0 : Hid (Below wu.heap.size wu (wr.alloc (.mapIter (some M) clock #[] clock))) := mkHid (ba HB5.out _)
              have HRB : Hid (wu.heap.size ≤ rb ∧ M ≠ rb) := mkHid ⟨by rw [hrb]; exact HB5.out.size, by have := HN.out; omega⟩
              rw [← hrb]
              generalize wr.alloc (.mapIter (some M) clock #[] clock) = wi at *
              clear hrb HB5 HU5 HM5 HN HMB
              go_loopw [107] (fun _ wr => ∃ seen, Hid (wr.heap[rb]? = some (.mapIter (some M) clock seen clock) ∧ wr.heap[M]? = some (.map es clock) ∧ Below wu.heap.size wu wr)) (fun _ wr => (leftOf es (wr.iterSeen rb)).size)
              case atStart => exact ⟨#[], mkHid ⟨HI0.out, HB0.out, HC0.out⟩⟩
              case round =>
                clear HI0 HB0 HC0
                obtain ⟨seen, HH⟩ := hrel
                rcases map_step HH.out.1 HH.out.2.1 HMP.out.1 HMP.out.2.1 HMP.out.2.2.1 HMP.out.2.2.2 HH.out.2.2 HRB.out.1 HRB.out.2 with hnx | ⟨kk, bb, w4', seen', hmc2, hnx, hen, hr4, hb4, hB4, hsm⟩
                case inr =>
                  obtain ⟨g1, g2, g3⟩ := HGU.out kk bb hmc2
                  have HND := mkHid (nd_of_not g3)
                  have HDP : Hid (-1 = u.dep kk) := mkHid (dep_gone g1 g3).symm
                  have HR4 := mkHid (And.intro hr4 (And.intro hb4 hB4))
                  have HSM4 := mkHid hsm
                  have HU7 := mkHid (HU4.out.hold hB4)
                  obtain ⟨u0, u1, u2', u3'⟩ := four HU7.out.blk
                  clear hmc2 hr4 hb4 hB4 hsm g1 g2 g3
                  go_wp2_with (first | (go_at_call 6; (with_reducible refine (find_no w4' u _ _ ps2 kk (HU7.out.trw HU8.out) HND.out).mono ?_); rintro e w6 ⟨rfl, b6⟩; have HB6 : Hid (Below w4'.heap.size w4' (w6.alloc (.cells #[.int .i64 0, .int .i64 0, .int .i64 0, .int .i64 0, .int .i64 0, .int .i64 0, .slice none 0 0] 39))) := mkHid (ba b6 _); have HU8b := mkHid (HU7.out.hold HB6.out); clear b6 u0 u1 u2' u3'; obtain ⟨u0, u1, u2', u3'⟩ := four HU8b.out.blk) | (go_at_call 7; (with_reducible refine (depth_is _ u _ _ ps2 kk (-1) (HU8b.out.trw HU8.out) HU8.out HDP.out).mono ?_); rintro e w7 ⟨rfl, b7'⟩; have HB7 := mkHid (bt HB6.out b7'); have HR5 : Hid (w7.heap[rb]? = some (.mapIter (some M) clock seen' clock) ∧ w7.heap[M]? = some (.map es clock) ∧ Below wu.heap.size wu w7) := mkHid ⟨blk_late HR4.out.1 HB7.out, blk_late HR4.out.2.1 HB7.out, bt HR4.out.2.2 HB7.out⟩; clear b7'))
                  go_roundw
                  case rel => exact ⟨seen', HR5⟩
                  case measure => have h5 := iter_of HR5.out.1; have h4 := iter_of HR4.out.1; rw [h5, ← h4]; exact HSM4.out
                have HB7 : Hid (Below wu.heap.size wu wr) := mkHid HH.out.2.2
                have HM7 : Hid (Mj wr M mm) := mkHid ⟨es, clock, HH.out.2.1, HMP.out.1, HMP.out.2.1, HMP.out.2.2.1, HMP.out.2.2.2⟩
                have HU7 := mkHid (HU4.out.hold HB7.out)
                have HG7 := mkHid (blk_late HG4.out HB7.out)
                clear HH
                obtain ⟨u0, u1, u2', u3'⟩ := four HU7.out.blk
                go_wp2_with (refine wpList_store_box rfl 27 (.tmp 3) (.tmp 124) rfl g #[.slice na2 ps2.length nc2, .slice ga2 u.gs.length gc2, .int .i64 u.last, .int .i64 u.now] rfl rfl 27 _ HG7.out size_tree rfl (one_tr _ _ _ _ _ _ _ _) ?_; intro w8 h8 k8; have HX8 : Hid (BX w g w8 (.slice na2 ps2.length nc2) (.slice ga2 u.gs.length gc2) ps2 u ∧ TrO (M + 1) w8 (.slice na2 ps2.length nc2) (.slice ga2 u.gs.length gc2) ps2 u.gs) := mkHid (store_ux HU7.out HX.out.lg HGM.out (bt HB4.out HB7.out) h8 k8); have HM8 := mkHid (HM7.out.kept k8 (by have := HGM.out; omega)); clear h8 k8)
                clear hnx
                go_roundw
                case rel => exact ⟨j + 1, u, _, _, ps2, mm, by rw [HUL.out], by go_num, HSM.out.1, HSM.out.2.1, HX8, HOK, HM8, HGU⟩
                case measure => have := HSM.out.2.2; simp [intOf]; omega
      · obtain rfl : j = 60 := by omega
        have hj60 : (60 : Int) < os.length := by omega
        clear hlt hj hj6 h60
        go_wp2
        go_ret
        exact ⟨rfl, ba HX.out.bel _⟩
    · obtain rfl : j = os.length := by omega
      clear hlt hj hj6
      go_wp2
      go_ret
      exact ⟨rfl, HX.out.bel⟩
end Go.Proofs.YtjhekemgcmhjoabDoor
