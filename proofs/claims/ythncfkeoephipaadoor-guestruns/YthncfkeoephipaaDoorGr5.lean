/- The law GuestRuns. -/
import Derived.Test.YthncfkeoephipaaDoorGr4
namespace Go.Proofs.YthncfkeoephipaaDoor
open Go.ChangeShapes Go.WideShapes Go.ChangeAt Go.RowKit
attribute [local go_sem] World.cell?_alloc_some frozen_alloc_some

theorem run_ts (s : Gt) (js : List Jb) : Gt.ts ⟨s.xs, js⟩ = s.ts := rfl
theorem rs_new {W w : World} {R B b : Nat} {p : Int} {tv sv xv jv : Value} {ts : List Tk} {s : Gt} {bc bw br : Nat} {cv : Value} {os : List Op5} {rv : List Value} {L : Nat → List Jb} {N : Nat → Int} (lg : LG W w R B b p tv sv xv jv ts s) (ws : WS w bw br rv L N ts.length) (cp : Ops w cv os) (cb : cv.ownBlock = some bc) (cl : bc < w.heap.size) (n0 : Nat) (hf : ∀ k, Ft xv jv b k → k < n0) (hR : R < n0) (hw : ∀ k, WF bw br rv k → n0 ≤ k) (hc : n0 ≤ bc) (cw : ¬ WF bw br rv bc) : RS W w R B b p tv sv xv jv ts s bc bw br cv os rv L N :=
  ⟨lg, ws, cp, cb, cl, fun k e => by
    have hk : n0 ≤ k := by
      rcases e with rfl | e
      · exact hc
      · exact hw k e
    exact ⟨by omega, fun f => by have := hf k f; omega⟩, cw⟩
theorem step_append_rj {ops : Array Oper} {o : Oper} {a : Act} {w : World} {K : Act → World → Prop} {Q : Exit → Act → World → Prop} {E : Prop} (hgd : o.guard = none) (sl x : Operand)
    (hop : o.op = .call { callee := .builtin .append, args := #[sl, x], argTypes := #[54, 54] }) (v xv : Value) (l : List Jb) (j : Jb) (hs : a.eval sl = v) (hx : a.eval x = xv) (hr : RJ w v l) (hsrc : Src Tryd.prog 5 54 xv 1 (cj j) w) (hl : l.length ≤ 64)
    (h : ∀ v' w', RJ w' v' (l ++ [j]) → w.grownBy w' v.ownBlock → (v'.ownBlock = v.ownBlock ∨ v'.ownBlock = some w.heap.size) → K (a.put o.dst v') w') :
    if Region.wanted o (yielded ops a.tmps) = true then Oper.wp Tryd.prog o a w K Q else E := by
  have hw : Region.wanted o (yielded ops a.tmps) = true := by simp [Region.wanted, hgd]
  rw [if_pos hw]
  obtain ⟨v', w', hrr, h2, h3, h4⟩ := run_append_rj w o.type hr hsrc hl
  unfold Oper.wp execOp
  simp only [hop, resolve, invoke, builtin, Sem.run_bind, Sem.run_pure, Result.andThen_ok, List.map_toArray, List.map_cons, List.map_nil, hs, hx, hrr]
  exact h v' w' h2 h3 h4
theorem want_len {s : Gt} (k : Nat) : (wantOf s.js k).length ≤ s.js.length := by
  unfold wantOf ofT
  rw [List.length_map]
  exact List.length_filter_le _ _
theorem RJ.first {w : World} {g o n c : Nat} {j : Jb} {r : List Jb} (h : RJ w (.slice (some ⟨g, o, none⟩) n c) (j :: r)) : w.cell? ⟨g, o, none⟩ = some (.int .i64 (j.tk : Int)) ∧ w.cell? ⟨g, o + 1, none⟩ = some (.int .i64 j.rl) ∧ w.cell? ⟨g, o + 2, none⟩ = some (.int .i64 j.dl) ∧ w.cell? ⟨g, o + 3, none⟩ = some (.int .i64 j.lf) ∧ w.cell? ⟨g, o + 4, none⟩ = some (.int .i64 j.dn) := by
  obtain ⟨b, off, x, e, hx, hc⟩ := RowIn.at h.1 (Below.refl _ _) 0 (by simp)
  simp only [Option.some.injEq, Addr.mk.injEq, and_true] at e
  obtain ⟨rfl, rfl⟩ := e
  simp only [List.getElem?_cons_zero, Option.some.injEq] at hx
  subst hx
  have h0 := hc 0 _ (by omega) rfl
  have h1 := hc 1 _ (by omega) rfl
  have h2 := hc 2 _ (by omega) rfl
  have h3 := hc 3 _ (by omega) rfl
  have h4 := hc 4 _ (by omega) rfl
  simp only [Nat.zero_mul, Nat.add_zero] at h0 h1 h2 h3 h4
  exact ⟨h0, h1, h2, h3, h4⟩
def zops : List Op5 := List.replicate 400 zo
theorem zops_len : zops.length = 400 := by unfold zops; rw [List.length_replicate]
abbrev w3of (w2 : World) (n : Nat) : World := ((w2.alloc (.cells (Array.replicate n (Value.slice none 0 0)) 54)).alloc (.cells (rnC n (fun _ => 0)) 3)).alloc (.cells #[] 40)
theorem own_of_some {w : World} {base : Nat} {e : TypeId} {size : Nat} {v : Value} {n : Nat} {xs : List Value} (h : w.ownsRow base e size v n xs) (hn : 0 < n) : ∃ g c, v = .slice (some ⟨g, 0, none⟩) n c ∧ base ≤ g ∧ g < w.heap.size := own_addr h hn
theorem runs_start {W w2 w4 w5 : World} {R B b : Nat} {p : Int} {tv sv xv jv v4 v5 : Value} {ts : List Tk} {s : Gt} {os : List Op5} (h : LG W w2 R B b p tv sv xv jv ts s) (hs : s.js = []) (h40 : os.length * 40 ≤ 140737488355328)
    (h4 : (w3of w2 ts.length).grownBy w4 (some (w2.heap.size + 1 + 1))) (h5 : w4.grownBy w5 v4.ownBlock) (hv4 : v4.ownBlock = some (w2.heap.size + 1 + 1) ∨ v4.ownBlock = some (w3of w2 ts.length).heap.size) (ho5 : w5.ownsRow (w2.heap.size + 1 + 1) 40 5 v5 (os.length + 400) (os.flatMap co ++ zops.flatMap co)) :
    ∃ bc cc, v5 = .slice (some ⟨bc, 0, none⟩) (os.length + 400) cc ∧ RS W w5 R B b p tv sv xv jv ts s bc w2.heap.size (w2.heap.size + 1) (.slice (some ⟨bc, 0, none⟩) (os.length + 400) cc) (os ++ zops) (List.replicate ts.length (.slice none 0 0)) (wantOf s.js) (ranOf s.js) := by
  obtain ⟨bc, cc, rfl, hbc, hbl⟩ := own_of_some ho5 (by omega)
  have b3 : Below w2.heap.size w2 (w3of w2 ts.length) := ba (ba (ba (Below.refl _ w2) _) _) _
  have z3 : (w3of w2 ts.length).heap.size = w2.heap.size + 3 := by simp [w3of]
  have k4 := Kept.grown h4 (F := fun k => w2.heap.size + 2 ≤ k) (fun k e => by cases e; omega)
  have k5 := Kept.grown h5 (F := fun k => w2.heap.size + 2 ≤ k) (fun k e => by
    rcases hv4 with a | a <;> rw [a] at e <;> cases e <;> omega)
  have k := k4.trans k5 (fun k e => .inl e)
  have b5 : Below w2.heap.size w2 w5 := b3.trans (k.below (fun k e => by omega) (by omega))
  have hA : (w3of w2 ts.length).heap[w2.heap.size]? = some (.cells (List.replicate ts.length (Value.slice none 0 0)).toArray 54 (0, 0)) := by
    rw [List.toArray_replicate]
    exact blk_late (heap_alloc_new w2 _) (ba (ba (Below.refl _ _) _) _)
  have hB : (w3of w2 ts.length).heap[w2.heap.size + 1]? = some (.cells (rnC ts.length (fun _ => 0)) 3 (0, 0)) := by
    have := heap_alloc_new (w2.alloc (.cells (Array.replicate ts.length (Value.slice none 0 0)) 54)) (.cells (rnC ts.length (fun _ => 0)) 3)
    rw [show (w2.alloc (.cells (Array.replicate ts.length (Value.slice none 0 0)) 54)).heap.size = w2.heap.size + 1 by simp] at this
    exact blk_late this (ba (Below.refl _ _) _)
  have ws := ws_new ((k.block _ (lt_of_heap hA) (by omega)).trans hA) ((k.block _ (lt_of_heap hB) (by omega)).trans hB) (by omega)
  have hw : ∀ k, WF w2.heap.size (w2.heap.size + 1) (List.replicate ts.length (Value.slice none 0 0)) k → k = w2.heap.size ∨ k = w2.heap.size + 1 := fun k e => by
    rcases e with e | e | ⟨i, v, hi, hv⟩
    · exact .inl e
    · exact .inr e
    · have := List.mem_of_getElem? hi
      simp at this
      rw [this.2] at hv
      cases hv
  have cp : Ops w5 (.slice (some ⟨bc, 0, none⟩) (os.length + 400) cc) (os ++ zops) := by
    refine RowIn.of_owns (e := 40) (base := w2.heap.size + 1 + 1) co_len (by rw [List.length_append, zops_len]; omega) ?_
    rw [List.flatMap_append, List.length_append, zops_len]
    exact ho5
  have := rs_new (bc := bc) (h.late b5) ws cp rfl hbl w2.heap.size (fun k f => (h.gb.foot f).2) h.cb.lt (fun k e => by have := hw k e; omega) (by omega) (fun e => by have := hw _ e; omega)
  exact ⟨bc, cc, rfl, this.congr (fun k => by rw [hs]; rfl) (fun k => by rw [hs]; rfl)⟩
set_option maxRecDepth 100000 in
set_option maxHeartbeats 3200000 in
theorem runs_no (W : World) (p : Int) (tv sv : Value) (ts : List Tk) (a : Nat → Addr) (E : Eg W a) (hT : Tks W tv ts) (hsv : ∃ x n c, sv = .slice x n c) (h : ¬ okG p ts) : Calls Tryd.prog 4 #[vC p tv sv] W fun e w' => e = .returned (.bool true) ∧ Below W.heap.size W w' := by
  have HE := mkHid E
  have HO := mkHid h
  have HT := mkHid hT
  obtain ⟨ta, tc, rfl, _, _⟩ := hT
  obtain ⟨sa, sn, sc, rfl⟩ := hsv
  clear E h
  go_enter Tryd.func4, Tryd.ntmps4
  go_wp2_with (first | (go_at_call 8; refine (alive15 _ a (HE.out.late (ba (Below.refl _ _) _))).mono ?_; rintro e w1 ⟨rfl, b1⟩; have hr := (cb_new W p (.slice ta ts.length tc) (.slice sa sn sc)).late b1; have HR1 := mkHid hr; have HB1 := mkHid (bt (ba (Below.refl _ _) _) b1); have x0 := hr.c0; have x1 := hr.c1; clear b1 hr) | (go_at_call 9; refine (new_no _ _ p ts _ (HT.out.below HB1.out) HO.out (HE.out.late HB1.out).task).mono ?_; rintro e w2 ⟨rfl, b2⟩; have HB2 := mkHid (bt HB1.out b2); have hr := HR1.out.late b2; clear x0 x1; have x0 := hr.c0; have x1 := hr.c1; clear b2 hr) | (go_at_call 10; obtain ⟨lb, hlb, hcl⟩ := legalGuest_is w2 _ p ts (HT.out.below HB2.out); have hlf : lb = false := (by cases lb; rfl; exact absurd (hlb.mp rfl) HO.out); subst hlf; refine hcl.mono ?_; rintro e w3 ⟨rfl, b3⟩; have HB3 := mkHid (bt HB2.out b3); clear b3 hcl hlb))
  go_ret
  exact ⟨rfl, HB3.out⟩
set_option maxRecDepth 100000 in
set_option maxHeartbeats 12800000 in
theorem runs_yes (W : World) (p : Int) (tv sv : Value) (ts : List Tk) (os : List Op5) (a : Nat → Addr) (E : Es W a) (hT : Tks W tv ts) (hS : Ops W sv os) (h40 : os.length * 40 ≤ 140737488355328) (h : okG p ts) : Calls Tryd.prog 4 #[vC p tv sv] W fun e w' => e = .returned (.bool true) ∧ Below W.heap.size W w' := by
  obtain ⟨ie, hie1, hz0, hz1, hz2⟩ := info_parts info_op
  have hie := mkHid (And.intro hie1 (And.intro hz0 (And.intro hz1 hz2)))
  clear hie1 hz0 hz1 hz2
  have HE := mkHid E.eg
  have HES := mkHid E
  have HO := mkHid h
  have HT := mkHid hT
  have HS := mkHid hS
  have h8 := h.2.2.1
  have hmk1 := fun W => make_rows ts.length h8 W
  have hmk2 := fun W => make_rn ts.length h8 W
  obtain ⟨ta, tc, rfl, _, _⟩ := hT
  obtain ⟨sa, sc, rfl, _⟩ := RowIn.shape hS
  clear E h hS
  go_enter Tryd.func4, Tryd.ntmps4
  go_wp2_with (first | (go_at_call 8; refine (alive15 _ a (HE.out.late (ba (Below.refl _ _) _))).mono ?_; rintro e w1 ⟨rfl, b1⟩; have hr := (cb_new W p (.slice ta ts.length tc) (.slice sa os.length sc)).late b1; have HR1 := mkHid hr; have HB1 := mkHid (bt (ba (Below.refl _ _) _) b1); have x0 := hr.c0; have x1 := hr.c1; clear b1 hr) | (go_at_call 9; refine (new_ok _ _ p ts (HT.out.below HB1.out) HO.out).mono ?_; rintro e w2 ⟨b, xv, rfl, hg2, b2⟩; have HL2 : Hid (LG W w2 W.heap.size w1.heap.size b p (.slice ta ts.length tc) (.slice sa os.length sc) xv (.slice none 0 0) ts ⟨ts.map (fun t => (t, 0)), []⟩) := mkHid ⟨bt HB1.out b2, Nat.le_refl _, HR1.out.lt, HR1.out.late b2, hg2, start_ok HO.out.1 HO.out.2.1 HO.out.2.2.1 HO.out.2.2.2, start_ts ts⟩; clear x0 x1 b2 hg2; generalize w1.heap.size = B at *; have x0 := HL2.out.cb.c0; have x1 := HL2.out.cb.c1; have x2 := HL2.out.cb.c2; have x2a := kl (kl (kl x2 (.cells (Array.replicate ts.length (Value.slice none 0 0)) 54)) (.cells (rnC ts.length (fun _ => 0)) 3)) (.cells #[] 40)) | (at_builtin; clear hmk1 hmk2 x2a; have hm : World.ownsRow (w3of w2 ts.length) (w2.heap.size + 1 + 1) 40 5 (.slice (some ⟨w2.heap.size + 1 + 1, 0, none⟩) 0 0) 0 [] := (by have := World.ownsRow_made (base := w2.heap.size + 1 + 1) (e := 40) (size := 5) ((w2.alloc (.cells (Array.replicate ts.length (Value.slice none 0 0)) 54)).alloc (.cells (rnC ts.length (fun _ => 0)) 3)) #[] 0 (by simp) (by unfold maxLen; omega) rfl; simpa using this); refine wpList_append_src5 _ rfl (.tmp 44) (.tmp 46) 23 23 rfl (w2.heap.size + 1 + 1) 40 ie Tryd.underlying23 hie.out.1 (.agg #[.int .i64 0, .int .i64 0, .int .i64 0, .int .i64 0, .int .i64 0]) 40 hie.out.2.1 rfl hie.out.2.2.1 hie.out.2.2.2 (.slice (some ⟨w2.heap.size + 1 + 1, 0, none⟩) 0 0) 0 [] rfl hm (.slice sa os.length sc) os.length (os.flatMap co) rfl (RowIn.src Tryd.underlying23 (by omega) co_len oneo (HS.out.below (ba (ba (ba HL2.out.bel _) _) _))) (by unfold maxLen; omega) (by omega) (by simp) ?_; intro v4 w4 ho4 hg4 hat4; have HO4 : Hid (w4.ownsRow (w2.heap.size + 1 + 1) 40 5 v4 os.length (os.flatMap co)) := mkHid (by simpa only [Nat.zero_add, List.nil_append] using ho4); have HG4 : Hid ((w3of w2 ts.length).grownBy w4 (some (w2.heap.size + 1 + 1))) := mkHid hg4; have HA4 : Hid (v4.ownBlock = some (w2.heap.size + 1 + 1) ∨ v4.ownBlock = some (w3of w2 ts.length).heap.size) := mkHid hat4; have HB4 : Hid (w2.heap.size + 1 + 1 ≤ w4.heap.size) := mkHid (by have := hg4.size; simp at this; omega); clear ho4 hg4 hat4 hm x0 x1 x2) | (at_builtin; obtain ⟨v5, w5, hr5, ho5, hg5, hat5⟩ := run_append_zeros 400 (by omega) (by omega) w4 23 (w2.heap.size + 1 + 1) v4 os.length (os.flatMap co) HO4.out h40 HB4.out; refine Lib.wpList_append_run _ rfl (.tmp 47) _ 23 3 rfl v4 (.int .i64 400) rfl rfl v5 w5 hr5 ?_; obtain ⟨bc, cc, rfl, hrs⟩ := runs_start HL2.out rfl h40 HG4.out hg5 HA4.out ho5; have HRS := mkHid hrs; clear hrs hr5 ho5 hg5 hat5 HO4 HG4 HA4 HB4 HL2))
  generalize w2.heap.size = bw at *
  obtain ⟨R, hR⟩ : ∃ R, R = W.heap.size := ⟨_, rfl⟩
  rw [← hR] at HRS ⊢
  have HRW := mkHid hR
  clear hR
  generalize bw + 1 = br at *
  go_loopw [50] (fun iv wr => ∃ (i : Nat) (jv : Value) (s : Gt) (rv : List Value), iv = .int .i64 (i : Int) ∧ i ≤ os.length + 400 ∧ i ≤ 1501 ∧ Hid (RS W wr R B b p (.slice ta ts.length tc) (.slice sa os.length sc) xv jv ts s bc bw br (.slice (some ⟨bc, 0, none⟩) (os.length + 400) cc) (os ++ zops) rv (wantOf s.js) (ranOf s.js))) (fun iv _ => os.length + 400 - (intOf iv).toNat)
  case atStart => exact ⟨0, _, _, _, rfl, by omega, by omega, HRS⟩
  case round =>
    clear HRS
    obtain ⟨i, jv, s, rv, rfl, hi, hi2, HL⟩ := hrel
    have HEE := mkHid (HES.out.late HL.out.lg.bel)
    by_cases hlt : i < os.length + 400
    · obtain ⟨sb, off, o, hsb, ho, o0, o1, o2, o3, o4⟩ := HL.out.cp.cells (Below.refl _ _) i (by rw [List.length_append, zops_len]; exact hlt)
      simp only [Option.some.injEq, Addr.mk.injEq, and_true] at hsb
      obtain ⟨hq1, hq2⟩ := hsb
      subst hq1
      subst hq2
      simp only [Nat.zero_add] at o0 o1 o2 o3 o4
      have hli : (i : Int) < (os.length : Int) + 400 := by omega
      clear ho
      obtain ⟨kd, wh, tk, nw, tkk⟩ := o
      simp only at o0 o1 o2 o3 o4
      by_cases hle : i ≤ 1500
      · have hlj : (i : Int) ≤ 1500 := by omega
        by_cases hk1 : kd = 1
        · subst hk1
          have hne : (∃ ad, eg a (relC s tk nw) = vE ad ∧ ¬ relC s tk nw = 0) ∨ (0 ≤ nw ∧ nw ≤ 1099511627776 ∧ ∃ (ii : Nat) (x : Tq), tk = (ii : Int) ∧ ii < s.xs.length ∧ s.xs[ii]? = some x ∧ relC s tk nw = 0 ∧ s.js.length < 64) := by
            rcases relC_cases s tk nw with ⟨e, hc⟩ | ⟨n0, n1, ii, x, e1, hi', hx, ⟨e, _⟩ | ⟨e, _⟩ | ⟨e, _, h3⟩⟩
            · exact .inl ⟨_, by rw [e]; rfl, by omega⟩
            · exact .inl ⟨_, by rw [e]; rfl, by omega⟩
            · exact .inl ⟨_, by rw [e]; rfl, by omega⟩
            · exact .inr ⟨n0, n1, ii, x, e1, hi', hx, e, h3⟩
          rcases hne with ⟨ad, had, hrn⟩ | ⟨n0, n1, ii, x, rfl, hi', hx, e, h3⟩
          · have HNO : Hid (s.rel tk nw tkk = s) := mkHid (rel_no hrn)
            clear hrn
            go_wp2_with (go_at_call 13; refine (release_is B _ b p xv jv s tk nw tkk a (HL.out.lg.alloc _).gb HL.out.lg.ok (HEE.out.eg.late (ba (Below.refl _ _) _))).mono ?_; rintro e w3 ⟨he, jv3, hg3, hk3, hv3⟩; rw [had] at he; subst he; have HL3 := mkHid ((HL.out.alloc (.cells #[.int .i64 1, .int .i64 wh, .int .i64 tk, .int .i64 nw, .int .i64 tkk] 40)).call hg3 hk3 hv3 (HL.out.lg.ok.rel tk nw tkk) (rel_ts s tk nw tkk)); have hx3 := (hk3.block wr.heap.size (by simp) (fun f => by have := (HL.out.lg.gb.foot f).2; omega)).trans (heap_alloc_new wr (.cells #[.int .i64 1, .int .i64 wh, .int .i64 tk, .int .i64 nw, .int .i64 tkk] 40)); have z0 := cell_of_block (i := 0) hx3 rfl; have z2 := cell_of_block (i := 2) hx3 rfl; have z3 := cell_of_block (i := 3) hx3 rfl; have z4 := cell_of_block (i := 4) hx3 rfl; have HSZ := mkHid (lt_of_heap hx3); clear hg3 hk3 hv3 hx3)
            go_roundw
            case rel => exact ⟨i + 1, jv3, _, rv, by go_num, by omega, by omega, mkHid (HL3.out.congr (fun k => by rw [HNO.out]) (fun k => by rw [HNO.out]))⟩
            case measure => simp [intOf]; omega
          · obtain ⟨⟨xc, xp, xd, xs⟩, xa⟩ := x
            have hxt : ts[ii]? = some (xc, xp, xd, xs) := by rw [← HL.out.lg.e]; exact ts_at hx
            obtain ⟨k1, k2, k3, k4, k5, k6⟩ := HL.out.lg.ok.ok _ (List.mem_of_getElem? hx)
            simp only at k1 k2 k3 k4 k5 k6
            have eD : IntKind.i64.wrap (nw + xd) = nw + xd := wfit (by omega) (by omega)
            have hiin := (List.getElem?_eq_some_iff.mp hxt).1
            obtain ⟨tb, toff, tc1, tc2, tc3, tc4, rfl, htt, t0, t1, t2, t3⟩ := HT.out.at (Below.refl _ _) ii hiin
            rw [hxt] at htt
            simp only [Option.some.injEq, Prod.mk.injEq] at htt
            obtain ⟨g1, g2, g3, g4⟩ := htt
            subst g1
            subst g2
            subst g3
            subst g4
            have hii : (ii : Int) < ts.length := by omega
            have HEQ : Hid (s.rel ii nw tkk = s.put ii ((xc, xp, xd, xs), xa) nw tkk) := mkHid (rel_yes e hx)
            have hE0 : eg a (relC s ii nw) = .nilIface := by rw [e]; rfl
            obtain ⟨rvv, hrv⟩ : ∃ v, rv[ii]? = some v := ⟨_, List.getElem?_eq_getElem (by rw [HL.out.ws.ln]; exact hiin)⟩
            obtain ⟨ra, rc, hrvs, _⟩ := RowIn.shape (HL.out.ws.row ii rvv hrv).1
            obtain ⟨NL, hNL⟩ : ∃ n, n = (wantOf s.js ii).length := ⟨_, rfl⟩
            rw [← hNL] at hrvs
            subst hrvs
            have HRV := mkHid hrv
            have HF : Hid ((wantOf s.js ii).length ≤ 64) := mkHid (by have := want_len (s := s) ii; omega)
            clear hrv hNL e hx hxt hi' h3 k1 k2 k4 k5 k6
            go_wp2_with (go_at_call 13; refine (release_is B _ b p xv jv s ii nw tkk a (HL.out.lg.alloc _).gb HL.out.lg.ok (HEE.out.eg.late (ba (Below.refl _ _) _))).mono ?_; rintro e w3 ⟨he, jv3, hg3, hk3, hv3⟩; rw [hE0] at he; subst he; have HL3 := mkHid ((HL.out.alloc (.cells #[.int .i64 1, .int .i64 wh, .int .i64 (ii : Int), .int .i64 nw, .int .i64 tkk] 40)).call hg3 hk3 hv3 (HL.out.lg.ok.rel ii nw tkk) (rel_ts s ii nw tkk)); have hx3 := (hk3.block wr.heap.size (by simp) (fun f => by have := (HL.out.lg.gb.foot f).2; omega)).trans (heap_alloc_new wr (.cells #[.int .i64 1, .int .i64 wh, .int .i64 (ii : Int), .int .i64 nw, .int .i64 tkk] 40)); have z0 := cell_of_block (i := 0) hx3 rfl; have z2 := cell_of_block (i := 2) hx3 rfl; have z3 := cell_of_block (i := 3) hx3 rfl; have z4 := cell_of_block (i := 4) hx3 rfl; have HSZ := mkHid (lt_of_heap hx3); have x1 := HL3.out.lg.cb.c1; have y0 := kc t0 HL3.out.lg.bel; have y1 := kc t1 HL3.out.lg.bel; have y2 := kc t2 HL3.out.lg.bel; have y3 := kc t3 HL3.out.lg.bel; have q := cell_of_block (i := ii) (v := .slice ra NL rc) HL3.out.ws.tb (by rw [List.getElem?_toArray]; exact HRV.out); clear hg3 hk3 hv3 hx3)
            have HL1 := mkHid (HL3.out.alloc (.cells #[.int .i64 xc, .int .i64 xp, .int .i64 xd, .int .i64 xs] 37))
            have d0 := kl z0 (.cells #[.int .i64 xc, .int .i64 xp, .int .i64 xd, .int .i64 xs] 37)
            have d2 := kl z2 (.cells #[.int .i64 xc, .int .i64 xp, .int .i64 xd, .int .i64 xs] 37)
            have d3 := kl z3 (.cells #[.int .i64 xc, .int .i64 xp, .int .i64 xd, .int .i64 xs] 37)
            have d4 := kl z4 (.cells #[.int .i64 xc, .int .i64 xp, .int .i64 xd, .int .i64 xs] 37)
            have dq := kl q (.cells #[.int .i64 xc, .int .i64 xp, .int .i64 xd, .int .i64 xs] 37)
            have e0 : (w3.alloc (.cells #[.int .i64 xc, .int .i64 xp, .int .i64 xd, .int .i64 xs] 37)).cell? ⟨w3.heap.size, 0, none⟩ = some (.int .i64 xc) := cell_of_block (i := 0) (heap_alloc_new w3 _) rfl
            have e2 : (w3.alloc (.cells #[.int .i64 xc, .int .i64 xp, .int .i64 xd, .int .i64 xs] 37)).cell? ⟨w3.heap.size, 2, none⟩ = some (.int .i64 xd) := cell_of_block (i := 2) (heap_alloc_new w3 _) rfl
            have HWX : Hid (∀ k, WF bw br rv k → ¬ k = wr.heap.size ∧ ¬ k = w3.heap.size) := mkHid (fun k f => by have := HL.out.ws.lt f; have := HSZ.out; omega)
            obtain ⟨W1, hW1⟩ : ∃ W1, W1 = w3.alloc (.cells #[.int .i64 xc, .int .i64 xp, .int .i64 xd, .int .i64 xs] 37) := ⟨_, rfl⟩
            rw [← hW1] at HL1 d0 d2 d3 d4 dq e0 e2 ⊢
            clear hW1 z0 z2 z3 z4 x1 y0 y1 y2 y3 q HSZ
            generalize w3.heap.size = Y at *
            generalize wr.heap.size = X at *
            have hT : W1.drew.cell? ⟨X, 2, none⟩ = some (.int .i64 (ii : Int)) ∧ W1.drew.cell? ⟨X, 3, none⟩ = some (.int .i64 nw) ∧ W1.drew.cell? ⟨X, 4, none⟩ = some (.int .i64 tkk) ∧ W1.drew.cell? ⟨bw, ii, none⟩ = some (.slice ra NL rc) ∧ W1.drew.cell? ⟨Y, 0, none⟩ = some (.int .i64 xc) ∧ W1.drew.cell? ⟨Y, 2, none⟩ = some (.int .i64 xd) := ⟨d2, d3, d4, dq, e0, e2⟩
            refine wp_region_till (fun w' => w'.cell? ⟨X, 2, none⟩ = some (.int .i64 (ii : Int)) ∧ w'.cell? ⟨X, 3, none⟩ = some (.int .i64 nw) ∧ w'.cell? ⟨X, 4, none⟩ = some (.int .i64 tkk) ∧ w'.cell? ⟨bw, ii, none⟩ = some (.slice ra NL rc) ∧ w'.cell? ⟨Y, 0, none⟩ = some (.int .i64 xc) ∧ w'.cell? ⟨Y, 2, none⟩ = some (.int .i64 xd)) 27 (by kernel_rfl) ?_
            refine freeD 0 77 (.slice (some ⟨bw, 0, none⟩) ts.length ts.length) rfl rfl (by kernel_rfl) (by kernel_rfl) (by kernel_rfl) (by decide) (fun _ _ _ h => h) (fun _ => hT) (Or.inl ⟨by kernel_rfl, by intro w _; go_simp⟩) ?_
            simp only [List.set_cons_zero, List.set_cons_succ]
            refine freeD 1 78 (.pointer (some ⟨X, 2, none⟩)) rfl rfl (by kernel_rfl) (by kernel_rfl) (by kernel_rfl) (by decide) (fun _ _ _ h => h) (fun _ => hT) (Or.inl ⟨by kernel_rfl, by intro w _; go_simp⟩) ?_
            simp only [List.set_cons_zero, List.set_cons_succ]
            refine firstD 2 79 (.int .i64 (ii : Int)) rfl rfl (by kernel_rfl) (by kernel_rfl) (by kernel_rfl) (by kernel_rfl) (by decide) (by kernel_rfl) (fun _ _ _ h => h) (Or.inl ⟨by kernel_rfl, by intro w hSw; (try dsimp only at hSw); go_simp⟩) hT ?_
            simp only [List.set_cons_zero, List.set_cons_succ]
            refine freeD 3 80 (.slice (some ⟨bw, 0, none⟩) ts.length ts.length) rfl rfl (by kernel_rfl) (by kernel_rfl) (by kernel_rfl) (by decide) (fun _ _ _ h => h) (fun _ => hT) (Or.inl ⟨by kernel_rfl, by intro w _; go_simp⟩) ?_
            simp only [List.set_cons_zero, List.set_cons_succ]
            refine freeD 4 81 (.pointer (some ⟨X, 2, none⟩)) rfl rfl (by kernel_rfl) (by kernel_rfl) (by kernel_rfl) (by decide) (fun _ _ _ h => h) (fun _ => hT) (Or.inl ⟨by kernel_rfl, by intro w _; go_simp⟩) ?_
            simp only [List.set_cons_zero, List.set_cons_succ]
            refine firstD 5 82 (.int .i64 (ii : Int)) rfl rfl (by kernel_rfl) (by kernel_rfl) (by kernel_rfl) (by kernel_rfl) (by decide) (by kernel_rfl) (fun _ _ _ h => h) (Or.inl ⟨by kernel_rfl, by intro w hSw; (try dsimp only at hSw); go_simp⟩) hT ?_
            simp only [List.set_cons_zero, List.set_cons_succ]
            refine freeD 6 83 (.pointer (some ⟨bw, ii, none⟩)) rfl rfl (by kernel_rfl) (by kernel_rfl) (by kernel_rfl) (by decide) (fun _ _ _ h => h) (fun _ => hT) (Or.inl ⟨by kernel_rfl, by intro w _; go_simp⟩) ?_
            simp only [List.set_cons_zero, List.set_cons_succ]
            refine firstD 7 84 (.slice ra NL rc) rfl rfl (by kernel_rfl) (by kernel_rfl) (by kernel_rfl) (by kernel_rfl) (by decide) (by kernel_rfl) (fun _ _ _ h => h) (Or.inl ⟨by kernel_rfl, by intro w hSw; (try dsimp only at hSw); go_simp⟩) hT ?_
            simp only [List.set_cons_zero, List.set_cons_succ]
            refine freeD 8 85 (.pointer (some ⟨X, 2, none⟩)) rfl rfl (by kernel_rfl) (by kernel_rfl) (by kernel_rfl) (by decide) (fun _ _ _ h => h) (fun _ => hT) (Or.inl ⟨by kernel_rfl, by intro w _; go_simp⟩) ?_
            simp only [List.set_cons_zero, List.set_cons_succ]
            refine firstD 9 86 (.int .i64 (ii : Int)) rfl rfl (by kernel_rfl) (by kernel_rfl) (by kernel_rfl) (by kernel_rfl) (by decide) (by kernel_rfl) (fun _ _ _ h => h) (Or.inl ⟨by kernel_rfl, by intro w hSw; (try dsimp only at hSw); go_simp⟩) hT ?_
            simp only [List.set_cons_zero, List.set_cons_succ]
            refine freeD 10 87 (.pointer (some ⟨X, 3, none⟩)) rfl rfl (by kernel_rfl) (by kernel_rfl) (by kernel_rfl) (by decide) (fun _ _ _ h => h) (fun _ => hT) (Or.inl ⟨by kernel_rfl, by intro w _; go_simp⟩) ?_
            simp only [List.set_cons_zero, List.set_cons_succ]
            refine firstD 11 88 (.int .i64 nw) rfl rfl (by kernel_rfl) (by kernel_rfl) (by kernel_rfl) (by kernel_rfl) (by decide) (by kernel_rfl) (fun _ _ _ h => h) (Or.inl ⟨by kernel_rfl, by intro w hSw; (try dsimp only at hSw); go_simp⟩) hT ?_
            simp only [List.set_cons_zero, List.set_cons_succ]
            refine freeD 12 89 (.pointer (some ⟨X, 3, none⟩)) rfl rfl (by kernel_rfl) (by kernel_rfl) (by kernel_rfl) (by decide) (fun _ _ _ h => h) (fun _ => hT) (Or.inl ⟨by kernel_rfl, by intro w _; go_simp⟩) ?_
            simp only [List.set_cons_zero, List.set_cons_succ]
            refine firstD 13 90 (.int .i64 nw) rfl rfl (by kernel_rfl) (by kernel_rfl) (by kernel_rfl) (by kernel_rfl) (by decide) (by kernel_rfl) (fun _ _ _ h => h) (Or.inl ⟨by kernel_rfl, by intro w hSw; (try dsimp only at hSw); go_simp⟩) hT ?_
            simp only [List.set_cons_zero, List.set_cons_succ]
            refine freeD 14 91 (.pointer (some ⟨Y, 2, none⟩)) rfl rfl (by kernel_rfl) (by kernel_rfl) (by kernel_rfl) (by decide) (fun _ _ _ h => h) (fun _ => hT) (Or.inl ⟨by kernel_rfl, by intro w _; go_simp⟩) ?_
            simp only [List.set_cons_zero, List.set_cons_succ]
            refine firstD 15 92 (.int .i64 xd) rfl rfl (by kernel_rfl) (by kernel_rfl) (by kernel_rfl) (by kernel_rfl) (by decide) (by kernel_rfl) (fun _ _ _ h => h) (Or.inl ⟨by kernel_rfl, by intro w hSw; (try dsimp only at hSw); go_simp⟩) hT ?_
            simp only [List.set_cons_zero, List.set_cons_succ]
            refine freeD 16 93 (.int .i64 (nw + xd)) rfl rfl (by kernel_rfl) (by kernel_rfl) (by kernel_rfl) (by decide) (fun _ _ _ h => h) (fun _ => hT) (Or.inl ⟨by kernel_rfl, by intro w _; go_simp⟩) ?_
            simp only [List.set_cons_zero, List.set_cons_succ]
            refine freeD 17 94 (.pointer (some ⟨X, 4, none⟩)) rfl rfl (by kernel_rfl) (by kernel_rfl) (by kernel_rfl) (by decide) (fun _ _ _ h => h) (fun _ => hT) (Or.inl ⟨by kernel_rfl, by intro w _; go_simp⟩) ?_
            simp only [List.set_cons_zero, List.set_cons_succ]
            refine firstD 18 95 (.int .i64 tkk) rfl rfl (by kernel_rfl) (by kernel_rfl) (by kernel_rfl) (by kernel_rfl) (by decide) (by kernel_rfl) (fun _ _ _ h => h) (Or.inl ⟨by kernel_rfl, by intro w hSw; (try dsimp only at hSw); go_simp⟩) hT ?_
            simp only [List.set_cons_zero, List.set_cons_succ]
            refine freeD 19 96 (.int .i64 (max tkk 1)) rfl rfl (by kernel_rfl) (by kernel_rfl) (by kernel_rfl) (by decide) (fun _ _ _ h => h) (fun _ => hT) (Or.inl ⟨by kernel_rfl, by intro w _; first | (go_simp; done) | (go_simp; split <;> omega) | (go_simp; omega)⟩) ?_
            simp only [List.set_cons_zero, List.set_cons_succ]
            refine freeD 20 97 (.pointer (some ⟨Y, 0, none⟩)) rfl rfl (by kernel_rfl) (by kernel_rfl) (by kernel_rfl) (by decide) (fun _ _ _ h => h) (fun _ => hT) (Or.inl ⟨by kernel_rfl, by intro w _; go_simp⟩) ?_
            simp only [List.set_cons_zero, List.set_cons_succ]
            refine firstD 21 98 (.int .i64 xc) rfl rfl (by kernel_rfl) (by kernel_rfl) (by kernel_rfl) (by kernel_rfl) (by decide) (by kernel_rfl) (fun _ _ _ h => h) (Or.inl ⟨by kernel_rfl, by intro w hSw; (try dsimp only at hSw); go_simp⟩) hT ?_
            simp only [List.set_cons_zero, List.set_cons_succ]
            refine freeD 22 99 (.int .i64 (min (max tkk 1) xc)) rfl rfl (by kernel_rfl) (by kernel_rfl) (by kernel_rfl) (by decide) (fun _ _ _ h => h) (fun _ => hT) (Or.inl ⟨by kernel_rfl, by intro w _; first | (go_simp; done) | (go_simp; split <;> omega) | (go_simp; omega)⟩) ?_
            simp only [List.set_cons_zero, List.set_cons_succ]
            refine freeD 23 100 (.agg #[.int .i64 (ii : Int), .int .i64 nw, .int .i64 (nw + xd), .int .i64 (min (max tkk 1) xc), .int .i64 0]) rfl rfl (by kernel_rfl) (by kernel_rfl) (by kernel_rfl) (by decide) (fun _ _ _ h => h) (fun _ => hT) (Or.inl ⟨by kernel_rfl, by intro w _; go_simp⟩) ?_
            simp only [List.set_cons_zero, List.set_cons_succ]
            refine wpT_ready (rs := [24]) (by kernel_rfl) (by simp) (AllT.cons rfl (fun K hK => ?_) AllT.nil)
            go_simp
            obtain ⟨W4, hW4⟩ : ∃ W4, W4 = (W1.alloc (.cells #[.int .i64 (ii : Int), .int .i64 nw, .int .i64 (nw + xd), .int .i64 (min (max tkk 1) xc), .int .i64 0] 45)).drew := ⟨_, rfl⟩
            have b4 : Below W1.heap.size W1 W4 := by rw [hW4]; exact (ba (Below.refl _ _) _).drew
            have HR4 : Hid (RowIn 5 cj W4 (.slice (some ⟨W1.heap.size, 0, none⟩) 1 1) [(⟨ii, nw, nw + xd, (min (max tkk 1) xc), 0⟩ : Jb)]) := mkHid (by
              rw [hW4]
              exact RowIn.below (rowOne (f := cj) (⟨ii, nw, nw + xd, (min (max tkk 1) xc), 0⟩ : Jb) W1 45) (Below.refl _ _).drew)
            have HL4 := mkHid (HL1.out.late b4)
            have f0 := kc d0 b4
            have f2 := kc d2 b4
            have f3 := kc d3 b4
            have f4 := kc d4 b4
            have fq := kc dq b4
            have fe0 := kc e0 b4
            have fe2 := kc e2 b4
            rw [← hW4]
            clear hW4 b4 hT d0 d2 d3 d4 dq e0 e2
            refine hK.out _ _ (fun _ => ⟨f2, f3, f4, fq, fe0, fe2⟩) ?_
            clear hK K
            (try simp only [Act.put])
            generalize W1.heap.size = y3 at *
            refine wpT_ready (rs := [25]) (by kernel_rfl) (by simp) (AllT.cons rfl (fun K hK => ?_) AllT.nil)
            refine step_append_rj (w := W4) rfl (.tmp 84) (.tmp 101) rfl (.slice ra NL rc) _ (wantOf s.js ii) ⟨ii, nw, nw + xd, (min (max tkk 1) xc), 0⟩ (by simp [Act.eval]) (by simp [Act.eval]) (HL4.out.ws.row ii _ HRV.out) (srcOne (f := cj) (x := (⟨ii, nw, nw + xd, (min (max tkk 1) xc), 0⟩ : Jb)) Tryd.underlying54 (by omega) cj_len onej HR4.out) HF.out ?_
            intro v6 w6 hr6 hg6 hat6
            have hk6 := Kept.grown hg6 (F := fun k => (.slice ra NL rc : Value).ownBlock = some k) (fun k hk => hk)
            have HP := mkHid (HL4.out.ws.put HRV.out hk6 hr6 (fun k e => by
              rcases hat6 with a | a
              · exact .inl (a ▸ e)
              · rw [a] at e; simp at e; exact .inr (by omega)))
            have hfr : ∀ k, (.slice ra NL rc : Value).ownBlock = some k → WF bw br rv k := fun k e => WF.own HRV.out e
            have g2 := hk6.cell f2 (fun e => (HWX.out _ (hfr _ e)).1 rfl)
            have g3 := hk6.cell f3 (fun e => (HWX.out _ (hfr _ e)).1 rfl)
            have g4 := hk6.cell f4 (fun e => (HWX.out _ (hfr _ e)).1 rfl)
            have gq := hk6.cell fq (fun e => (HL4.out.ws.w1 ii _ HRV.out).1 e)
            have ge0 := hk6.cell fe0 (fun e => (HWX.out _ (hfr _ e)).2 rfl)
            have ge2 := hk6.cell fe2 (fun e => (HWX.out _ (hfr _ e)).2 rfl)
            have hfz : w6.frozen? ⟨bw, ii, none⟩ = false := frozen_of_block ((hk6.block bw (lt_of_heap HL4.out.ws.tb) (HL4.out.ws.w1 ii _ HRV.out).1).trans HL4.out.ws.tb)
            obtain ⟨na6, nc6, hv6, _⟩ := RowIn.shape hr6.1
            obtain ⟨NM, hNM⟩ : ∃ n, n = (wantOf s.js ii ++ [(⟨ii, nw, nw + xd, (min (max tkk 1) xc), 0⟩ : Jb)]).length := ⟨_, rfl⟩
            rw [← hNM] at hv6
            subst hv6
            clear hNM hr6 hg6 hat6 hk6 hfr
            refine hK.out _ _ (fun _ => ⟨g2, g3, g4, gq, ge0, ge2⟩) ?_
            clear hK K
            (try simp only [Act.put])
            refine freeD 26 103 (.pointer (some ⟨bw, ii, none⟩)) rfl rfl (by kernel_rfl) (by kernel_rfl) (by kernel_rfl) (by decide) (fun _ _ _ h => h) (fun _ => ⟨g2, g3, g4, gq, ge0, ge2⟩) (Or.inl ⟨by kernel_rfl, by intro w _; go_simp⟩) ?_
            simp only [List.set_cons_zero, List.set_cons_succ]
            refine wpT_ready (rs := [27]) (by kernel_rfl) (by simp) (AllT.cons rfl (fun K hK => ?_) AllT.nil)
            go_simp
            refine hK.out _ _ (bool_no (by kernel_rfl)) ?_
            clear hK K g2 g3 g4 gq ge0 ge2 hfz
            refine wpT_done (by kernel_rfl) ?_ _
            have h0 := HP.out.2.1.cell f0 (fun e => (HWX.out _ e).1 rfl)
            generalize w6.setCell ⟨bw, ii, none⟩ (.slice na6 NM nc6) = W7 at *
            clear f0 f2 f3 f4 fq fe0 fe2
            go_wp2
            go_roundw
            case rel => exact ⟨i + 1, jv3, _, _, by go_num, by omega, by omega, mkHid ((HL4.out.own HP.out.2.1 HP.out.1 HP.out.2.2).congr (fun k => by
                rw [HEQ.out]
                have hp := want_put (s := s) (i := ii) (x := ((xc, xp, xd, xs), xa)) (now := nw) (ticks := tkk)
                by_cases hki : k = ii
                · subst hki
                  rw [upd_at, hp.1]
                  rfl
                · rw [upd_off _ _ hki, hp.2.1 k hki]) (fun k => by
                rw [HEQ.out]
                exact ((want_put (s := s) (i := ii) (x := ((xc, xp, xd, xs), xa)) (now := nw) (ticks := tkk)).2.2 k).symm))⟩
            case measure => simp [intOf]; omega
        · have hk2 : (kd == 1) = false := by simpa using hk1
          clear hk1
          by_cases hz : s.js.length = 0
          · go_wp2_with (go_at_call 15; refine (run_none B _ b p xv jv s _ (HL.out.lg.alloc _).gb hz (HEE.out.late (ba (Below.refl _ _) _)).state).mono ?_; rintro e w3 ⟨rfl, b3⟩; have HL3 := mkHid ((HL.out.alloc (.cells #[.int .i64 kd, .int .i64 wh, .int .i64 tk, .int .i64 nw, .int .i64 tkk] 40)).late b3); clear b3)
            go_roundw
            case rel => exact ⟨i + 1, jv, s, rv, by go_num, by omega, by omega, mkHid (HL3.out.alloc _)⟩
            case measure => simp [intOf]; omega
          · obtain ⟨j, hjx⟩ : ∃ j, s.js[nx p s.ts s.js]? = some j := ⟨_, List.getElem?_eq_getElem (nx_lt p s.ts s.js (by omega))⟩
            by_cases hlf : j.lf = 1
            · obtain ⟨x, hx, jo, _⟩ := HL.out.lg.ok.j _ _ hjx
              have hxt : ts[j.tk]? = some x.1 := by rw [← HL.out.lg.e]; exact ts_at hx
              obtain ⟨k1, k2, k3, k4, k5, k6⟩ := HL.out.lg.ok.ok x (List.mem_of_getElem? hx)
              have hjl := jo.l
              have hjn := jo.n
              have hjc := jo.c
              have hjt := (List.getElem?_eq_some_iff.mp hxt).1
              obtain ⟨r, wa, wb, wc, wd, we⟩ := want_run HL.out.lg.ok hjx
              obtain ⟨rvv, hrv⟩ : ∃ v, rv[j.tk]? = some v := ⟨_, List.getElem?_eq_getElem (by rw [HL.out.ws.ln]; exact hjt)⟩
              have hrow := HL.out.ws.row j.tk rvv hrv
              rw [wa] at hrow
              obtain ⟨ra, rc, rfl, _⟩ := RowIn.shape hrow.1
              obtain ⟨gb, off, x0, rfl, hx0, hc0⟩ := RowIn.at hrow.1 (Below.refl _ _) 0 (by simp)
              clear hrow hx0 hc0
              rw [List.length_cons] at hrv
              obtain ⟨NR, hNR⟩ : ∃ n, n = r.length := ⟨_, rfl⟩
              rw [← hNR] at hrv
              have HRV := mkHid hrv
              have HWA := mkHid wa
              have HWB := mkHid wb
              have HWC := mkHid wc
              have HWD := mkHid wd
              have HWE := mkHid we
              have HJX := mkHid hjx
              have HLF := mkHid hlf
              have hn1 : ¬ ((NR : Int) + 1 = 0) := by omega
              have hn2 : ((NR : Int) + 1 == 0) = false := by simp; omega
              have hjti : (j.tk : Int) < ts.length := by omega
              have HJT : Hid (j.tk < ts.length) := mkHid hjt
              have HNR := mkHid hNR
              clear hrv wa wb wc wd we hjx hx hxt jo hz hNR
              obtain ⟨tj, rj, dj, lj, nj⟩ := j
              simp only at hjl hjn hjc hlf hjti
              simp only [tot] at HWA
              have eD : IntKind.i64.wrap (nj + 1) = nj + 1 := wfit (by omega) (by omega)
              have HL0 : Hid (lj - 1 = 0) := mkHid (by omega)
              have HFL : Hid (lj + nj = nj + 1) := mkHid (by omega)
              have eW : IntKind.i64.wrap (nj + 1 + 0) = nj + 1 := by rw [Int.add_zero]; exact eD
              have hjn0 : (0 : Int) ≤ tj := by omega
              clear hjl hjn hjc hlf k1 k2 k3 k4 k5 k6
              go_wp2_with (go_at_call 15; refine (run_end B _ b p xv jv s _ (HL.out.lg.alloc _).gb HL.out.lg.ok HJX.out HLF.out).mono ?_; rintro e w3 ⟨rfl, jv3, hg3, hk3, hv3⟩; have HL3 := mkHid ((HL.out.alloc (.cells #[.int .i64 kd, .int .i64 wh, .int .i64 tk, .int .i64 nw, .int .i64 tkk] 40)).call hg3 hk3 hv3 (HL.out.lg.ok.run HJX.out) (run_ts s _)); clear hg3 hk3 hv3; simp only [Jb.ran]; rw [HL0.out]; have q3 := cell_of_block (i := tj) (v := .slice (some ⟨gb, off, none⟩) (NR + 1) rc) HL3.out.ws.tb (by rw [List.getElem?_toArray]; exact HRV.out); have r3 := cell_of_block (i := tj) HL3.out.ws.rb (rnC_at _ HJT.out); rw [HWB.out] at r3; simp only at r3; have fz3 := frozen_of_block (i := tj) HL3.out.ws.rb; have HL5 := mkHid (HL3.out.alloc (.cells #[.int .i64 (tj : Int), .int .i64 rj, .int .i64 dj, .int .i64 0, .int .i64 (nj + 1)] 45)); have HN := mkHid (HL5.out.ws.num tj (nj + 1)); have HL6 := mkHid (HL5.out.own HN.out.2 HN.out.1 (fun k e => .inl e)); have q6 := cell_of_block (i := tj) (v := .slice (some ⟨gb, off, none⟩) (NR + 1) rc) HL6.out.ws.tb (by rw [List.getElem?_toArray]; exact HRV.out); have r6 := cell_of_block (i := tj) HL6.out.ws.rb (rnC_at _ HJT.out); rw [upd_at] at r6; have hrow := HL6.out.ws.row tj _ HRV.out; rw [HWA.out, HFL.out] at hrow; obtain ⟨p0, p1, p2, p3, p4⟩ := hrow.first; simp only at p0 p1 p2 p3 p4; clear hrow; have HJW : Hid (¬ WF bw br rv w3.heap.size) := mkHid (fun f => by have := HL3.out.ws.lt f; omega); have b0 := HN.out.2.cell (cell_of_block (i := 0) (heap_alloc_new w3 (.cells #[.int .i64 (tj : Int), .int .i64 rj, .int .i64 dj, .int .i64 0, .int .i64 (nj + 1)] 45)) rfl) HJW.out; have b1 := HN.out.2.cell (cell_of_block (i := 1) (heap_alloc_new w3 (.cells #[.int .i64 (tj : Int), .int .i64 rj, .int .i64 dj, .int .i64 0, .int .i64 (nj + 1)] 45)) rfl) HJW.out; have b2 := HN.out.2.cell (cell_of_block (i := 2) (heap_alloc_new w3 (.cells #[.int .i64 (tj : Int), .int .i64 rj, .int .i64 dj, .int .i64 0, .int .i64 (nj + 1)] 45)) rfl) HJW.out; have b3 := HN.out.2.cell (cell_of_block (i := 3) (heap_alloc_new w3 (.cells #[.int .i64 (tj : Int), .int .i64 rj, .int .i64 dj, .int .i64 0, .int .i64 (nj + 1)] 45)) rfl) HJW.out; have b4 := HN.out.2.cell (cell_of_block (i := 4) (heap_alloc_new w3 (.cells #[.int .i64 (tj : Int), .int .i64 rj, .int .i64 dj, .int .i64 0, .int .i64 (nj + 1)] 45)) rfl) HJW.out)
              go_quiet (fail)
              go_wp2
              have HL8 := mkHid ((HL6.out.alloc (.cells #[.int .i64 (tj : Int), .int .i64 rj, .int .i64 dj, .int .i64 (nj + 1), .int .i64 0] 45)).drewN nq)
              have s0 : ((((w3.alloc (.cells #[.int .i64 (tj : Int), .int .i64 rj, .int .i64 dj, .int .i64 0, .int .i64 (nj + 1)] 45)).setCell ⟨br, tj, none⟩ (.int .i64 (nj + 1))).alloc (.cells #[.int .i64 (tj : Int), .int .i64 rj, .int .i64 dj, .int .i64 (nj + 1), .int .i64 0] 45)).drewN nq).cell? ⟨w3.heap.size, 0, none⟩ = some (.int .i64 (tj : Int)) := kl b0 (.cells #[.int .i64 (tj : Int), .int .i64 rj, .int .i64 dj, .int .i64 (nj + 1), .int .i64 0] 45)
              have sq : ((((w3.alloc (.cells #[.int .i64 (tj : Int), .int .i64 rj, .int .i64 dj, .int .i64 0, .int .i64 (nj + 1)] 45)).setCell ⟨br, tj, none⟩ (.int .i64 (nj + 1))).alloc (.cells #[.int .i64 (tj : Int), .int .i64 rj, .int .i64 dj, .int .i64 (nj + 1), .int .i64 0] 45)).drewN nq).cell? ⟨bw, tj, none⟩ = some (.slice (some ⟨gb, off, none⟩) (NR + 1) rc) := kl q6 (.cells #[.int .i64 (tj : Int), .int .i64 rj, .int .i64 dj, .int .i64 (nj + 1), .int .i64 0] 45)
              obtain ⟨W8, hW8⟩ : ∃ W8, W8 = (((w3.alloc (.cells #[.int .i64 (tj : Int), .int .i64 rj, .int .i64 dj, .int .i64 0, .int .i64 (nj + 1)] 45)).setCell ⟨br, tj, none⟩ (.int .i64 (nj + 1))).alloc (.cells #[.int .i64 (tj : Int), .int .i64 rj, .int .i64 dj, .int .i64 (nj + 1), .int .i64 0] 45)).drewN nq := ⟨_, rfl⟩
              rw [← hW8] at HL8 s0 sq ⊢
              clear hW8 q3 r3 fz3 q6 r6 p0 p1 p2 p3 p4 b0 b1 b2 b3 b4
              generalize w3.heap.size = J at *
              have hrw := HL8.out.ws.row tj _ HRV.out
              rw [HWA.out] at hrw
              obtain ⟨ta', tn', tc', v9, e9, en9, hsl, hrj, hob⟩ := hrw.tail
              simp only [Value.slice.injEq] at e9
              obtain ⟨q1, q2, q3⟩ := e9
              subst q1
              subst q2
              subst q3
              have HP := mkHid (HL8.out.ws.put HRV.out (Kept.refl _ _) hrj (fun k e => .inl (hob ▸ e)))
              have HL9 := mkHid (HL8.out.own HP.out.2.1 HP.out.1 HP.out.2.2)
              have HQ := mkHid (HL9.out.ws.num tj 0)
              have HLX := mkHid (HL9.out.own HQ.out.2 HQ.out.1 (fun k e => .inl e))
              have fz8 : W8.frozen? ⟨bw, tj, none⟩ = false := frozen_of_block HL8.out.ws.tb
              have fz9 : (W8.setCell ⟨bw, tj, none⟩ v9).frozen? ⟨br, tj, none⟩ = false := frozen_of_block HL9.out.ws.rb
              have c8 : W8.cell? ⟨bw, tj, none⟩ = some (.slice (some ⟨gb, off, none⟩) (NR + 1) rc) := sq
              have c9 := cell_of_block (i := tj) HL9.out.ws.rb (rnC_at _ HJT.out)
              obtain ⟨va, vc, hv9, _⟩ := RowIn.shape hrj.1
              rw [← HNR.out] at hv9
              subst hv9
              clear hrw hrj hob en9
              have hT : W8.drew.cell? ⟨J, 0, none⟩ = some (.int .i64 (tj : Int)) := s0
              have s9 : (W8.setCell ⟨bw, tj, none⟩ (.slice va NR vc)).cell? ⟨J, 0, none⟩ = some (.int .i64 (tj : Int)) := HP.out.2.1.cell s0 HJW.out
              refine wp_region_till (fun w' => w'.cell? ⟨J, 0, none⟩ = some (.int .i64 (tj : Int))) 15 (by kernel_rfl) ?_
              refine freeD 0 188 (.slice (some ⟨bw, 0, none⟩) ts.length ts.length) rfl rfl (by kernel_rfl) (by kernel_rfl) (by kernel_rfl) (by decide) (fun _ _ _ h => h) (fun _ => hT) (Or.inl ⟨by kernel_rfl, by intro w _; go_simp⟩) ?_
              simp only [List.set_cons_zero, List.set_cons_succ]
              refine freeD 1 189 (.pointer (some ⟨J, 0, none⟩)) rfl rfl (by kernel_rfl) (by kernel_rfl) (by kernel_rfl) (by decide) (fun _ _ _ h => h) (fun _ => hT) (Or.inl ⟨by kernel_rfl, by intro w _; go_simp⟩) ?_
              simp only [List.set_cons_zero, List.set_cons_succ]
              refine firstD 2 190 (.int .i64 (tj : Int)) rfl rfl (by kernel_rfl) (by kernel_rfl) (by kernel_rfl) (by kernel_rfl) (by decide) (by kernel_rfl) (fun _ _ _ h => h) (Or.inl ⟨by kernel_rfl, by intro w hSw; (try dsimp only at hSw); go_simp⟩) hT ?_
              simp only [List.set_cons_zero, List.set_cons_succ]
              refine freeD 3 191 (.slice (some ⟨br, 0, none⟩) ts.length ts.length) rfl rfl (by kernel_rfl) (by kernel_rfl) (by kernel_rfl) (by decide) (fun _ _ _ h => h) (fun _ => hT) (Or.inl ⟨by kernel_rfl, by intro w _; go_simp⟩) ?_
              simp only [List.set_cons_zero, List.set_cons_succ]
              refine freeD 4 192 (.pointer (some ⟨J, 0, none⟩)) rfl rfl (by kernel_rfl) (by kernel_rfl) (by kernel_rfl) (by decide) (fun _ _ _ h => h) (fun _ => hT) (Or.inl ⟨by kernel_rfl, by intro w _; go_simp⟩) ?_
              simp only [List.set_cons_zero, List.set_cons_succ]
              refine firstD 5 193 (.int .i64 (tj : Int)) rfl rfl (by kernel_rfl) (by kernel_rfl) (by kernel_rfl) (by kernel_rfl) (by decide) (by kernel_rfl) (fun _ _ _ h => h) (Or.inl ⟨by kernel_rfl, by intro w hSw; (try dsimp only at hSw); go_simp⟩) hT ?_
              simp only [List.set_cons_zero, List.set_cons_succ]
              refine freeD 6 194 (.slice (some ⟨bw, 0, none⟩) ts.length ts.length) rfl rfl (by kernel_rfl) (by kernel_rfl) (by kernel_rfl) (by decide) (fun _ _ _ h => h) (fun _ => hT) (Or.inl ⟨by kernel_rfl, by intro w _; go_simp⟩) ?_
              simp only [List.set_cons_zero, List.set_cons_succ]
              refine freeD 7 195 (.pointer (some ⟨J, 0, none⟩)) rfl rfl (by kernel_rfl) (by kernel_rfl) (by kernel_rfl) (by decide) (fun _ _ _ h => h) (fun _ => hT) (Or.inl ⟨by kernel_rfl, by intro w _; go_simp⟩) ?_
              simp only [List.set_cons_zero, List.set_cons_succ]
              refine firstD 8 196 (.int .i64 (tj : Int)) rfl rfl (by kernel_rfl) (by kernel_rfl) (by kernel_rfl) (by kernel_rfl) (by decide) (by kernel_rfl) (fun _ _ _ h => h) (Or.inl ⟨by kernel_rfl, by intro w hSw; (try dsimp only at hSw); go_simp⟩) hT ?_
              simp only [List.set_cons_zero, List.set_cons_succ]
              refine freeD 9 197 (.pointer (some ⟨bw, tj, none⟩)) rfl rfl (by kernel_rfl) (by kernel_rfl) (by kernel_rfl) (by decide) (fun _ _ _ h => h) (fun _ => hT) (Or.inl ⟨by kernel_rfl, by intro w _; go_simp⟩) ?_
              simp only [List.set_cons_zero, List.set_cons_succ]
              refine wpT_ready (rs := [10]) (by kernel_rfl) (by simp) (AllT.cons rfl (fun K hK => ?_) AllT.nil)
              go_simp
              refine hK.out _ _ (fun _ => hT) ?_
              clear hK K
              (try simp only [Act.put])
              refine freeD 11 199 (.slice va NR vc) rfl rfl (by kernel_rfl) (by kernel_rfl) (by kernel_rfl) (by decide) (fun _ _ _ h => h) (fun _ => hT) (Or.inl ⟨by kernel_rfl, by intro w _; exact yields_slice (t := 54) rfl elemJ.1 (by simpa [Act.eval] using hsl) w⟩) ?_
              simp only [List.set_cons_zero, List.set_cons_succ]
              refine freeD 12 200 (.pointer (some ⟨bw, tj, none⟩)) rfl rfl (by kernel_rfl) (by kernel_rfl) (by kernel_rfl) (by decide) (fun _ _ _ h => h) (fun _ => hT) (Or.inl ⟨by kernel_rfl, by intro w _; go_simp⟩) ?_
              simp only [List.set_cons_zero, List.set_cons_succ]
              refine wpT_ready (rs := [13]) (by kernel_rfl) (by simp) (AllT.cons rfl (fun K hK => ?_) AllT.nil)
              go_simp
              refine hK.out _ _ (fun _ => s9) ?_
              clear hK K
              (try simp only [Act.put])
              refine freeD 14 201 (.pointer (some ⟨br, tj, none⟩)) rfl rfl (by kernel_rfl) (by kernel_rfl) (by kernel_rfl) (by decide) (fun _ _ _ h => h) (fun _ => s9) (Or.inl ⟨by kernel_rfl, by intro w _; go_simp⟩) ?_
              simp only [List.set_cons_zero, List.set_cons_succ]
              refine wpT_ready (rs := [15]) (by kernel_rfl) (by simp) (AllT.cons rfl (fun K hK => ?_) AllT.nil)
              go_simp
              refine hK.out _ _ (bool_no (by kernel_rfl)) ?_
              clear hK K hT s0 s9 sq c8 c9 fz8 fz9
              refine wpT_done (by kernel_rfl) ?_ _
              generalize (W8.setCell ⟨bw, tj, none⟩ (.slice va NR vc)).setCell ⟨br, tj, none⟩ (.int .i64 0) = WX at *
              go_wp2
              go_roundw
              case rel => exact ⟨i + 1, jv3, _, _, by go_num, by omega, by omega, mkHid ((HLX.out.late (Below.refl _ _).drew).congr (fun k => by
                  by_cases hk : k = tj
                  · subst hk
                    rw [upd_at]
                    exact (HWD.out HLF.out).1.symm
                  · rw [upd_off _ _ hk]
                    exact (HWC.out k hk).1.symm) (fun k => by
                  by_cases hk : k = tj
                  · subst hk
                    rw [upd_at]
                    exact (HWD.out HLF.out).2.symm
                  · rw [upd_off _ _ hk, upd_off _ _ hk]
                    exact (HWC.out k hk).2.symm))⟩
              case measure => simp [intOf]; omega
            · obtain ⟨x, hx, jo, _⟩ := HL.out.lg.ok.j _ _ hjx
              have hxt : ts[j.tk]? = some x.1 := by rw [← HL.out.lg.e]; exact ts_at hx
              obtain ⟨k1, k2, k3, k4, k5, k6⟩ := HL.out.lg.ok.ok x (List.mem_of_getElem? hx)
              have hjl := jo.l
              have hjn := jo.n
              have hjc := jo.c
              have hjt := (List.getElem?_eq_some_iff.mp hxt).1
              obtain ⟨r, wa, wb, wc, wd, we⟩ := want_run HL.out.lg.ok hjx
              obtain ⟨rvv, hrv⟩ : ∃ v, rv[j.tk]? = some v := ⟨_, List.getElem?_eq_getElem (by rw [HL.out.ws.ln]; exact hjt)⟩
              have hrow := HL.out.ws.row j.tk rvv hrv
              rw [wa] at hrow
              obtain ⟨ra, rc, rfl, _⟩ := RowIn.shape hrow.1
              obtain ⟨gb, off, x0, rfl, hx0, hc0⟩ := RowIn.at hrow.1 (Below.refl _ _) 0 (by simp)
              clear hrow hx0 hc0
              rw [List.length_cons] at hrv
              obtain ⟨NR, hNR⟩ : ∃ n, n = r.length := ⟨_, rfl⟩
              rw [← hNR] at hrv
              have HRV := mkHid hrv
              have HWA := mkHid wa
              have HWB := mkHid wb
              have HWC := mkHid wc
              have HWD := mkHid wd
              have HWE := mkHid we
              have HJX := mkHid hjx
              have HLF := mkHid hlf
              have hn1 : ¬ ((NR : Int) + 1 = 0) := by omega
              have hn2 : ((NR : Int) + 1 == 0) = false := by simp; omega
              have hjti : (j.tk : Int) < ts.length := by omega
              have HJT : Hid (j.tk < ts.length) := mkHid hjt
              have HNR := mkHid hNR
              clear hrv wa wb wc wd we hjx hx hxt jo hz hNR
              obtain ⟨tj, rj, dj, lj, nj⟩ := j
              simp only at hjl hjn hjc hlf hjti
              simp only [tot] at HWA
              have eD : IntKind.i64.wrap (nj + 1) = nj + 1 := wfit (by omega) (by omega)
              obtain ⟨LJ, hLJ⟩ : ∃ LJ, LJ = lj - 1 := ⟨_, rfl⟩
              have HL0 : Hid (lj - 1 = LJ) := mkHid hLJ.symm
              obtain ⟨FL, hFL⟩ : ∃ FL, FL = lj + nj := ⟨_, rfl⟩
              have HFL : Hid (lj + nj = FL) := mkHid hFL.symm
              have eW : IntKind.i64.wrap (nj + 1 + LJ) = FL := by rw [wfit (by omega) (by omega)]; omega
              have hl1 : ¬ LJ = 0 := by omega
              have hl2 : (LJ == 0) = false := by simp; omega
              clear hLJ hFL
              have hjn0 : (0 : Int) ≤ tj := by omega
              clear hjl hjn hjc hlf k1 k2 k3 k4 k5 k6
              go_wp2_with (go_at_call 15; refine (run_on B _ b p xv jv s _ (HL.out.lg.alloc _).gb HL.out.lg.ok HJX.out HLF.out).mono ?_; rintro e w3 ⟨rfl, jv3, hg3, hk3, hv3⟩; have HL3 := mkHid ((HL.out.alloc (.cells #[.int .i64 kd, .int .i64 wh, .int .i64 tk, .int .i64 nw, .int .i64 tkk] 40)).call hg3 hk3 hv3 (HL.out.lg.ok.run HJX.out) (run_ts s _)); clear hg3 hk3 hv3; simp only [Jb.ran]; rw [HL0.out]; have q3 := cell_of_block (i := tj) (v := .slice (some ⟨gb, off, none⟩) (NR + 1) rc) HL3.out.ws.tb (by rw [List.getElem?_toArray]; exact HRV.out); have r3 := cell_of_block (i := tj) HL3.out.ws.rb (rnC_at _ HJT.out); rw [HWB.out] at r3; simp only at r3; have fz3 := frozen_of_block (i := tj) HL3.out.ws.rb; have HL5 := mkHid (HL3.out.alloc (.cells #[.int .i64 (tj : Int), .int .i64 rj, .int .i64 dj, .int .i64 LJ, .int .i64 (nj + 1)] 45)); have HN := mkHid (HL5.out.ws.num tj (nj + 1)); have HL6 := mkHid (HL5.out.own HN.out.2 HN.out.1 (fun k e => .inl e)); have q6 := cell_of_block (i := tj) (v := .slice (some ⟨gb, off, none⟩) (NR + 1) rc) HL6.out.ws.tb (by rw [List.getElem?_toArray]; exact HRV.out); have r6 := cell_of_block (i := tj) HL6.out.ws.rb (rnC_at _ HJT.out); rw [upd_at] at r6; have hrow := HL6.out.ws.row tj _ HRV.out; rw [HWA.out, HFL.out] at hrow; obtain ⟨p0, p1, p2, p3, p4⟩ := hrow.first; simp only at p0 p1 p2 p3 p4; clear hrow; have HJW : Hid (¬ WF bw br rv w3.heap.size) := mkHid (fun f => by have := HL3.out.ws.lt f; omega); have b0 := HN.out.2.cell (cell_of_block (i := 0) (heap_alloc_new w3 (.cells #[.int .i64 (tj : Int), .int .i64 rj, .int .i64 dj, .int .i64 LJ, .int .i64 (nj + 1)] 45)) rfl) HJW.out; have b1 := HN.out.2.cell (cell_of_block (i := 1) (heap_alloc_new w3 (.cells #[.int .i64 (tj : Int), .int .i64 rj, .int .i64 dj, .int .i64 LJ, .int .i64 (nj + 1)] 45)) rfl) HJW.out; have b2 := HN.out.2.cell (cell_of_block (i := 2) (heap_alloc_new w3 (.cells #[.int .i64 (tj : Int), .int .i64 rj, .int .i64 dj, .int .i64 LJ, .int .i64 (nj + 1)] 45)) rfl) HJW.out; have b3 := HN.out.2.cell (cell_of_block (i := 3) (heap_alloc_new w3 (.cells #[.int .i64 (tj : Int), .int .i64 rj, .int .i64 dj, .int .i64 LJ, .int .i64 (nj + 1)] 45)) rfl) HJW.out; have b4 := HN.out.2.cell (cell_of_block (i := 4) (heap_alloc_new w3 (.cells #[.int .i64 (tj : Int), .int .i64 rj, .int .i64 dj, .int .i64 LJ, .int .i64 (nj + 1)] 45)) rfl) HJW.out)
              go_quiet (fail)
              go_wp2
              go_roundw
              case rel => exact ⟨i + 1, jv3, _, rv, by go_num, by omega, by omega, mkHid (((HL6.out.alloc _).drewN nq).congr (fun k => by
                  by_cases hk : k = tj
                  · subst hk
                    exact HWA.out.trans (HWE.out HLF.out).1.symm
                  · exact (HWC.out k hk).1.symm) (fun k => by
                  by_cases hk : k = tj
                  · subst hk
                    rw [upd_at]
                    exact (HWE.out HLF.out).2.symm
                  · rw [upd_off _ _ hk]
                    exact (HWC.out k hk).2.symm))⟩
              case measure => simp [intOf]; omega
      · have hlj : (1500 : Int) < i := by omega
        go_wp2
        go_ret
        exact ⟨rfl, HRW.out ▸ (HL.out.lg.alloc _).bel⟩
    · obtain rfl : i = os.length + 400 := by omega
      go_wp2
      go_ret
      exact ⟨rfl, HRW.out ▸ HL.out.lg.bel⟩
end Go.Proofs.YthncfkeoephipaaDoor
