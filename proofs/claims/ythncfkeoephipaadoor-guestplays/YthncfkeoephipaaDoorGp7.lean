/- The law GuestPlays. -/
import Derived.Test.YthncfkeoephipaaDoorGp6
namespace Go.Proofs.YthncfkeoephipaaDoor
open Go.ChangeShapes Go.WideShapes Go.ChangeAt Go.RowKit
attribute [local go_sem] World.cell?_alloc_some frozen_alloc_some

theorem two_cells {w : World} {p : Nat} {c0 c1 : Value} {ty : TypeId} (h : w.heap[p]? = some (.cells #[c0, c1] ty (0, 0))) : w.cell? ⟨p, 0, none⟩ = some c0 ∧ w.cell? ⟨p, 1, none⟩ = some c1 := ⟨cell_of_block h rfl, cell_of_block h rfl⟩
theorem LP.g2 {W w : World} {R GS MS : Nat} {p : Int} {tv sv : Value} {bs ds : Nat → Nat} {Fs : Nat → Nat → Prop} {sg sd : Nat → Gt} {ts : List Tk} (h : LP W w R GS MS p tv sv 2 bs ds Fs sg sd ts) : (w.cell? ⟨GS, 0, none⟩ = some (.pointer (some ⟨bs 0, 0, none⟩)) ∧ w.cell? ⟨GS, 1, none⟩ = some (.pointer (some ⟨bs 1, 0, none⟩))) ∧ w.cell? ⟨MS, 0, none⟩ = some (.pointer (some ⟨ds 0, 0, none⟩)) ∧ w.cell? ⟨MS, 1, none⟩ = some (.pointer (some ⟨ds 1, 0, none⟩)) := by
  have h1 := two_cells h.gs
  have h2 := two_cells h.ms
  simp at h1 h2
  exact ⟨h1, h2⟩
theorem op5c {w : World} {k : Nat} {c0 c1 c2 c3 c4 : Value} {t : TypeId} (h : w.heap[k]? = some (.cells #[c0, c1, c2, c3, c4] t (0, 0))) : w.cell? ⟨k, 0, none⟩ = some c0 ∧ w.cell? ⟨k, 1, none⟩ = some c1 ∧ w.cell? ⟨k, 2, none⟩ = some c2 ∧ w.cell? ⟨k, 3, none⟩ = some c3 ∧ w.cell? ⟨k, 4, none⟩ = some c4 := ⟨cell_of_block h rfl, cell_of_block h rfl, cell_of_block h rfl, cell_of_block h rfl, cell_of_block h rfl⟩
theorem own_c {w : World} {base g n cap : Nat} {ts : List Tk} (h : w.ownsRow base 37 4 (.slice (some ⟨g, 0, none⟩) n cap) n (ts.flatMap c4)) {i : Nat} {x : Tk} (hx : ts[i]? = some x) (v : Int) : (w.setCell ⟨g, i * 4, none⟩ (.int .i64 v)).ownsRow base 37 4 (.slice (some ⟨g, 0, none⟩) n cap) n ((ts.set i (v, x.2)).flatMap c4) := by
  have a0 := own_put h (i * 4 + 0) (.int .i64 v)
  rw [fl_set c4 4 (fun _ => rfl) ts i 0 x (v, x.2) _ hx (by omega) rfl] at a0
  exact a0
set_option maxRecDepth 100000 in
set_option maxHeartbeats 6400000 in
theorem plays_no (W : World) (p : Int) (tv sv : Value) (ts : List Tk) (a : Nat → Addr) (E : Eg W a) (hT : Tks W tv ts) (hsv : ∃ x n c, sv = .slice x n c) (hsz : ts.length * 32 ≤ 140737488355328) (hq : ∀ w, (binOp .eql 32 (vE (a 0)) (vE (a 0))).run Tryd.prog w = .ok (.bool true) w) (h : ¬ okG p ts) : Calls Tryd.prog 3 #[vC p tv sv] W fun e w' => e = .returned (.bool true) ∧ Below W.heap.size W w' := by
  have HE := mkHid E
  have HO := mkHid h
  have HT := mkHid hT
  obtain ⟨ie, hie1, hz0, hz1, hz2⟩ := info_parts info_task
  obtain ⟨zth, hzth⟩ : ∃ z : Value, z = .agg #[.int .i64 0, .int .i64 0, .int .i64 0, .int .i64 0] := ⟨_, rfl⟩
  rw [← hzth] at hz0
  have HZ : Hid (zth.cells.size = 4) := mkHid (by rw [hzth]; rfl)
  have hie := mkHid (And.intro hie1 (And.intro hz0 (And.intro hz1 hz2)))
  clear hie1 hz0 hz1 hz2 hzth
  have HSZ := mkHid hsz
  clear hsz
  have HQ := mkHid hq
  obtain ⟨ta, tc, rfl, _, _⟩ := hT
  obtain ⟨sa, sn, sc, rfl⟩ := hsv
  clear E h hq
  go_enter Tryd.func3, Tryd.ntmps3
  go_wp2_with (go_at_call 8; refine (alive15 _ a (HE.out.late (ba (Below.refl _ _) _))).mono ?_; rintro e w1 ⟨rfl, b1⟩; have hr := (cb_new W p (.slice ta ts.length tc) (.slice sa sn sc)).late b1; have HR1 := mkHid hr; have HB1 := mkHid (bt (ba (Below.refl _ _) _) b1); clear b1 hr)
  obtain ⟨W3, hW3⟩ : ∃ W3, W3 = (w1.alloc (.cells #[.pointer none, .pointer none] 28)).alloc (.cells #[.pointer none, .pointer none] 30) := ⟨_, rfl⟩
  have b3 : Below w1.heap.size w1 W3 := by rw [hW3]; exact ba (ba (Below.refl _ _) _) _
  have HB3 := mkHid (bt HB1.out b3)
  have HR3 := mkHid (HR1.out.late b3)
  rw [← hW3]
  clear hW3 b3 HR1 HB1
  generalize w1.heap.size = GS at *
  go_loopw [21] (fun iv wr => iv = .int .i64 0 ∧ Hid (wr = W3)) (fun iv _ => 0)
  case atStart => exact ⟨rfl, mkHid rfl⟩
  case round =>
    obtain ⟨rfl, hw⟩ := hrel
    have hw' := hw.out
    subst hw'
    have HM : Hid ((wr.alloc (.cells #[] 37)).ownsRow wr.heap.size 37 4 (.slice (some ⟨wr.heap.size, 0, none⟩) 0 0) 0 []) := mkHid (World.ownsRow_made (base := wr.heap.size) (e := 37) (size := 4) wr #[] 0 (Nat.le_refl _) (by unfold maxLen; omega) rfl)
    have HSRC := mkHid ((HT.out.below (ba HB3.out (.cells #[] 37))).src)
    have x0 := HR3.out.c0
    have x1 := HR3.out.c1
    go_wp2_with (first | (at_builtin; refine wpList_append_src4 _ rfl (.tmp 24) (.tmp 26) 22 22 rfl wr.heap.size 37 ie Tryd.underlying22 hie.out.1 zth 32 hie.out.2.1 HZ.out hie.out.2.2.1 hie.out.2.2.2 _ 0 [] rfl HM.out _ ts.length (ts.flatMap c4) rfl HSRC.out (by have := HSZ.out; unfold maxLen; omega) (by have := HSZ.out; omega) (by simp) ?_; intro v2 w2 ho2 hg2 _; rw [Nat.zero_add, List.nil_append] at ho2; obtain ⟨ia, ic, rfl⟩ := own_shape ho2; have HO2 := mkHid ho2; have HB2 : Hid (Below wr.heap.size wr w2) := mkHid ((ba (Below.refl _ wr) _).grown hg2 (by simp) (fun k hk => (HM.out.lt k hk).1)); clear ho2 hg2; have HB2W := mkHid (bt HB3.out HB2.out); have hr2 := HR3.out.late HB2.out; have HR2 := mkHid hr2; clear x0 x1; have x0 := hr2.c0; have x1 := hr2.c1; clear hr2; have HTK : Hid (Tks w2 (.slice ia ts.length ic) ts) := mkHid (by have hl1 : (ts.length : Int) ≤ 9223372036854775807 := (by have := HSZ.out; omega); obtain ⟨a9, c9, e9, h9⟩ := tks_of_owns hl1 HO2.out; rw [e9]; exact h9)) | (go_at_call 9; refine (new_no _ _ p ts _ HTK.out HO.out (HE.out.late HB2W.out).task).mono ?_; rintro e w3 ⟨rfl, b3⟩; have HB3W := mkHid (bt HB2W.out b3); have hr3 := HR2.out.late b3; clear x0 x1; have x0 := hr3.c0; have x1 := hr3.c1; clear b3 hr3) | (go_at_call 10; obtain ⟨lb, hlb, hcl⟩ := legalGuest_is w3 _ p ts (HT.out.below HB3W.out); have hlf : lb = false := (by cases lb; rfl; exact absurd (hlb.mp rfl) HO.out); subst hlf; refine hcl.mono ?_; rintro e w4 ⟨rfl, b4⟩; have HB4W := mkHid (bt HB3W.out b4); have eT := (HE.out.late HB4W.out).task; have hq4 := HQ.out w4; clear b4 hcl hlb))
    go_ret
    exact ⟨rfl, HB4W.out⟩
set_option maxRecDepth 100000 in
set_option maxHeartbeats 25600000 in
theorem plays_yes (W : World) (p : Int) (tv sv : Value) (ts : List Tk) (os : List Op5) (a : Nat → Addr) (EE : Errs W a) (hT : Tks W tv ts) (hS : Ops W sv os) (hsz : ts.length * 32 ≤ 140737488355328) (h : okG p ts) : Calls Tryd.prog 3 #[vC p tv sv] W fun e w' => e = .returned (.bool true) ∧ Below W.heap.size W w' := by
  have E := EE.es.eg
  have HEE := mkHid EE
  have HE := mkHid E
  have HO := mkHid h
  have HT := mkHid hT
  obtain ⟨ie, hie1, hz0, hz1, hz2⟩ := info_parts info_task
  obtain ⟨zth, hzth⟩ : ∃ z : Value, z = .agg #[.int .i64 0, .int .i64 0, .int .i64 0, .int .i64 0] := ⟨_, rfl⟩
  rw [← hzth] at hz0
  have HZ : Hid (zth.cells.size = 4) := mkHid (by rw [hzth]; rfl)
  have hie := mkHid (And.intro hie1 (And.intro hz0 (And.intro hz1 hz2)))
  clear hie1 hz0 hz1 hz2 hzth
  have HSZ := mkHid hsz
  clear hsz
  have HS := mkHid hS
  have h8 := h.2.2.1
  have h1t := h.2.1
  obtain ⟨ta, tc, rfl, _, _⟩ := hT
  obtain ⟨sa, sc, rfl, _⟩ := RowIn.shape hS
  have HOK : Hid (Gt.Ok p ⟨ts.map (fun t => (t, 0)), []⟩) := mkHid (start_ok h.1 h.2.1 h.2.2.1 h.2.2.2)
  obtain ⟨st, hst⟩ : ∃ st : Gt, st = ⟨ts.map (fun t => (t, 0)), []⟩ := ⟨_, rfl⟩
  rw [← hst] at HOK
  have HSTS : Hid (st.ts = ts) := mkHid (by rw [hst]; exact start_ts ts)
  have HST := mkHid hst
  clear E EE h hS hst
  go_enter Tryd.func3, Tryd.ntmps3
  go_wp2_with (go_at_call 8; refine (alive15 _ a (HE.out.late (ba (Below.refl _ _) _))).mono ?_; rintro e w1 ⟨rfl, b1⟩; have hr := (cb_new W p (.slice ta ts.length tc) (.slice sa os.length sc)).late b1; have HR1 := mkHid hr; have HB1 := mkHid (bt (ba (Below.refl _ _) _) b1); clear b1 hr)
  obtain ⟨R, hR⟩ : ∃ R, R = W.heap.size := ⟨_, rfl⟩
  obtain ⟨GS, hGS⟩ : ∃ GS, GS = w1.heap.size := ⟨_, rfl⟩
  obtain ⟨MS, hMS⟩ : ∃ MS, MS = w1.heap.size + 1 := ⟨_, rfl⟩
  obtain ⟨W3, hW3⟩ : ∃ W3, W3 = (w1.alloc (.cells #[.pointer none, .pointer none] 28)).alloc (.cells #[.pointer none, .pointer none] 30) := ⟨_, rfl⟩
  have b3 : Below w1.heap.size w1 W3 := by rw [hW3]; exact ba (ba (Below.refl _ _) _) _
  have HL0 : Hid (LP W W3 R GS MS p (.slice ta ts.length tc) (.slice sa os.length sc) 0 (fun _ => 0) (fun _ => 0) (fun _ _ => False) (fun _ => st) (fun _ => st) ts) := mkHid ⟨bt HB1.out b3, by omega, by have := HR1.out.lt; omega, by omega, by rw [hR]; exact HR1.out.late b3, by rw [hW3, hGS]; exact (heap_alloc_old _ _ (by simp)).trans (heap_alloc_new w1 _), by rw [hW3, hMS]; have := heap_alloc_new (w1.alloc (.cells #[.pointer none, .pointer none] 28)) (.cells #[.pointer none, .pointer none] 30); simpa using this, fun i hi => by omega, fun i hi => by omega, fun i hi => by omega, fun i j hi => by omega⟩
  rw [← hW3, ← hMS, ← hGS, ← hR]
  clear hW3 b3 HR1 HB1 hMS hGS hR
  go_loopw [21] (fun iv wr => ∃ (n : Nat) (bs ds : Nat → Nat) (Fs : Nat → Nat → Prop), iv = .int .i64 (n : Int) ∧ n ≤ 2 ∧ Hid (LP W wr R GS MS p (.slice ta ts.length tc) (.slice sa os.length sc) n bs ds Fs (fun _ => st) (fun _ => st) ts)) (fun iv _ => 2 - (intOf iv).toNat)
  case atStart => exact ⟨0, _, _, _, rfl, by omega, HL0⟩
  case round =>
    clear HL0
    obtain ⟨n, bs, ds, Fs, rfl, hn, HL⟩ := hrel
    have hcs : n = 0 ∨ n = 1 ∨ n = 2 := by omega
    rcases hcs with e | e | e <;> subst e
    · have HM : Hid ((wr.alloc (.cells #[] 37)).ownsRow wr.heap.size 37 4 (.slice (some ⟨wr.heap.size, 0, none⟩) 0 0) 0 []) := mkHid (World.ownsRow_made (base := wr.heap.size) (e := 37) (size := 4) wr #[] 0 (Nat.le_refl _) (by unfold maxLen; omega) rfl)
      have HSRC := mkHid ((HT.out.below (ba HL.out.bel (.cells #[] 37))).src)
      have x0 := HL.out.cb.c0
      have x1 := HL.out.cb.c1
      go_wp2_with (first | (at_builtin; refine wpList_append_src4 _ rfl (.tmp 24) (.tmp 26) 22 22 rfl wr.heap.size 37 ie Tryd.underlying22 hie.out.1 zth 32 hie.out.2.1 HZ.out hie.out.2.2.1 hie.out.2.2.2 _ 0 [] rfl HM.out _ ts.length (ts.flatMap c4) rfl HSRC.out (by have := HSZ.out; unfold maxLen; omega) (by have := HSZ.out; omega) (by simp) ?_; intro v2 w2 ho2 hg2 _; rw [Nat.zero_add, List.nil_append] at ho2; obtain ⟨ia, ic, rfl⟩ := own_shape ho2; have HO2 := mkHid ho2; have HB2 : Hid (Below wr.heap.size wr w2) := mkHid ((ba (Below.refl _ wr) _).grown hg2 (by simp) (fun k hk => (HM.out.lt k hk).1)); clear ho2 hg2; have HL2 := mkHid (HL.out.late HB2.out); clear x0 x1; have x0 := HL2.out.cb.c0; have x1 := HL2.out.cb.c1; have HTK : Hid (Tks w2 (.slice ia ts.length ic) ts) := mkHid (by have hl1 : (ts.length : Int) ≤ 9223372036854775807 := (by have := HSZ.out; omega); obtain ⟨a9, c9, e9, h9⟩ := tks_of_owns hl1 HO2.out; rw [e9]; exact h9)) | (go_at_call 9; refine (new_ok _ _ p ts HTK.out HO.out).mono ?_; rintro e w3 ⟨b, xv, rfl, hg3, b3⟩; rw [← HST.out] at hg3; have HL3 := mkHid (HL2.out.late b3); have HG3 := mkHid hg3; have HO3 := mkHid (ownN_kept HO2.out (kept_new (F := fun _ => False) b3) (fun _ _ f => f)); clear x0 x1; have x0 := HL3.out.cb.c0; have x1 := HL3.out.cb.c1; clear b3 hg3) | (go_at_call 10; obtain ⟨lb, hlb, hcl⟩ := legalGuest_is w3 _ p ts (HT.out.below HL3.out.bel); have hlf : lb = true := hlb.mpr HO.out; subst hlf; refine hcl.mono ?_; rintro e w4 ⟨rfl, b4⟩; have HL4 := mkHid (HL3.out.late b4); have HG4 := mkHid (HG3.out.below b4); have HO4 := mkHid (ownN_kept HO3.out (kept_new (F := fun _ => False) b4) (fun _ _ f => f)); clear b4 hcl hlb x0 x1))
      obtain ⟨ib, ic2, eib, hib1, hib2⟩ := own_addr HO4.out (m := 0) (by omega)
      obtain ⟨wz, hwz⟩ : ∃ z, z = wr.heap.size := ⟨_, rfl⟩
      rw [← hwz] at HO4
      simp only [Value.slice.injEq] at eib
      obtain ⟨rfl, _, rfl⟩ := eib
      have HIB : Hid (wr.heap.size ≤ ib ∧ ib < w2.heap.size ∧ w2.heap.size ≤ w4.heap.size) := mkHid ⟨hib1, (HO2.out.lt ib rfl).2, by have := HG4.out.base_le; omega⟩
      have HWS : Hid (MS < wr.heap.size) := mkHid (lt_of_heap HL.out.ms)
      have HFB : Hid (∀ i, i < 0 → ∀ k, Fs i k → k < wr.heap.size) := mkHid (fun i hi k f => HL.out.flt hi f)
      rw [← hwz] at HIB HWS HFB
      clear hib1 hib2 HTK HO2 HO3 HG3 HL3 HL2 HM HSRC hwz
      go_loopw [56] (fun iv wr => ∃ (i : Nat) (L : List Tk), iv = .int .i64 (i : Int) ∧ i ≤ ts.length ∧ Hid (wr.ownsRow wz 37 4 (.slice (some ⟨ib, 0, none⟩) ts.length ic) ts.length (L.flatMap c4)) ∧ Hid (L.length = ts.length) ∧ Hid (Kept (fun k => k = ib) w4 wr)) (fun iv _ => ts.length - (intOf iv).toNat)
      case atStart => exact ⟨0, ts, rfl, Nat.zero_le _, HO4, mkHid rfl, mkHid (Kept.refl _ _)⟩
      case round =>
        clear HO4
        obtain ⟨i, L, rfl, hi, HOL, HLL, HKL⟩ := hrel
        by_cases hil : i < ts.length
        · obtain ⟨x, hx⟩ : ∃ x, L[i]? = some x := ⟨_, List.getElem?_eq_getElem (by rw [HLL.out]; exact hil)⟩
          have hc0 := own_cell HOL.out (k := i * 4 + 0) (u := .int .i64 x.1) ((fl_get c4 4 (fun _ => rfl) L i 0 x hx (by omega)).trans rfl)
          rw [Nat.add_zero] at hc0
          obtain ⟨q0, qf⟩ := hc0
          have hii : (i : Int) < ts.length := by omega
          have HX := mkHid hx
          clear hx
          go_wp2
          go_roundw
          case rel => exact ⟨i + 1, L.set i (-1, x.2), by go_num, by omega, mkHid (own_c HOL.out HX.out (-1)), mkHid (by rw [List.length_set]; exact HLL.out), mkHid (HKL.out.trans (Kept.setCell (F := fun k => k = ib) wr (p := ⟨ib, i * 4, none⟩) rfl _) (fun k e => .inl e))⟩
          case measure => simp [intOf]; omega
        · obtain rfl : i = ts.length := by omega
          have HL5 := mkHid (HL4.out.off HKL.out (by have := HIB.out; have := HWS.out; omega) (fun q hq f => by have := HFB.out q hq ib f; have := HIB.out; omega))
          have HG5 := mkHid (HG4.out.kept HKL.out (fun k e f => by have := (HG4.out.foot f).1; have := HIB.out; omega))
          have x0 := HL5.out.cb.c0
          have x1 := HL5.out.cb.c1
          have HZ5 : Hid (w2.heap.size ≤ wr.heap.size) := mkHid (by have := HKL.out.size; have := HIB.out; omega)
          clear hil HOL
          go_wp2
          refine wp_region_held_drew (S := fun w' => w'.cell? ⟨R, 0, none⟩ = some (.int .i64 p) ∧ w'.cell? ⟨R, 1, none⟩ = some (.slice ta ts.length tc)) (by kernel_rfl) ⟨x0, x1⟩ (fun hHeld => ?_)
          refine takeD 0 64 (.int .i64 0) rfl rfl (by kernel_rfl) (by kernel_rfl) (by kernel_rfl) (fun _ _ _ h => h) (Or.inl ⟨by kernel_rfl, by intro w hSw; (try dsimp only at hSw); go_simp⟩) hHeld ?_
          simp only [List.set_cons_zero, List.set_cons_succ]
          refine takeD 1 65 (.int .i64 0) rfl rfl (by kernel_rfl) (by kernel_rfl) (by kernel_rfl) (fun _ _ _ h => h) (Or.inl ⟨by kernel_rfl, by intro w hSw; (try dsimp only at hSw); go_simp⟩) hHeld ?_
          simp only [List.set_cons_zero, List.set_cons_succ]
          refine takeD 2 66 (.pointer (some ⟨b, 0, none⟩)) rfl rfl (by kernel_rfl) (by kernel_rfl) (by kernel_rfl) (fun _ _ _ h => h) (Or.inl ⟨by kernel_rfl, by intro w hSw; (try dsimp only at hSw); go_simp⟩) hHeld ?_
          simp only [List.set_cons_zero, List.set_cons_succ]
          refine takeD 3 67 (.pointer (some ⟨R, 0, none⟩)) rfl rfl (by kernel_rfl) (by kernel_rfl) (by kernel_rfl) (fun _ _ _ h => h) (Or.inl ⟨by kernel_rfl, by intro w hSw; (try dsimp only at hSw); go_simp⟩) hHeld ?_
          simp only [List.set_cons_zero, List.set_cons_succ]
          refine takeD 4 68 (.int .i64 p) rfl rfl (by kernel_rfl) (by kernel_rfl) (by kernel_rfl) (fun _ _ _ h => h) (Or.inl ⟨by kernel_rfl, by intro w hSw; (try dsimp only at hSw); go_simp⟩) hHeld ?_
          simp only [List.set_cons_zero, List.set_cons_succ]
          refine takeD 5 69 (.pointer (some ⟨R, 1, none⟩)) rfl rfl (by kernel_rfl) (by kernel_rfl) (by kernel_rfl) (fun _ _ _ h => h) (Or.inl ⟨by kernel_rfl, by intro w hSw; (try dsimp only at hSw); go_simp⟩) hHeld ?_
          simp only [List.set_cons_zero, List.set_cons_succ]
          refine takeD 6 70 (.slice ta ts.length tc) rfl rfl (by kernel_rfl) (by kernel_rfl) (by kernel_rfl) (fun _ _ _ h => h) (Or.inl ⟨by kernel_rfl, by intro w hSw; (try dsimp only at hSw); go_simp⟩) hHeld ?_
          simp only [List.set_cons_zero, List.set_cons_succ]
          refine takeD 8 72 (.pointer (some ⟨GS, 0, none⟩)) rfl rfl (by kernel_rfl) (by kernel_rfl) (by kernel_rfl) (fun _ _ _ h => h) (Or.inl ⟨by kernel_rfl, by intro w hSw; (try dsimp only at hSw); go_simp⟩) hHeld ?_
          simp only [List.set_cons_zero, List.set_cons_succ]
          refine wpAnyH_ready (rs := [7]) (by kernel_rfl) (by simp) (AllReadyH.cons rfl (fun K hK => ?_) AllReadyH.nil)
          go_simp
          refine (dnew_is wr.drew p _ ts (HT.out.below HL5.out.drew.bel) h8).mono ?_
          rintro e w6 ⟨d, tv6, lv6, rfl, hd6, b6⟩
          rw [← HST.out] at hd6
          have HL6 := mkHid (HL5.out.drew.late b6)
          have HG6 := mkHid ((HG5.out.below (Below.refl _ wr).drew).below b6)
          have HD6 := mkHid hd6
          have HB6 := mkHid b6
          have y0 := HL6.out.cb.c0
          have y1 := HL6.out.cb.c1
          clear hd6 b6 hHeld
          refine hK.out _ _ ⟨y0, y1⟩ (fun hHeld => ?_)
          clear hK K
          (try simp only [Act.put])
          obtain ⟨g0, g1⟩ := two_cells HL6.out.gs
          obtain ⟨m0, m1⟩ := two_cells HL6.out.ms
          have gf : w6.frozen? ⟨GS, 0, none⟩ = false := frozen_of_block HL6.out.gs
          have mf : w6.frozen? ⟨MS, 0, none⟩ = false := frozen_of_block HL6.out.ms
          simp at g0 g1 m0 m1
          have n1 : ¬ GS = MS := (by have := HL6.out.mw; omega)
          have n2 : ¬ MS = GS := (by have := HL6.out.mw; omega)
          have n3 : ¬ GS = R := (by have := HL6.out.gw; omega)
          have n4 : ¬ MS = R := (by have := HL6.out.gw; have := HL6.out.mw; omega)
          refine wpAnyH_ready (rs := [9]) (by kernel_rfl) (by simp) (AllReadyH.cons rfl (fun K hK => ?_) AllReadyH.nil)
          go_simp
          clear hHeld
          have k7 := Kept.setCell (F := fun k => k = GS) w6 (p := ⟨GS, 0, none⟩) rfl (.pointer (some ⟨b, 0, none⟩))
          refine hK.out _ _ ⟨k7.cell y0 (fun e => n3 e.symm), k7.cell y1 (fun e => n3 e.symm)⟩ (fun hHeld => ?_)
          clear hK K
          (try simp only [Act.put])
          refine takeD 10 73 (.pointer (some ⟨MS, 0, none⟩)) rfl rfl (by kernel_rfl) (by kernel_rfl) (by kernel_rfl) (fun _ _ _ h => h) (Or.inl ⟨by kernel_rfl, by intro w hSw; (try dsimp only at hSw); go_simp⟩) hHeld ?_
          simp only [List.set_cons_zero, List.set_cons_succ]
          have m7a := k7.cell m0 n2
          have m7b := k7.cell m1 n2
          have k8 := Kept.setCell (F := fun k => k = MS) (w6.setCell ⟨GS, 0, none⟩ (.pointer (some ⟨b, 0, none⟩))) (p := ⟨MS, 0, none⟩) rfl (.pointer (some ⟨d, 0, none⟩))
          have y8 := k8.cell (k7.cell y0 (fun e => n3 e.symm)) (fun e => n4 e.symm)
          have y9 := k8.cell (k7.cell y1 (fun e => n3 e.symm)) (fun e => n4 e.symm)
          refine wpAnyH_ready (rs := [11]) (by kernel_rfl) (by simp) (AllReadyH.cons rfl (fun K hK => ?_) AllReadyH.nil)
          go_simp
          clear hHeld
          refine hK.out _ _ ⟨y8, y9⟩ (fun hHeld => ?_)
          clear hK K hHeld
          refine wpAnyH_done (by kernel_rfl) ?_ _
          have HP9 : Hid (Pr w6 p (fun k => w2.heap.size ≤ k ∧ k < w6.heap.size) b d st st) := mkHid ⟨_, _, _, _, _, _, _, _, HG6.out, HD6.out, fun k f => ⟨(HG6.out.foot f).1, (HG6.out.foot f).2⟩, fun k f => ⟨by have := (HD6.out.foot f).1; have hz : wr.drew.heap.size = wr.heap.size := rfl; have := HZ5.out; omega, (HD6.out.foot f).2⟩, fun k f f2 => by have h1 := (HG5.out.foot f).2; have h2 := (HD6.out.foot f2).1; have hz : wr.drew.heap.size = wr.heap.size := rfl; omega, fun k f => f.2⟩
          have HL9 := mkHid (HL6.out.grow (.inl rfl) HP9.out (fun k f => ⟨by have := HWS.out; have := HIB.out; omega, fun q hq f2 => by have := HFB.out q hq k f2; have := HIB.out; omega⟩) HOK.out HSTS.out)
          clear k7 k8 y0 y1 y8 y9 m7a m7b g0 g1 m0 m1 gf mf x0 x1
          generalize (w6.setCell ⟨GS, 0, none⟩ (.pointer (some ⟨b, 0, none⟩))).setCell ⟨MS, 0, none⟩ (.pointer (some ⟨d, 0, none⟩)) = W9 at *
          go_wp2
          go_roundw
          case rel => exact ⟨0 + 1, _, _, _, by go_num, by omega, HL9⟩
          case measure => simp [intOf]
    · have HM : Hid ((wr.alloc (.cells #[] 37)).ownsRow wr.heap.size 37 4 (.slice (some ⟨wr.heap.size, 0, none⟩) 0 0) 0 []) := mkHid (World.ownsRow_made (base := wr.heap.size) (e := 37) (size := 4) wr #[] 0 (Nat.le_refl _) (by unfold maxLen; omega) rfl)
      have HSRC := mkHid ((HT.out.below (ba HL.out.bel (.cells #[] 37))).src)
      have x0 := HL.out.cb.c0
      have x1 := HL.out.cb.c1
      go_wp2_with (first | (at_builtin; refine wpList_append_src4 _ rfl (.tmp 24) (.tmp 26) 22 22 rfl wr.heap.size 37 ie Tryd.underlying22 hie.out.1 zth 32 hie.out.2.1 HZ.out hie.out.2.2.1 hie.out.2.2.2 _ 0 [] rfl HM.out _ ts.length (ts.flatMap c4) rfl HSRC.out (by have := HSZ.out; unfold maxLen; omega) (by have := HSZ.out; omega) (by simp) ?_; intro v2 w2 ho2 hg2 _; rw [Nat.zero_add, List.nil_append] at ho2; obtain ⟨ia, ic, rfl⟩ := own_shape ho2; have HO2 := mkHid ho2; have HB2 : Hid (Below wr.heap.size wr w2) := mkHid ((ba (Below.refl _ wr) _).grown hg2 (by simp) (fun k hk => (HM.out.lt k hk).1)); clear ho2 hg2; have HL2 := mkHid (HL.out.late HB2.out); clear x0 x1; have x0 := HL2.out.cb.c0; have x1 := HL2.out.cb.c1; have HTK : Hid (Tks w2 (.slice ia ts.length ic) ts) := mkHid (by have hl1 : (ts.length : Int) ≤ 9223372036854775807 := (by have := HSZ.out; omega); obtain ⟨a9, c9, e9, h9⟩ := tks_of_owns hl1 HO2.out; rw [e9]; exact h9)) | (go_at_call 9; refine (new_ok _ _ p ts HTK.out HO.out).mono ?_; rintro e w3 ⟨b, xv, rfl, hg3, b3⟩; rw [← HST.out] at hg3; have HL3 := mkHid (HL2.out.late b3); have HG3 := mkHid hg3; have HO3 := mkHid (ownN_kept HO2.out (kept_new (F := fun _ => False) b3) (fun _ _ f => f)); clear x0 x1; have x0 := HL3.out.cb.c0; have x1 := HL3.out.cb.c1; clear b3 hg3) | (go_at_call 10; obtain ⟨lb, hlb, hcl⟩ := legalGuest_is w3 _ p ts (HT.out.below HL3.out.bel); have hlf : lb = true := hlb.mpr HO.out; subst hlf; refine hcl.mono ?_; rintro e w4 ⟨rfl, b4⟩; have HL4 := mkHid (HL3.out.late b4); have HG4 := mkHid (HG3.out.below b4); have HO4 := mkHid (ownN_kept HO3.out (kept_new (F := fun _ => False) b4) (fun _ _ f => f)); clear b4 hcl hlb x0 x1))
      obtain ⟨ib, ic2, eib, hib1, hib2⟩ := own_addr HO4.out (m := 0) (by omega)
      obtain ⟨wz, hwz⟩ : ∃ z, z = wr.heap.size := ⟨_, rfl⟩
      rw [← hwz] at HO4
      simp only [Value.slice.injEq] at eib
      obtain ⟨rfl, _, rfl⟩ := eib
      have HIB : Hid (wr.heap.size ≤ ib ∧ ib < w2.heap.size ∧ w2.heap.size ≤ w4.heap.size) := mkHid ⟨hib1, (HO2.out.lt ib rfl).2, by have := HG4.out.base_le; omega⟩
      have HWS : Hid (MS < wr.heap.size) := mkHid (lt_of_heap HL.out.ms)
      have HFB : Hid (∀ i, i < 1 → ∀ k, Fs i k → k < wr.heap.size) := mkHid (fun i hi k f => HL.out.flt hi f)
      rw [← hwz] at HIB HWS HFB
      clear hib1 hib2 HTK HO2 HO3 HG3 HL3 HL2 HM HSRC hwz
      go_loopw [56] (fun iv wr => ∃ (i : Nat) (L : List Tk), iv = .int .i64 (i : Int) ∧ i ≤ ts.length ∧ Hid (wr.ownsRow wz 37 4 (.slice (some ⟨ib, 0, none⟩) ts.length ic) ts.length (L.flatMap c4)) ∧ Hid (L.length = ts.length) ∧ Hid (Kept (fun k => k = ib) w4 wr)) (fun iv _ => ts.length - (intOf iv).toNat)
      case atStart => exact ⟨0, ts, rfl, Nat.zero_le _, HO4, mkHid rfl, mkHid (Kept.refl _ _)⟩
      case round =>
        clear HO4
        obtain ⟨i, L, rfl, hi, HOL, HLL, HKL⟩ := hrel
        by_cases hil : i < ts.length
        · obtain ⟨x, hx⟩ : ∃ x, L[i]? = some x := ⟨_, List.getElem?_eq_getElem (by rw [HLL.out]; exact hil)⟩
          have hc0 := own_cell HOL.out (k := i * 4 + 0) (u := .int .i64 x.1) ((fl_get c4 4 (fun _ => rfl) L i 0 x hx (by omega)).trans rfl)
          rw [Nat.add_zero] at hc0
          obtain ⟨q0, qf⟩ := hc0
          have hii : (i : Int) < ts.length := by omega
          have HX := mkHid hx
          clear hx
          go_wp2
          go_roundw
          case rel => exact ⟨i + 1, L.set i (-1, x.2), by go_num, by omega, mkHid (own_c HOL.out HX.out (-1)), mkHid (by rw [List.length_set]; exact HLL.out), mkHid (HKL.out.trans (Kept.setCell (F := fun k => k = ib) wr (p := ⟨ib, i * 4, none⟩) rfl _) (fun k e => .inl e))⟩
          case measure => simp [intOf]; omega
        · obtain rfl : i = ts.length := by omega
          have HL5 := mkHid (HL4.out.off HKL.out (by have := HIB.out; have := HWS.out; omega) (fun q hq f => by have := HFB.out q hq ib f; have := HIB.out; omega))
          have HG5 := mkHid (HG4.out.kept HKL.out (fun k e f => by have := (HG4.out.foot f).1; have := HIB.out; omega))
          have x0 := HL5.out.cb.c0
          have x1 := HL5.out.cb.c1
          have HZ5 : Hid (w2.heap.size ≤ wr.heap.size) := mkHid (by have := HKL.out.size; have := HIB.out; omega)
          clear hil HOL
          go_wp2
          refine wp_region_held_drew (S := fun w' => w'.cell? ⟨R, 0, none⟩ = some (.int .i64 p) ∧ w'.cell? ⟨R, 1, none⟩ = some (.slice ta ts.length tc)) (by kernel_rfl) ⟨x0, x1⟩ (fun hHeld => ?_)
          refine takeD 0 64 (.int .i64 1) rfl rfl (by kernel_rfl) (by kernel_rfl) (by kernel_rfl) (fun _ _ _ h => h) (Or.inl ⟨by kernel_rfl, by intro w hSw; (try dsimp only at hSw); go_simp⟩) hHeld ?_
          simp only [List.set_cons_zero, List.set_cons_succ]
          refine takeD 1 65 (.int .i64 1) rfl rfl (by kernel_rfl) (by kernel_rfl) (by kernel_rfl) (fun _ _ _ h => h) (Or.inl ⟨by kernel_rfl, by intro w hSw; (try dsimp only at hSw); go_simp⟩) hHeld ?_
          simp only [List.set_cons_zero, List.set_cons_succ]
          refine takeD 2 66 (.pointer (some ⟨b, 0, none⟩)) rfl rfl (by kernel_rfl) (by kernel_rfl) (by kernel_rfl) (fun _ _ _ h => h) (Or.inl ⟨by kernel_rfl, by intro w hSw; (try dsimp only at hSw); go_simp⟩) hHeld ?_
          simp only [List.set_cons_zero, List.set_cons_succ]
          refine takeD 3 67 (.pointer (some ⟨R, 0, none⟩)) rfl rfl (by kernel_rfl) (by kernel_rfl) (by kernel_rfl) (fun _ _ _ h => h) (Or.inl ⟨by kernel_rfl, by intro w hSw; (try dsimp only at hSw); go_simp⟩) hHeld ?_
          simp only [List.set_cons_zero, List.set_cons_succ]
          refine takeD 4 68 (.int .i64 p) rfl rfl (by kernel_rfl) (by kernel_rfl) (by kernel_rfl) (fun _ _ _ h => h) (Or.inl ⟨by kernel_rfl, by intro w hSw; (try dsimp only at hSw); go_simp⟩) hHeld ?_
          simp only [List.set_cons_zero, List.set_cons_succ]
          refine takeD 5 69 (.pointer (some ⟨R, 1, none⟩)) rfl rfl (by kernel_rfl) (by kernel_rfl) (by kernel_rfl) (fun _ _ _ h => h) (Or.inl ⟨by kernel_rfl, by intro w hSw; (try dsimp only at hSw); go_simp⟩) hHeld ?_
          simp only [List.set_cons_zero, List.set_cons_succ]
          refine takeD 6 70 (.slice ta ts.length tc) rfl rfl (by kernel_rfl) (by kernel_rfl) (by kernel_rfl) (fun _ _ _ h => h) (Or.inl ⟨by kernel_rfl, by intro w hSw; (try dsimp only at hSw); go_simp⟩) hHeld ?_
          simp only [List.set_cons_zero, List.set_cons_succ]
          refine takeD 8 72 (.pointer (some ⟨GS, 1, none⟩)) rfl rfl (by kernel_rfl) (by kernel_rfl) (by kernel_rfl) (fun _ _ _ h => h) (Or.inl ⟨by kernel_rfl, by intro w hSw; (try dsimp only at hSw); go_simp⟩) hHeld ?_
          simp only [List.set_cons_zero, List.set_cons_succ]
          refine wpAnyH_ready (rs := [7]) (by kernel_rfl) (by simp) (AllReadyH.cons rfl (fun K hK => ?_) AllReadyH.nil)
          go_simp
          refine (dnew_is wr.drew p _ ts (HT.out.below HL5.out.drew.bel) h8).mono ?_
          rintro e w6 ⟨d, tv6, lv6, rfl, hd6, b6⟩
          rw [← HST.out] at hd6
          have HL6 := mkHid (HL5.out.drew.late b6)
          have HG6 := mkHid ((HG5.out.below (Below.refl _ wr).drew).below b6)
          have HD6 := mkHid hd6
          have HB6 := mkHid b6
          have y0 := HL6.out.cb.c0
          have y1 := HL6.out.cb.c1
          clear hd6 b6 hHeld
          refine hK.out _ _ ⟨y0, y1⟩ (fun hHeld => ?_)
          clear hK K
          (try simp only [Act.put])
          obtain ⟨g0, g1⟩ := two_cells HL6.out.gs
          obtain ⟨m0, m1⟩ := two_cells HL6.out.ms
          have gf : w6.frozen? ⟨GS, 1, none⟩ = false := frozen_of_block HL6.out.gs
          have mf : w6.frozen? ⟨MS, 1, none⟩ = false := frozen_of_block HL6.out.ms
          simp at g0 g1 m0 m1
          have n1 : ¬ GS = MS := (by have := HL6.out.mw; omega)
          have n2 : ¬ MS = GS := (by have := HL6.out.mw; omega)
          have n3 : ¬ GS = R := (by have := HL6.out.gw; omega)
          have n4 : ¬ MS = R := (by have := HL6.out.gw; have := HL6.out.mw; omega)
          refine wpAnyH_ready (rs := [9]) (by kernel_rfl) (by simp) (AllReadyH.cons rfl (fun K hK => ?_) AllReadyH.nil)
          go_simp
          clear hHeld
          have k7 := Kept.setCell (F := fun k => k = GS) w6 (p := ⟨GS, 1, none⟩) rfl (.pointer (some ⟨b, 0, none⟩))
          refine hK.out _ _ ⟨k7.cell y0 (fun e => n3 e.symm), k7.cell y1 (fun e => n3 e.symm)⟩ (fun hHeld => ?_)
          clear hK K
          (try simp only [Act.put])
          refine takeD 10 73 (.pointer (some ⟨MS, 1, none⟩)) rfl rfl (by kernel_rfl) (by kernel_rfl) (by kernel_rfl) (fun _ _ _ h => h) (Or.inl ⟨by kernel_rfl, by intro w hSw; (try dsimp only at hSw); go_simp⟩) hHeld ?_
          simp only [List.set_cons_zero, List.set_cons_succ]
          have m7a := k7.cell m0 n2
          have m7b := k7.cell m1 n2
          have k8 := Kept.setCell (F := fun k => k = MS) (w6.setCell ⟨GS, 1, none⟩ (.pointer (some ⟨b, 0, none⟩))) (p := ⟨MS, 1, none⟩) rfl (.pointer (some ⟨d, 0, none⟩))
          have y8 := k8.cell (k7.cell y0 (fun e => n3 e.symm)) (fun e => n4 e.symm)
          have y9 := k8.cell (k7.cell y1 (fun e => n3 e.symm)) (fun e => n4 e.symm)
          refine wpAnyH_ready (rs := [11]) (by kernel_rfl) (by simp) (AllReadyH.cons rfl (fun K hK => ?_) AllReadyH.nil)
          go_simp
          clear hHeld
          refine hK.out _ _ ⟨y8, y9⟩ (fun hHeld => ?_)
          clear hK K hHeld
          refine wpAnyH_done (by kernel_rfl) ?_ _
          have HP9 : Hid (Pr w6 p (fun k => w2.heap.size ≤ k ∧ k < w6.heap.size) b d st st) := mkHid ⟨_, _, _, _, _, _, _, _, HG6.out, HD6.out, fun k f => ⟨(HG6.out.foot f).1, (HG6.out.foot f).2⟩, fun k f => ⟨by have := (HD6.out.foot f).1; have hz : wr.drew.heap.size = wr.heap.size := rfl; have := HZ5.out; omega, (HD6.out.foot f).2⟩, fun k f f2 => by have h1 := (HG5.out.foot f).2; have h2 := (HD6.out.foot f2).1; have hz : wr.drew.heap.size = wr.heap.size := rfl; omega, fun k f => f.2⟩
          have HL9 := mkHid (HL6.out.grow (.inr rfl) HP9.out (fun k f => ⟨by have := HWS.out; have := HIB.out; omega, fun q hq f2 => by have := HFB.out q hq k f2; have := HIB.out; omega⟩) HOK.out HSTS.out)
          clear k7 k8 y0 y1 y8 y9 m7a m7b g0 g1 m0 m1 gf mf x0 x1
          generalize (w6.setCell ⟨GS, 1, none⟩ (.pointer (some ⟨b, 0, none⟩))).setCell ⟨MS, 1, none⟩ (.pointer (some ⟨d, 0, none⟩)) = W9 at *
          go_wp2
          go_roundw
          case rel => exact ⟨1 + 1, _, _, _, by go_num, by omega, HL9⟩
          case measure => simp [intOf]
    · have x2 := HL.out.cb.c2
      go_wp2
      clear x2
      go_loopw [78] (fun iv wr => ∃ (i : Nat) (Fs : Nat → Nat → Prop) (ss : Nat → Gt), iv = .int .i64 (i : Int) ∧ i ≤ os.length ∧ i ≤ 2001 ∧ Hid (LP W wr R GS MS p (.slice ta ts.length tc) (.slice sa os.length sc) 2 bs ds Fs ss ss ts)) (fun iv _ => os.length - (intOf iv).toNat)
      case atStart => exact ⟨0, _, _, rfl, by omega, by omega, HL⟩
      case round =>
        clear HL
        obtain ⟨i, Fs, ss, rfl, hi, hi2, HL⟩ := hrel
        have HER := mkHid (HEE.out.late HL.out.bel)
        by_cases hlt : i < os.length
        · obtain ⟨sb, off, o, rfl, ho, o0, o1, o2, o3, o4⟩ := HS.out.cells HL.out.bel i hlt
          have hli : (i : Int) < os.length := by omega
          clear ho
          obtain ⟨kd, wh, tk, nw, tkk⟩ := o
          simp only at o0 o1 o2 o3 o4
          by_cases hle : i ≤ 2000
          · have hlj : (i : Int) ≤ 2000 := by omega
            rcases and1i wh with hA | hA
            · by_cases hk1 : kd = 1
              · subst hk1
                obtain ⟨W2, hW2⟩ : ∃ W2, W2 = wr.alloc (.cells #[.int .i64 1, .int .i64 wh, .int .i64 tk, .int .i64 nw, .int .i64 tkk] 40) := ⟨_, rfl⟩
                have HL2 := mkHid (HL.out.alloc (.cells #[.int .i64 1, .int .i64 wh, .int .i64 tk, .int .i64 nw, .int .i64 tkk] 40))
                have HX2 : Hid ((wr.alloc (.cells #[.int .i64 1, .int .i64 wh, .int .i64 tk, .int .i64 nw, .int .i64 tkk] 40)).heap[wr.heap.size]? = some (.cells #[.int .i64 1, .int .i64 wh, .int .i64 tk, .int .i64 nw, .int .i64 tkk] 40) ∧ ∀ q, q < 2 → ¬ Fs q wr.heap.size) := mkHid ⟨heap_alloc_new wr _, fun q hq f => by have := HL.out.flt hq f; omega⟩
                go_wp2
                rw [← hW2] at HL2 HX2 ⊢
                clear hW2
                generalize wr.heap.size = X at *
                obtain ⟨⟨g0, g1⟩, m0, m1⟩ := HL2.out.g2
                obtain ⟨v0, v1, v2, v3, v4⟩ := op5c HX2.out.1
                have HER2 := mkHid (HEE.out.late HL2.out.bel)
                refine wp_region_held_drew (S := fun w' => w'.cell? ⟨GS, 0, none⟩ = some (.pointer (some ⟨bs 0, 0, none⟩)) ∧ w'.cell? ⟨MS, 0, none⟩ = some (.pointer (some ⟨ds 0, 0, none⟩)) ∧ w'.cell? ⟨X, 2, none⟩ = some (.int .i64 tk) ∧ w'.cell? ⟨X, 3, none⟩ = some (.int .i64 nw) ∧ w'.cell? ⟨X, 4, none⟩ = some (.int .i64 tkk)) (by kernel_rfl) ⟨g0, m0, v2, v3, v4⟩ (fun hHeld => ?_)
                refine takeD 0 92 (.int .i64 0) rfl rfl (by kernel_rfl) (by kernel_rfl) (by kernel_rfl) (fun _ _ _ h => h) (Or.inl ⟨by kernel_rfl, by intro w hSw; (try dsimp only at hSw); go_simp⟩) hHeld ?_
                simp only [List.set_cons_zero, List.set_cons_succ]
                refine takeD 1 93 (.pointer (some ⟨GS, 0, none⟩)) rfl rfl (by kernel_rfl) (by kernel_rfl) (by kernel_rfl) (fun _ _ _ h => h) (Or.inl ⟨by kernel_rfl, by intro w hSw; (try dsimp only at hSw); go_simp⟩) hHeld ?_
                simp only [List.set_cons_zero, List.set_cons_succ]
                refine takeD 2 94 (.pointer (some ⟨bs 0, 0, none⟩)) rfl rfl (by kernel_rfl) (by kernel_rfl) (by kernel_rfl) (fun _ _ _ h => h) (Or.inl ⟨by kernel_rfl, by intro w hSw; (try dsimp only at hSw); go_simp⟩) hHeld ?_
                simp only [List.set_cons_zero, List.set_cons_succ]
                refine takeD 3 95 (.pointer (some ⟨X, 2, none⟩)) rfl rfl (by kernel_rfl) (by kernel_rfl) (by kernel_rfl) (fun _ _ _ h => h) (Or.inl ⟨by kernel_rfl, by intro w hSw; (try dsimp only at hSw); go_simp⟩) hHeld ?_
                simp only [List.set_cons_zero, List.set_cons_succ]
                refine takeD 4 96 (.int .i64 tk) rfl rfl (by kernel_rfl) (by kernel_rfl) (by kernel_rfl) (fun _ _ _ h => h) (Or.inl ⟨by kernel_rfl, by intro w hSw; (try dsimp only at hSw); go_simp⟩) hHeld ?_
                simp only [List.set_cons_zero, List.set_cons_succ]
                refine takeD 5 97 (.pointer (some ⟨X, 3, none⟩)) rfl rfl (by kernel_rfl) (by kernel_rfl) (by kernel_rfl) (fun _ _ _ h => h) (Or.inl ⟨by kernel_rfl, by intro w hSw; (try dsimp only at hSw); go_simp⟩) hHeld ?_
                simp only [List.set_cons_zero, List.set_cons_succ]
                refine takeD 6 98 (.int .i64 nw) rfl rfl (by kernel_rfl) (by kernel_rfl) (by kernel_rfl) (fun _ _ _ h => h) (Or.inl ⟨by kernel_rfl, by intro w hSw; (try dsimp only at hSw); go_simp⟩) hHeld ?_
                simp only [List.set_cons_zero, List.set_cons_succ]
                refine takeD 7 99 (.pointer (some ⟨X, 4, none⟩)) rfl rfl (by kernel_rfl) (by kernel_rfl) (by kernel_rfl) (fun _ _ _ h => h) (Or.inl ⟨by kernel_rfl, by intro w hSw; (try dsimp only at hSw); go_simp⟩) hHeld ?_
                simp only [List.set_cons_zero, List.set_cons_succ]
                refine takeD 8 100 (.int .i64 tkk) rfl rfl (by kernel_rfl) (by kernel_rfl) (by kernel_rfl) (fun _ _ _ h => h) (Or.inl ⟨by kernel_rfl, by intro w hSw; (try dsimp only at hSw); go_simp⟩) hHeld ?_
                simp only [List.set_cons_zero, List.set_cons_succ]
                refine takeD 11 103 (.int .i64 0) rfl rfl (by kernel_rfl) (by kernel_rfl) (by kernel_rfl) (fun _ _ _ h => h) (Or.inl ⟨by kernel_rfl, by intro w hSw; (try dsimp only at hSw); go_simp⟩) hHeld ?_
                simp only [List.set_cons_zero, List.set_cons_succ]
                refine takeD 12 104 (.pointer (some ⟨MS, 0, none⟩)) rfl rfl (by kernel_rfl) (by kernel_rfl) (by kernel_rfl) (fun _ _ _ h => h) (Or.inl ⟨by kernel_rfl, by intro w hSw; (try dsimp only at hSw); go_simp⟩) hHeld ?_
                simp only [List.set_cons_zero, List.set_cons_succ]
                refine takeD 13 105 (.pointer (some ⟨ds 0, 0, none⟩)) rfl rfl (by kernel_rfl) (by kernel_rfl) (by kernel_rfl) (fun _ _ _ h => h) (Or.inl ⟨by kernel_rfl, by intro w hSw; (try dsimp only at hSw); go_simp⟩) hHeld ?_
                simp only [List.set_cons_zero, List.set_cons_succ]
                refine takeD 14 106 (.pointer (some ⟨X, 2, none⟩)) rfl rfl (by kernel_rfl) (by kernel_rfl) (by kernel_rfl) (fun _ _ _ h => h) (Or.inl ⟨by kernel_rfl, by intro w hSw; (try dsimp only at hSw); go_simp⟩) hHeld ?_
                simp only [List.set_cons_zero, List.set_cons_succ]
                refine takeD 15 107 (.int .i64 tk) rfl rfl (by kernel_rfl) (by kernel_rfl) (by kernel_rfl) (fun _ _ _ h => h) (Or.inl ⟨by kernel_rfl, by intro w hSw; (try dsimp only at hSw); go_simp⟩) hHeld ?_
                simp only [List.set_cons_zero, List.set_cons_succ]
                refine takeD 16 108 (.pointer (some ⟨X, 3, none⟩)) rfl rfl (by kernel_rfl) (by kernel_rfl) (by kernel_rfl) (fun _ _ _ h => h) (Or.inl ⟨by kernel_rfl, by intro w hSw; (try dsimp only at hSw); go_simp⟩) hHeld ?_
                simp only [List.set_cons_zero, List.set_cons_succ]
                refine takeD 17 109 (.int .i64 nw) rfl rfl (by kernel_rfl) (by kernel_rfl) (by kernel_rfl) (fun _ _ _ h => h) (Or.inl ⟨by kernel_rfl, by intro w hSw; (try dsimp only at hSw); go_simp⟩) hHeld ?_
                simp only [List.set_cons_zero, List.set_cons_succ]
                refine takeD 18 110 (.pointer (some ⟨X, 4, none⟩)) rfl rfl (by kernel_rfl) (by kernel_rfl) (by kernel_rfl) (fun _ _ _ h => h) (Or.inl ⟨by kernel_rfl, by intro w hSw; (try dsimp only at hSw); go_simp⟩) hHeld ?_
                simp only [List.set_cons_zero, List.set_cons_succ]
                refine takeD 19 111 (.int .i64 tkk) rfl rfl (by kernel_rfl) (by kernel_rfl) (by kernel_rfl) (fun _ _ _ h => h) (Or.inl ⟨by kernel_rfl, by intro w hSw; (try dsimp only at hSw); go_simp⟩) hHeld ?_
                simp only [List.set_cons_zero, List.set_cons_succ]
                obtain ⟨rn, hrn⟩ : ∃ rn, rn = relC (ss 0) tk nw := ⟨_, rfl⟩
                have HRN := mkHid hrn
                have HNM : Hid (rn = 0 ∨ rn = 1 ∨ rn = 7 ∨ rn = 14) := mkHid (by rw [hrn]; exact relC_num _ _ _)
                clear hrn
                refine wpAnyH_ready (rs := [9]) (by kernel_rfl) (by simp) (AllReadyH.cons rfl (fun K hK => ?_) AllReadyH.nil)
                go_simp
                refine (lp_release HL2.out.drew (i := 0) (by omega) tk nw tkk (HER2.out.late (Below.refl _ _).drew).es.eg).mono ?_
                rintro e w3 ⟨he, Fs3, hl3, hx3⟩
                rw [← HRN.out] at he
                obtain ⟨EV, hEV⟩ : ∃ EV, EV = eg a rn := ⟨_, rfl⟩
                have HEV := mkHid hEV
                rw [← hEV] at he
                subst he
                clear hEV
                have HL3 := mkHid hl3
                have HX3 := mkHid (hx3 X _ HX2.out.1 HX2.out.2)
                clear hl3 hx3 hHeld
                obtain ⟨⟨ag0, ag1⟩, am0, am1⟩ := HL3.out.g2
                obtain ⟨_, _, av2, av3, av4⟩ := op5c HX3.out.1
                refine hK.out _ _ ⟨ag0, am0, av2, av3, av4⟩ (fun hHeld => ?_)
                clear hK K
                (try simp only [Act.put])
                refine wpAnyH_ready (rs := [10]) (by kernel_rfl) (by simp) (AllReadyH.cons rfl (fun K hK => ?_) AllReadyH.nil)
                go_simp
                have hnum := num_eg w3 a (HEE.out.late HL3.out.bel) rn HNM.out
                rw [← HEV.out] at hnum
                refine hnum.mono ?_
                clear hnum
                rintro e w4 ⟨rfl, b4⟩
                have HL4 := mkHid (HL3.out.late b4)
                have HX4 := mkHid (And.intro (blk_late HX3.out.1 b4) HX3.out.2)
                clear b4 hHeld
                obtain ⟨⟨bg0, bg1⟩, bm0, bm1⟩ := HL4.out.g2
                obtain ⟨_, _, bv2, bv3, bv4⟩ := op5c HX4.out.1
                refine hK.out _ _ ⟨bg0, bm0, bv2, bv3, bv4⟩ (fun hHeld => ?_)
                clear hK K
                (try simp only [Act.put])
                refine wpAnyH_ready (rs := [20]) (by kernel_rfl) (by simp) (AllReadyH.cons rfl (fun K hK => ?_) AllReadyH.nil)
                go_simp
                refine (lp_drelease HL4.out (i := 0) (by omega) tk nw tkk).mono ?_
                rintro e w5 ⟨he, Fs5, hl5, hx5⟩
                rw [← HRN.out] at he
                subst he
                have HL5 := mkHid hl5
                have HX5 := mkHid (hx5 X _ HX4.out.1 HX4.out.2)
                clear hl5 hx5 hHeld
                obtain ⟨⟨cg0, cg1⟩, cm0, cm1⟩ := HL5.out.g2
                obtain ⟨_, _, cv2, cv3, cv4⟩ := op5c HX5.out.1
                refine hK.out _ _ ⟨cg0, cm0, cv2, cv3, cv4⟩ (fun hHeld => ?_)
                clear hK K
                (try simp only [Act.put])
                refine takeD 21 113 (.bool false) rfl rfl (by kernel_rfl) (by kernel_rfl) (by kernel_rfl) (fun _ _ _ h => h) (Or.inl ⟨by kernel_rfl, by intro w hSw; (try dsimp only at hSw); go_simp⟩) hHeld ?_
                simp only [List.set_cons_zero, List.set_cons_succ]
                refine wpAnyH_done (by kernel_rfl) ?_ _
                clear hHeld g0 g1 m0 m1 v0 v1 v2 v3 v4 ag0 ag1 am0 am1 av2 av3 av4 bg0 bg1 bm0 bm1 bv2 bv3 bv4 cg0 cg1 cm0 cm1 cv2 cv3 cv4
                go_wp2
                obtain ⟨⟨sg0, sg1⟩, sm0, sm1⟩ := HL5.out.g2
                obtain ⟨sv0, sv1, sv2, sv3, sv4⟩ := op5c HX5.out.1
                have HCA : Hid (∀ W', Below w5.heap.size w5 W' → Calls Tryd.prog 17 #[.pointer (some ⟨bs 0, 0, none⟩), .pointer (some ⟨ds 0, 0, none⟩), .int .i64 nw] W' fun e w' => e = .returned (.bool true) ∧ Below W'.heap.size W' w') := mkHid (fun W' hW' => lp_asks (HL5.out.late hW') (i := 0) (by omega) rfl nw)
                have HBR : Hid (Below w5.heap.size w5 w5) := mkHid (Below.refl _ _)
                refine wp_region_held_drew (S := fun w' => w'.cell? ⟨GS, 0, none⟩ = some (.pointer (some ⟨bs 0, 0, none⟩)) ∧ w'.cell? ⟨MS, 0, none⟩ = some (.pointer (some ⟨ds 0, 0, none⟩)) ∧ w'.cell? ⟨X, 3, none⟩ = some (.int .i64 nw)) (by kernel_rfl) ⟨sg0, sm0, sv3⟩ (fun hHeld => ?_)
                refine takeD 0 146 (.int .i64 0) rfl rfl (by kernel_rfl) (by kernel_rfl) (by kernel_rfl) (fun _ _ _ h => h) (Or.inl ⟨by kernel_rfl, by intro w hSw; (try dsimp only at hSw); go_simp⟩) hHeld ?_
                simp only [List.set_cons_zero, List.set_cons_succ]
                refine takeD 1 147 (.pointer (some ⟨GS, 0, none⟩)) rfl rfl (by kernel_rfl) (by kernel_rfl) (by kernel_rfl) (fun _ _ _ h => h) (Or.inl ⟨by kernel_rfl, by intro w hSw; (try dsimp only at hSw); go_simp⟩) hHeld ?_
                simp only [List.set_cons_zero, List.set_cons_succ]
                refine takeD 2 148 (.pointer (some ⟨bs 0, 0, none⟩)) rfl rfl (by kernel_rfl) (by kernel_rfl) (by kernel_rfl) (fun _ _ _ h => h) (Or.inl ⟨by kernel_rfl, by intro w hSw; (try dsimp only at hSw); go_simp⟩) hHeld ?_
                simp only [List.set_cons_zero, List.set_cons_succ]
                refine takeD 3 149 (.int .i64 0) rfl rfl (by kernel_rfl) (by kernel_rfl) (by kernel_rfl) (fun _ _ _ h => h) (Or.inl ⟨by kernel_rfl, by intro w hSw; (try dsimp only at hSw); go_simp⟩) hHeld ?_
                simp only [List.set_cons_zero, List.set_cons_succ]
                refine takeD 4 150 (.pointer (some ⟨MS, 0, none⟩)) rfl rfl (by kernel_rfl) (by kernel_rfl) (by kernel_rfl) (fun _ _ _ h => h) (Or.inl ⟨by kernel_rfl, by intro w hSw; (try dsimp only at hSw); go_simp⟩) hHeld ?_
                simp only [List.set_cons_zero, List.set_cons_succ]
                refine takeD 5 151 (.pointer (some ⟨ds 0, 0, none⟩)) rfl rfl (by kernel_rfl) (by kernel_rfl) (by kernel_rfl) (fun _ _ _ h => h) (Or.inl ⟨by kernel_rfl, by intro w hSw; (try dsimp only at hSw); go_simp⟩) hHeld ?_
                simp only [List.set_cons_zero, List.set_cons_succ]
                refine takeD 6 152 (.pointer (some ⟨X, 3, none⟩)) rfl rfl (by kernel_rfl) (by kernel_rfl) (by kernel_rfl) (fun _ _ _ h => h) (Or.inl ⟨by kernel_rfl, by intro w hSw; (try dsimp only at hSw); go_simp⟩) hHeld ?_
                simp only [List.set_cons_zero, List.set_cons_succ]
                refine takeD 7 153 (.int .i64 nw) rfl rfl (by kernel_rfl) (by kernel_rfl) (by kernel_rfl) (fun _ _ _ h => h) (Or.inl ⟨by kernel_rfl, by intro w hSw; (try dsimp only at hSw); go_simp⟩) hHeld ?_
                simp only [List.set_cons_zero, List.set_cons_succ]
                refine wpAnyH_ready (rs := [8]) (by kernel_rfl) (by simp) (AllReadyH.cons rfl (fun K hK => ?_) AllReadyH.nil)
                go_simp
                refine (HCA.out w5.drew (HBR.out.drew)).mono ?_
                rintro e wA ⟨rfl, bwA⟩
                have fawA_0 : wA.cell? ⟨GS, 0, none⟩ = some (.pointer (some ⟨bs 0, 0, none⟩)) := kc (show w5.drew.cell? _ = _ from sg0) bwA
                have fawA_1 : wA.cell? ⟨MS, 0, none⟩ = some (.pointer (some ⟨ds 0, 0, none⟩)) := kc (show w5.drew.cell? _ = _ from sm0) bwA
                have fawA_2 : wA.cell? ⟨X, 3, none⟩ = some (.int .i64 nw) := kc (show w5.drew.cell? _ = _ from sv3) bwA
                have HBA := mkHid (bt HBR.out.drew bwA)
                clear bwA hHeld
                refine hK.out _ _ ⟨fawA_0, fawA_1, fawA_2⟩ (fun hHeld => ?_)
                clear hK K
                refine takeD 9 155 (.bool false) rfl rfl (by kernel_rfl) (by kernel_rfl) (by kernel_rfl) (fun _ _ _ h => h) (Or.inl ⟨by kernel_rfl, by intro w hSw; (try dsimp only at hSw); go_simp⟩) hHeld ?_
                simp only [List.set_cons_zero, List.set_cons_succ]
                refine wpAnyH_done (by kernel_rfl) ?_ _
                clear hHeld
                have HLA := mkHid (HL5.out.late HBA.out)
                go_wp2
                go_roundw
                case rel => exact ⟨i + 1, _, (up ss 0 ((ss 0).rel tk nw tkk)), by go_num, by omega, by omega, HLA⟩
                case measure => simp [intOf]; omega
              · have hk1b : (kd == 1) = false := by simpa using hk1
                by_cases hk2 : kd = 2
                · subst hk2
                  obtain ⟨W2, hW2⟩ : ∃ W2, W2 = wr.alloc (.cells #[.int .i64 2, .int .i64 wh, .int .i64 tk, .int .i64 nw, .int .i64 tkk] 40) := ⟨_, rfl⟩
                  have HL2 := mkHid (HL.out.alloc (.cells #[.int .i64 2, .int .i64 wh, .int .i64 tk, .int .i64 nw, .int .i64 tkk] 40))
                  have HX2 : Hid ((wr.alloc (.cells #[.int .i64 2, .int .i64 wh, .int .i64 tk, .int .i64 nw, .int .i64 tkk] 40)).heap[wr.heap.size]? = some (.cells #[.int .i64 2, .int .i64 wh, .int .i64 tk, .int .i64 nw, .int .i64 tkk] 40) ∧ ∀ q, q < 2 → ¬ Fs q wr.heap.size) := mkHid ⟨heap_alloc_new wr _, fun q hq f => by have := HL.out.flt hq f; omega⟩
                  obtain ⟨⟨g0, g1⟩, m0, m1⟩ := HL2.out.g2
                  obtain ⟨r, en, nn, s', hr⟩ := runR_ex p (ss 0)
                  have HRR := mkHid hr
                  have HNM := mkHid hr.num
                  have HER2 := mkHid (HEE.out.late HL2.out.bel)
                  obtain ⟨tj, rj, dj, lj, nj⟩ := r
                  obtain ⟨EV, hEV⟩ : ∃ EV, EV = er a nn := ⟨_, rfl⟩
                  have HEV := mkHid hEV
                  clear hr hEV
                  rw [← hW2] at HL2 HX2 HER2 g0 g1 m0 m1
                  have HW2 := mkHid hW2
                  clear hW2
                  have HC1 : Hid (Calls Tryd.prog 15 #[.pointer (some ⟨bs 0, 0, none⟩)] (wr.alloc (.cells #[.int .i64 2, .int .i64 wh, .int .i64 tk, .int .i64 nw, .int .i64 tkk] 40)) fun e w' => e = .returned (.tuple #[vJ ⟨tj, rj, dj, lj, nj⟩, .bool en, EV]) ∧ ∃ Fs', LP W w' R GS MS p (.slice ta ts.length tc) (.slice (some ⟨sb, off, none⟩) os.length sc) 2 bs ds Fs' (up ss 0 s') ss ts ∧ Kx 2 Fs Fs' (wr.alloc (.cells #[.int .i64 2, .int .i64 wh, .int .i64 tk, .int .i64 nw, .int .i64 tkk] 40)) w') := mkHid (by
                    have := lp_run HL2.out (i := 0) (by omega) HER2.out.es HRR.out
                    rw [HW2.out] at this
                    rw [HEV.out]
                    exact this)
                  rw [HW2.out] at g0 g1 m0 m1 HX2 HL2
                  go_wp2_with (first | (go_at_call 15; refine HC1.out.mono ?_; rintro e w3 ⟨rfl, Fs3, hl3, hx3⟩; have HL3 := mkHid (hl3.alloc (.cells #[.int .i64 (tj : Int), .int .i64 rj, .int .i64 dj, .int .i64 lj, .int .i64 nj] 45)); have hx3' := hx3 _ _ HX2.out.1 HX2.out.2; have HX3 : Hid ((w3.alloc (.cells #[.int .i64 (tj : Int), .int .i64 rj, .int .i64 dj, .int .i64 lj, .int .i64 nj] 45)).heap[wr.heap.size]? = some (.cells #[.int .i64 2, .int .i64 wh, .int .i64 tk, .int .i64 nw, .int .i64 tkk] 40) ∧ ∀ q, q < 2 → ¬ Fs3 q wr.heap.size) := mkHid ⟨blk_late hx3'.1 (ba (Below.refl _ _) _), hx3'.2⟩; have HB3 : Hid ((w3.alloc (.cells #[.int .i64 (tj : Int), .int .i64 rj, .int .i64 dj, .int .i64 lj, .int .i64 nj] 45)).heap[w3.heap.size]? = some (.cells #[.int .i64 (tj : Int), .int .i64 rj, .int .i64 dj, .int .i64 lj, .int .i64 nj] 45) ∧ ∀ q, q < 2 → ¬ Fs3 q w3.heap.size) := mkHid ⟨heap_alloc_new w3 _, fun q hq f => (by have := hl3.flt hq f; omega)⟩; clear hl3 hx3 hx3' g0 g1 m0 m1; obtain ⟨⟨g0, g1⟩, m0, m1⟩ := HL3.out.g2) | (go_at_call 16; refine (lp_drun HL3.out (i := 0) (by omega) HRR.out).mono ?_; rintro e w4 ⟨rfl, Fs4, hl4, hx4⟩; have HL4 := mkHid (hl4.alloc (.cells #[.int .i64 (tj : Int), .int .i64 rj, .int .i64 dj, .int .i64 lj, .int .i64 nj] 45)); have hy4 := hx4 _ _ HB3.out.1 HB3.out.2; have hz4 := hx4 _ _ HX3.out.1 HX3.out.2; have HX4 : Hid ((w4.alloc (.cells #[.int .i64 (tj : Int), .int .i64 rj, .int .i64 dj, .int .i64 lj, .int .i64 nj] 45)).heap[wr.heap.size]? = some (.cells #[.int .i64 2, .int .i64 wh, .int .i64 tk, .int .i64 nw, .int .i64 tkk] 40) ∧ ∀ q, q < 2 → ¬ Fs4 q wr.heap.size) := mkHid ⟨blk_late hz4.1 (ba (Below.refl _ _) _), hz4.2⟩; obtain ⟨c0, c1, c2, c3, c4'⟩ := op5c hy4.1; have HNU : Hid (∀ W', Below w4.heap.size w4 W' → Calls Tryd.prog 12 #[EV] W' fun e w' => e = .returned (.int .i64 nn) ∧ Below W'.heap.size W' w') := mkHid (fun W' hW' => (by rw [HEV.out]; exact num_er W' a (HEE.out.late (bt hl4.bel hW')) nn HNM.out)); clear hl4 hx4 hy4 hz4 g0 g1 m0 m1) | (go_at_call 12; refine (HNU.out _ (ba (Below.refl _ w4) _)).mono ?_; rintro e w5 ⟨rfl, b5⟩; have HL5 := mkHid (HL4.out.late b5); have HX5 : Hid (w5.heap[wr.heap.size]? = some (.cells #[.int .i64 2, .int .i64 wh, .int .i64 tk, .int .i64 nw, .int .i64 tkk] 40) ∧ ∀ q, q < 2 → ¬ Fs4 q wr.heap.size) := mkHid ⟨blk_late HX4.out.1 b5, HX4.out.2⟩; clear b5))
                  generalize wr.heap.size = X at *
                  obtain ⟨⟨sg0, sg1⟩, sm0, sm1⟩ := HL5.out.g2
                  obtain ⟨sv0, sv1, sv2, sv3, sv4⟩ := op5c HX5.out.1
                  have HCA : Hid (∀ W', Below w5.heap.size w5 W' → Calls Tryd.prog 17 #[.pointer (some ⟨bs 0, 0, none⟩), .pointer (some ⟨ds 0, 0, none⟩), .int .i64 nw] W' fun e w' => e = .returned (.bool true) ∧ Below W'.heap.size W' w') := mkHid (fun W' hW' => lp_asks (HL5.out.late hW') (i := 0) (by omega) rfl nw)
                  have HBR : Hid (Below w5.heap.size w5 w5) := mkHid (Below.refl _ _)
                  refine wp_region_held_drew (S := fun w' => w'.cell? ⟨GS, 0, none⟩ = some (.pointer (some ⟨bs 0, 0, none⟩)) ∧ w'.cell? ⟨MS, 0, none⟩ = some (.pointer (some ⟨ds 0, 0, none⟩)) ∧ w'.cell? ⟨X, 3, none⟩ = some (.int .i64 nw)) (by kernel_rfl) ⟨sg0, sm0, sv3⟩ (fun hHeld => ?_)
                  refine takeD 0 146 (.int .i64 0) rfl rfl (by kernel_rfl) (by kernel_rfl) (by kernel_rfl) (fun _ _ _ h => h) (Or.inl ⟨by kernel_rfl, by intro w hSw; (try dsimp only at hSw); go_simp⟩) hHeld ?_
                  simp only [List.set_cons_zero, List.set_cons_succ]
                  refine takeD 1 147 (.pointer (some ⟨GS, 0, none⟩)) rfl rfl (by kernel_rfl) (by kernel_rfl) (by kernel_rfl) (fun _ _ _ h => h) (Or.inl ⟨by kernel_rfl, by intro w hSw; (try dsimp only at hSw); go_simp⟩) hHeld ?_
                  simp only [List.set_cons_zero, List.set_cons_succ]
                  refine takeD 2 148 (.pointer (some ⟨bs 0, 0, none⟩)) rfl rfl (by kernel_rfl) (by kernel_rfl) (by kernel_rfl) (fun _ _ _ h => h) (Or.inl ⟨by kernel_rfl, by intro w hSw; (try dsimp only at hSw); go_simp⟩) hHeld ?_
                  simp only [List.set_cons_zero, List.set_cons_succ]
                  refine takeD 3 149 (.int .i64 0) rfl rfl (by kernel_rfl) (by kernel_rfl) (by kernel_rfl) (fun _ _ _ h => h) (Or.inl ⟨by kernel_rfl, by intro w hSw; (try dsimp only at hSw); go_simp⟩) hHeld ?_
                  simp only [List.set_cons_zero, List.set_cons_succ]
                  refine takeD 4 150 (.pointer (some ⟨MS, 0, none⟩)) rfl rfl (by kernel_rfl) (by kernel_rfl) (by kernel_rfl) (fun _ _ _ h => h) (Or.inl ⟨by kernel_rfl, by intro w hSw; (try dsimp only at hSw); go_simp⟩) hHeld ?_
                  simp only [List.set_cons_zero, List.set_cons_succ]
                  refine takeD 5 151 (.pointer (some ⟨ds 0, 0, none⟩)) rfl rfl (by kernel_rfl) (by kernel_rfl) (by kernel_rfl) (fun _ _ _ h => h) (Or.inl ⟨by kernel_rfl, by intro w hSw; (try dsimp only at hSw); go_simp⟩) hHeld ?_
                  simp only [List.set_cons_zero, List.set_cons_succ]
                  refine takeD 6 152 (.pointer (some ⟨X, 3, none⟩)) rfl rfl (by kernel_rfl) (by kernel_rfl) (by kernel_rfl) (fun _ _ _ h => h) (Or.inl ⟨by kernel_rfl, by intro w hSw; (try dsimp only at hSw); go_simp⟩) hHeld ?_
                  simp only [List.set_cons_zero, List.set_cons_succ]
                  refine takeD 7 153 (.int .i64 nw) rfl rfl (by kernel_rfl) (by kernel_rfl) (by kernel_rfl) (fun _ _ _ h => h) (Or.inl ⟨by kernel_rfl, by intro w hSw; (try dsimp only at hSw); go_simp⟩) hHeld ?_
                  simp only [List.set_cons_zero, List.set_cons_succ]
                  refine wpAnyH_ready (rs := [8]) (by kernel_rfl) (by simp) (AllReadyH.cons rfl (fun K hK => ?_) AllReadyH.nil)
                  go_simp
                  refine (HCA.out w5.drew (HBR.out.drew)).mono ?_
                  rintro e wA ⟨rfl, bwA⟩
                  have fawA_0 : wA.cell? ⟨GS, 0, none⟩ = some (.pointer (some ⟨bs 0, 0, none⟩)) := kc (show w5.drew.cell? _ = _ from sg0) bwA
                  have fawA_1 : wA.cell? ⟨MS, 0, none⟩ = some (.pointer (some ⟨ds 0, 0, none⟩)) := kc (show w5.drew.cell? _ = _ from sm0) bwA
                  have fawA_2 : wA.cell? ⟨X, 3, none⟩ = some (.int .i64 nw) := kc (show w5.drew.cell? _ = _ from sv3) bwA
                  have HBA := mkHid (bt HBR.out.drew bwA)
                  clear bwA hHeld
                  refine hK.out _ _ ⟨fawA_0, fawA_1, fawA_2⟩ (fun hHeld => ?_)
                  clear hK K
                  refine takeD 9 155 (.bool false) rfl rfl (by kernel_rfl) (by kernel_rfl) (by kernel_rfl) (fun _ _ _ h => h) (Or.inl ⟨by kernel_rfl, by intro w hSw; (try dsimp only at hSw); go_simp⟩) hHeld ?_
                  simp only [List.set_cons_zero, List.set_cons_succ]
                  refine wpAnyH_done (by kernel_rfl) ?_ _
                  clear hHeld
                  have HLA := mkHid (HL5.out.late HBA.out)
                  go_wp2
                  go_roundw
                  case rel => exact ⟨i + 1, _, (up ss 0 s'), by go_num, by omega, by omega, HLA⟩
                  case measure => simp [intOf]; omega
                · have hk2b : (kd == 2) = false := by simpa using hk2
                  obtain ⟨W2, hW2⟩ : ∃ W2, W2 = wr.alloc (.cells #[.int .i64 kd, .int .i64 wh, .int .i64 tk, .int .i64 nw, .int .i64 tkk] 40) := ⟨_, rfl⟩
                  have HL2 := mkHid (HL.out.alloc (.cells #[.int .i64 kd, .int .i64 wh, .int .i64 tk, .int .i64 nw, .int .i64 tkk] 40))
                  have HX2 : Hid ((wr.alloc (.cells #[.int .i64 kd, .int .i64 wh, .int .i64 tk, .int .i64 nw, .int .i64 tkk] 40)).heap[wr.heap.size]? = some (.cells #[.int .i64 kd, .int .i64 wh, .int .i64 tk, .int .i64 nw, .int .i64 tkk] 40) ∧ ∀ q, q < 2 → ¬ Fs q wr.heap.size) := mkHid ⟨heap_alloc_new wr _, fun q hq f => by have := HL.out.flt hq f; omega⟩
                  go_wp2
                  rw [← hW2] at HL2 HX2 ⊢
                  clear hW2
                  generalize wr.heap.size = X at *
                  obtain ⟨⟨sg0, sg1⟩, sm0, sm1⟩ := HL2.out.g2
                  obtain ⟨sv0, sv1, sv2, sv3, sv4⟩ := op5c HX2.out.1
                  have HCA : Hid (∀ W', Below W2.heap.size W2 W' → Calls Tryd.prog 17 #[.pointer (some ⟨bs 0, 0, none⟩), .pointer (some ⟨ds 0, 0, none⟩), .int .i64 nw] W' fun e w' => e = .returned (.bool true) ∧ Below W'.heap.size W' w') := mkHid (fun W' hW' => lp_asks (HL2.out.late hW') (i := 0) (by omega) rfl nw)
                  have HBR : Hid (Below W2.heap.size W2 W2) := mkHid (Below.refl _ _)
                  refine wp_region_held_drew (S := fun w' => w'.cell? ⟨GS, 0, none⟩ = some (.pointer (some ⟨bs 0, 0, none⟩)) ∧ w'.cell? ⟨MS, 0, none⟩ = some (.pointer (some ⟨ds 0, 0, none⟩)) ∧ w'.cell? ⟨X, 3, none⟩ = some (.int .i64 nw)) (by kernel_rfl) ⟨sg0, sm0, sv3⟩ (fun hHeld => ?_)
                  refine takeD 0 146 (.int .i64 0) rfl rfl (by kernel_rfl) (by kernel_rfl) (by kernel_rfl) (fun _ _ _ h => h) (Or.inl ⟨by kernel_rfl, by intro w hSw; (try dsimp only at hSw); go_simp⟩) hHeld ?_
                  simp only [List.set_cons_zero, List.set_cons_succ]
                  refine takeD 1 147 (.pointer (some ⟨GS, 0, none⟩)) rfl rfl (by kernel_rfl) (by kernel_rfl) (by kernel_rfl) (fun _ _ _ h => h) (Or.inl ⟨by kernel_rfl, by intro w hSw; (try dsimp only at hSw); go_simp⟩) hHeld ?_
                  simp only [List.set_cons_zero, List.set_cons_succ]
                  refine takeD 2 148 (.pointer (some ⟨bs 0, 0, none⟩)) rfl rfl (by kernel_rfl) (by kernel_rfl) (by kernel_rfl) (fun _ _ _ h => h) (Or.inl ⟨by kernel_rfl, by intro w hSw; (try dsimp only at hSw); go_simp⟩) hHeld ?_
                  simp only [List.set_cons_zero, List.set_cons_succ]
                  refine takeD 3 149 (.int .i64 0) rfl rfl (by kernel_rfl) (by kernel_rfl) (by kernel_rfl) (fun _ _ _ h => h) (Or.inl ⟨by kernel_rfl, by intro w hSw; (try dsimp only at hSw); go_simp⟩) hHeld ?_
                  simp only [List.set_cons_zero, List.set_cons_succ]
                  refine takeD 4 150 (.pointer (some ⟨MS, 0, none⟩)) rfl rfl (by kernel_rfl) (by kernel_rfl) (by kernel_rfl) (fun _ _ _ h => h) (Or.inl ⟨by kernel_rfl, by intro w hSw; (try dsimp only at hSw); go_simp⟩) hHeld ?_
                  simp only [List.set_cons_zero, List.set_cons_succ]
                  refine takeD 5 151 (.pointer (some ⟨ds 0, 0, none⟩)) rfl rfl (by kernel_rfl) (by kernel_rfl) (by kernel_rfl) (fun _ _ _ h => h) (Or.inl ⟨by kernel_rfl, by intro w hSw; (try dsimp only at hSw); go_simp⟩) hHeld ?_
                  simp only [List.set_cons_zero, List.set_cons_succ]
                  refine takeD 6 152 (.pointer (some ⟨X, 3, none⟩)) rfl rfl (by kernel_rfl) (by kernel_rfl) (by kernel_rfl) (fun _ _ _ h => h) (Or.inl ⟨by kernel_rfl, by intro w hSw; (try dsimp only at hSw); go_simp⟩) hHeld ?_
                  simp only [List.set_cons_zero, List.set_cons_succ]
                  refine takeD 7 153 (.int .i64 nw) rfl rfl (by kernel_rfl) (by kernel_rfl) (by kernel_rfl) (fun _ _ _ h => h) (Or.inl ⟨by kernel_rfl, by intro w hSw; (try dsimp only at hSw); go_simp⟩) hHeld ?_
                  simp only [List.set_cons_zero, List.set_cons_succ]
                  refine wpAnyH_ready (rs := [8]) (by kernel_rfl) (by simp) (AllReadyH.cons rfl (fun K hK => ?_) AllReadyH.nil)
                  go_simp
                  refine (HCA.out W2.drew (HBR.out.drew)).mono ?_
                  rintro e wA ⟨rfl, bwA⟩
                  have fawA_0 : wA.cell? ⟨GS, 0, none⟩ = some (.pointer (some ⟨bs 0, 0, none⟩)) := kc (show W2.drew.cell? _ = _ from sg0) bwA
                  have fawA_1 : wA.cell? ⟨MS, 0, none⟩ = some (.pointer (some ⟨ds 0, 0, none⟩)) := kc (show W2.drew.cell? _ = _ from sm0) bwA
                  have fawA_2 : wA.cell? ⟨X, 3, none⟩ = some (.int .i64 nw) := kc (show W2.drew.cell? _ = _ from sv3) bwA
                  have HBA := mkHid (bt HBR.out.drew bwA)
                  clear bwA hHeld
                  refine hK.out _ _ ⟨fawA_0, fawA_1, fawA_2⟩ (fun hHeld => ?_)
                  clear hK K
                  refine takeD 9 155 (.bool false) rfl rfl (by kernel_rfl) (by kernel_rfl) (by kernel_rfl) (fun _ _ _ h => h) (Or.inl ⟨by kernel_rfl, by intro w hSw; (try dsimp only at hSw); go_simp⟩) hHeld ?_
                  simp only [List.set_cons_zero, List.set_cons_succ]
                  refine wpAnyH_done (by kernel_rfl) ?_ _
                  clear hHeld
                  have HLA := mkHid (HL2.out.late HBA.out)
                  go_wp2
                  go_roundw
                  case rel => exact ⟨i + 1, _, ss, by go_num, by omega, by omega, HLA⟩
                  case measure => simp [intOf]; omega
            · by_cases hk1 : kd = 1
              · subst hk1
                obtain ⟨W2, hW2⟩ : ∃ W2, W2 = wr.alloc (.cells #[.int .i64 1, .int .i64 wh, .int .i64 tk, .int .i64 nw, .int .i64 tkk] 40) := ⟨_, rfl⟩
                have HL2 := mkHid (HL.out.alloc (.cells #[.int .i64 1, .int .i64 wh, .int .i64 tk, .int .i64 nw, .int .i64 tkk] 40))
                have HX2 : Hid ((wr.alloc (.cells #[.int .i64 1, .int .i64 wh, .int .i64 tk, .int .i64 nw, .int .i64 tkk] 40)).heap[wr.heap.size]? = some (.cells #[.int .i64 1, .int .i64 wh, .int .i64 tk, .int .i64 nw, .int .i64 tkk] 40) ∧ ∀ q, q < 2 → ¬ Fs q wr.heap.size) := mkHid ⟨heap_alloc_new wr _, fun q hq f => by have := HL.out.flt hq f; omega⟩
                go_wp2
                rw [← hW2] at HL2 HX2 ⊢
                clear hW2
                generalize wr.heap.size = X at *
                obtain ⟨⟨g0, g1⟩, m0, m1⟩ := HL2.out.g2
                obtain ⟨v0, v1, v2, v3, v4⟩ := op5c HX2.out.1
                have HER2 := mkHid (HEE.out.late HL2.out.bel)
                refine wp_region_held_drew (S := fun w' => w'.cell? ⟨GS, 1, none⟩ = some (.pointer (some ⟨bs 1, 0, none⟩)) ∧ w'.cell? ⟨MS, 1, none⟩ = some (.pointer (some ⟨ds 1, 0, none⟩)) ∧ w'.cell? ⟨X, 2, none⟩ = some (.int .i64 tk) ∧ w'.cell? ⟨X, 3, none⟩ = some (.int .i64 nw) ∧ w'.cell? ⟨X, 4, none⟩ = some (.int .i64 tkk)) (by kernel_rfl) ⟨g1, m1, v2, v3, v4⟩ (fun hHeld => ?_)
                refine takeD 0 92 (.int .i64 1) rfl rfl (by kernel_rfl) (by kernel_rfl) (by kernel_rfl) (fun _ _ _ h => h) (Or.inl ⟨by kernel_rfl, by intro w hSw; (try dsimp only at hSw); go_simp⟩) hHeld ?_
                simp only [List.set_cons_zero, List.set_cons_succ]
                refine takeD 1 93 (.pointer (some ⟨GS, 1, none⟩)) rfl rfl (by kernel_rfl) (by kernel_rfl) (by kernel_rfl) (fun _ _ _ h => h) (Or.inl ⟨by kernel_rfl, by intro w hSw; (try dsimp only at hSw); go_simp⟩) hHeld ?_
                simp only [List.set_cons_zero, List.set_cons_succ]
                refine takeD 2 94 (.pointer (some ⟨bs 1, 0, none⟩)) rfl rfl (by kernel_rfl) (by kernel_rfl) (by kernel_rfl) (fun _ _ _ h => h) (Or.inl ⟨by kernel_rfl, by intro w hSw; (try dsimp only at hSw); go_simp⟩) hHeld ?_
                simp only [List.set_cons_zero, List.set_cons_succ]
                refine takeD 3 95 (.pointer (some ⟨X, 2, none⟩)) rfl rfl (by kernel_rfl) (by kernel_rfl) (by kernel_rfl) (fun _ _ _ h => h) (Or.inl ⟨by kernel_rfl, by intro w hSw; (try dsimp only at hSw); go_simp⟩) hHeld ?_
                simp only [List.set_cons_zero, List.set_cons_succ]
                refine takeD 4 96 (.int .i64 tk) rfl rfl (by kernel_rfl) (by kernel_rfl) (by kernel_rfl) (fun _ _ _ h => h) (Or.inl ⟨by kernel_rfl, by intro w hSw; (try dsimp only at hSw); go_simp⟩) hHeld ?_
                simp only [List.set_cons_zero, List.set_cons_succ]
                refine takeD 5 97 (.pointer (some ⟨X, 3, none⟩)) rfl rfl (by kernel_rfl) (by kernel_rfl) (by kernel_rfl) (fun _ _ _ h => h) (Or.inl ⟨by kernel_rfl, by intro w hSw; (try dsimp only at hSw); go_simp⟩) hHeld ?_
                simp only [List.set_cons_zero, List.set_cons_succ]
                refine takeD 6 98 (.int .i64 nw) rfl rfl (by kernel_rfl) (by kernel_rfl) (by kernel_rfl) (fun _ _ _ h => h) (Or.inl ⟨by kernel_rfl, by intro w hSw; (try dsimp only at hSw); go_simp⟩) hHeld ?_
                simp only [List.set_cons_zero, List.set_cons_succ]
                refine takeD 7 99 (.pointer (some ⟨X, 4, none⟩)) rfl rfl (by kernel_rfl) (by kernel_rfl) (by kernel_rfl) (fun _ _ _ h => h) (Or.inl ⟨by kernel_rfl, by intro w hSw; (try dsimp only at hSw); go_simp⟩) hHeld ?_
                simp only [List.set_cons_zero, List.set_cons_succ]
                refine takeD 8 100 (.int .i64 tkk) rfl rfl (by kernel_rfl) (by kernel_rfl) (by kernel_rfl) (fun _ _ _ h => h) (Or.inl ⟨by kernel_rfl, by intro w hSw; (try dsimp only at hSw); go_simp⟩) hHeld ?_
                simp only [List.set_cons_zero, List.set_cons_succ]
                refine takeD 11 103 (.int .i64 1) rfl rfl (by kernel_rfl) (by kernel_rfl) (by kernel_rfl) (fun _ _ _ h => h) (Or.inl ⟨by kernel_rfl, by intro w hSw; (try dsimp only at hSw); go_simp⟩) hHeld ?_
                simp only [List.set_cons_zero, List.set_cons_succ]
                refine takeD 12 104 (.pointer (some ⟨MS, 1, none⟩)) rfl rfl (by kernel_rfl) (by kernel_rfl) (by kernel_rfl) (fun _ _ _ h => h) (Or.inl ⟨by kernel_rfl, by intro w hSw; (try dsimp only at hSw); go_simp⟩) hHeld ?_
                simp only [List.set_cons_zero, List.set_cons_succ]
                refine takeD 13 105 (.pointer (some ⟨ds 1, 0, none⟩)) rfl rfl (by kernel_rfl) (by kernel_rfl) (by kernel_rfl) (fun _ _ _ h => h) (Or.inl ⟨by kernel_rfl, by intro w hSw; (try dsimp only at hSw); go_simp⟩) hHeld ?_
                simp only [List.set_cons_zero, List.set_cons_succ]
                refine takeD 14 106 (.pointer (some ⟨X, 2, none⟩)) rfl rfl (by kernel_rfl) (by kernel_rfl) (by kernel_rfl) (fun _ _ _ h => h) (Or.inl ⟨by kernel_rfl, by intro w hSw; (try dsimp only at hSw); go_simp⟩) hHeld ?_
                simp only [List.set_cons_zero, List.set_cons_succ]
                refine takeD 15 107 (.int .i64 tk) rfl rfl (by kernel_rfl) (by kernel_rfl) (by kernel_rfl) (fun _ _ _ h => h) (Or.inl ⟨by kernel_rfl, by intro w hSw; (try dsimp only at hSw); go_simp⟩) hHeld ?_
                simp only [List.set_cons_zero, List.set_cons_succ]
                refine takeD 16 108 (.pointer (some ⟨X, 3, none⟩)) rfl rfl (by kernel_rfl) (by kernel_rfl) (by kernel_rfl) (fun _ _ _ h => h) (Or.inl ⟨by kernel_rfl, by intro w hSw; (try dsimp only at hSw); go_simp⟩) hHeld ?_
                simp only [List.set_cons_zero, List.set_cons_succ]
                refine takeD 17 109 (.int .i64 nw) rfl rfl (by kernel_rfl) (by kernel_rfl) (by kernel_rfl) (fun _ _ _ h => h) (Or.inl ⟨by kernel_rfl, by intro w hSw; (try dsimp only at hSw); go_simp⟩) hHeld ?_
                simp only [List.set_cons_zero, List.set_cons_succ]
                refine takeD 18 110 (.pointer (some ⟨X, 4, none⟩)) rfl rfl (by kernel_rfl) (by kernel_rfl) (by kernel_rfl) (fun _ _ _ h => h) (Or.inl ⟨by kernel_rfl, by intro w hSw; (try dsimp only at hSw); go_simp⟩) hHeld ?_
                simp only [List.set_cons_zero, List.set_cons_succ]
                refine takeD 19 111 (.int .i64 tkk) rfl rfl (by kernel_rfl) (by kernel_rfl) (by kernel_rfl) (fun _ _ _ h => h) (Or.inl ⟨by kernel_rfl, by intro w hSw; (try dsimp only at hSw); go_simp⟩) hHeld ?_
                simp only [List.set_cons_zero, List.set_cons_succ]
                obtain ⟨rn, hrn⟩ : ∃ rn, rn = relC (ss 1) tk nw := ⟨_, rfl⟩
                have HRN := mkHid hrn
                have HNM : Hid (rn = 0 ∨ rn = 1 ∨ rn = 7 ∨ rn = 14) := mkHid (by rw [hrn]; exact relC_num _ _ _)
                clear hrn
                refine wpAnyH_ready (rs := [9]) (by kernel_rfl) (by simp) (AllReadyH.cons rfl (fun K hK => ?_) AllReadyH.nil)
                go_simp
                refine (lp_release HL2.out.drew (i := 1) (by omega) tk nw tkk (HER2.out.late (Below.refl _ _).drew).es.eg).mono ?_
                rintro e w3 ⟨he, Fs3, hl3, hx3⟩
                rw [← HRN.out] at he
                obtain ⟨EV, hEV⟩ : ∃ EV, EV = eg a rn := ⟨_, rfl⟩
                have HEV := mkHid hEV
                rw [← hEV] at he
                subst he
                clear hEV
                have HL3 := mkHid hl3
                have HX3 := mkHid (hx3 X _ HX2.out.1 HX2.out.2)
                clear hl3 hx3 hHeld
                obtain ⟨⟨ag0, ag1⟩, am0, am1⟩ := HL3.out.g2
                obtain ⟨_, _, av2, av3, av4⟩ := op5c HX3.out.1
                refine hK.out _ _ ⟨ag1, am1, av2, av3, av4⟩ (fun hHeld => ?_)
                clear hK K
                (try simp only [Act.put])
                refine wpAnyH_ready (rs := [10]) (by kernel_rfl) (by simp) (AllReadyH.cons rfl (fun K hK => ?_) AllReadyH.nil)
                go_simp
                have hnum := num_eg w3 a (HEE.out.late HL3.out.bel) rn HNM.out
                rw [← HEV.out] at hnum
                refine hnum.mono ?_
                clear hnum
                rintro e w4 ⟨rfl, b4⟩
                have HL4 := mkHid (HL3.out.late b4)
                have HX4 := mkHid (And.intro (blk_late HX3.out.1 b4) HX3.out.2)
                clear b4 hHeld
                obtain ⟨⟨bg0, bg1⟩, bm0, bm1⟩ := HL4.out.g2
                obtain ⟨_, _, bv2, bv3, bv4⟩ := op5c HX4.out.1
                refine hK.out _ _ ⟨bg1, bm1, bv2, bv3, bv4⟩ (fun hHeld => ?_)
                clear hK K
                (try simp only [Act.put])
                refine wpAnyH_ready (rs := [20]) (by kernel_rfl) (by simp) (AllReadyH.cons rfl (fun K hK => ?_) AllReadyH.nil)
                go_simp
                refine (lp_drelease HL4.out (i := 1) (by omega) tk nw tkk).mono ?_
                rintro e w5 ⟨he, Fs5, hl5, hx5⟩
                rw [← HRN.out] at he
                subst he
                have HL5 := mkHid hl5
                have HX5 := mkHid (hx5 X _ HX4.out.1 HX4.out.2)
                clear hl5 hx5 hHeld
                obtain ⟨⟨cg0, cg1⟩, cm0, cm1⟩ := HL5.out.g2
                obtain ⟨_, _, cv2, cv3, cv4⟩ := op5c HX5.out.1
                refine hK.out _ _ ⟨cg1, cm1, cv2, cv3, cv4⟩ (fun hHeld => ?_)
                clear hK K
                (try simp only [Act.put])
                refine takeD 21 113 (.bool false) rfl rfl (by kernel_rfl) (by kernel_rfl) (by kernel_rfl) (fun _ _ _ h => h) (Or.inl ⟨by kernel_rfl, by intro w hSw; (try dsimp only at hSw); go_simp⟩) hHeld ?_
                simp only [List.set_cons_zero, List.set_cons_succ]
                refine wpAnyH_done (by kernel_rfl) ?_ _
                clear hHeld g0 g1 m0 m1 v0 v1 v2 v3 v4 ag0 ag1 am0 am1 av2 av3 av4 bg0 bg1 bm0 bm1 bv2 bv3 bv4 cg0 cg1 cm0 cm1 cv2 cv3 cv4
                go_wp2
                obtain ⟨⟨sg0, sg1⟩, sm0, sm1⟩ := HL5.out.g2
                obtain ⟨sv0, sv1, sv2, sv3, sv4⟩ := op5c HX5.out.1
                have HCA : Hid (∀ W', Below w5.heap.size w5 W' → Calls Tryd.prog 17 #[.pointer (some ⟨bs 1, 0, none⟩), .pointer (some ⟨ds 1, 0, none⟩), .int .i64 nw] W' fun e w' => e = .returned (.bool true) ∧ Below W'.heap.size W' w') := mkHid (fun W' hW' => lp_asks (HL5.out.late hW') (i := 1) (by omega) rfl nw)
                have HBR : Hid (Below w5.heap.size w5 w5) := mkHid (Below.refl _ _)
                refine wp_region_held_drew (S := fun w' => w'.cell? ⟨GS, 1, none⟩ = some (.pointer (some ⟨bs 1, 0, none⟩)) ∧ w'.cell? ⟨MS, 1, none⟩ = some (.pointer (some ⟨ds 1, 0, none⟩)) ∧ w'.cell? ⟨X, 3, none⟩ = some (.int .i64 nw)) (by kernel_rfl) ⟨sg1, sm1, sv3⟩ (fun hHeld => ?_)
                refine takeD 0 146 (.int .i64 1) rfl rfl (by kernel_rfl) (by kernel_rfl) (by kernel_rfl) (fun _ _ _ h => h) (Or.inl ⟨by kernel_rfl, by intro w hSw; (try dsimp only at hSw); go_simp⟩) hHeld ?_
                simp only [List.set_cons_zero, List.set_cons_succ]
                refine takeD 1 147 (.pointer (some ⟨GS, 1, none⟩)) rfl rfl (by kernel_rfl) (by kernel_rfl) (by kernel_rfl) (fun _ _ _ h => h) (Or.inl ⟨by kernel_rfl, by intro w hSw; (try dsimp only at hSw); go_simp⟩) hHeld ?_
                simp only [List.set_cons_zero, List.set_cons_succ]
                refine takeD 2 148 (.pointer (some ⟨bs 1, 0, none⟩)) rfl rfl (by kernel_rfl) (by kernel_rfl) (by kernel_rfl) (fun _ _ _ h => h) (Or.inl ⟨by kernel_rfl, by intro w hSw; (try dsimp only at hSw); go_simp⟩) hHeld ?_
                simp only [List.set_cons_zero, List.set_cons_succ]
                refine takeD 3 149 (.int .i64 1) rfl rfl (by kernel_rfl) (by kernel_rfl) (by kernel_rfl) (fun _ _ _ h => h) (Or.inl ⟨by kernel_rfl, by intro w hSw; (try dsimp only at hSw); go_simp⟩) hHeld ?_
                simp only [List.set_cons_zero, List.set_cons_succ]
                refine takeD 4 150 (.pointer (some ⟨MS, 1, none⟩)) rfl rfl (by kernel_rfl) (by kernel_rfl) (by kernel_rfl) (fun _ _ _ h => h) (Or.inl ⟨by kernel_rfl, by intro w hSw; (try dsimp only at hSw); go_simp⟩) hHeld ?_
                simp only [List.set_cons_zero, List.set_cons_succ]
                refine takeD 5 151 (.pointer (some ⟨ds 1, 0, none⟩)) rfl rfl (by kernel_rfl) (by kernel_rfl) (by kernel_rfl) (fun _ _ _ h => h) (Or.inl ⟨by kernel_rfl, by intro w hSw; (try dsimp only at hSw); go_simp⟩) hHeld ?_
                simp only [List.set_cons_zero, List.set_cons_succ]
                refine takeD 6 152 (.pointer (some ⟨X, 3, none⟩)) rfl rfl (by kernel_rfl) (by kernel_rfl) (by kernel_rfl) (fun _ _ _ h => h) (Or.inl ⟨by kernel_rfl, by intro w hSw; (try dsimp only at hSw); go_simp⟩) hHeld ?_
                simp only [List.set_cons_zero, List.set_cons_succ]
                refine takeD 7 153 (.int .i64 nw) rfl rfl (by kernel_rfl) (by kernel_rfl) (by kernel_rfl) (fun _ _ _ h => h) (Or.inl ⟨by kernel_rfl, by intro w hSw; (try dsimp only at hSw); go_simp⟩) hHeld ?_
                simp only [List.set_cons_zero, List.set_cons_succ]
                refine wpAnyH_ready (rs := [8]) (by kernel_rfl) (by simp) (AllReadyH.cons rfl (fun K hK => ?_) AllReadyH.nil)
                go_simp
                refine (HCA.out w5.drew (HBR.out.drew)).mono ?_
                rintro e wA ⟨rfl, bwA⟩
                have fawA_0 : wA.cell? ⟨GS, 1, none⟩ = some (.pointer (some ⟨bs 1, 0, none⟩)) := kc (show w5.drew.cell? _ = _ from sg1) bwA
                have fawA_1 : wA.cell? ⟨MS, 1, none⟩ = some (.pointer (some ⟨ds 1, 0, none⟩)) := kc (show w5.drew.cell? _ = _ from sm1) bwA
                have fawA_2 : wA.cell? ⟨X, 3, none⟩ = some (.int .i64 nw) := kc (show w5.drew.cell? _ = _ from sv3) bwA
                have HBA := mkHid (bt HBR.out.drew bwA)
                clear bwA hHeld
                refine hK.out _ _ ⟨fawA_0, fawA_1, fawA_2⟩ (fun hHeld => ?_)
                clear hK K
                refine takeD 9 155 (.bool false) rfl rfl (by kernel_rfl) (by kernel_rfl) (by kernel_rfl) (fun _ _ _ h => h) (Or.inl ⟨by kernel_rfl, by intro w hSw; (try dsimp only at hSw); go_simp⟩) hHeld ?_
                simp only [List.set_cons_zero, List.set_cons_succ]
                refine wpAnyH_done (by kernel_rfl) ?_ _
                clear hHeld
                have HLA := mkHid (HL5.out.late HBA.out)
                go_wp2
                go_roundw
                case rel => exact ⟨i + 1, _, (up ss 1 ((ss 1).rel tk nw tkk)), by go_num, by omega, by omega, HLA⟩
                case measure => simp [intOf]; omega
              · have hk1b : (kd == 1) = false := by simpa using hk1
                by_cases hk2 : kd = 2
                · subst hk2
                  obtain ⟨W2, hW2⟩ : ∃ W2, W2 = wr.alloc (.cells #[.int .i64 2, .int .i64 wh, .int .i64 tk, .int .i64 nw, .int .i64 tkk] 40) := ⟨_, rfl⟩
                  have HL2 := mkHid (HL.out.alloc (.cells #[.int .i64 2, .int .i64 wh, .int .i64 tk, .int .i64 nw, .int .i64 tkk] 40))
                  have HX2 : Hid ((wr.alloc (.cells #[.int .i64 2, .int .i64 wh, .int .i64 tk, .int .i64 nw, .int .i64 tkk] 40)).heap[wr.heap.size]? = some (.cells #[.int .i64 2, .int .i64 wh, .int .i64 tk, .int .i64 nw, .int .i64 tkk] 40) ∧ ∀ q, q < 2 → ¬ Fs q wr.heap.size) := mkHid ⟨heap_alloc_new wr _, fun q hq f => by have := HL.out.flt hq f; omega⟩
                  obtain ⟨⟨g0, g1⟩, m0, m1⟩ := HL2.out.g2
                  obtain ⟨r, en, nn, s', hr⟩ := runR_ex p (ss 1)
                  have HRR := mkHid hr
                  have HNM := mkHid hr.num
                  have HER2 := mkHid (HEE.out.late HL2.out.bel)
                  obtain ⟨tj, rj, dj, lj, nj⟩ := r
                  obtain ⟨EV, hEV⟩ : ∃ EV, EV = er a nn := ⟨_, rfl⟩
                  have HEV := mkHid hEV
                  clear hr hEV
                  rw [← hW2] at HL2 HX2 HER2 g0 g1 m0 m1
                  have HW2 := mkHid hW2
                  clear hW2
                  have HC1 : Hid (Calls Tryd.prog 15 #[.pointer (some ⟨bs 1, 0, none⟩)] (wr.alloc (.cells #[.int .i64 2, .int .i64 wh, .int .i64 tk, .int .i64 nw, .int .i64 tkk] 40)) fun e w' => e = .returned (.tuple #[vJ ⟨tj, rj, dj, lj, nj⟩, .bool en, EV]) ∧ ∃ Fs', LP W w' R GS MS p (.slice ta ts.length tc) (.slice (some ⟨sb, off, none⟩) os.length sc) 2 bs ds Fs' (up ss 1 s') ss ts ∧ Kx 2 Fs Fs' (wr.alloc (.cells #[.int .i64 2, .int .i64 wh, .int .i64 tk, .int .i64 nw, .int .i64 tkk] 40)) w') := mkHid (by
                    have := lp_run HL2.out (i := 1) (by omega) HER2.out.es HRR.out
                    rw [HW2.out] at this
                    rw [HEV.out]
                    exact this)
                  rw [HW2.out] at g0 g1 m0 m1 HX2 HL2
                  go_wp2_with (first | (go_at_call 15; refine HC1.out.mono ?_; rintro e w3 ⟨rfl, Fs3, hl3, hx3⟩; have HL3 := mkHid (hl3.alloc (.cells #[.int .i64 (tj : Int), .int .i64 rj, .int .i64 dj, .int .i64 lj, .int .i64 nj] 45)); have hx3' := hx3 _ _ HX2.out.1 HX2.out.2; have HX3 : Hid ((w3.alloc (.cells #[.int .i64 (tj : Int), .int .i64 rj, .int .i64 dj, .int .i64 lj, .int .i64 nj] 45)).heap[wr.heap.size]? = some (.cells #[.int .i64 2, .int .i64 wh, .int .i64 tk, .int .i64 nw, .int .i64 tkk] 40) ∧ ∀ q, q < 2 → ¬ Fs3 q wr.heap.size) := mkHid ⟨blk_late hx3'.1 (ba (Below.refl _ _) _), hx3'.2⟩; have HB3 : Hid ((w3.alloc (.cells #[.int .i64 (tj : Int), .int .i64 rj, .int .i64 dj, .int .i64 lj, .int .i64 nj] 45)).heap[w3.heap.size]? = some (.cells #[.int .i64 (tj : Int), .int .i64 rj, .int .i64 dj, .int .i64 lj, .int .i64 nj] 45) ∧ ∀ q, q < 2 → ¬ Fs3 q w3.heap.size) := mkHid ⟨heap_alloc_new w3 _, fun q hq f => (by have := hl3.flt hq f; omega)⟩; clear hl3 hx3 hx3' g0 g1 m0 m1; obtain ⟨⟨g0, g1⟩, m0, m1⟩ := HL3.out.g2) | (go_at_call 16; refine (lp_drun HL3.out (i := 1) (by omega) HRR.out).mono ?_; rintro e w4 ⟨rfl, Fs4, hl4, hx4⟩; have HL4 := mkHid (hl4.alloc (.cells #[.int .i64 (tj : Int), .int .i64 rj, .int .i64 dj, .int .i64 lj, .int .i64 nj] 45)); have hy4 := hx4 _ _ HB3.out.1 HB3.out.2; have hz4 := hx4 _ _ HX3.out.1 HX3.out.2; have HX4 : Hid ((w4.alloc (.cells #[.int .i64 (tj : Int), .int .i64 rj, .int .i64 dj, .int .i64 lj, .int .i64 nj] 45)).heap[wr.heap.size]? = some (.cells #[.int .i64 2, .int .i64 wh, .int .i64 tk, .int .i64 nw, .int .i64 tkk] 40) ∧ ∀ q, q < 2 → ¬ Fs4 q wr.heap.size) := mkHid ⟨blk_late hz4.1 (ba (Below.refl _ _) _), hz4.2⟩; obtain ⟨c0, c1, c2, c3, c4'⟩ := op5c hy4.1; have HNU : Hid (∀ W', Below w4.heap.size w4 W' → Calls Tryd.prog 12 #[EV] W' fun e w' => e = .returned (.int .i64 nn) ∧ Below W'.heap.size W' w') := mkHid (fun W' hW' => (by rw [HEV.out]; exact num_er W' a (HEE.out.late (bt hl4.bel hW')) nn HNM.out)); clear hl4 hx4 hy4 hz4 g0 g1 m0 m1) | (go_at_call 12; refine (HNU.out _ (ba (Below.refl _ w4) _)).mono ?_; rintro e w5 ⟨rfl, b5⟩; have HL5 := mkHid (HL4.out.late b5); have HX5 : Hid (w5.heap[wr.heap.size]? = some (.cells #[.int .i64 2, .int .i64 wh, .int .i64 tk, .int .i64 nw, .int .i64 tkk] 40) ∧ ∀ q, q < 2 → ¬ Fs4 q wr.heap.size) := mkHid ⟨blk_late HX4.out.1 b5, HX4.out.2⟩; clear b5))
                  generalize wr.heap.size = X at *
                  obtain ⟨⟨sg0, sg1⟩, sm0, sm1⟩ := HL5.out.g2
                  obtain ⟨sv0, sv1, sv2, sv3, sv4⟩ := op5c HX5.out.1
                  have HCA : Hid (∀ W', Below w5.heap.size w5 W' → Calls Tryd.prog 17 #[.pointer (some ⟨bs 1, 0, none⟩), .pointer (some ⟨ds 1, 0, none⟩), .int .i64 nw] W' fun e w' => e = .returned (.bool true) ∧ Below W'.heap.size W' w') := mkHid (fun W' hW' => lp_asks (HL5.out.late hW') (i := 1) (by omega) rfl nw)
                  have HBR : Hid (Below w5.heap.size w5 w5) := mkHid (Below.refl _ _)
                  refine wp_region_held_drew (S := fun w' => w'.cell? ⟨GS, 1, none⟩ = some (.pointer (some ⟨bs 1, 0, none⟩)) ∧ w'.cell? ⟨MS, 1, none⟩ = some (.pointer (some ⟨ds 1, 0, none⟩)) ∧ w'.cell? ⟨X, 3, none⟩ = some (.int .i64 nw)) (by kernel_rfl) ⟨sg1, sm1, sv3⟩ (fun hHeld => ?_)
                  refine takeD 0 146 (.int .i64 1) rfl rfl (by kernel_rfl) (by kernel_rfl) (by kernel_rfl) (fun _ _ _ h => h) (Or.inl ⟨by kernel_rfl, by intro w hSw; (try dsimp only at hSw); go_simp⟩) hHeld ?_
                  simp only [List.set_cons_zero, List.set_cons_succ]
                  refine takeD 1 147 (.pointer (some ⟨GS, 1, none⟩)) rfl rfl (by kernel_rfl) (by kernel_rfl) (by kernel_rfl) (fun _ _ _ h => h) (Or.inl ⟨by kernel_rfl, by intro w hSw; (try dsimp only at hSw); go_simp⟩) hHeld ?_
                  simp only [List.set_cons_zero, List.set_cons_succ]
                  refine takeD 2 148 (.pointer (some ⟨bs 1, 0, none⟩)) rfl rfl (by kernel_rfl) (by kernel_rfl) (by kernel_rfl) (fun _ _ _ h => h) (Or.inl ⟨by kernel_rfl, by intro w hSw; (try dsimp only at hSw); go_simp⟩) hHeld ?_
                  simp only [List.set_cons_zero, List.set_cons_succ]
                  refine takeD 3 149 (.int .i64 1) rfl rfl (by kernel_rfl) (by kernel_rfl) (by kernel_rfl) (fun _ _ _ h => h) (Or.inl ⟨by kernel_rfl, by intro w hSw; (try dsimp only at hSw); go_simp⟩) hHeld ?_
                  simp only [List.set_cons_zero, List.set_cons_succ]
                  refine takeD 4 150 (.pointer (some ⟨MS, 1, none⟩)) rfl rfl (by kernel_rfl) (by kernel_rfl) (by kernel_rfl) (fun _ _ _ h => h) (Or.inl ⟨by kernel_rfl, by intro w hSw; (try dsimp only at hSw); go_simp⟩) hHeld ?_
                  simp only [List.set_cons_zero, List.set_cons_succ]
                  refine takeD 5 151 (.pointer (some ⟨ds 1, 0, none⟩)) rfl rfl (by kernel_rfl) (by kernel_rfl) (by kernel_rfl) (fun _ _ _ h => h) (Or.inl ⟨by kernel_rfl, by intro w hSw; (try dsimp only at hSw); go_simp⟩) hHeld ?_
                  simp only [List.set_cons_zero, List.set_cons_succ]
                  refine takeD 6 152 (.pointer (some ⟨X, 3, none⟩)) rfl rfl (by kernel_rfl) (by kernel_rfl) (by kernel_rfl) (fun _ _ _ h => h) (Or.inl ⟨by kernel_rfl, by intro w hSw; (try dsimp only at hSw); go_simp⟩) hHeld ?_
                  simp only [List.set_cons_zero, List.set_cons_succ]
                  refine takeD 7 153 (.int .i64 nw) rfl rfl (by kernel_rfl) (by kernel_rfl) (by kernel_rfl) (fun _ _ _ h => h) (Or.inl ⟨by kernel_rfl, by intro w hSw; (try dsimp only at hSw); go_simp⟩) hHeld ?_
                  simp only [List.set_cons_zero, List.set_cons_succ]
                  refine wpAnyH_ready (rs := [8]) (by kernel_rfl) (by simp) (AllReadyH.cons rfl (fun K hK => ?_) AllReadyH.nil)
                  go_simp
                  refine (HCA.out w5.drew (HBR.out.drew)).mono ?_
                  rintro e wA ⟨rfl, bwA⟩
                  have fawA_0 : wA.cell? ⟨GS, 1, none⟩ = some (.pointer (some ⟨bs 1, 0, none⟩)) := kc (show w5.drew.cell? _ = _ from sg1) bwA
                  have fawA_1 : wA.cell? ⟨MS, 1, none⟩ = some (.pointer (some ⟨ds 1, 0, none⟩)) := kc (show w5.drew.cell? _ = _ from sm1) bwA
                  have fawA_2 : wA.cell? ⟨X, 3, none⟩ = some (.int .i64 nw) := kc (show w5.drew.cell? _ = _ from sv3) bwA
                  have HBA := mkHid (bt HBR.out.drew bwA)
                  clear bwA hHeld
                  refine hK.out _ _ ⟨fawA_0, fawA_1, fawA_2⟩ (fun hHeld => ?_)
                  clear hK K
                  refine takeD 9 155 (.bool false) rfl rfl (by kernel_rfl) (by kernel_rfl) (by kernel_rfl) (fun _ _ _ h => h) (Or.inl ⟨by kernel_rfl, by intro w hSw; (try dsimp only at hSw); go_simp⟩) hHeld ?_
                  simp only [List.set_cons_zero, List.set_cons_succ]
                  refine wpAnyH_done (by kernel_rfl) ?_ _
                  clear hHeld
                  have HLA := mkHid (HL5.out.late HBA.out)
                  go_wp2
                  go_roundw
                  case rel => exact ⟨i + 1, _, (up ss 1 s'), by go_num, by omega, by omega, HLA⟩
                  case measure => simp [intOf]; omega
                · have hk2b : (kd == 2) = false := by simpa using hk2
                  obtain ⟨W2, hW2⟩ : ∃ W2, W2 = wr.alloc (.cells #[.int .i64 kd, .int .i64 wh, .int .i64 tk, .int .i64 nw, .int .i64 tkk] 40) := ⟨_, rfl⟩
                  have HL2 := mkHid (HL.out.alloc (.cells #[.int .i64 kd, .int .i64 wh, .int .i64 tk, .int .i64 nw, .int .i64 tkk] 40))
                  have HX2 : Hid ((wr.alloc (.cells #[.int .i64 kd, .int .i64 wh, .int .i64 tk, .int .i64 nw, .int .i64 tkk] 40)).heap[wr.heap.size]? = some (.cells #[.int .i64 kd, .int .i64 wh, .int .i64 tk, .int .i64 nw, .int .i64 tkk] 40) ∧ ∀ q, q < 2 → ¬ Fs q wr.heap.size) := mkHid ⟨heap_alloc_new wr _, fun q hq f => by have := HL.out.flt hq f; omega⟩
                  go_wp2
                  rw [← hW2] at HL2 HX2 ⊢
                  clear hW2
                  generalize wr.heap.size = X at *
                  obtain ⟨⟨sg0, sg1⟩, sm0, sm1⟩ := HL2.out.g2
                  obtain ⟨sv0, sv1, sv2, sv3, sv4⟩ := op5c HX2.out.1
                  have HCA : Hid (∀ W', Below W2.heap.size W2 W' → Calls Tryd.prog 17 #[.pointer (some ⟨bs 1, 0, none⟩), .pointer (some ⟨ds 1, 0, none⟩), .int .i64 nw] W' fun e w' => e = .returned (.bool true) ∧ Below W'.heap.size W' w') := mkHid (fun W' hW' => lp_asks (HL2.out.late hW') (i := 1) (by omega) rfl nw)
                  have HBR : Hid (Below W2.heap.size W2 W2) := mkHid (Below.refl _ _)
                  refine wp_region_held_drew (S := fun w' => w'.cell? ⟨GS, 1, none⟩ = some (.pointer (some ⟨bs 1, 0, none⟩)) ∧ w'.cell? ⟨MS, 1, none⟩ = some (.pointer (some ⟨ds 1, 0, none⟩)) ∧ w'.cell? ⟨X, 3, none⟩ = some (.int .i64 nw)) (by kernel_rfl) ⟨sg1, sm1, sv3⟩ (fun hHeld => ?_)
                  refine takeD 0 146 (.int .i64 1) rfl rfl (by kernel_rfl) (by kernel_rfl) (by kernel_rfl) (fun _ _ _ h => h) (Or.inl ⟨by kernel_rfl, by intro w hSw; (try dsimp only at hSw); go_simp⟩) hHeld ?_
                  simp only [List.set_cons_zero, List.set_cons_succ]
                  refine takeD 1 147 (.pointer (some ⟨GS, 1, none⟩)) rfl rfl (by kernel_rfl) (by kernel_rfl) (by kernel_rfl) (fun _ _ _ h => h) (Or.inl ⟨by kernel_rfl, by intro w hSw; (try dsimp only at hSw); go_simp⟩) hHeld ?_
                  simp only [List.set_cons_zero, List.set_cons_succ]
                  refine takeD 2 148 (.pointer (some ⟨bs 1, 0, none⟩)) rfl rfl (by kernel_rfl) (by kernel_rfl) (by kernel_rfl) (fun _ _ _ h => h) (Or.inl ⟨by kernel_rfl, by intro w hSw; (try dsimp only at hSw); go_simp⟩) hHeld ?_
                  simp only [List.set_cons_zero, List.set_cons_succ]
                  refine takeD 3 149 (.int .i64 1) rfl rfl (by kernel_rfl) (by kernel_rfl) (by kernel_rfl) (fun _ _ _ h => h) (Or.inl ⟨by kernel_rfl, by intro w hSw; (try dsimp only at hSw); go_simp⟩) hHeld ?_
                  simp only [List.set_cons_zero, List.set_cons_succ]
                  refine takeD 4 150 (.pointer (some ⟨MS, 1, none⟩)) rfl rfl (by kernel_rfl) (by kernel_rfl) (by kernel_rfl) (fun _ _ _ h => h) (Or.inl ⟨by kernel_rfl, by intro w hSw; (try dsimp only at hSw); go_simp⟩) hHeld ?_
                  simp only [List.set_cons_zero, List.set_cons_succ]
                  refine takeD 5 151 (.pointer (some ⟨ds 1, 0, none⟩)) rfl rfl (by kernel_rfl) (by kernel_rfl) (by kernel_rfl) (fun _ _ _ h => h) (Or.inl ⟨by kernel_rfl, by intro w hSw; (try dsimp only at hSw); go_simp⟩) hHeld ?_
                  simp only [List.set_cons_zero, List.set_cons_succ]
                  refine takeD 6 152 (.pointer (some ⟨X, 3, none⟩)) rfl rfl (by kernel_rfl) (by kernel_rfl) (by kernel_rfl) (fun _ _ _ h => h) (Or.inl ⟨by kernel_rfl, by intro w hSw; (try dsimp only at hSw); go_simp⟩) hHeld ?_
                  simp only [List.set_cons_zero, List.set_cons_succ]
                  refine takeD 7 153 (.int .i64 nw) rfl rfl (by kernel_rfl) (by kernel_rfl) (by kernel_rfl) (fun _ _ _ h => h) (Or.inl ⟨by kernel_rfl, by intro w hSw; (try dsimp only at hSw); go_simp⟩) hHeld ?_
                  simp only [List.set_cons_zero, List.set_cons_succ]
                  refine wpAnyH_ready (rs := [8]) (by kernel_rfl) (by simp) (AllReadyH.cons rfl (fun K hK => ?_) AllReadyH.nil)
                  go_simp
                  refine (HCA.out W2.drew (HBR.out.drew)).mono ?_
                  rintro e wA ⟨rfl, bwA⟩
                  have fawA_0 : wA.cell? ⟨GS, 1, none⟩ = some (.pointer (some ⟨bs 1, 0, none⟩)) := kc (show W2.drew.cell? _ = _ from sg1) bwA
                  have fawA_1 : wA.cell? ⟨MS, 1, none⟩ = some (.pointer (some ⟨ds 1, 0, none⟩)) := kc (show W2.drew.cell? _ = _ from sm1) bwA
                  have fawA_2 : wA.cell? ⟨X, 3, none⟩ = some (.int .i64 nw) := kc (show W2.drew.cell? _ = _ from sv3) bwA
                  have HBA := mkHid (bt HBR.out.drew bwA)
                  clear bwA hHeld
                  refine hK.out _ _ ⟨fawA_0, fawA_1, fawA_2⟩ (fun hHeld => ?_)
                  clear hK K
                  refine takeD 9 155 (.bool false) rfl rfl (by kernel_rfl) (by kernel_rfl) (by kernel_rfl) (fun _ _ _ h => h) (Or.inl ⟨by kernel_rfl, by intro w hSw; (try dsimp only at hSw); go_simp⟩) hHeld ?_
                  simp only [List.set_cons_zero, List.set_cons_succ]
                  refine wpAnyH_done (by kernel_rfl) ?_ _
                  clear hHeld
                  have HLA := mkHid (HL2.out.late HBA.out)
                  go_wp2
                  go_roundw
                  case rel => exact ⟨i + 1, _, ss, by go_num, by omega, by omega, HLA⟩
                  case measure => simp [intOf]; omega
          · have hlj : (2000 : Int) < i := by omega
            go_wp2
            go_ret
            exact ⟨rfl, (HL.out.alloc _).bel⟩
        · obtain rfl : i = os.length := by omega
          go_wp2
          go_ret
          exact ⟨rfl, HL.out.bel⟩
end Go.Proofs.YthncfkeoephipaaDoor
