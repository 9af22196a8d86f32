/- The law GuestChooses. -/
import Derived.Test.YthncfkeoephipaaDoorGs9
namespace Go.Proofs.YthncfkeoephipaaDoor
open Go.ChangeShapes Go.WideShapes Go.ChangeAt Go.RowKit
attribute [local go_sem] World.cell?_alloc_some frozen_alloc_some

/-- What stands ahead of the others, if it does not hold on. -/
theorem Gt.Ok.best {p : Int} {s : Gt} (ok : s.Ok p) {j : Jb} (hj : s.js[nx p s.ts s.js]? = some j) (hn : hol s.ts j = false) {m : Nat} {k : Jb} (hk : s.js[m]? = some k) : (p = 1 → ¬ k.dl < j.dl) ∧ (p = 2 → ¬ k.tk < j.tk) ∧ hol s.ts k = false := by
  rcases nx_cases p s.ts s.js with ⟨i, x, h1, h2, h3, en⟩ | ⟨h3, en⟩
  · rw [en, h1] at hj
    rw [← Option.some.inj hj, h2] at hn
    cases hn
  · rw [en] at hj
    have hs := (bst_spec p s.js _ (Nat.le_refl _) j hj).1 m k (List.getElem?_eq_some_iff.mp hk).1 hk
    refine ⟨fun e => ?_, fun e => ?_, h3 m k hk⟩
    · subst e
      unfold ahd at hs
      split at hs <;> simp at hs <;> omega
    · subst e
      unfold ahd at hs
      simp at hs
      omega
theorem hol_no {ts : List Tk} {k : Jb} {t : Tk} (ht : ts[k.tk]? = some t) (h : hol ts k = false) : ¬ 0 < k.dn ∨ (0 < k.dn ∧ ¬ k.dn < t.2.2.2) := by
  unfold hol at h
  rw [tkS_at ht] at h
  simp at h
  omega
theorem hol_yes {ts : List Tk} {k : Jb} {t : Tk} (ht : ts[k.tk]? = some t) (h : hol ts k = true) : 0 < k.dn ∧ k.dn < t.2.2.2 := by
  unfold hol at h
  rw [tkS_at ht] at h
  simpa using h
set_option maxRecDepth 100000 in
set_option maxHeartbeats 3200000 in
theorem chooses_no (W : World) (p : Int) (tv sv : Value) (ts : List Tk) (a : Nat → Addr) (E : Eg W a) (hT : Tks W tv ts) (hsv : ∃ x n c, sv = .slice x n c) (h : ¬ okG p ts) : Calls Tryd.prog 6 #[vC p tv sv] W fun e w' => e = .returned (.bool true) ∧ Below W.heap.size W w' := by
  have HE := mkHid E
  have HO := mkHid h
  have HT := mkHid hT
  obtain ⟨ta, tc, rfl, _, _⟩ := hT
  obtain ⟨sa, sn, sc, rfl⟩ := hsv
  clear E h
  go_enter Tryd.func6, Tryd.ntmps6
  go_wp2_with (first | (go_at_call 8; refine (alive15 _ a (HE.out.late (ba (Below.refl _ _) _))).mono ?_; rintro e w1 ⟨rfl, b1⟩; have hr := (cb_new W p (.slice ta ts.length tc) (.slice sa sn sc)).late b1; have HR1 := mkHid hr; have HB1 := mkHid (bt (ba (Below.refl _ _) _) b1); have x0 := hr.c0; have x1 := hr.c1; clear b1 hr) | (go_at_call 9; refine (new_no _ _ p ts _ (HT.out.below HB1.out) HO.out (HE.out.late HB1.out).task).mono ?_; rintro e w2 ⟨rfl, b2⟩; have HB2 := mkHid (bt HB1.out b2); have hr := HR1.out.late b2; clear x0 x1; have x0 := hr.c0; have x1 := hr.c1; clear b2 hr) | (go_at_call 10; obtain ⟨lb, hlb, hcl⟩ := legalGuest_is w2 _ p ts (HT.out.below HB2.out); have hlf : lb = false := (by cases lb; rfl; exact absurd (hlb.mp rfl) HO.out); subst hlf; refine hcl.mono ?_; rintro e w3 ⟨rfl, b3⟩; have HB3 := mkHid (bt HB2.out b3); clear b3 hcl hlb))
  go_ret
  exact ⟨rfl, HB3.out⟩
set_option maxRecDepth 100000 in
set_option maxHeartbeats 12800000 in
theorem chooses_yes (W : World) (p : Int) (tv sv : Value) (ts : List Tk) (os : List Op5) (a : Nat → Addr) (E : Es W a) (hT : Tks W tv ts) (hS : Ops W sv os) (h : okG p ts) : Calls Tryd.prog 6 #[vC p tv sv] W fun e w' => e = .returned (.bool true) ∧ Below W.heap.size W w' := by
  have HE := mkHid E.eg
  have HES := mkHid E
  have HO := mkHid h
  have HT := mkHid hT
  have HS := mkHid hS
  have h8 := h.2.2.1
  obtain ⟨ta, tc, rfl, _, _⟩ := hT
  obtain ⟨sa, sc, rfl, _⟩ := RowIn.shape hS
  clear E h hS
  go_enter Tryd.func6, Tryd.ntmps6
  go_wp2_with (first | (go_at_call 8; refine (alive15 _ a (HE.out.late (ba (Below.refl _ _) _))).mono ?_; rintro e w1 ⟨rfl, b1⟩; have hr := (cb_new W p (.slice ta ts.length tc) (.slice sa os.length sc)).late b1; have HR1 := mkHid hr; have HB1 := mkHid (bt (ba (Below.refl _ _) _) b1); have x0 := hr.c0; have x1 := hr.c1; clear b1 hr) | (go_at_call 9; refine (new_ok _ _ p ts (HT.out.below HB1.out) HO.out).mono ?_; rintro e w2 ⟨b, xv, rfl, hg2, b2⟩; have HL2 : Hid (LG W w2 W.heap.size w1.heap.size b p (.slice ta ts.length tc) (.slice sa os.length sc) xv (.slice none 0 0) ts ⟨ts.map (fun t => (t, 0)), []⟩) := mkHid ⟨bt HB1.out b2, Nat.le_refl _, HR1.out.lt, HR1.out.late b2, hg2, start_ok HO.out.1 HO.out.2.1 HO.out.2.2.1 HO.out.2.2.2, start_ts ts⟩; clear x0 x1 b2 hg2; generalize w1.heap.size = B at *; have x0 := HL2.out.cb.c0; have x1 := HL2.out.cb.c1; have x2 := HL2.out.cb.c2))
  clear x0 x1 x2
  obtain ⟨R, hR⟩ : ∃ R, R = W.heap.size := ⟨_, rfl⟩
  rw [← hR] at HL2 ⊢
  clear hR
  go_loopw [41] (fun iv wr => ∃ (i : Nat) (jv : Value) (s : Gt), iv = .int .i64 (i : Int) ∧ i ≤ os.length ∧ i ≤ 1501 ∧ Hid (LG W wr R B b p (.slice ta ts.length tc) (.slice sa os.length sc) xv jv ts s)) (fun iv _ => os.length - (intOf iv).toNat)
  case atStart => exact ⟨0, _, _, rfl, by omega, by omega, HL2⟩
  case round =>
    clear HL2
    obtain ⟨i, jv, s, rfl, hi, hi2, HL⟩ := hrel
    have HEE := mkHid (HES.out.late HL.out.bel)
    by_cases hlt : i < os.length
    · obtain ⟨sb, off, o, rfl, ho, o0, o1, o2, o3, o4⟩ := HS.out.cells HL.out.bel i hlt
      have hli : (i : Int) < os.length := by omega
      clear ho
      obtain ⟨kd, wh, tk, nw, tkk⟩ := o
      simp only at o0 o1 o2 o3 o4
      by_cases hle : i ≤ 1500
      · have hlj : (i : Int) ≤ 1500 := by omega
        have hl64 := HL.out.ok.l
        by_cases hk1 : kd = 1
        · subst hk1
          go_wp2_with (go_at_call 13; refine (release_is B _ b p xv jv s tk nw tkk a (HL.out.alloc _).gb HL.out.ok (HEE.out.eg.late (ba (Below.refl _ _) _))).mono ?_; rintro e w3 ⟨he, jv3, hg3, hk3, hv3⟩; obtain ⟨EV, hEV⟩ : ∃ v, v = eg a (relC s tk nw) := ⟨_, rfl⟩; rw [← hEV] at he; subst he; clear hEV; have HL3 := mkHid ((HL.out.alloc (.cells #[.int .i64 1, .int .i64 wh, .int .i64 tk, .int .i64 nw, .int .i64 tkk] 40)).call hg3 hk3 (HL.out.ok.rel tk nw tkk) (rel_ts s tk nw tkk)); clear hg3 hk3 hv3)
          go_roundw
          case rel => exact ⟨i + 1, jv3, _, by go_num, by omega, by omega, HL3⟩
          case measure => simp [intOf]; omega
        · have hk2 : (kd == 1) = false := by simpa using hk1
          clear hk1
          by_cases hz : s.js.length = 0
          · have hd0 : decide ((0 : Int) < s.js.length) = false := decide_eq_false (by omega)
            have hd1 : ¬ 0 < s.js.length := by omega
            have HZ := mkHid hz
            clear hz
            go_wp2_with (first | (go_at_call 18; refine (next_none B _ b p xv jv s (HL.out.alloc _).gb HZ.out).mono ?_; rintro e w3 ⟨rfl, b3⟩; have HL3 := mkHid (((HL.out.alloc (.cells #[.int .i64 kd, .int .i64 wh, .int .i64 tk, .int .i64 nw, .int .i64 tkk] 40)).late b3).alloc (.cells #[.int .i64 0, .int .i64 0, .int .i64 0, .int .i64 0, .int .i64 0] 45)); clear b3) | (go_at_call 19; refine (jobs_is B _ b p xv jv s HL3.out.gb hl64).mono ?_; rintro e w4 ⟨la, lc, rfl, ho4, b4⟩; have HL4 := mkHid (HL3.out.late b4); clear ho4 b4))
            go_quiet (fail)
            have HL5 := mkHid (HL4.out.drewN nq)
            generalize w4.drewN nq = W5 at *
            have HE5 := mkHid (HES.out.late HL5.out.bel)
            go_wp2_with (go_at_call 15; refine (run_none B _ b p xv jv s _ HL5.out.gb HZ.out HE5.out.state).mono ?_; rintro e w6 ⟨rfl, b6⟩; have HL6 := mkHid ((HL5.out.late b6).alloc (.cells #[.int .i64 0, .int .i64 0, .int .i64 0, .int .i64 0, .int .i64 0] 45)); clear b6)
            go_roundw
            case rel => exact ⟨i + 1, jv, s, by go_num, by omega, by omega, HL6⟩
            case measure => simp [intOf]; omega
          · obtain ⟨j, hjx⟩ : ∃ j, s.js[nx p s.ts s.js]? = some j := ⟨_, List.getElem?_eq_getElem (nx_lt p s.ts s.js (by omega))⟩
            obtain ⟨x, hx, jo, hr⟩ := HL.out.ok.j _ _ hjx
            have hxt : ts[j.tk]? = some x.1 := by rw [← HL.out.e]; exact ts_at hx
            have hok := HL.out.ok.ok x (List.mem_of_getElem? hx)
            obtain ⟨k1, k2, k3, k4, k5, k6⟩ := hok
            have hjl := jo.l
            have hjn := jo.n
            have hjc := jo.c
            have hd0 : (0 : Int) < s.js.length := by omega
            have hd1 : 0 < s.js.length := by omega
            have eL : IntKind.i64.wrap (j.lf - 1) = j.lf - 1 := wfit (by omega) (by omega)
            obtain ⟨tb, toff, tc1, tc2, tc3, tc4, rfl, htt, t0, t1, t2, t3⟩ := HT.out.at (Below.refl _ _) j.tk (List.getElem?_eq_some_iff.mp hxt).1
            have htx : x.1 = (tc1, tc2, tc3, tc4) := by rw [hxt] at htt; exact Option.some.inj htt
            have hjt : (j.tk : Int) < ts.length := by have := (List.getElem?_eq_some_iff.mp hxt).1; omega
            have HJX := mkHid hjx
            have HJT := mkHid htt
            obtain ⟨hb, hhb⟩ : ∃ hb, hb = hol s.ts j := ⟨_, rfl⟩
            have hcs : (hb = true ∧ 0 < j.dn ∧ j.dn < tc4) ∨ (hb = false ∧ ¬ 0 < j.dn) ∨ (hb = false ∧ 0 < j.dn ∧ ¬ j.dn < tc4) := by
              rw [HL.out.e] at hhb
              cases hb
              · rcases hol_no htt hhb.symm with q | ⟨q1, q2⟩
                · exact .inr (.inl ⟨rfl, q⟩)
                · exact .inr (.inr ⟨rfl, q1, q2⟩)
              · exact .inl ⟨rfl, hol_yes htt hhb.symm⟩
            have HHB := mkHid hhb
            have HLF : Hid (j.lf = 1 ∨ ¬ j.lf = 1) := mkHid (by omega)
            clear hjx hx hxt htt htx hr jo k1 k2 k3 k4 k5 k6 hjl hjn hjc x hz t0 t1 t2 hhb
            rcases hcs with ⟨rfl, q1, q2⟩ | ⟨rfl, q1⟩ | ⟨rfl, q1, q2⟩
            · obtain ⟨tj, rj, dj, lj, nj⟩ := j
              simp only at q1 q2 eL hjt t3
              go_wp2_with (first | (go_at_call 18; refine (next_some B _ b _ xv jv s _ (HL.out.alloc _).gb HL.out.ok HJX.out).mono ?_; rintro e w3 ⟨rfl, b3⟩; have HL3 := mkHid (((HL.out.alloc (.cells #[.int .i64 kd, .int .i64 wh, .int .i64 tk, .int .i64 nw, .int .i64 tkk] 40)).late b3).alloc (.cells #[.int .i64 (tj : Int), .int .i64 rj, .int .i64 dj, .int .i64 lj, .int .i64 nj] 45)); have HX3 : Hid ((w3.alloc (.cells #[.int .i64 (tj : Int), .int .i64 rj, .int .i64 dj, .int .i64 lj, .int .i64 nj] 45)).heap[w3.heap.size]? = some (oJ ⟨tj, rj, dj, lj, nj⟩)) := mkHid (heap_alloc_new w3 _); have HGB3 : Hid (∀ {k}, Ft xv jv b k → k < w3.heap.size) := mkHid (fun f => (((HL.out.alloc (.cells #[.int .i64 kd, .int .i64 wh, .int .i64 tk, .int .i64 nw, .int .i64 tkk] 40)).late b3).gb.foot f).2); have HS3 : Hid (w3.heap.size < (w3.alloc (.cells #[.int .i64 (tj : Int), .int .i64 rj, .int .i64 dj, .int .i64 lj, .int .i64 nj] 45)).heap.size) := mkHid (by simp); clear b3) | (go_at_call 19; refine (jobs_is B _ b _ xv jv s HL3.out.gb hl64).mono ?_; rintro e w4 ⟨la, lc, rfl, ho4, b4⟩; have HL4 := mkHid (HL3.out.late b4); have HO4 := mkHid ho4; have hx4 := blk_late HX3.out b4; have HX4 := mkHid hx4; obtain ⟨z0, z1, z2, z3, z4, _⟩ := J5.of_blk hx4; simp only [Nat.zero_add] at z0 z1 z2 z3 z4; have x0 := HL4.out.cb.c0; have x1 := HL4.out.cb.c1; have y3 := kc t3 HL4.out.bel; clear ho4 b4 hx4))
              go_quiet (fail)
              obtain ⟨W5, hW5⟩ : ∃ W5, W5 = w4.drewN nq := ⟨_, rfl⟩
              have HL5 := mkHid (HL4.out.drewN nq)
              have HX5 : Hid ((w4.drewN nq).heap[w3.heap.size]? = some (oJ ⟨tj, rj, dj, lj, nj⟩)) := mkHid HX4.out
              have HO5 : Hid ((w4.drewN nq).ownsRow (w3.alloc (.cells #[.int .i64 (tj : Int), .int .i64 rj, .int .i64 dj, .int .i64 lj, .int .i64 nj] 45)).heap.size 45 5 (.slice la s.js.length lc) s.js.length (s.js.flatMap cj)) := mkHid HO4.out
              rw [← hW5] at HL5 HX5 HO5 ⊢
              clear hW5 HX3 HX4 HO4 HS3 z0 z1 z2 z3 z4 x0 x1 y3
              have HNF : Hid (¬ Ft xv jv b w3.heap.size) := mkHid (fun f => by have := (HGB3.out f); omega)
              clear HGB3
              generalize w3.heap.size = X at *
              have HXN : Hid (W5.heap[X]? = some (oJ ⟨tj, rj, dj, lj, nj⟩) ∧ ¬ Ft xv jv b X) := mkHid ⟨HX5.out, HNF.out⟩
              rcases HLF.out with hlf | hlf
              · have HLF2 := mkHid hlf
                clear hlf
                go_wp2_with (go_at_call 15; refine (run_end B _ b _ xv jv s _ HL5.out.gb HL5.out.ok HJX.out HLF2.out).mono ?_; rintro e w6 ⟨rfl, jv6, hg6, hk6, hv6⟩; have HL7 := mkHid ((HL5.out.call hg6 hk6 (HL5.out.ok.run HJX.out) (run_ts s _)).alloc (.cells #[.int .i64 (tj : Int), .int .i64 rj, .int .i64 dj, .int .i64 (lj - 1), .int .i64 (nj + 1)] 45)); have hx6 := (HL5.out.box (jv' := jv6) hk6 hv6 HXN.out.1 HXN.out.2).1; obtain ⟨z0, z1, z2, z3, z4, _⟩ := J5.of_blk hx6; simp only [Nat.zero_add] at z0 z1 z2 z3 z4; simp only [Jb.ran]; clear hg6 hk6 hv6 hx6)
                go_roundw
                case rel => exact ⟨i + 1, jv6, _, by go_num, by omega, by omega, HL7⟩
                case measure => simp [intOf]; omega
              · have HLF2 := mkHid hlf
                clear hlf
                go_wp2_with (go_at_call 15; refine (run_on B _ b _ xv jv s _ HL5.out.gb HL5.out.ok HJX.out HLF2.out).mono ?_; rintro e w6 ⟨rfl, jv6, hg6, hk6, hv6⟩; have HL7 := mkHid ((HL5.out.call hg6 hk6 (HL5.out.ok.run HJX.out) (run_ts s _)).alloc (.cells #[.int .i64 (tj : Int), .int .i64 rj, .int .i64 dj, .int .i64 (lj - 1), .int .i64 (nj + 1)] 45)); have hx6 := (HL5.out.box (jv' := jv6) hk6 hv6 HXN.out.1 HXN.out.2).1; obtain ⟨z0, z1, z2, z3, z4, _⟩ := J5.of_blk hx6; simp only [Nat.zero_add] at z0 z1 z2 z3 z4; simp only [Jb.ran]; clear hg6 hk6 hv6 hx6)
                go_roundw
                case rel => exact ⟨i + 1, jv6, _, by go_num, by omega, by omega, HL7⟩
                case measure => simp [intOf]; omega
            · rcases HL.out.ok.pol with rfl | rfl
              · obtain ⟨tj, rj, dj, lj, nj⟩ := j
                simp only at q1  eL hjt t3
                have n1 : decide (0 < nj) = false := decide_eq_false q1
                go_wp2_with (first | (go_at_call 18; refine (next_some B _ b _ xv jv s _ (HL.out.alloc _).gb HL.out.ok HJX.out).mono ?_; rintro e w3 ⟨rfl, b3⟩; have HL3 := mkHid (((HL.out.alloc (.cells #[.int .i64 kd, .int .i64 wh, .int .i64 tk, .int .i64 nw, .int .i64 tkk] 40)).late b3).alloc (.cells #[.int .i64 (tj : Int), .int .i64 rj, .int .i64 dj, .int .i64 lj, .int .i64 nj] 45)); have HX3 : Hid ((w3.alloc (.cells #[.int .i64 (tj : Int), .int .i64 rj, .int .i64 dj, .int .i64 lj, .int .i64 nj] 45)).heap[w3.heap.size]? = some (oJ ⟨tj, rj, dj, lj, nj⟩)) := mkHid (heap_alloc_new w3 _); have HGB3 : Hid (∀ {k}, Ft xv jv b k → k < w3.heap.size) := mkHid (fun f => (((HL.out.alloc (.cells #[.int .i64 kd, .int .i64 wh, .int .i64 tk, .int .i64 nw, .int .i64 tkk] 40)).late b3).gb.foot f).2); have HS3 : Hid (w3.heap.size < (w3.alloc (.cells #[.int .i64 (tj : Int), .int .i64 rj, .int .i64 dj, .int .i64 lj, .int .i64 nj] 45)).heap.size) := mkHid (by simp); clear b3) | (go_at_call 19; refine (jobs_is B _ b _ xv jv s HL3.out.gb hl64).mono ?_; rintro e w4 ⟨la, lc, rfl, ho4, b4⟩; have HL4 := mkHid (HL3.out.late b4); have HO4 := mkHid ho4; have hx4 := blk_late HX3.out b4; have HX4 := mkHid hx4; obtain ⟨z0, z1, z2, z3, z4, _⟩ := J5.of_blk hx4; simp only [Nat.zero_add] at z0 z1 z2 z3 z4; have x0 := HL4.out.cb.c0; have x1 := HL4.out.cb.c1; have y3 := kc t3 HL4.out.bel; clear ho4 b4 hx4))
                go_quiet (fail)
                obtain ⟨W5, hW5⟩ : ∃ W5, W5 = w4.drewN nq := ⟨_, rfl⟩
                have HL5 := mkHid (HL4.out.drewN nq)
                have HX5 : Hid ((w4.drewN nq).heap[w3.heap.size]? = some (oJ ⟨tj, rj, dj, lj, nj⟩)) := mkHid HX4.out
                have HO5 : Hid ((w4.drewN nq).ownsRow (w3.alloc (.cells #[.int .i64 (tj : Int), .int .i64 rj, .int .i64 dj, .int .i64 lj, .int .i64 nj] 45)).heap.size 45 5 (.slice la s.js.length lc) s.js.length (s.js.flatMap cj)) := mkHid HO4.out
                rw [← hW5] at HL5 HX5 HO5 ⊢
                clear hW5 HX3 HX4 HO4 HS3 z0 z1 z2 z3 z4 x0 x1 y3
                have HNF : Hid (¬ Ft xv jv b w3.heap.size) := mkHid (fun f => by have := (HGB3.out f); omega)
                clear HGB3
                generalize w3.heap.size = X at *
                have HXN : Hid (W5.heap[X]? = some (oJ ⟨tj, rj, dj, lj, nj⟩) ∧ ¬ Ft xv jv b X) := mkHid ⟨HX5.out, HNF.out⟩
                go_wp2
                go_loopw [92] (fun mv wr => ∃ m : Nat, mv = .int .i64 (m : Int) ∧ m ≤ s.js.length ∧ Hid (Below W5.heap.size W5 wr)) (fun mv _ => s.js.length - (intOf mv).toNat)
                case atStart => exact ⟨0, rfl, Nat.zero_le _, Below.refl _ _⟩
                case round =>
                  obtain ⟨m, rfl, hm, HB6⟩ := hrel
                  have HL6 := mkHid (HL5.out.late HB6.out)
                  have HX6 : Hid (wr.heap[X]? = some (oJ ⟨tj, rj, dj, lj, nj⟩) ∧ ¬ Ft xv jv b X) := mkHid ⟨blk_late HX5.out HB6.out, HXN.out.2⟩
                  by_cases hml : m < s.js.length
                  · obtain ⟨k, hk⟩ : ∃ k, s.js[m]? = some k := ⟨_, List.getElem?_eq_getElem hml⟩
                    obtain ⟨g', c', eg', qk⟩ := own_job (ownN_kept HO5.out (kept_new (F := fun _ => False) HB6.out) (fun _ _ h => h)) hk
                    simp only [Value.slice.injEq] at eg'
                    obtain ⟨rfl, _, rfl⟩ := eg'
                    obtain ⟨u0, u1, u2, u3, u4, _⟩ := qk
                    have hmi : (m : Int) < s.js.length := by omega
                    obtain ⟨hb1, hb2, hb3⟩ := HL.out.ok.best HJX.out HHB.out.symm hk
                    obtain ⟨y, hy, jo, jr⟩ := HL.out.ok.j _ _ hk
                    have hyt : ts[k.tk]? = some y.1 := by rw [← HL.out.e]; exact ts_at hy
                    have hkt : (k.tk : Int) < ts.length := by have := (List.getElem?_eq_some_iff.mp hyt).1; omega
                    obtain ⟨tb', toff', d1, d2, d3, d4, etb, hdd, _, _, _, s3⟩ := HT.out.at HL6.out.bel k.tk (List.getElem?_eq_some_iff.mp hyt).1
                    simp only [Option.some.injEq, Addr.mk.injEq] at etb
                    obtain ⟨rfl, rfl, _⟩ := etb
                    rw [HL.out.e] at hb3
                    have hcs := hol_no hdd hb3
                    have nf := decide_eq_false (hb1 rfl)
                    obtain ⟨z0, z1, z2, z3, z4, _⟩ := J5.of_blk HX6.out.1
                    simp only [Nat.zero_add] at z0 z1 z2 z3 z4
                    have x0 := HL6.out.cb.c0
                    have x1 := HL6.out.cb.c1
                    clear hb1 hb2 hb3 hyt hdd hy hk jo jr y
                    obtain ⟨tk', rk, dk, lk, nk⟩ := k
                    simp only at u0 u1 u2 u3 u4 hkt s3 hcs nf
                    have nf2 : decide (dk < dj) = false := by exact nf
                    clear nf
                    rcases hcs with c1 | ⟨c1, c2⟩
                    · have nc : decide (0 < nk) = false := decide_eq_false c1
                      go_wp2
                      go_quiet (fail)
                      go_wp2
                      go_roundw
                      case rel => exact ⟨m + 1, by go_num, by omega, mkHid (below_drewN (ba HB6.out _) _)⟩
                      case measure => simp [intOf]; omega
                    · have nc : decide (nk < d4) = false := decide_eq_false c2
                      go_wp2
                      go_quiet (fail)
                      go_wp2
                      go_roundw
                      case rel => exact ⟨m + 1, by go_num, by omega, mkHid (below_drewN (ba HB6.out _) _)⟩
                      case measure => simp [intOf]; omega
                  · obtain rfl : m = s.js.length := by omega
                    rcases HLF.out with hlf | hlf
                    · have HLF2 := mkHid hlf
                      clear hlf
                      go_wp2_with (go_at_call 15; refine (run_end B _ b _ xv jv s _ HL6.out.gb HL6.out.ok HJX.out HLF2.out).mono ?_; rintro e w6 ⟨rfl, jv6, hg6, hk6, hv6⟩; have HL7 := mkHid ((HL6.out.call hg6 hk6 (HL6.out.ok.run HJX.out) (run_ts s _)).alloc (.cells #[.int .i64 (tj : Int), .int .i64 rj, .int .i64 dj, .int .i64 (lj - 1), .int .i64 (nj + 1)] 45)); have hx6 := (HL6.out.box (jv' := jv6) hk6 hv6 HX6.out.1 HX6.out.2).1; obtain ⟨z0, z1, z2, z3, z4, _⟩ := J5.of_blk hx6; simp only [Nat.zero_add] at z0 z1 z2 z3 z4; simp only [Jb.ran]; clear hg6 hk6 hv6 hx6)
                      go_roundw
                      case rel => exact ⟨i + 1, jv6, _, by go_num, by omega, by omega, HL7⟩
                      case measure => simp [intOf]; omega
                    · have HLF2 := mkHid hlf
                      clear hlf
                      go_wp2_with (go_at_call 15; refine (run_on B _ b _ xv jv s _ HL6.out.gb HL6.out.ok HJX.out HLF2.out).mono ?_; rintro e w6 ⟨rfl, jv6, hg6, hk6, hv6⟩; have HL7 := mkHid ((HL6.out.call hg6 hk6 (HL6.out.ok.run HJX.out) (run_ts s _)).alloc (.cells #[.int .i64 (tj : Int), .int .i64 rj, .int .i64 dj, .int .i64 (lj - 1), .int .i64 (nj + 1)] 45)); have hx6 := (HL6.out.box (jv' := jv6) hk6 hv6 HX6.out.1 HX6.out.2).1; obtain ⟨z0, z1, z2, z3, z4, _⟩ := J5.of_blk hx6; simp only [Nat.zero_add] at z0 z1 z2 z3 z4; simp only [Jb.ran]; clear hg6 hk6 hv6 hx6)
                      go_roundw
                      case rel => exact ⟨i + 1, jv6, _, by go_num, by omega, by omega, HL7⟩
                      case measure => simp [intOf]; omega
              · obtain ⟨tj, rj, dj, lj, nj⟩ := j
                simp only at q1  eL hjt t3
                have n1 : decide (0 < nj) = false := decide_eq_false q1
                go_wp2_with (first | (go_at_call 18; refine (next_some B _ b _ xv jv s _ (HL.out.alloc _).gb HL.out.ok HJX.out).mono ?_; rintro e w3 ⟨rfl, b3⟩; have HL3 := mkHid (((HL.out.alloc (.cells #[.int .i64 kd, .int .i64 wh, .int .i64 tk, .int .i64 nw, .int .i64 tkk] 40)).late b3).alloc (.cells #[.int .i64 (tj : Int), .int .i64 rj, .int .i64 dj, .int .i64 lj, .int .i64 nj] 45)); have HX3 : Hid ((w3.alloc (.cells #[.int .i64 (tj : Int), .int .i64 rj, .int .i64 dj, .int .i64 lj, .int .i64 nj] 45)).heap[w3.heap.size]? = some (oJ ⟨tj, rj, dj, lj, nj⟩)) := mkHid (heap_alloc_new w3 _); have HGB3 : Hid (∀ {k}, Ft xv jv b k → k < w3.heap.size) := mkHid (fun f => (((HL.out.alloc (.cells #[.int .i64 kd, .int .i64 wh, .int .i64 tk, .int .i64 nw, .int .i64 tkk] 40)).late b3).gb.foot f).2); have HS3 : Hid (w3.heap.size < (w3.alloc (.cells #[.int .i64 (tj : Int), .int .i64 rj, .int .i64 dj, .int .i64 lj, .int .i64 nj] 45)).heap.size) := mkHid (by simp); clear b3) | (go_at_call 19; refine (jobs_is B _ b _ xv jv s HL3.out.gb hl64).mono ?_; rintro e w4 ⟨la, lc, rfl, ho4, b4⟩; have HL4 := mkHid (HL3.out.late b4); have HO4 := mkHid ho4; have hx4 := blk_late HX3.out b4; have HX4 := mkHid hx4; obtain ⟨z0, z1, z2, z3, z4, _⟩ := J5.of_blk hx4; simp only [Nat.zero_add] at z0 z1 z2 z3 z4; have x0 := HL4.out.cb.c0; have x1 := HL4.out.cb.c1; have y3 := kc t3 HL4.out.bel; clear ho4 b4 hx4))
                go_quiet (fail)
                obtain ⟨W5, hW5⟩ : ∃ W5, W5 = w4.drewN nq := ⟨_, rfl⟩
                have HL5 := mkHid (HL4.out.drewN nq)
                have HX5 : Hid ((w4.drewN nq).heap[w3.heap.size]? = some (oJ ⟨tj, rj, dj, lj, nj⟩)) := mkHid HX4.out
                have HO5 : Hid ((w4.drewN nq).ownsRow (w3.alloc (.cells #[.int .i64 (tj : Int), .int .i64 rj, .int .i64 dj, .int .i64 lj, .int .i64 nj] 45)).heap.size 45 5 (.slice la s.js.length lc) s.js.length (s.js.flatMap cj)) := mkHid HO4.out
                rw [← hW5] at HL5 HX5 HO5 ⊢
                clear hW5 HX3 HX4 HO4 HS3 z0 z1 z2 z3 z4 x0 x1 y3
                have HNF : Hid (¬ Ft xv jv b w3.heap.size) := mkHid (fun f => by have := (HGB3.out f); omega)
                clear HGB3
                generalize w3.heap.size = X at *
                have HXN : Hid (W5.heap[X]? = some (oJ ⟨tj, rj, dj, lj, nj⟩) ∧ ¬ Ft xv jv b X) := mkHid ⟨HX5.out, HNF.out⟩
                go_wp2
                go_loopw [92] (fun mv wr => ∃ m : Nat, mv = .int .i64 (m : Int) ∧ m ≤ s.js.length ∧ Hid (Below W5.heap.size W5 wr)) (fun mv _ => s.js.length - (intOf mv).toNat)
                case atStart => exact ⟨0, rfl, Nat.zero_le _, Below.refl _ _⟩
                case round =>
                  obtain ⟨m, rfl, hm, HB6⟩ := hrel
                  have HL6 := mkHid (HL5.out.late HB6.out)
                  have HX6 : Hid (wr.heap[X]? = some (oJ ⟨tj, rj, dj, lj, nj⟩) ∧ ¬ Ft xv jv b X) := mkHid ⟨blk_late HX5.out HB6.out, HXN.out.2⟩
                  by_cases hml : m < s.js.length
                  · obtain ⟨k, hk⟩ : ∃ k, s.js[m]? = some k := ⟨_, List.getElem?_eq_getElem hml⟩
                    obtain ⟨g', c', eg', qk⟩ := own_job (ownN_kept HO5.out (kept_new (F := fun _ => False) HB6.out) (fun _ _ h => h)) hk
                    simp only [Value.slice.injEq] at eg'
                    obtain ⟨rfl, _, rfl⟩ := eg'
                    obtain ⟨u0, u1, u2, u3, u4, _⟩ := qk
                    have hmi : (m : Int) < s.js.length := by omega
                    obtain ⟨hb1, hb2, hb3⟩ := HL.out.ok.best HJX.out HHB.out.symm hk
                    obtain ⟨y, hy, jo, jr⟩ := HL.out.ok.j _ _ hk
                    have hyt : ts[k.tk]? = some y.1 := by rw [← HL.out.e]; exact ts_at hy
                    have hkt : (k.tk : Int) < ts.length := by have := (List.getElem?_eq_some_iff.mp hyt).1; omega
                    obtain ⟨tb', toff', d1, d2, d3, d4, etb, hdd, _, _, _, s3⟩ := HT.out.at HL6.out.bel k.tk (List.getElem?_eq_some_iff.mp hyt).1
                    simp only [Option.some.injEq, Addr.mk.injEq] at etb
                    obtain ⟨rfl, rfl, _⟩ := etb
                    rw [HL.out.e] at hb3
                    have hcs := hol_no hdd hb3
                    have nf := decide_eq_false (hb2 rfl)
                    obtain ⟨z0, z1, z2, z3, z4, _⟩ := J5.of_blk HX6.out.1
                    simp only [Nat.zero_add] at z0 z1 z2 z3 z4
                    have x0 := HL6.out.cb.c0
                    have x1 := HL6.out.cb.c1
                    clear hb1 hb2 hb3 hyt hdd hy hk jo jr y
                    obtain ⟨tk', rk, dk, lk, nk⟩ := k
                    simp only at u0 u1 u2 u3 u4 hkt s3 hcs nf
                    have nf2 : decide ((tk' : Int) < (tj : Int)) = false := by simpa using nf
                    skip
                    rcases hcs with c1 | ⟨c1, c2⟩
                    · have nc : decide (0 < nk) = false := decide_eq_false c1
                      go_wp2
                      go_quiet (fail)
                      go_wp2
                      go_roundw
                      case rel => exact ⟨m + 1, by go_num, by omega, mkHid (below_drewN (ba HB6.out _) _)⟩
                      case measure => simp [intOf]; omega
                    · have nc : decide (nk < d4) = false := decide_eq_false c2
                      go_wp2
                      go_quiet (fail)
                      go_wp2
                      go_roundw
                      case rel => exact ⟨m + 1, by go_num, by omega, mkHid (below_drewN (ba HB6.out _) _)⟩
                      case measure => simp [intOf]; omega
                  · obtain rfl : m = s.js.length := by omega
                    rcases HLF.out with hlf | hlf
                    · have HLF2 := mkHid hlf
                      clear hlf
                      go_wp2_with (go_at_call 15; refine (run_end B _ b _ xv jv s _ HL6.out.gb HL6.out.ok HJX.out HLF2.out).mono ?_; rintro e w6 ⟨rfl, jv6, hg6, hk6, hv6⟩; have HL7 := mkHid ((HL6.out.call hg6 hk6 (HL6.out.ok.run HJX.out) (run_ts s _)).alloc (.cells #[.int .i64 (tj : Int), .int .i64 rj, .int .i64 dj, .int .i64 (lj - 1), .int .i64 (nj + 1)] 45)); have hx6 := (HL6.out.box (jv' := jv6) hk6 hv6 HX6.out.1 HX6.out.2).1; obtain ⟨z0, z1, z2, z3, z4, _⟩ := J5.of_blk hx6; simp only [Nat.zero_add] at z0 z1 z2 z3 z4; simp only [Jb.ran]; clear hg6 hk6 hv6 hx6)
                      go_roundw
                      case rel => exact ⟨i + 1, jv6, _, by go_num, by omega, by omega, HL7⟩
                      case measure => simp [intOf]; omega
                    · have HLF2 := mkHid hlf
                      clear hlf
                      go_wp2_with (go_at_call 15; refine (run_on B _ b _ xv jv s _ HL6.out.gb HL6.out.ok HJX.out HLF2.out).mono ?_; rintro e w6 ⟨rfl, jv6, hg6, hk6, hv6⟩; have HL7 := mkHid ((HL6.out.call hg6 hk6 (HL6.out.ok.run HJX.out) (run_ts s _)).alloc (.cells #[.int .i64 (tj : Int), .int .i64 rj, .int .i64 dj, .int .i64 (lj - 1), .int .i64 (nj + 1)] 45)); have hx6 := (HL6.out.box (jv' := jv6) hk6 hv6 HX6.out.1 HX6.out.2).1; obtain ⟨z0, z1, z2, z3, z4, _⟩ := J5.of_blk hx6; simp only [Nat.zero_add] at z0 z1 z2 z3 z4; simp only [Jb.ran]; clear hg6 hk6 hv6 hx6)
                      go_roundw
                      case rel => exact ⟨i + 1, jv6, _, by go_num, by omega, by omega, HL7⟩
                      case measure => simp [intOf]; omega
            · rcases HL.out.ok.pol with rfl | rfl
              · obtain ⟨tj, rj, dj, lj, nj⟩ := j
                simp only at q1 q2 eL hjt t3
                have n2 : decide (nj < tc4) = false := decide_eq_false q2
                go_wp2_with (first | (go_at_call 18; refine (next_some B _ b _ xv jv s _ (HL.out.alloc _).gb HL.out.ok HJX.out).mono ?_; rintro e w3 ⟨rfl, b3⟩; have HL3 := mkHid (((HL.out.alloc (.cells #[.int .i64 kd, .int .i64 wh, .int .i64 tk, .int .i64 nw, .int .i64 tkk] 40)).late b3).alloc (.cells #[.int .i64 (tj : Int), .int .i64 rj, .int .i64 dj, .int .i64 lj, .int .i64 nj] 45)); have HX3 : Hid ((w3.alloc (.cells #[.int .i64 (tj : Int), .int .i64 rj, .int .i64 dj, .int .i64 lj, .int .i64 nj] 45)).heap[w3.heap.size]? = some (oJ ⟨tj, rj, dj, lj, nj⟩)) := mkHid (heap_alloc_new w3 _); have HGB3 : Hid (∀ {k}, Ft xv jv b k → k < w3.heap.size) := mkHid (fun f => (((HL.out.alloc (.cells #[.int .i64 kd, .int .i64 wh, .int .i64 tk, .int .i64 nw, .int .i64 tkk] 40)).late b3).gb.foot f).2); have HS3 : Hid (w3.heap.size < (w3.alloc (.cells #[.int .i64 (tj : Int), .int .i64 rj, .int .i64 dj, .int .i64 lj, .int .i64 nj] 45)).heap.size) := mkHid (by simp); clear b3) | (go_at_call 19; refine (jobs_is B _ b _ xv jv s HL3.out.gb hl64).mono ?_; rintro e w4 ⟨la, lc, rfl, ho4, b4⟩; have HL4 := mkHid (HL3.out.late b4); have HO4 := mkHid ho4; have hx4 := blk_late HX3.out b4; have HX4 := mkHid hx4; obtain ⟨z0, z1, z2, z3, z4, _⟩ := J5.of_blk hx4; simp only [Nat.zero_add] at z0 z1 z2 z3 z4; have x0 := HL4.out.cb.c0; have x1 := HL4.out.cb.c1; have y3 := kc t3 HL4.out.bel; clear ho4 b4 hx4))
                go_quiet (fail)
                obtain ⟨W5, hW5⟩ : ∃ W5, W5 = w4.drewN nq := ⟨_, rfl⟩
                have HL5 := mkHid (HL4.out.drewN nq)
                have HX5 : Hid ((w4.drewN nq).heap[w3.heap.size]? = some (oJ ⟨tj, rj, dj, lj, nj⟩)) := mkHid HX4.out
                have HO5 : Hid ((w4.drewN nq).ownsRow (w3.alloc (.cells #[.int .i64 (tj : Int), .int .i64 rj, .int .i64 dj, .int .i64 lj, .int .i64 nj] 45)).heap.size 45 5 (.slice la s.js.length lc) s.js.length (s.js.flatMap cj)) := mkHid HO4.out
                rw [← hW5] at HL5 HX5 HO5 ⊢
                clear hW5 HX3 HX4 HO4 HS3 z0 z1 z2 z3 z4 x0 x1 y3
                have HNF : Hid (¬ Ft xv jv b w3.heap.size) := mkHid (fun f => by have := (HGB3.out f); omega)
                clear HGB3
                generalize w3.heap.size = X at *
                have HXN : Hid (W5.heap[X]? = some (oJ ⟨tj, rj, dj, lj, nj⟩) ∧ ¬ Ft xv jv b X) := mkHid ⟨HX5.out, HNF.out⟩
                go_wp2
                go_loopw [92] (fun mv wr => ∃ m : Nat, mv = .int .i64 (m : Int) ∧ m ≤ s.js.length ∧ Hid (Below W5.heap.size W5 wr)) (fun mv _ => s.js.length - (intOf mv).toNat)
                case atStart => exact ⟨0, rfl, Nat.zero_le _, Below.refl _ _⟩
                case round =>
                  obtain ⟨m, rfl, hm, HB6⟩ := hrel
                  have HL6 := mkHid (HL5.out.late HB6.out)
                  have HX6 : Hid (wr.heap[X]? = some (oJ ⟨tj, rj, dj, lj, nj⟩) ∧ ¬ Ft xv jv b X) := mkHid ⟨blk_late HX5.out HB6.out, HXN.out.2⟩
                  by_cases hml : m < s.js.length
                  · obtain ⟨k, hk⟩ : ∃ k, s.js[m]? = some k := ⟨_, List.getElem?_eq_getElem hml⟩
                    obtain ⟨g', c', eg', qk⟩ := own_job (ownN_kept HO5.out (kept_new (F := fun _ => False) HB6.out) (fun _ _ h => h)) hk
                    simp only [Value.slice.injEq] at eg'
                    obtain ⟨rfl, _, rfl⟩ := eg'
                    obtain ⟨u0, u1, u2, u3, u4, _⟩ := qk
                    have hmi : (m : Int) < s.js.length := by omega
                    obtain ⟨hb1, hb2, hb3⟩ := HL.out.ok.best HJX.out HHB.out.symm hk
                    obtain ⟨y, hy, jo, jr⟩ := HL.out.ok.j _ _ hk
                    have hyt : ts[k.tk]? = some y.1 := by rw [← HL.out.e]; exact ts_at hy
                    have hkt : (k.tk : Int) < ts.length := by have := (List.getElem?_eq_some_iff.mp hyt).1; omega
                    obtain ⟨tb', toff', d1, d2, d3, d4, etb, hdd, _, _, _, s3⟩ := HT.out.at HL6.out.bel k.tk (List.getElem?_eq_some_iff.mp hyt).1
                    simp only [Option.some.injEq, Addr.mk.injEq] at etb
                    obtain ⟨rfl, rfl, _⟩ := etb
                    rw [HL.out.e] at hb3
                    have hcs := hol_no hdd hb3
                    have nf := decide_eq_false (hb1 rfl)
                    obtain ⟨z0, z1, z2, z3, z4, _⟩ := J5.of_blk HX6.out.1
                    simp only [Nat.zero_add] at z0 z1 z2 z3 z4
                    have x0 := HL6.out.cb.c0
                    have x1 := HL6.out.cb.c1
                    clear hb1 hb2 hb3 hyt hdd hy hk jo jr y
                    obtain ⟨tk', rk, dk, lk, nk⟩ := k
                    simp only at u0 u1 u2 u3 u4 hkt s3 hcs nf
                    have nf2 : decide (dk < dj) = false := by exact nf
                    clear nf
                    rcases hcs with c1 | ⟨c1, c2⟩
                    · have nc : decide (0 < nk) = false := decide_eq_false c1
                      go_wp2
                      go_quiet (fail)
                      go_wp2
                      go_roundw
                      case rel => exact ⟨m + 1, by go_num, by omega, mkHid (below_drewN (ba HB6.out _) _)⟩
                      case measure => simp [intOf]; omega
                    · have nc : decide (nk < d4) = false := decide_eq_false c2
                      go_wp2
                      go_quiet (fail)
                      go_wp2
                      go_roundw
                      case rel => exact ⟨m + 1, by go_num, by omega, mkHid (below_drewN (ba HB6.out _) _)⟩
                      case measure => simp [intOf]; omega
                  · obtain rfl : m = s.js.length := by omega
                    rcases HLF.out with hlf | hlf
                    · have HLF2 := mkHid hlf
                      clear hlf
                      go_wp2_with (go_at_call 15; refine (run_end B _ b _ xv jv s _ HL6.out.gb HL6.out.ok HJX.out HLF2.out).mono ?_; rintro e w6 ⟨rfl, jv6, hg6, hk6, hv6⟩; have HL7 := mkHid ((HL6.out.call hg6 hk6 (HL6.out.ok.run HJX.out) (run_ts s _)).alloc (.cells #[.int .i64 (tj : Int), .int .i64 rj, .int .i64 dj, .int .i64 (lj - 1), .int .i64 (nj + 1)] 45)); have hx6 := (HL6.out.box (jv' := jv6) hk6 hv6 HX6.out.1 HX6.out.2).1; obtain ⟨z0, z1, z2, z3, z4, _⟩ := J5.of_blk hx6; simp only [Nat.zero_add] at z0 z1 z2 z3 z4; simp only [Jb.ran]; clear hg6 hk6 hv6 hx6)
                      go_roundw
                      case rel => exact ⟨i + 1, jv6, _, by go_num, by omega, by omega, HL7⟩
                      case measure => simp [intOf]; omega
                    · have HLF2 := mkHid hlf
                      clear hlf
                      go_wp2_with (go_at_call 15; refine (run_on B _ b _ xv jv s _ HL6.out.gb HL6.out.ok HJX.out HLF2.out).mono ?_; rintro e w6 ⟨rfl, jv6, hg6, hk6, hv6⟩; have HL7 := mkHid ((HL6.out.call hg6 hk6 (HL6.out.ok.run HJX.out) (run_ts s _)).alloc (.cells #[.int .i64 (tj : Int), .int .i64 rj, .int .i64 dj, .int .i64 (lj - 1), .int .i64 (nj + 1)] 45)); have hx6 := (HL6.out.box (jv' := jv6) hk6 hv6 HX6.out.1 HX6.out.2).1; obtain ⟨z0, z1, z2, z3, z4, _⟩ := J5.of_blk hx6; simp only [Nat.zero_add] at z0 z1 z2 z3 z4; simp only [Jb.ran]; clear hg6 hk6 hv6 hx6)
                      go_roundw
                      case rel => exact ⟨i + 1, jv6, _, by go_num, by omega, by omega, HL7⟩
                      case measure => simp [intOf]; omega
              · obtain ⟨tj, rj, dj, lj, nj⟩ := j
                simp only at q1 q2 eL hjt t3
                have n2 : decide (nj < tc4) = false := decide_eq_false q2
                go_wp2_with (first | (go_at_call 18; refine (next_some B _ b _ xv jv s _ (HL.out.alloc _).gb HL.out.ok HJX.out).mono ?_; rintro e w3 ⟨rfl, b3⟩; have HL3 := mkHid (((HL.out.alloc (.cells #[.int .i64 kd, .int .i64 wh, .int .i64 tk, .int .i64 nw, .int .i64 tkk] 40)).late b3).alloc (.cells #[.int .i64 (tj : Int), .int .i64 rj, .int .i64 dj, .int .i64 lj, .int .i64 nj] 45)); have HX3 : Hid ((w3.alloc (.cells #[.int .i64 (tj : Int), .int .i64 rj, .int .i64 dj, .int .i64 lj, .int .i64 nj] 45)).heap[w3.heap.size]? = some (oJ ⟨tj, rj, dj, lj, nj⟩)) := mkHid (heap_alloc_new w3 _); have HGB3 : Hid (∀ {k}, Ft xv jv b k → k < w3.heap.size) := mkHid (fun f => (((HL.out.alloc (.cells #[.int .i64 kd, .int .i64 wh, .int .i64 tk, .int .i64 nw, .int .i64 tkk] 40)).late b3).gb.foot f).2); have HS3 : Hid (w3.heap.size < (w3.alloc (.cells #[.int .i64 (tj : Int), .int .i64 rj, .int .i64 dj, .int .i64 lj, .int .i64 nj] 45)).heap.size) := mkHid (by simp); clear b3) | (go_at_call 19; refine (jobs_is B _ b _ xv jv s HL3.out.gb hl64).mono ?_; rintro e w4 ⟨la, lc, rfl, ho4, b4⟩; have HL4 := mkHid (HL3.out.late b4); have HO4 := mkHid ho4; have hx4 := blk_late HX3.out b4; have HX4 := mkHid hx4; obtain ⟨z0, z1, z2, z3, z4, _⟩ := J5.of_blk hx4; simp only [Nat.zero_add] at z0 z1 z2 z3 z4; have x0 := HL4.out.cb.c0; have x1 := HL4.out.cb.c1; have y3 := kc t3 HL4.out.bel; clear ho4 b4 hx4))
                go_quiet (fail)
                obtain ⟨W5, hW5⟩ : ∃ W5, W5 = w4.drewN nq := ⟨_, rfl⟩
                have HL5 := mkHid (HL4.out.drewN nq)
                have HX5 : Hid ((w4.drewN nq).heap[w3.heap.size]? = some (oJ ⟨tj, rj, dj, lj, nj⟩)) := mkHid HX4.out
                have HO5 : Hid ((w4.drewN nq).ownsRow (w3.alloc (.cells #[.int .i64 (tj : Int), .int .i64 rj, .int .i64 dj, .int .i64 lj, .int .i64 nj] 45)).heap.size 45 5 (.slice la s.js.length lc) s.js.length (s.js.flatMap cj)) := mkHid HO4.out
                rw [← hW5] at HL5 HX5 HO5 ⊢
                clear hW5 HX3 HX4 HO4 HS3 z0 z1 z2 z3 z4 x0 x1 y3
                have HNF : Hid (¬ Ft xv jv b w3.heap.size) := mkHid (fun f => by have := (HGB3.out f); omega)
                clear HGB3
                generalize w3.heap.size = X at *
                have HXN : Hid (W5.heap[X]? = some (oJ ⟨tj, rj, dj, lj, nj⟩) ∧ ¬ Ft xv jv b X) := mkHid ⟨HX5.out, HNF.out⟩
                go_wp2
                go_loopw [92] (fun mv wr => ∃ m : Nat, mv = .int .i64 (m : Int) ∧ m ≤ s.js.length ∧ Hid (Below W5.heap.size W5 wr)) (fun mv _ => s.js.length - (intOf mv).toNat)
                case atStart => exact ⟨0, rfl, Nat.zero_le _, Below.refl _ _⟩
                case round =>
                  obtain ⟨m, rfl, hm, HB6⟩ := hrel
                  have HL6 := mkHid (HL5.out.late HB6.out)
                  have HX6 : Hid (wr.heap[X]? = some (oJ ⟨tj, rj, dj, lj, nj⟩) ∧ ¬ Ft xv jv b X) := mkHid ⟨blk_late HX5.out HB6.out, HXN.out.2⟩
                  by_cases hml : m < s.js.length
                  · obtain ⟨k, hk⟩ : ∃ k, s.js[m]? = some k := ⟨_, List.getElem?_eq_getElem hml⟩
                    obtain ⟨g', c', eg', qk⟩ := own_job (ownN_kept HO5.out (kept_new (F := fun _ => False) HB6.out) (fun _ _ h => h)) hk
                    simp only [Value.slice.injEq] at eg'
                    obtain ⟨rfl, _, rfl⟩ := eg'
                    obtain ⟨u0, u1, u2, u3, u4, _⟩ := qk
                    have hmi : (m : Int) < s.js.length := by omega
                    obtain ⟨hb1, hb2, hb3⟩ := HL.out.ok.best HJX.out HHB.out.symm hk
                    obtain ⟨y, hy, jo, jr⟩ := HL.out.ok.j _ _ hk
                    have hyt : ts[k.tk]? = some y.1 := by rw [← HL.out.e]; exact ts_at hy
                    have hkt : (k.tk : Int) < ts.length := by have := (List.getElem?_eq_some_iff.mp hyt).1; omega
                    obtain ⟨tb', toff', d1, d2, d3, d4, etb, hdd, _, _, _, s3⟩ := HT.out.at HL6.out.bel k.tk (List.getElem?_eq_some_iff.mp hyt).1
                    simp only [Option.some.injEq, Addr.mk.injEq] at etb
                    obtain ⟨rfl, rfl, _⟩ := etb
                    rw [HL.out.e] at hb3
                    have hcs := hol_no hdd hb3
                    have nf := decide_eq_false (hb2 rfl)
                    obtain ⟨z0, z1, z2, z3, z4, _⟩ := J5.of_blk HX6.out.1
                    simp only [Nat.zero_add] at z0 z1 z2 z3 z4
                    have x0 := HL6.out.cb.c0
                    have x1 := HL6.out.cb.c1
                    clear hb1 hb2 hb3 hyt hdd hy hk jo jr y
                    obtain ⟨tk', rk, dk, lk, nk⟩ := k
                    simp only at u0 u1 u2 u3 u4 hkt s3 hcs nf
                    have nf2 : decide ((tk' : Int) < (tj : Int)) = false := by simpa using nf
                    skip
                    rcases hcs with c1 | ⟨c1, c2⟩
                    · have nc : decide (0 < nk) = false := decide_eq_false c1
                      go_wp2
                      go_quiet (fail)
                      go_wp2
                      go_roundw
                      case rel => exact ⟨m + 1, by go_num, by omega, mkHid (below_drewN (ba HB6.out _) _)⟩
                      case measure => simp [intOf]; omega
                    · have nc : decide (nk < d4) = false := decide_eq_false c2
                      go_wp2
                      go_quiet (fail)
                      go_wp2
                      go_roundw
                      case rel => exact ⟨m + 1, by go_num, by omega, mkHid (below_drewN (ba HB6.out _) _)⟩
                      case measure => simp [intOf]; omega
                  · obtain rfl : m = s.js.length := by omega
                    rcases HLF.out with hlf | hlf
                    · have HLF2 := mkHid hlf
                      clear hlf
                      go_wp2_with (go_at_call 15; refine (run_end B _ b _ xv jv s _ HL6.out.gb HL6.out.ok HJX.out HLF2.out).mono ?_; rintro e w6 ⟨rfl, jv6, hg6, hk6, hv6⟩; have HL7 := mkHid ((HL6.out.call hg6 hk6 (HL6.out.ok.run HJX.out) (run_ts s _)).alloc (.cells #[.int .i64 (tj : Int), .int .i64 rj, .int .i64 dj, .int .i64 (lj - 1), .int .i64 (nj + 1)] 45)); have hx6 := (HL6.out.box (jv' := jv6) hk6 hv6 HX6.out.1 HX6.out.2).1; obtain ⟨z0, z1, z2, z3, z4, _⟩ := J5.of_blk hx6; simp only [Nat.zero_add] at z0 z1 z2 z3 z4; simp only [Jb.ran]; clear hg6 hk6 hv6 hx6)
                      go_roundw
                      case rel => exact ⟨i + 1, jv6, _, by go_num, by omega, by omega, HL7⟩
                      case measure => simp [intOf]; omega
                    · have HLF2 := mkHid hlf
                      clear hlf
                      go_wp2_with (go_at_call 15; refine (run_on B _ b _ xv jv s _ HL6.out.gb HL6.out.ok HJX.out HLF2.out).mono ?_; rintro e w6 ⟨rfl, jv6, hg6, hk6, hv6⟩; have HL7 := mkHid ((HL6.out.call hg6 hk6 (HL6.out.ok.run HJX.out) (run_ts s _)).alloc (.cells #[.int .i64 (tj : Int), .int .i64 rj, .int .i64 dj, .int .i64 (lj - 1), .int .i64 (nj + 1)] 45)); have hx6 := (HL6.out.box (jv' := jv6) hk6 hv6 HX6.out.1 HX6.out.2).1; obtain ⟨z0, z1, z2, z3, z4, _⟩ := J5.of_blk hx6; simp only [Nat.zero_add] at z0 z1 z2 z3 z4; simp only [Jb.ran]; clear hg6 hk6 hv6 hx6)
                      go_roundw
                      case rel => exact ⟨i + 1, jv6, _, by go_num, by omega, by omega, HL7⟩
                      case measure => simp [intOf]; omega
      · have hlj : (1500 : Int) < i := by omega
        go_wp2
        go_ret
        exact ⟨rfl, (HL.out.alloc _).bel⟩
    · obtain rfl : i = os.length := by omega
      go_wp2
      go_ret
      exact ⟨rfl, HL.out.bel⟩
end Go.Proofs.YthncfkeoephipaaDoor
