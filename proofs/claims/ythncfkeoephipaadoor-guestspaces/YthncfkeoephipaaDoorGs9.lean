/- The law GuestHolds. -/
import Derived.Test.YthncfkeoephipaaDoorGs8
namespace Go.Proofs.YthncfkeoephipaaDoor
open Go.ChangeShapes Go.WideShapes Go.ChangeAt Go.RowKit
attribute [local go_sem] World.cell?_alloc_some frozen_alloc_some

theorem rel_at {s : Gt} {n : Nat} {j : Jb} (h : s.js[n]? = some j) (k now ticks : Int) : (s.rel k now ticks).js[n]? = some j := by
  rcases relC_cases s k now with ⟨e, _⟩ | ⟨_, _, i, x, rfl, hi, hx, ⟨e, _⟩ | ⟨e, _⟩ | ⟨e, _⟩⟩
  · rw [rel_no (by omega)]; exact h
  · rw [rel_no (by omega)]; exact h
  · rw [rel_no (by omega)]; exact h
  · rw [rel_yes e hx]
    show (s.js ++ _)[n]? = _
    rw [List.getElem?_append_left (List.getElem?_eq_some_iff.mp h).1]; exact h
theorem Gt.Ok.holder {p : Int} {s : Gt} (h : s.Ok p) {n : Nat} {j : Jb} (hj : s.js[n]? = some j) (hh : hol s.ts j = true) : nx p s.ts s.js = n :=
  nx_hol hj hh (fun k x hk hx => by
    refine Decidable.byContradiction fun hn => ?_
    have := h.h k n x j hx hj (by simpa using hn) hh
    omega)
theorem run_ts (s : Gt) (js : List Jb) : Gt.ts ⟨s.xs, js⟩ = s.ts := rfl
set_option maxHeartbeats 3200000 in
theorem holds_no (W : World) (p : Int) (tv sv : Value) (ts : List Tk) (a : Nat → Addr) (E : Eg W a) (hT : Tks W tv ts) (hsv : ∃ x n c, sv = .slice x n c) (h : ¬ okG p ts) : Calls Tryd.prog 5 #[vC p tv sv] W fun e w' => e = .returned (.bool true) ∧ Below W.heap.size W w' := by
  have HE := mkHid E
  have HO := mkHid h
  have HT := mkHid hT
  obtain ⟨ta, tc, rfl, _, _⟩ := hT
  obtain ⟨sa, sn, sc, rfl⟩ := hsv
  clear E h
  go_enter Tryd.func5, Tryd.ntmps5
  go_wp2_with (first | (go_at_call 8; refine (alive15 _ a (HE.out.late (ba (Below.refl _ _) _))).mono ?_; rintro e w1 ⟨rfl, b1⟩; have hr := (cb_new W p (.slice ta ts.length tc) (.slice sa sn sc)).late b1; have HR1 := mkHid hr; have HB1 := mkHid (bt (ba (Below.refl _ _) _) b1); have x0 := hr.c0; have x1 := hr.c1; clear b1 hr) | (go_at_call 9; refine (new_no _ _ p ts _ (HT.out.below HB1.out) HO.out (HE.out.late HB1.out).task).mono ?_; rintro e w2 ⟨rfl, b2⟩; have HB2 := mkHid (bt HB1.out b2); have hr := HR1.out.late b2; clear x0 x1; have x0 := hr.c0; have x1 := hr.c1; clear b2 hr) | (go_at_call 10; obtain ⟨lb, hlb, hcl⟩ := legalGuest_is w2 _ p ts (HT.out.below HB2.out); have hlf : lb = false := (by cases lb; rfl; exact absurd (hlb.mp rfl) HO.out); subst hlf; refine hcl.mono ?_; rintro e w3 ⟨rfl, b3⟩; have HB3 := mkHid (bt HB2.out b3); clear b3 hcl hlb))
  go_ret
  exact ⟨rfl, HB3.out⟩
set_option maxRecDepth 100000 in
set_option maxHeartbeats 12800000 in
theorem holds_yes (W : World) (p : Int) (tv sv : Value) (ts : List Tk) (os : List Op5) (a : Nat → Addr) (E : Es W a) (hT : Tks W tv ts) (hS : Ops W sv os) (h : okG p ts) : Calls Tryd.prog 5 #[vC p tv sv] W fun e w' => e = .returned (.bool true) ∧ Below W.heap.size W w' := by
  have HE := mkHid E.eg
  have HES := mkHid E
  have HO := mkHid h
  have HT := mkHid hT
  have HS := mkHid hS
  have h8 := h.2.2.1
  obtain ⟨ta, tc, rfl, _, _⟩ := hT
  obtain ⟨sa, sc, rfl, _⟩ := RowIn.shape hS
  clear E h hS
  go_enter Tryd.func5, Tryd.ntmps5
  go_wp2_with (first | (go_at_call 8; refine (alive15 _ a (HE.out.late (ba (Below.refl _ _) _))).mono ?_; rintro e w1 ⟨rfl, b1⟩; have hr := (cb_new W p (.slice ta ts.length tc) (.slice sa os.length sc)).late b1; have HR1 := mkHid hr; have HB1 := mkHid (bt (ba (Below.refl _ _) _) b1); have x0 := hr.c0; have x1 := hr.c1; clear b1 hr) | (go_at_call 9; refine (new_ok _ _ p ts (HT.out.below HB1.out) HO.out).mono ?_; rintro e w2 ⟨b, xv, rfl, hg2, b2⟩; have HL2 : Hid (LG W w2 W.heap.size w1.heap.size b p (.slice ta ts.length tc) (.slice sa os.length sc) xv (.slice none 0 0) ts ⟨ts.map (fun t => (t, 0)), []⟩) := mkHid ⟨bt HB1.out b2, Nat.le_refl _, HR1.out.lt, HR1.out.late b2, hg2, start_ok HO.out.1 HO.out.2.1 HO.out.2.2.1 HO.out.2.2.2, start_ts ts⟩; clear x0 x1 b2 hg2; generalize w1.heap.size = B at *; have x0 := HL2.out.cb.c0; have x1 := HL2.out.cb.c1; have x2 := HL2.out.cb.c2))
  clear x0 x1 x2
  have HL3 := mkHid (HL2.out.alloc (oJ j0))
  have HKX : Hid ((w2.alloc (oJ j0)).heap[w2.heap.size]? = some (oJ j0) ∧ ¬ Ft xv (.slice none 0 0) b w2.heap.size ∧ W.heap.size < w2.heap.size) := mkHid ⟨heap_alloc_new w2 _, fun f => by have := (HL2.out.gb.foot f).2; omega, HL2.out.cb.lt⟩
  simp only [oJ, Int.cast_ofNat_Int] at HL3 HKX
  obtain ⟨R, hR⟩ : ∃ R, R = W.heap.size := ⟨_, rfl⟩
  rw [← hR] at HL3 HKX ⊢
  have HRW := mkHid hR
  clear hR HL2
  generalize w2.heap.size = K at *
  go_loopw [6, 38] (fun hv iv wr => ∃ (i : Nat) (held : Bool) (jv : Value) (s : Gt) (hj : Jb), hv = .bool held ∧ iv = .int .i64 (i : Int) ∧ i ≤ os.length ∧ i ≤ 1501 ∧ Hid (LG W wr R B b p (.slice ta ts.length tc) (.slice sa os.length sc) xv jv ts s) ∧ Hid (wr.heap[K]? = some (oJ hj) ∧ ¬ Ft xv jv b K ∧ R < K) ∧ Hid (held = true → ∃ n : Nat, s.js[n]? = some hj ∧ hol ts hj = true)) (fun _ iv _ => os.length - (intOf iv).toNat)
  case atStart => exact ⟨0, false, _, _, j0, rfl, rfl, by omega, by omega, HL3, HKX, mkHid (fun e => by cases e)⟩
  case round =>
    clear HL3 HKX
    obtain ⟨i, held, jv, s, hj, rfl, rfl, hi, hi2, HL, HK, HH⟩ := hrel
    have HEE := mkHid (HES.out.late HL.out.bel)
    by_cases hlt : i < os.length
    · obtain ⟨sb, off, o, rfl, ho, o0, o1, o2, o3, o4⟩ := HS.out.cells HL.out.bel i hlt
      have hli : (i : Int) < os.length := by omega
      clear ho
      obtain ⟨kd, wh, tk, nw, tkk⟩ := o
      simp only at o0 o1 o2 o3 o4
      by_cases hle : i ≤ 1500
      · have hlj : (i : Int) ≤ 1500 := by omega
        by_cases hk1 : kd = 1
        · subst hk1
          go_wp2_with (go_at_call 13; refine (release_is B _ b p xv jv s tk nw tkk a (HL.out.alloc _).gb HL.out.ok (HEE.out.eg.late (ba (Below.refl _ _) _))).mono ?_; rintro e w3 ⟨he, jv3, hg3, hk3, hv3⟩; obtain ⟨EV, hEV⟩ : ∃ v, v = eg a (relC s tk nw) := ⟨_, rfl⟩; rw [← hEV] at he; subst he; clear hEV; have HL3 := mkHid ((HL.out.alloc (.cells #[.int .i64 1, .int .i64 wh, .int .i64 tk, .int .i64 nw, .int .i64 tkk] 40)).call hg3 hk3 (HL.out.ok.rel tk nw tkk) (rel_ts s tk nw tkk)); have HK3 := mkHid ((HL.out.alloc (.cells #[.int .i64 1, .int .i64 wh, .int .i64 tk, .int .i64 nw, .int .i64 tkk] 40)).box hk3 hv3 ((heap_alloc_old wr _ (lt_of_heap HK.out.1)).trans HK.out.1) HK.out.2.1); clear hg3 hk3 hv3)
          go_roundw
          case rel => exact ⟨i + 1, held, jv3, _, hj, rfl, by go_num, by omega, by omega, HL3, mkHid ⟨HK3.out.1, HK3.out.2, HK.out.2.2⟩, mkHid (fun e => by obtain ⟨n, h1, h2⟩ := HH.out e; exact ⟨n, rel_at h1 _ _ _, h2⟩)⟩
          case measure => simp [intOf]; omega
        · have hk2 : (kd == 1) = false := by simpa using hk1
          clear hk1
          by_cases hz : s.js.length = 0
          · go_wp2_with (go_at_call 15; refine (run_none B _ b p xv jv s _ (HL.out.alloc _).gb hz (HEE.out.late (ba (Below.refl _ _) _)).state).mono ?_; rintro e w3 ⟨rfl, b3⟩; have HL3 := mkHid ((HL.out.alloc (.cells #[.int .i64 kd, .int .i64 wh, .int .i64 tk, .int .i64 nw, .int .i64 tkk] 40)).late b3); have HK3 := mkHid (blk_late ((heap_alloc_old wr _ (lt_of_heap HK.out.1)).trans HK.out.1) b3); clear b3)
            go_roundw
            case rel => exact ⟨i + 1, held, jv, s, hj, rfl, by go_num, by omega, by omega, mkHid (HL3.out.alloc _), mkHid ⟨(heap_alloc_old w3 _ (lt_of_heap HK3.out)).trans HK3.out, HK.out.2⟩, HH⟩
            case measure => simp [intOf]; omega
          · obtain ⟨j, hjx⟩ : ∃ j, s.js[nx p s.ts s.js]? = some j := ⟨_, List.getElem?_eq_getElem (nx_lt p s.ts s.js (by omega))⟩
            obtain ⟨x, hx, jo, hr⟩ := HL.out.ok.j _ _ hjx
            have hxt : ts[j.tk]? = some x.1 := by rw [← HL.out.e]; exact ts_at hx
            have hok := HL.out.ok.ok x (List.mem_of_getElem? hx)
            obtain ⟨k1, k2, k3, k4, k5, k6⟩ := hok
            have hjl := jo.l
            have hjn := jo.n
            have hjc := jo.c
            have eD : IntKind.i64.wrap (j.dn + 1) = j.dn + 1 := wfit (by omega) (by omega)
            obtain ⟨tb, toff, tc1, tc2, tc3, tc4, rfl, htt, t0, t1, t2, t3⟩ := HT.out.at (Below.refl _ _) j.tk (List.getElem?_eq_some_iff.mp hxt).1
            have htx : x.1 = (tc1, tc2, tc3, tc4) := by rw [hxt] at htt; exact Option.some.inj htt
            have hjt : (j.tk : Int) < ts.length := by have := (List.getElem?_eq_some_iff.mp hxt).1; omega
            have HTS : Hid (tkS ts j.tk = tc4) := mkHid (by rw [tkS_at hxt, htx])
            have HJX := mkHid hjx
            have HDN : Hid (0 ≤ j.dn) := mkHid hjn
            have hhd : (held = false) ∨ (held = true ∧ hj = j) := by
              cases held
              · exact .inl rfl
              · obtain ⟨n, hn1, hn2⟩ := HH.out rfl
                have := HL.out.ok.holder hn1 (by rw [HL.out.e]; exact hn2)
                rw [this, hn1] at hjx
                exact .inr ⟨rfl, Option.some.inj hjx⟩
            have hcs : (j.lf = 1) ∨ (¬ j.lf = 1 ∧ j.dn + 1 < tc4) ∨ (¬ j.lf = 1 ∧ ¬ j.dn + 1 < tc4) := by omega
            clear hjx hx hxt htt htx hr jo k1 k2 k3 k4 k5 k6 hjl hjn hjc x hz HH t0 t1 t2
            rcases hhd with rfl | ⟨rfl, rfl⟩
            · rcases hcs with hlf | ⟨hlf, hS⟩ | ⟨hlf, hS⟩
              · have HLF := mkHid hlf
                have HKJ := mkHid HK.out
                obtain ⟨tj, rj, dj, lj, nj⟩ := j
                obtain ⟨th, rh, dh, lh, nh⟩ := hj
                simp only at eD hjt t3 
                clear hlf HK
                go_wp2_with (go_at_call 15; refine (run_end B _ b p xv jv s _ (HL.out.alloc _).gb HL.out.ok HJX.out HLF.out).mono ?_; rintro e w3 ⟨rfl, jv3, hg3, hk3, hv3⟩; have HL3 := mkHid ((HL.out.alloc (.cells #[.int .i64 kd, .int .i64 wh, .int .i64 tk, .int .i64 nw, .int .i64 tkk] 40)).call hg3 hk3 (HL.out.ok.run HJX.out) (run_ts s _)); have HK3 := mkHid ((HL.out.alloc (.cells #[.int .i64 kd, .int .i64 wh, .int .i64 tk, .int .i64 nw, .int .i64 tkk] 40)).box hk3 hv3 ((heap_alloc_old wr _ (lt_of_heap HKJ.out.1)).trans HKJ.out.1) HKJ.out.2.1); have x1 := HL3.out.cb.c1; have y3 := kc t3 HL3.out.bel; obtain ⟨z0, z1, z2, z3, z4, zf⟩ := J5.of_blk HK3.out.1; have f0 := zf 0; have f1 := zf 1; have f2 := zf 2; have f3 := zf 3; have f4 := zf 4; simp only [Nat.zero_add] at z0 z1 z2 z3 z4; have HKL := mkHid (lt_of_heap HK3.out.1); simp only [Jb.ran]; clear hg3 hk3 hv3 zf; obtain ⟨LJ, hLJ⟩ : ∃ LJ, LJ = lj - 1 := ⟨_, rfl⟩; rw [← hLJ]; have HLJ := mkHid hLJ; clear hLJ)
                go_quiet (fail)
                obtain ⟨W5, hW5⟩ : ∃ W5, W5 = (w3.alloc (.cells #[.int .i64 (tj : Int), .int .i64 rj, .int .i64 dj, .int .i64 LJ, .int .i64 (nj + 1)] 45)).drewN nq := ⟨_, rfl⟩
                have HL5 := mkHid ((HL3.out.alloc (.cells #[.int .i64 (tj : Int), .int .i64 rj, .int .i64 dj, .int .i64 LJ, .int .i64 (nj + 1)] 45)).drewN nq)
                have HK5 : Hid (((w3.alloc (.cells #[.int .i64 (tj : Int), .int .i64 rj, .int .i64 dj, .int .i64 LJ, .int .i64 (nj + 1)] 45)).drewN nq).heap[K]? = _) := mkHid ((heap_alloc_old w3 _ HKL.out).trans HK3.out.1)
                have HX5 : Hid (((w3.alloc (.cells #[.int .i64 (tj : Int), .int .i64 rj, .int .i64 dj, .int .i64 LJ, .int .i64 (nj + 1)] 45)).drewN nq).heap[w3.heap.size]? = some (oJ ⟨tj, rj, dj, LJ, nj + 1⟩)) := mkHid (heap_alloc_new w3 _)
                have HNE : Hid (¬ w3.heap.size = K) := mkHid (by have := HKL.out; omega)
                rw [← hW5] at HL5 HK5 HX5 ⊢
                clear hW5 x1 y3 z0 z1 z2 z3 z4 f0 f1 f2 f3 f4
                generalize w3.heap.size = X at *
                obtain ⟨z0, z1, z2, z3, z4, zf⟩ := J5.of_blk HK5.out
                have f0 := zf 0
                have f1 := zf 1
                have f2 := zf 2
                have f3 := zf 3
                have f4 := zf 4
                clear zf
                obtain ⟨y0, y1, y2, y3, y4, _⟩ := J5.of_blk HX5.out
                simp only [Nat.zero_add] at z0 z1 z2 z3 z4 y0 y1 y2 y3 y4
                go_wp2
                have hk6 := set5k (fun k => k = K) W5 K rfl (.int .i64 (tj : Int)) (.int .i64 rj) (.int .i64 dj) (.int .i64 LJ) (.int .i64 (nj + 1))
                have HL6 := mkHid (HL5.out.off hk6 HKJ.out.2.2 HK3.out.2)
                have HB6 : Hid ((((((W5.setCell ⟨K, 0, none⟩ (.int .i64 (tj : Int))).setCell ⟨K, 1, none⟩ (.int .i64 rj)).setCell ⟨K, 2, none⟩ (.int .i64 dj)).setCell ⟨K, 3, none⟩ (.int .i64 LJ)).setCell ⟨K, 4, none⟩ (.int .i64 (nj + 1))).heap[K]? = some (oJ ⟨tj, rj, dj, LJ, nj + 1⟩)) := mkHid (by rw [heap_set (heap_set (heap_set (heap_set (heap_set HK5.out))))]; rfl)
                clear hk6
                generalize ((((W5.setCell ⟨K, 0, none⟩ (.int .i64 (tj : Int))).setCell ⟨K, 1, none⟩ (.int .i64 rj)).setCell ⟨K, 2, none⟩ (.int .i64 dj)).setCell ⟨K, 3, none⟩ (.int .i64 LJ)).setCell ⟨K, 4, none⟩ (.int .i64 (nj + 1)) = W6 at *
                go_roundw
                case rel =>
                  refine ⟨i + 1, false, jv3, _, ⟨tj, rj, dj, LJ, nj + 1⟩, rfl, by go_num, by omega, by omega, HL6, mkHid ⟨HB6.out, HK3.out.2, HKJ.out.2.2⟩, mkHid (fun e => ?_)⟩
                  cases e
                case measure => simp [intOf]; omega
              · have hSd : decide (j.dn + 1 < tc4) = true := decide_eq_true hS
                have HLF := mkHid hlf
                have HKJ := mkHid HK.out
                obtain ⟨tj, rj, dj, lj, nj⟩ := j
                obtain ⟨th, rh, dh, lh, nh⟩ := hj
                simp only at eD hjt t3 hS hSd
                clear hlf HK
                go_wp2_with (go_at_call 15; refine (run_on B _ b p xv jv s _ (HL.out.alloc _).gb HL.out.ok HJX.out HLF.out).mono ?_; rintro e w3 ⟨rfl, jv3, hg3, hk3, hv3⟩; have HL3 := mkHid ((HL.out.alloc (.cells #[.int .i64 kd, .int .i64 wh, .int .i64 tk, .int .i64 nw, .int .i64 tkk] 40)).call hg3 hk3 (HL.out.ok.run HJX.out) (run_ts s _)); have HK3 := mkHid ((HL.out.alloc (.cells #[.int .i64 kd, .int .i64 wh, .int .i64 tk, .int .i64 nw, .int .i64 tkk] 40)).box hk3 hv3 ((heap_alloc_old wr _ (lt_of_heap HKJ.out.1)).trans HKJ.out.1) HKJ.out.2.1); have x1 := HL3.out.cb.c1; have y3 := kc t3 HL3.out.bel; obtain ⟨z0, z1, z2, z3, z4, zf⟩ := J5.of_blk HK3.out.1; have f0 := zf 0; have f1 := zf 1; have f2 := zf 2; have f3 := zf 3; have f4 := zf 4; simp only [Nat.zero_add] at z0 z1 z2 z3 z4; have HKL := mkHid (lt_of_heap HK3.out.1); simp only [Jb.ran]; clear hg3 hk3 hv3 zf; obtain ⟨LJ, hLJ⟩ : ∃ LJ, LJ = lj - 1 := ⟨_, rfl⟩; rw [← hLJ]; have HLJ := mkHid hLJ; clear hLJ)
                go_quiet (fail)
                obtain ⟨W5, hW5⟩ : ∃ W5, W5 = (w3.alloc (.cells #[.int .i64 (tj : Int), .int .i64 rj, .int .i64 dj, .int .i64 LJ, .int .i64 (nj + 1)] 45)).drewN nq := ⟨_, rfl⟩
                have HL5 := mkHid ((HL3.out.alloc (.cells #[.int .i64 (tj : Int), .int .i64 rj, .int .i64 dj, .int .i64 LJ, .int .i64 (nj + 1)] 45)).drewN nq)
                have HK5 : Hid (((w3.alloc (.cells #[.int .i64 (tj : Int), .int .i64 rj, .int .i64 dj, .int .i64 LJ, .int .i64 (nj + 1)] 45)).drewN nq).heap[K]? = _) := mkHid ((heap_alloc_old w3 _ HKL.out).trans HK3.out.1)
                have HX5 : Hid (((w3.alloc (.cells #[.int .i64 (tj : Int), .int .i64 rj, .int .i64 dj, .int .i64 LJ, .int .i64 (nj + 1)] 45)).drewN nq).heap[w3.heap.size]? = some (oJ ⟨tj, rj, dj, LJ, nj + 1⟩)) := mkHid (heap_alloc_new w3 _)
                have HNE : Hid (¬ w3.heap.size = K) := mkHid (by have := HKL.out; omega)
                rw [← hW5] at HL5 HK5 HX5 ⊢
                clear hW5 x1 y3 z0 z1 z2 z3 z4 f0 f1 f2 f3 f4
                generalize w3.heap.size = X at *
                obtain ⟨z0, z1, z2, z3, z4, zf⟩ := J5.of_blk HK5.out
                have f0 := zf 0
                have f1 := zf 1
                have f2 := zf 2
                have f3 := zf 3
                have f4 := zf 4
                clear zf
                obtain ⟨y0, y1, y2, y3, y4, _⟩ := J5.of_blk HX5.out
                simp only [Nat.zero_add] at z0 z1 z2 z3 z4 y0 y1 y2 y3 y4
                go_wp2
                have hk6 := set5k (fun k => k = K) W5 K rfl (.int .i64 (tj : Int)) (.int .i64 rj) (.int .i64 dj) (.int .i64 LJ) (.int .i64 (nj + 1))
                have HL6 := mkHid (HL5.out.off hk6 HKJ.out.2.2 HK3.out.2)
                have HB6 : Hid ((((((W5.setCell ⟨K, 0, none⟩ (.int .i64 (tj : Int))).setCell ⟨K, 1, none⟩ (.int .i64 rj)).setCell ⟨K, 2, none⟩ (.int .i64 dj)).setCell ⟨K, 3, none⟩ (.int .i64 LJ)).setCell ⟨K, 4, none⟩ (.int .i64 (nj + 1))).heap[K]? = some (oJ ⟨tj, rj, dj, LJ, nj + 1⟩)) := mkHid (by rw [heap_set (heap_set (heap_set (heap_set (heap_set HK5.out))))]; rfl)
                clear hk6
                generalize ((((W5.setCell ⟨K, 0, none⟩ (.int .i64 (tj : Int))).setCell ⟨K, 1, none⟩ (.int .i64 rj)).setCell ⟨K, 2, none⟩ (.int .i64 dj)).setCell ⟨K, 3, none⟩ (.int .i64 LJ)).setCell ⟨K, 4, none⟩ (.int .i64 (nj + 1)) = W6 at *
                go_roundw
                case rel =>
                  refine ⟨i + 1, true, jv3, _, ⟨tj, rj, dj, LJ, nj + 1⟩, by simp, by go_num, by omega, by omega, HL6, mkHid ⟨HB6.out, HK3.out.2, HKJ.out.2.2⟩, mkHid (fun e => ?_)⟩
                  refine ⟨nx p s.ts s.js, ?_, ?_⟩
                  · show (runL _ _ s.js)[_]? = _
                    have hn := (List.getElem?_eq_some_iff.mp HJX.out).1
                    unfold runL
                    rw [if_neg HLF.out, List.getElem?_set]
                    simp [hn, Jb.ran, HLJ.out]
                  · have := HDN.out
                    unfold hol
                    simp only [HTS.out]
                    simp [hS]
                    omega
                case measure => simp [intOf]; omega
              · have hSd : decide (j.dn + 1 < tc4) = false := decide_eq_false hS
                have HLF := mkHid hlf
                have HKJ := mkHid HK.out
                obtain ⟨tj, rj, dj, lj, nj⟩ := j
                obtain ⟨th, rh, dh, lh, nh⟩ := hj
                simp only at eD hjt t3 hS hSd
                clear hlf HK
                go_wp2_with (go_at_call 15; refine (run_on B _ b p xv jv s _ (HL.out.alloc _).gb HL.out.ok HJX.out HLF.out).mono ?_; rintro e w3 ⟨rfl, jv3, hg3, hk3, hv3⟩; have HL3 := mkHid ((HL.out.alloc (.cells #[.int .i64 kd, .int .i64 wh, .int .i64 tk, .int .i64 nw, .int .i64 tkk] 40)).call hg3 hk3 (HL.out.ok.run HJX.out) (run_ts s _)); have HK3 := mkHid ((HL.out.alloc (.cells #[.int .i64 kd, .int .i64 wh, .int .i64 tk, .int .i64 nw, .int .i64 tkk] 40)).box hk3 hv3 ((heap_alloc_old wr _ (lt_of_heap HKJ.out.1)).trans HKJ.out.1) HKJ.out.2.1); have x1 := HL3.out.cb.c1; have y3 := kc t3 HL3.out.bel; obtain ⟨z0, z1, z2, z3, z4, zf⟩ := J5.of_blk HK3.out.1; have f0 := zf 0; have f1 := zf 1; have f2 := zf 2; have f3 := zf 3; have f4 := zf 4; simp only [Nat.zero_add] at z0 z1 z2 z3 z4; have HKL := mkHid (lt_of_heap HK3.out.1); simp only [Jb.ran]; clear hg3 hk3 hv3 zf; obtain ⟨LJ, hLJ⟩ : ∃ LJ, LJ = lj - 1 := ⟨_, rfl⟩; rw [← hLJ]; have HLJ := mkHid hLJ; clear hLJ)
                go_quiet (fail)
                obtain ⟨W5, hW5⟩ : ∃ W5, W5 = (w3.alloc (.cells #[.int .i64 (tj : Int), .int .i64 rj, .int .i64 dj, .int .i64 LJ, .int .i64 (nj + 1)] 45)).drewN nq := ⟨_, rfl⟩
                have HL5 := mkHid ((HL3.out.alloc (.cells #[.int .i64 (tj : Int), .int .i64 rj, .int .i64 dj, .int .i64 LJ, .int .i64 (nj + 1)] 45)).drewN nq)
                have HK5 : Hid (((w3.alloc (.cells #[.int .i64 (tj : Int), .int .i64 rj, .int .i64 dj, .int .i64 LJ, .int .i64 (nj + 1)] 45)).drewN nq).heap[K]? = _) := mkHid ((heap_alloc_old w3 _ HKL.out).trans HK3.out.1)
                have HX5 : Hid (((w3.alloc (.cells #[.int .i64 (tj : Int), .int .i64 rj, .int .i64 dj, .int .i64 LJ, .int .i64 (nj + 1)] 45)).drewN nq).heap[w3.heap.size]? = some (oJ ⟨tj, rj, dj, LJ, nj + 1⟩)) := mkHid (heap_alloc_new w3 _)
                have HNE : Hid (¬ w3.heap.size = K) := mkHid (by have := HKL.out; omega)
                rw [← hW5] at HL5 HK5 HX5 ⊢
                clear hW5 x1 y3 z0 z1 z2 z3 z4 f0 f1 f2 f3 f4
                generalize w3.heap.size = X at *
                obtain ⟨z0, z1, z2, z3, z4, zf⟩ := J5.of_blk HK5.out
                have f0 := zf 0
                have f1 := zf 1
                have f2 := zf 2
                have f3 := zf 3
                have f4 := zf 4
                clear zf
                obtain ⟨y0, y1, y2, y3, y4, _⟩ := J5.of_blk HX5.out
                simp only [Nat.zero_add] at z0 z1 z2 z3 z4 y0 y1 y2 y3 y4
                go_wp2
                have hk6 := set5k (fun k => k = K) W5 K rfl (.int .i64 (tj : Int)) (.int .i64 rj) (.int .i64 dj) (.int .i64 LJ) (.int .i64 (nj + 1))
                have HL6 := mkHid (HL5.out.off hk6 HKJ.out.2.2 HK3.out.2)
                have HB6 : Hid ((((((W5.setCell ⟨K, 0, none⟩ (.int .i64 (tj : Int))).setCell ⟨K, 1, none⟩ (.int .i64 rj)).setCell ⟨K, 2, none⟩ (.int .i64 dj)).setCell ⟨K, 3, none⟩ (.int .i64 LJ)).setCell ⟨K, 4, none⟩ (.int .i64 (nj + 1))).heap[K]? = some (oJ ⟨tj, rj, dj, LJ, nj + 1⟩)) := mkHid (by rw [heap_set (heap_set (heap_set (heap_set (heap_set HK5.out))))]; rfl)
                clear hk6
                generalize ((((W5.setCell ⟨K, 0, none⟩ (.int .i64 (tj : Int))).setCell ⟨K, 1, none⟩ (.int .i64 rj)).setCell ⟨K, 2, none⟩ (.int .i64 dj)).setCell ⟨K, 3, none⟩ (.int .i64 LJ)).setCell ⟨K, 4, none⟩ (.int .i64 (nj + 1)) = W6 at *
                go_roundw
                case rel =>
                  refine ⟨i + 1, false, jv3, _, ⟨tj, rj, dj, LJ, nj + 1⟩, by simp, by go_num, by omega, by omega, HL6, mkHid ⟨HB6.out, HK3.out.2, HKJ.out.2.2⟩, mkHid (fun e => ?_)⟩
                  cases e
                case measure => simp [intOf]; omega
            · rcases hcs with hlf | ⟨hlf, hS⟩ | ⟨hlf, hS⟩
              · have HLF := mkHid hlf
                have HKJ := mkHid HK.out
                obtain ⟨tj, rj, dj, lj, nj⟩ := hj
                simp only at eD hjt t3 
                clear hlf HK
                go_wp2_with (go_at_call 15; refine (run_end B _ b p xv jv s _ (HL.out.alloc _).gb HL.out.ok HJX.out HLF.out).mono ?_; rintro e w3 ⟨rfl, jv3, hg3, hk3, hv3⟩; have HL3 := mkHid ((HL.out.alloc (.cells #[.int .i64 kd, .int .i64 wh, .int .i64 tk, .int .i64 nw, .int .i64 tkk] 40)).call hg3 hk3 (HL.out.ok.run HJX.out) (run_ts s _)); have HK3 := mkHid ((HL.out.alloc (.cells #[.int .i64 kd, .int .i64 wh, .int .i64 tk, .int .i64 nw, .int .i64 tkk] 40)).box hk3 hv3 ((heap_alloc_old wr _ (lt_of_heap HKJ.out.1)).trans HKJ.out.1) HKJ.out.2.1); have x1 := HL3.out.cb.c1; have y3 := kc t3 HL3.out.bel; obtain ⟨z0, z1, z2, z3, z4, zf⟩ := J5.of_blk HK3.out.1; have f0 := zf 0; have f1 := zf 1; have f2 := zf 2; have f3 := zf 3; have f4 := zf 4; simp only [Nat.zero_add] at z0 z1 z2 z3 z4; have HKL := mkHid (lt_of_heap HK3.out.1); simp only [Jb.ran]; clear hg3 hk3 hv3 zf; obtain ⟨LJ, hLJ⟩ : ∃ LJ, LJ = lj - 1 := ⟨_, rfl⟩; rw [← hLJ]; have HLJ := mkHid hLJ; clear hLJ)
                go_quiet (fail)
                obtain ⟨W5, hW5⟩ : ∃ W5, W5 = (w3.alloc (.cells #[.int .i64 (tj : Int), .int .i64 rj, .int .i64 dj, .int .i64 LJ, .int .i64 (nj + 1)] 45)).drewN nq := ⟨_, rfl⟩
                have HL5 := mkHid ((HL3.out.alloc (.cells #[.int .i64 (tj : Int), .int .i64 rj, .int .i64 dj, .int .i64 LJ, .int .i64 (nj + 1)] 45)).drewN nq)
                have HK5 : Hid (((w3.alloc (.cells #[.int .i64 (tj : Int), .int .i64 rj, .int .i64 dj, .int .i64 LJ, .int .i64 (nj + 1)] 45)).drewN nq).heap[K]? = _) := mkHid ((heap_alloc_old w3 _ HKL.out).trans HK3.out.1)
                have HX5 : Hid (((w3.alloc (.cells #[.int .i64 (tj : Int), .int .i64 rj, .int .i64 dj, .int .i64 LJ, .int .i64 (nj + 1)] 45)).drewN nq).heap[w3.heap.size]? = some (oJ ⟨tj, rj, dj, LJ, nj + 1⟩)) := mkHid (heap_alloc_new w3 _)
                have HNE : Hid (¬ w3.heap.size = K) := mkHid (by have := HKL.out; omega)
                rw [← hW5] at HL5 HK5 HX5 ⊢
                clear hW5 x1 y3 z0 z1 z2 z3 z4 f0 f1 f2 f3 f4
                generalize w3.heap.size = X at *
                obtain ⟨z0, z1, z2, z3, z4, zf⟩ := J5.of_blk HK5.out
                have f0 := zf 0
                have f1 := zf 1
                have f2 := zf 2
                have f3 := zf 3
                have f4 := zf 4
                clear zf
                obtain ⟨y0, y1, y2, y3, y4, _⟩ := J5.of_blk HX5.out
                simp only [Nat.zero_add] at z0 z1 z2 z3 z4 y0 y1 y2 y3 y4
                go_wp2
                have hk6 := set5k (fun k => k = K) W5 K rfl (.int .i64 (tj : Int)) (.int .i64 rj) (.int .i64 dj) (.int .i64 LJ) (.int .i64 (nj + 1))
                have HL6 := mkHid (HL5.out.off hk6 HKJ.out.2.2 HK3.out.2)
                have HB6 : Hid ((((((W5.setCell ⟨K, 0, none⟩ (.int .i64 (tj : Int))).setCell ⟨K, 1, none⟩ (.int .i64 rj)).setCell ⟨K, 2, none⟩ (.int .i64 dj)).setCell ⟨K, 3, none⟩ (.int .i64 LJ)).setCell ⟨K, 4, none⟩ (.int .i64 (nj + 1))).heap[K]? = some (oJ ⟨tj, rj, dj, LJ, nj + 1⟩)) := mkHid (by rw [heap_set (heap_set (heap_set (heap_set (heap_set HK5.out))))]; rfl)
                clear hk6
                generalize ((((W5.setCell ⟨K, 0, none⟩ (.int .i64 (tj : Int))).setCell ⟨K, 1, none⟩ (.int .i64 rj)).setCell ⟨K, 2, none⟩ (.int .i64 dj)).setCell ⟨K, 3, none⟩ (.int .i64 LJ)).setCell ⟨K, 4, none⟩ (.int .i64 (nj + 1)) = W6 at *
                go_roundw
                case rel =>
                  refine ⟨i + 1, false, jv3, _, ⟨tj, rj, dj, LJ, nj + 1⟩, rfl, by go_num, by omega, by omega, HL6, mkHid ⟨HB6.out, HK3.out.2, HKJ.out.2.2⟩, mkHid (fun e => ?_)⟩
                  cases e
                case measure => simp [intOf]; omega
              · have hSd : decide (hj.dn + 1 < tc4) = true := decide_eq_true hS
                have HLF := mkHid hlf
                have HKJ := mkHid HK.out
                obtain ⟨tj, rj, dj, lj, nj⟩ := hj
                simp only at eD hjt t3 hS hSd
                clear hlf HK
                go_wp2_with (go_at_call 15; refine (run_on B _ b p xv jv s _ (HL.out.alloc _).gb HL.out.ok HJX.out HLF.out).mono ?_; rintro e w3 ⟨rfl, jv3, hg3, hk3, hv3⟩; have HL3 := mkHid ((HL.out.alloc (.cells #[.int .i64 kd, .int .i64 wh, .int .i64 tk, .int .i64 nw, .int .i64 tkk] 40)).call hg3 hk3 (HL.out.ok.run HJX.out) (run_ts s _)); have HK3 := mkHid ((HL.out.alloc (.cells #[.int .i64 kd, .int .i64 wh, .int .i64 tk, .int .i64 nw, .int .i64 tkk] 40)).box hk3 hv3 ((heap_alloc_old wr _ (lt_of_heap HKJ.out.1)).trans HKJ.out.1) HKJ.out.2.1); have x1 := HL3.out.cb.c1; have y3 := kc t3 HL3.out.bel; obtain ⟨z0, z1, z2, z3, z4, zf⟩ := J5.of_blk HK3.out.1; have f0 := zf 0; have f1 := zf 1; have f2 := zf 2; have f3 := zf 3; have f4 := zf 4; simp only [Nat.zero_add] at z0 z1 z2 z3 z4; have HKL := mkHid (lt_of_heap HK3.out.1); simp only [Jb.ran]; clear hg3 hk3 hv3 zf; obtain ⟨LJ, hLJ⟩ : ∃ LJ, LJ = lj - 1 := ⟨_, rfl⟩; rw [← hLJ]; have HLJ := mkHid hLJ; clear hLJ)
                go_quiet (fail)
                obtain ⟨W5, hW5⟩ : ∃ W5, W5 = (w3.alloc (.cells #[.int .i64 (tj : Int), .int .i64 rj, .int .i64 dj, .int .i64 LJ, .int .i64 (nj + 1)] 45)).drewN nq := ⟨_, rfl⟩
                have HL5 := mkHid ((HL3.out.alloc (.cells #[.int .i64 (tj : Int), .int .i64 rj, .int .i64 dj, .int .i64 LJ, .int .i64 (nj + 1)] 45)).drewN nq)
                have HK5 : Hid (((w3.alloc (.cells #[.int .i64 (tj : Int), .int .i64 rj, .int .i64 dj, .int .i64 LJ, .int .i64 (nj + 1)] 45)).drewN nq).heap[K]? = _) := mkHid ((heap_alloc_old w3 _ HKL.out).trans HK3.out.1)
                have HX5 : Hid (((w3.alloc (.cells #[.int .i64 (tj : Int), .int .i64 rj, .int .i64 dj, .int .i64 LJ, .int .i64 (nj + 1)] 45)).drewN nq).heap[w3.heap.size]? = some (oJ ⟨tj, rj, dj, LJ, nj + 1⟩)) := mkHid (heap_alloc_new w3 _)
                have HNE : Hid (¬ w3.heap.size = K) := mkHid (by have := HKL.out; omega)
                rw [← hW5] at HL5 HK5 HX5 ⊢
                clear hW5 x1 y3 z0 z1 z2 z3 z4 f0 f1 f2 f3 f4
                generalize w3.heap.size = X at *
                obtain ⟨z0, z1, z2, z3, z4, zf⟩ := J5.of_blk HK5.out
                have f0 := zf 0
                have f1 := zf 1
                have f2 := zf 2
                have f3 := zf 3
                have f4 := zf 4
                clear zf
                obtain ⟨y0, y1, y2, y3, y4, _⟩ := J5.of_blk HX5.out
                simp only [Nat.zero_add] at z0 z1 z2 z3 z4 y0 y1 y2 y3 y4
                go_wp2
                have hk6 := set5k (fun k => k = K) W5 K rfl (.int .i64 (tj : Int)) (.int .i64 rj) (.int .i64 dj) (.int .i64 LJ) (.int .i64 (nj + 1))
                have HL6 := mkHid (HL5.out.off hk6 HKJ.out.2.2 HK3.out.2)
                have HB6 : Hid ((((((W5.setCell ⟨K, 0, none⟩ (.int .i64 (tj : Int))).setCell ⟨K, 1, none⟩ (.int .i64 rj)).setCell ⟨K, 2, none⟩ (.int .i64 dj)).setCell ⟨K, 3, none⟩ (.int .i64 LJ)).setCell ⟨K, 4, none⟩ (.int .i64 (nj + 1))).heap[K]? = some (oJ ⟨tj, rj, dj, LJ, nj + 1⟩)) := mkHid (by rw [heap_set (heap_set (heap_set (heap_set (heap_set HK5.out))))]; rfl)
                clear hk6
                generalize ((((W5.setCell ⟨K, 0, none⟩ (.int .i64 (tj : Int))).setCell ⟨K, 1, none⟩ (.int .i64 rj)).setCell ⟨K, 2, none⟩ (.int .i64 dj)).setCell ⟨K, 3, none⟩ (.int .i64 LJ)).setCell ⟨K, 4, none⟩ (.int .i64 (nj + 1)) = W6 at *
                go_roundw
                case rel =>
                  refine ⟨i + 1, true, jv3, _, ⟨tj, rj, dj, LJ, nj + 1⟩, by simp, by go_num, by omega, by omega, HL6, mkHid ⟨HB6.out, HK3.out.2, HKJ.out.2.2⟩, mkHid (fun e => ?_)⟩
                  refine ⟨nx p s.ts s.js, ?_, ?_⟩
                  · show (runL _ _ s.js)[_]? = _
                    have hn := (List.getElem?_eq_some_iff.mp HJX.out).1
                    unfold runL
                    rw [if_neg HLF.out, List.getElem?_set]
                    simp [hn, Jb.ran, HLJ.out]
                  · have := HDN.out
                    unfold hol
                    simp only [HTS.out]
                    simp [hS]
                    omega
                case measure => simp [intOf]; omega
              · have hSd : decide (hj.dn + 1 < tc4) = false := decide_eq_false hS
                have HLF := mkHid hlf
                have HKJ := mkHid HK.out
                obtain ⟨tj, rj, dj, lj, nj⟩ := hj
                simp only at eD hjt t3 hS hSd
                clear hlf HK
                go_wp2_with (go_at_call 15; refine (run_on B _ b p xv jv s _ (HL.out.alloc _).gb HL.out.ok HJX.out HLF.out).mono ?_; rintro e w3 ⟨rfl, jv3, hg3, hk3, hv3⟩; have HL3 := mkHid ((HL.out.alloc (.cells #[.int .i64 kd, .int .i64 wh, .int .i64 tk, .int .i64 nw, .int .i64 tkk] 40)).call hg3 hk3 (HL.out.ok.run HJX.out) (run_ts s _)); have HK3 := mkHid ((HL.out.alloc (.cells #[.int .i64 kd, .int .i64 wh, .int .i64 tk, .int .i64 nw, .int .i64 tkk] 40)).box hk3 hv3 ((heap_alloc_old wr _ (lt_of_heap HKJ.out.1)).trans HKJ.out.1) HKJ.out.2.1); have x1 := HL3.out.cb.c1; have y3 := kc t3 HL3.out.bel; obtain ⟨z0, z1, z2, z3, z4, zf⟩ := J5.of_blk HK3.out.1; have f0 := zf 0; have f1 := zf 1; have f2 := zf 2; have f3 := zf 3; have f4 := zf 4; simp only [Nat.zero_add] at z0 z1 z2 z3 z4; have HKL := mkHid (lt_of_heap HK3.out.1); simp only [Jb.ran]; clear hg3 hk3 hv3 zf; obtain ⟨LJ, hLJ⟩ : ∃ LJ, LJ = lj - 1 := ⟨_, rfl⟩; rw [← hLJ]; have HLJ := mkHid hLJ; clear hLJ)
                go_quiet (fail)
                obtain ⟨W5, hW5⟩ : ∃ W5, W5 = (w3.alloc (.cells #[.int .i64 (tj : Int), .int .i64 rj, .int .i64 dj, .int .i64 LJ, .int .i64 (nj + 1)] 45)).drewN nq := ⟨_, rfl⟩
                have HL5 := mkHid ((HL3.out.alloc (.cells #[.int .i64 (tj : Int), .int .i64 rj, .int .i64 dj, .int .i64 LJ, .int .i64 (nj + 1)] 45)).drewN nq)
                have HK5 : Hid (((w3.alloc (.cells #[.int .i64 (tj : Int), .int .i64 rj, .int .i64 dj, .int .i64 LJ, .int .i64 (nj + 1)] 45)).drewN nq).heap[K]? = _) := mkHid ((heap_alloc_old w3 _ HKL.out).trans HK3.out.1)
                have HX5 : Hid (((w3.alloc (.cells #[.int .i64 (tj : Int), .int .i64 rj, .int .i64 dj, .int .i64 LJ, .int .i64 (nj + 1)] 45)).drewN nq).heap[w3.heap.size]? = some (oJ ⟨tj, rj, dj, LJ, nj + 1⟩)) := mkHid (heap_alloc_new w3 _)
                have HNE : Hid (¬ w3.heap.size = K) := mkHid (by have := HKL.out; omega)
                rw [← hW5] at HL5 HK5 HX5 ⊢
                clear hW5 x1 y3 z0 z1 z2 z3 z4 f0 f1 f2 f3 f4
                generalize w3.heap.size = X at *
                obtain ⟨z0, z1, z2, z3, z4, zf⟩ := J5.of_blk HK5.out
                have f0 := zf 0
                have f1 := zf 1
                have f2 := zf 2
                have f3 := zf 3
                have f4 := zf 4
                clear zf
                obtain ⟨y0, y1, y2, y3, y4, _⟩ := J5.of_blk HX5.out
                simp only [Nat.zero_add] at z0 z1 z2 z3 z4 y0 y1 y2 y3 y4
                go_wp2
                have hk6 := set5k (fun k => k = K) W5 K rfl (.int .i64 (tj : Int)) (.int .i64 rj) (.int .i64 dj) (.int .i64 LJ) (.int .i64 (nj + 1))
                have HL6 := mkHid (HL5.out.off hk6 HKJ.out.2.2 HK3.out.2)
                have HB6 : Hid ((((((W5.setCell ⟨K, 0, none⟩ (.int .i64 (tj : Int))).setCell ⟨K, 1, none⟩ (.int .i64 rj)).setCell ⟨K, 2, none⟩ (.int .i64 dj)).setCell ⟨K, 3, none⟩ (.int .i64 LJ)).setCell ⟨K, 4, none⟩ (.int .i64 (nj + 1))).heap[K]? = some (oJ ⟨tj, rj, dj, LJ, nj + 1⟩)) := mkHid (by rw [heap_set (heap_set (heap_set (heap_set (heap_set HK5.out))))]; rfl)
                clear hk6
                generalize ((((W5.setCell ⟨K, 0, none⟩ (.int .i64 (tj : Int))).setCell ⟨K, 1, none⟩ (.int .i64 rj)).setCell ⟨K, 2, none⟩ (.int .i64 dj)).setCell ⟨K, 3, none⟩ (.int .i64 LJ)).setCell ⟨K, 4, none⟩ (.int .i64 (nj + 1)) = W6 at *
                go_roundw
                case rel =>
                  refine ⟨i + 1, false, jv3, _, ⟨tj, rj, dj, LJ, nj + 1⟩, by simp, by go_num, by omega, by omega, HL6, mkHid ⟨HB6.out, HK3.out.2, HKJ.out.2.2⟩, mkHid (fun e => ?_)⟩
                  cases e
                case measure => simp [intOf]; omega
      · have hlj : (1500 : Int) < i := by omega
        go_wp2
        go_ret
        exact ⟨rfl, (HL.out.alloc _).bel⟩
    · obtain rfl : i = os.length := by omega
      go_wp2
      go_ret
      exact ⟨rfl, HL.out.bel⟩
end Go.Proofs.YthncfkeoephipaaDoor
