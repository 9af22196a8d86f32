/- The law AdmitTurns: the order of servers and tasks doesn't matter. -/
import Derived.Test.YtnmmphnaelpjdabDoorAdB
import Derived.Test.YtnmmphnaelpjdabDoorOpenAs
import Derived.Deep.RegionHeld
namespace Go.Proofs.YtnmmphnaelpjdabDoor
open Go.ChangeShapes Go.WideShapes Go.ChangeAt Go.RowKit
set_option maxRecDepth 100000
set_option linter.unusedVariables false
attribute [local go_sem] World.cell?_alloc_some frozen_alloc_some

theorem takeD {P : Program} {md : Region.Mode} {ops : Array Oper} {Q : Exit → Act → World → Prop} {S : World → Prop} {fuel : Nat} {listed : Array Bool} {l : List Value} {df : List Deferred} {w : World} {oi : Oper} (i d : Nat) (v : Value) (hi : ops[i]? = some oi) (hd : oi.dst = some d)
    (hs : Region.noSelect ops = true) (hf : Region.free md ops listed i = true) (hr : (Region.ready md ops listed).contains i = true)
    (hQ : ∀ c a w, Q (.panic c) (a.put oi.dst v) w → Q (.panic c) a w) (hy : YieldsIf P ops S oi v ⟨l.toArray, df⟩) (hS : S w)
    (h : wpAnyH P md ops Q S fuel (listed.setIfInBounds i true) ⟨(l.set d v).toArray, df⟩ w) : wpAnyH P md ops Q S (fuel + 1) listed ⟨l.toArray, df⟩ w := by
  refine wpAnyH_take hi hs hf hr hQ hy hS ?_
  rw [hd]
  simpa [Act.put] using h
abbrev vA (s : Sv) (v1 v2 : Value) (n : Int) : Value := .agg #[.int .i64 s.1, .int .i64 s.2.1, .int .i64 s.2.2, v1, v2, .int .i64 n]
abbrev oA (s : Sv) (v1 v2 : Value) (n : Int) : Obj := .cells #[.int .i64 s.1, .int .i64 s.2.1, .int .i64 s.2.2, v1, v2, .int .i64 n] 27
theorem Errs.tight {w : World} {a : Nat → Addr} (h : Errs w a) : Err w 0 text0 (a 0) := h.1
theorem num_ev6 (w : World) (a : Nat → Addr) (E : Errs w a) (n : Int) (hn : n = 0 ∨ n = 1 ∨ n = 7 ∨ n = 10 ∨ n = 11 ∨ n = 12) : Calls Tryd.prog 7 #[ev6 a n] w fun e w' => e = .returned (.int .i64 n) ∧ Below w.heap.size w w' := by
  by_cases h : n = 12
  · subst h; exact errnum_tight w a E
  · have e : ev6 a n = ev a n := if_neg h
    rw [e]
    exact num_ev w a E n (by omega)
theorem svs_of_owns_cap {w : World} {base : Nat} {v : Value} {xs : List Sv} (hl : (xs.length : Int) ≤ 9223372036854775807) (h : w.ownsRow base 23 3 v xs.length (xs.flatMap c3)) : ∃ a cap, v = .slice a xs.length cap ∧ Svs w (.slice a xs.length cap) xs ∧ xs.length ≤ cap := by
  obtain ⟨a, cap, rfl, ht⟩ := svs_of_owns hl h
  refine ⟨a, cap, rfl, ht, ?_⟩
  obtain ⟨_, ⟨e, hn⟩ | ⟨g, cap', cur, e, hbg, hg, hnc, _⟩⟩ := h
  · rw [hn]; exact Nat.zero_le _
  · cases e; exact hnc
theorem tks_of_owns_cap {w : World} {base : Nat} {v : Value} {xs : List Tk} (hl : (xs.length : Int) ≤ 9223372036854775807) (h : w.ownsRow base 30 4 v xs.length (xs.flatMap c4)) : ∃ a cap, v = .slice a xs.length cap ∧ Tks w (.slice a xs.length cap) xs ∧ xs.length ≤ cap := by
  obtain ⟨a, cap, rfl, ht⟩ := tks_of_owns hl h
  refine ⟨a, cap, rfl, ht, ?_⟩
  obtain ⟨_, ⟨e, hn⟩ | ⟨g, cap', cur, e, hbg, hg, hnc, _⟩⟩ := h
  · rw [hn]; exact Nat.zero_le _
  · cases e; exact hnc
theorem ie_ex : ∃ ie, Hid (Tryd.prog.info? 23 = some ie ∧ ie.zero = some (.agg #[.int .i64 0, .int .i64 0, .int .i64 0]) ∧ ie.size = 3 ∧ ie.bytes = 24) := by
  obtain ⟨i, hi, h0, h1, h2⟩ := info_parts info_server
  exact ⟨i, hi, h0, h1, h2⟩
theorem je_ex : ∃ je, Hid (Tryd.prog.info? 30 = some je ∧ je.zero = some (.agg #[.int .i64 0, .int .i64 0, .int .i64 0, .int .i64 0]) ∧ je.size = 4 ∧ je.bytes = 32) := by
  obtain ⟨i, hi, h0, h1, h2⟩ := info_parts info_task
  exact ⟨i, hi, h0, h1, h2⟩
theorem kc_turn {s : Sv} {xs : List Sv} {n : Int} (h : KC s xs n) : KC s xs.reverse n := by
  have hp : xs.Perm xs.reverse := (List.reverse_perm xs).symm
  cases h with
  | parent h1 => exact .parent h1
  | server h1 h2 => obtain ⟨x, hx, hk⟩ := h2; exact .server h1 ⟨x, by simpa using hx, hk⟩
  | full h1 h2 h3 => exact .full h1 (fun x hx => h2 x (by simpa using hx)) (by simpa using h3)
  | tight h1 h2 h3 h4 => exact .tight h1 (fun x hx => h2 x (by simpa using hx)) (by simpa using h3) (fun hf => h4 (fitK_perm hp.symm hf))
  | fits h1 h2 h3 h4 => exact .fits h1 (fun x hx => h2 x (by simpa using hx)) (by simpa using h3) (fitK_perm hp h4)
theorem dc_turn {s : Sv} {xs : List Sv} {r n : Int} (h : DC s xs r n) : DC s xs.reverse r n := by
  have hp : xs.Perm xs.reverse := (List.reverse_perm xs).symm
  cases h with
  | no n hn h0 => exact .no n (kc_turn hn) h0
  | none hn hr => exact .none (kc_turn hn) (drn_perm hp hr)
  | yes r hn hr h0 => exact .yes r (kc_turn hn) (drn_perm hp hr) h0
theorem gc_turn {s : Sv} {ys : List Tk} {n : Int} (h : GC s 1 ys n) : GC s 1 ys.reverse n := by
  have hp : ys.Perm ys.reverse := (List.reverse_perm ys).symm
  have hg : okG 1 ys → okG 1 ys.reverse := fun ⟨a, b, c, d⟩ => ⟨a, by simpa using b, by simpa using c, fun x hx => d x (by simpa using hx)⟩
  have hg' : okG 1 ys.reverse → okG 1 ys := fun ⟨a, b, c, d⟩ => ⟨a, by simpa using b, by simpa using c, fun x hx => d x (by simpa using hx)⟩
  cases h with
  | parent h1 => exact .parent h1
  | task h1 h2 => exact .task h1 (fun hf => h2 (hg' hf))
  | tightO h1 h2 hq h4 => omega
  | fitsO h1 h2 hq h4 => omega
  | tightT h1 h2 hq h4 => exact .tightT h1 (hg h2) hq (fun hf => h4 (fitT_perm hp.symm hf))
  | fitsT h1 h2 hq h4 => exact .fitsT h1 (hg h2) hq (fitT_perm hp h4)
/-- The last j of a list, turned round. -/
theorem rev_take {α : Type} {xs : List α} {j : Nat} (hj : j < xs.length) : xs.reverse.take (j + 1) = xs.reverse.take j ++ [xs[xs.length - 1 - j]] := by
  rw [List.take_add_one, List.getElem?_reverse (by omega), List.getElem?_eq_getElem (by omega)]
  rfl
theorem src_one3 (w : World) (s : Sv) (p : Nat) (hp : p = w.heap.size) : Src Tryd.prog 3 24 (.slice (some ⟨p, 0, none⟩) 1 1) 1 (c3 s) (w.alloc (oS s)) := by
  subst hp
  have h := (svs_one w s).src
  simpa using h
theorem src_one4 (w : World) (s : Tk) (p : Nat) (hp : p = w.heap.size) : Src Tryd.prog 4 25 (.slice (some ⟨p, 0, none⟩) 1 1) 1 (c4 s) (w.alloc (oT s)) := by
  subst hp
  have h := (tks_one w s).src
  simpa using h
set_option maxHeartbeats 25600000 in
theorem turns_walk (w : World) (s : Sv) (al at2 : Option Addr) (cl ct : Nat) (n : Int) (xs : List Sv) (ys : List Tk) (a : Nat → Addr) (n1 r n2 n3 : Int) (hx : Svs w (.slice al xs.length cl) xs) (hy : Tks w (.slice at2 ys.length ct) ys) (hc : ys.length ≤ ct) (hlx : xs.length * 24 ≤ 140737488355328) (hly : ys.length * 32 ≤ 140737488355328) (E : Errs w a) (h1 : KC s xs n1) (h2 : DC s xs r n2) (h3 : GC s 1 ys n3) :
    Calls Tryd.prog 3 #[vA s (.slice al xs.length cl) (.slice at2 ys.length ct) n] w fun e w' => e = .returned (.bool true) ∧ Below w.heap.size w w' := by
  obtain ⟨k, q, t⟩ := s
  obtain ⟨ie, hie⟩ := ie_ex
  obtain ⟨je, hje⟩ := je_ex
  have HAL : Hid (∀ W, Below w.heap.size w W → Calls Tryd.prog 5 #[] W fun e w' => e = .returned (.bool true) ∧ Below W.heap.size W w') := mkHid (fun W hW => aalive W a (E.late hW).er6 (E.late hW).tight)
  have HK : Hid (∀ W, Below w.heap.size w W → Calls Tryd.prog 8 #[vS (k, q, t), .slice al xs.length cl] W fun e w' => e = .returned (ev6 a n1) ∧ Below W.heap.size W w') := mkHid (fun W hW => kids_is W (k, q, t) _ xs a n1 (hx.below hW) (E.late hW).er6 h1)
  have HKr : Hid (∀ W v, Below w.heap.size w W → Svs W v xs.reverse → Calls Tryd.prog 8 #[vS (k, q, t), v] W fun e w' => e = .returned (ev6 a n1) ∧ Below W.heap.size W w') := mkHid (fun W v hW hv => kids_is W (k, q, t) v xs.reverse a n1 hv (E.late hW).er6 (kc_turn h1))
  have HD : Hid (∀ W, Below w.heap.size w W → Calls Tryd.prog 6 #[vS (k, q, t), .slice al xs.length cl] W fun e w' => e = .returned (.tuple #[.int .i64 r, ev6 a n2]) ∧ Below W.heap.size W w') := mkHid (fun W hW => drain_is W (k, q, t) _ xs a r n2 (hx.below hW) (E.late hW).er6 h2)
  have HDr : Hid (∀ W v, Below w.heap.size w W → Svs W v xs.reverse → Calls Tryd.prog 6 #[vS (k, q, t), v] W fun e w' => e = .returned (.tuple #[.int .i64 r, ev6 a n2]) ∧ Below W.heap.size W w') := mkHid (fun W v hW hv => drain_is W (k, q, t) v xs.reverse a r n2 hv (E.late hW).er6 (dc_turn h2))
  have HG : Hid (∀ W, Below w.heap.size w W → Calls Tryd.prog 9 #[vS (k, q, t), .int .i64 1, .slice at2 ys.length ct] W fun e w' => e = .returned (ev6 a n3) ∧ Below W.heap.size W w') := mkHid (fun W hW => guestA_is W (k, q, t) 1 at2 ct ys a n3 (hy.below hW) hc (E.late hW).er6 h3)
  have HGr : Hid (∀ W a0 c, Below w.heap.size w W → Tks W (.slice a0 ys.reverse.length c) ys.reverse → ys.reverse.length ≤ c → Calls Tryd.prog 9 #[vS (k, q, t), .int .i64 1, .slice a0 ys.reverse.length c] W fun e w' => e = .returned (ev6 a n3) ∧ Below W.heap.size W w') := mkHid (fun W a0 c hW hv hcc => guestA_is W (k, q, t) 1 a0 c ys.reverse a n3 hv hcc (E.late hW).er6 (gc_turn h3))
  have HN1 : Hid (∀ W, Below w.heap.size w W → Calls Tryd.prog 7 #[ev6 a n1] W fun e w' => e = .returned (.int .i64 n1) ∧ Below W.heap.size W w') := mkHid (fun W hW => num_ev6 W a (E.late hW) n1 (by rcases h1.codes with h | h | h | h <;> omega))
  have HN2 : Hid (∀ W, Below w.heap.size w W → Calls Tryd.prog 7 #[ev6 a n2] W fun e w' => e = .returned (.int .i64 n2) ∧ Below W.heap.size W w') := mkHid (fun W hW => num_ev6 W a (E.late hW) n2 (by rcases h2.codes with h | h | h | h <;> omega))
  have HN3 : Hid (∀ W, Below w.heap.size w W → Calls Tryd.prog 7 #[ev6 a n3] W fun e w' => e = .returned (.int .i64 n3) ∧ Below W.heap.size W w') := mkHid (fun W hW => num_ev6 W a (E.late hW) n3 (by rcases h3.codes with h | h | h | h <;> omega))
  have HS := mkHid hx
  have HT := mkHid hy
  have HLX := mkHid hlx
  have HLY := mkHid hly
  have hxi : (xs.length : Int) ≤ 5864062014805 := by omega
  have hyi : (ys.length : Int) ≤ 4398046511104 := by omega
  clear E h1 h2 h3 hx hy hlx hly
  generalize ev6 a n1 = V1 at *
  generalize ev6 a n2 = V2 at *
  generalize ev6 a n3 = V3 at *
  have ewl3 : IntKind.i64.wrap ((xs.length : Int) - 1) = (xs.length : Int) - 1 := wfit (by omega) (by omega)
  go_enter Tryd.func3, Tryd.ntmps3
  go_wp2_with (go_at_call 5; refine (HAL.out _ (ba (Below.refl _ _) _)).mono ?_; rintro e w1 ⟨rfl, b1⟩; have x0 := kc (a := ⟨w.heap.size, 0, none⟩) (v := .int .i64 k) (by simp [go_sem]) b1; have x1 := kc (a := ⟨w.heap.size, 1, none⟩) (v := .int .i64 q) (by simp [go_sem]) b1; have x2 := kc (a := ⟨w.heap.size, 2, none⟩) (v := .int .i64 t) (by simp [go_sem]) b1; have x3 := kc (a := ⟨w.heap.size, 3, none⟩) (v := .slice al xs.length cl) (by simp [go_sem]) b1; have x4 := kc (a := ⟨w.heap.size, 4, none⟩) (v := .slice at2 ys.length ct) (by simp [go_sem]) b1; have x5 := kc (a := ⟨w.heap.size, 5, none⟩) (v := .int .i64 n) (by simp [go_sem]) b1; have HB1 := mkHid (bt (ba (Below.refl _ _) _) b1); clear b1)
  obtain ⟨p0, hp0⟩ : ∃ p0, p0 = w.heap.size := ⟨_, rfl⟩
  rw [← hp0] at x0 x1 x2 x3 x4 x5 ⊢
  clear hp0
  have HM3 : Hid ((w1.alloc (.cells #[] 23)).ownsRow w1.heap.size 23 3 (.slice (some ⟨w1.heap.size, 0, none⟩) 0 0) 0 ((xs.reverse.take 0).flatMap c3)) := mkHid (World.ownsRow_made (base := w1.heap.size) (e := 23) (size := 3) w1 #[] 0 (Nat.le_refl _) (by unfold maxLen; omega) rfl)
  go_loopw [3, 4] (fun lv iv wr => ∃ (j : Nat) (M : Int), iv = .int .i64 M ∧ M = (xs.length : Int) - 1 - j ∧ j ≤ xs.length ∧ Hid (wr.ownsRow w1.heap.size 23 3 lv j ((xs.reverse.take j).flatMap c3)) ∧ Hid (Below w1.heap.size w1 wr)) (fun _ iv _ => (intOf iv + 1).toNat)
  case atStart => exact ⟨0, (xs.length : Int) - 1, by go_num, by omega, Nat.zero_le _, HM3, mkHid ((Below.refl _ w1).alloc (Nat.le_refl _) _)⟩
  case round =>
    obtain ⟨j, M, rfl, hM, hj, HO, HB⟩ := hrel
    have y0 := kc x0 HB.out
    have y1 := kc x1 HB.out
    have y2 := kc x2 HB.out
    have y3 := kc x3 HB.out
    have y4 := kc x4 HB.out
    have y5 := kc x5 HB.out
    by_cases hM0 : 0 ≤ M
    · obtain ⟨m, rfl⟩ := Int.eq_ofNat_of_zero_le hM0
      have hm : m = xs.length - 1 - j := by omega
      have hml : m < xs.length := by omega
      obtain ⟨b, off, kk, qx, tt, hae, hxj, c0, c1, c2⟩ := HS.out.at (bt HB1.out HB.out) m hml
      have hrv : xs.reverse.take (j + 1) = xs.reverse.take j ++ [(kk, qx, tt)] := by
        rw [rev_take (show j < xs.length by omega)]
        congr 2
        have := List.getElem?_eq_getElem (l := xs) hml
        rw [hxj] at this
        simp only [← hm]
        exact (Option.some.inj this).symm
      have HRV := mkHid hrv
      have HMj := mkHid hM
      have hmi : (m : Int) < xs.length := by omega
      have ewm : IntKind.i64.wrap ((m : Int) - 1) = (m : Int) - 1 := wfit (by omega) (by omega)
      have HSZ := mkHid HB.out.size
      have HJ := mkHid hj
      subst hae
      clear hxj hrv hm hM hj
      go_wp2_with (at_builtin; refine wpList_append_src3 _ rfl (.tmp 22) (.tmp 28) 24 24 rfl w1.heap.size 23 ie Tryd.underlying24 hie.out.1 (.agg #[.int .i64 0, .int .i64 0, .int .i64 0]) 24 hie.out.2.1 rfl hie.out.2.2.1 hie.out.2.2.2 _ j ((xs.reverse.take j).flatMap c3) rfl (HO.out.alloc (oS (kk, qx, tt))) (.slice (some ⟨wr.heap.size, 0, none⟩) 1 1) 1 (c3 (kk, qx, tt)) rfl (src_one3 wr (kk, qx, tt) _ rfl) (by have := HLX.out; have := HMj.out; unfold maxLen; omega) (by have := HLX.out; have := HMj.out; omega) (by have := HSZ.out; simp; omega) ?_; intro v4 w4 ho4 hg4 hat4; have HO4 : Hid (w4.ownsRow w1.heap.size 23 3 v4 (j + 1) ((xs.reverse.take (j + 1)).flatMap c3)) := mkHid (by rw [HRV.out, List.flatMap_append]; simpa using ho4); have HB4 : Hid (Below w1.heap.size w1 w4) := mkHid ((HB.out.alloc HB.out.size (oS (kk, qx, tt))).grown hg4 (HB.out.alloc HB.out.size (oS (kk, qx, tt))).size (fun k hk => ((HO.out.alloc (oS (kk, qx, tt))).lt k hk).1)); clear ho4 hg4 hat4)
      go_roundw
      case rel => exact ⟨j + 1, (m : Int) - 1, by go_num, by have := HMj.out; omega, by have := HMj.out; have := HJ.out; omega, HO4, HB4⟩
      case measure => (first | (simp [intOf]; done) | (simp [intOf]; omega))
    · obtain rfl : j = xs.length := by omega
      have ho := HO.out
      rw [show xs.reverse.take xs.length = xs.reverse by rw [← List.length_reverse]; exact List.take_length] at ho
      obtain ⟨la, lc, hle, hvr, hlc⟩ := svs_of_owns_cap (xs := xs.reverse) (by rw [List.length_reverse]; omega) (by rw [List.length_reverse]; exact ho)
      rw [← hle] at hvr
      have HVR := mkHid hvr
      clear hle
      have HB5 := mkHid (bt HB1.out HB.out)
      clear ho hvr hlc HM3 hM
      rename World => W5
      have HM4 : Hid ((W5.alloc (.cells #[] 30)).ownsRow W5.heap.size 30 4 (.slice (some ⟨W5.heap.size, 0, none⟩) 0 0) 0 ((ys.reverse.take 0).flatMap c4)) := mkHid (World.ownsRow_made (base := W5.heap.size) (e := 30) (size := 4) W5 #[] 0 (Nat.le_refl _) (by unfold maxLen; omega) rfl)
      have ewl4 : IntKind.i64.wrap ((ys.length : Int) - 1) = (ys.length : Int) - 1 := wfit (by omega) (by omega)
      go_wp2
      go_loopw [5, 6] (fun lv iv wr => ∃ (j : Nat) (M : Int), iv = .int .i64 M ∧ M = (ys.length : Int) - 1 - j ∧ j ≤ ys.length ∧ Hid (wr.ownsRow W5.heap.size 30 4 lv j ((ys.reverse.take j).flatMap c4)) ∧ Hid (Below W5.heap.size W5 wr)) (fun _ iv _ => (intOf iv + 1).toNat)
      case atStart => exact ⟨0, (ys.length : Int) - 1, by go_num, by omega, Nat.zero_le _, HM4, mkHid ((Below.refl _ W5).alloc (Nat.le_refl _) _)⟩
      case round =>
        obtain ⟨j, M, rfl, hM, hj, HO, HB⟩ := hrel
        have y0 := kc y0 HB.out
        have y1 := kc y1 HB.out
        have y2 := kc y2 HB.out
        have y3 := kc y3 HB.out
        have y4 := kc y4 HB.out
        have y5 := kc y5 HB.out
        by_cases hM0 : 0 ≤ M
        · obtain ⟨m, rfl⟩ := Int.eq_ofNat_of_zero_le hM0
          have hm : m = ys.length - 1 - j := by omega
          have hml : m < ys.length := by omega
          obtain ⟨b, off, kk, qx, dd, tt, hae, hxj, c0, c1, c2, c9⟩ := HT.out.at (bt HB5.out HB.out) m hml
          have hrv : ys.reverse.take (j + 1) = ys.reverse.take j ++ [(kk, qx, dd, tt)] := by
            rw [rev_take (show j < ys.length by omega)]
            congr 2
            have := List.getElem?_eq_getElem (l := ys) hml
            rw [hxj] at this
            simp only [← hm]
            exact (Option.some.inj this).symm
          have HRV := mkHid hrv
          have HMj := mkHid hM
          have hmi : (m : Int) < ys.length := by omega
          have ewm : IntKind.i64.wrap ((m : Int) - 1) = (m : Int) - 1 := wfit (by omega) (by omega)
          have HSZ := mkHid HB.out.size
          have HJ := mkHid hj
          subst hae
          clear hxj hrv hm hM hj
          go_wp2_with (at_builtin; refine wpList_append_src4 _ rfl (.tmp 39) (.tmp 45) 25 25 rfl W5.heap.size 30 je Tryd.underlying25 hje.out.1 (.agg #[.int .i64 0, .int .i64 0, .int .i64 0, .int .i64 0]) 32 hje.out.2.1 rfl hje.out.2.2.1 hje.out.2.2.2 _ j ((ys.reverse.take j).flatMap c4) rfl (HO.out.alloc (oT (kk, qx, dd, tt))) (.slice (some ⟨wr.heap.size, 0, none⟩) 1 1) 1 (c4 (kk, qx, dd, tt)) rfl (src_one4 wr (kk, qx, dd, tt) _ rfl) (by have := HLY.out; have := HMj.out; unfold maxLen; omega) (by have := HLY.out; have := HMj.out; omega) (by have := HSZ.out; simp; omega) ?_; intro v4 w4 ho4 hg4 hat4; have HO4 : Hid (w4.ownsRow W5.heap.size 30 4 v4 (j + 1) ((ys.reverse.take (j + 1)).flatMap c4)) := mkHid (by rw [HRV.out, List.flatMap_append]; simpa using ho4); have HB4 : Hid (Below W5.heap.size W5 w4) := mkHid ((HB.out.alloc HB.out.size (oT (kk, qx, dd, tt))).grown hg4 (HB.out.alloc HB.out.size (oT (kk, qx, dd, tt))).size (fun k hk => ((HO.out.alloc (oT (kk, qx, dd, tt))).lt k hk).1)); clear ho4 hg4 hat4)
          go_roundw
          case rel => exact ⟨j + 1, (m : Int) - 1, by go_num, by have := HMj.out; omega, by have := HMj.out; have := HJ.out; omega, HO4, HB4⟩
          case measure => (first | (simp [intOf]; done) | (simp [intOf]; omega))
        · obtain rfl : j = ys.length := by omega
          have ho := HO.out
          rw [show ys.reverse.take ys.length = ys.reverse by rw [← List.length_reverse]; exact List.take_length] at ho
          obtain ⟨ta, tc, hle, hvr, hlc⟩ := tks_of_owns_cap (xs := ys.reverse) (by rw [List.length_reverse]; omega) (by rw [List.length_reverse]; exact ho)
          have HGrV := mkHid (fun W hW hv => HGr.out W ta tc hW hv hlc)
          rw [← hle] at hvr HGrV
          have HVT := mkHid hvr
          clear hle HGr
          have HVR2 := mkHid (HVR.out.below HB.out)
          have HB6 := mkHid (bt HB5.out HB.out)
          clear ho hvr hlc HM4 hM HVR HB HO hj
          rename World => W6
          have M1 : Hid True := mkHid trivial
          go_wp2_with (first
            | (go_at_call 6; clear M1; refine (HD.out _ HB6.out).mono ?_; rintro e w7 ⟨rfl, b7⟩; have z0 := kc y0 b7; have z1 := kc y1 b7; have z2 := kc y2 b7; have z3 := kc y3 b7; have z4 := kc y4 b7; have z5 := kc y5 b7; have HB7 := mkHid (bt HB6.out b7); have HVR7 := mkHid (HVR2.out.below b7); have HVT7 := mkHid (HVT.out.below b7); clear b7 y0 y1 y2 y3 y4 y5)
            | (go_at_call 6; refine (HDr.out _ _ HB7.out HVR7.out).mono ?_; rintro e w8 ⟨rfl, b8⟩; have g0x := kc z0 b8; have g1x := kc z1 b8; have g2x := kc z2 b8; have g3x := kc z3 b8; have g4x := kc z4 b8; have g5x := kc z5 b8; have HB8 := mkHid (bt HB7.out b8); have HVR8 := mkHid (HVR7.out.below b8); have HVT8 := mkHid (HVT7.out.below b8); clear b8 z0 z1 z2 z3 z4 z5))
          refine wp_region_held_drew (S := fun w' => w'.cell? ⟨p0, 0, none⟩ = some (.int .i64 k) ∧ w'.cell? ⟨p0, 1, none⟩ = some (.int .i64 q) ∧ w'.cell? ⟨p0, 2, none⟩ = some (.int .i64 t) ∧ w'.cell? ⟨p0, 3, none⟩ = some (.slice al xs.length cl) ∧ w'.cell? ⟨p0, 4, none⟩ = some (.slice at2 ys.length ct)) (by kernel_rfl) ⟨g0x, g1x, g2x, g3x, g4x⟩ (fun hHeld => ?_)
          refine takeD 0 62 (.pointer (some ⟨p0, 0, none⟩)) rfl rfl (by kernel_rfl) (by kernel_rfl) (by kernel_rfl) (fun _ _ _ h => h) (Or.inl ⟨by kernel_rfl, by intro w hSw; (try dsimp only at hSw); go_simp⟩) hHeld ?_
          simp only [List.set_cons_zero, List.set_cons_succ]
          refine takeD 1 63 (.agg #[.int .i64 k, .int .i64 q, .int .i64 t]) rfl rfl (by kernel_rfl) (by kernel_rfl) (by kernel_rfl) (fun _ _ _ h => h) (Or.inl ⟨by kernel_rfl, by intro w hSw; (try dsimp only at hSw); go_simp⟩) hHeld ?_
          simp only [List.set_cons_zero, List.set_cons_succ]
          refine takeD 2 64 (.pointer (some ⟨p0, 3, none⟩)) rfl rfl (by kernel_rfl) (by kernel_rfl) (by kernel_rfl) (fun _ _ _ h => h) (Or.inl ⟨by kernel_rfl, by intro w hSw; (try dsimp only at hSw); go_simp⟩) hHeld ?_
          simp only [List.set_cons_zero, List.set_cons_succ]
          refine takeD 3 65 (.slice al xs.length cl) rfl rfl (by kernel_rfl) (by kernel_rfl) (by kernel_rfl) (fun _ _ _ h => h) (Or.inl ⟨by kernel_rfl, by intro w hSw; (try dsimp only at hSw); go_simp⟩) hHeld ?_
          simp only [List.set_cons_zero, List.set_cons_succ]
          refine takeD 6 68 (.pointer (some ⟨p0, 0, none⟩)) rfl rfl (by kernel_rfl) (by kernel_rfl) (by kernel_rfl) (fun _ _ _ h => h) (Or.inl ⟨by kernel_rfl, by intro w hSw; (try dsimp only at hSw); go_simp⟩) hHeld ?_
          simp only [List.set_cons_zero, List.set_cons_succ]
          refine takeD 7 69 (.agg #[.int .i64 k, .int .i64 q, .int .i64 t]) rfl rfl (by kernel_rfl) (by kernel_rfl) (by kernel_rfl) (fun _ _ _ h => h) (Or.inl ⟨by kernel_rfl, by intro w hSw; (try dsimp only at hSw); go_simp⟩) hHeld ?_
          simp only [List.set_cons_zero, List.set_cons_succ]
          refine takeD 8 70 (u3) rfl rfl (by kernel_rfl) (by kernel_rfl) (by kernel_rfl) (fun _ _ _ h => h) (Or.inl ⟨by kernel_rfl, by intro w hSw; (try dsimp only at hSw); go_simp⟩) hHeld ?_
          simp only [List.set_cons_zero, List.set_cons_succ]
          refine wpAnyH_ready (rs := [4]) (by kernel_rfl) (by simp) (AllReadyH.cons rfl (fun K hK => ?_) AllReadyH.nil)
          go_simp
          refine (HK.out w8.drew HB8.out.drew).mono ?_
          rintro e w9 ⟨rfl, bw9⟩
          have fw9_0 : w9.cell? ⟨p0, 0, none⟩ = some (.int .i64 k) := kc (show w8.drew.cell? _ = _ from g0x) bw9
          have fw9_1 : w9.cell? ⟨p0, 1, none⟩ = some (.int .i64 q) := kc (show w8.drew.cell? _ = _ from g1x) bw9
          have fw9_2 : w9.cell? ⟨p0, 2, none⟩ = some (.int .i64 t) := kc (show w8.drew.cell? _ = _ from g2x) bw9
          have fw9_3 : w9.cell? ⟨p0, 3, none⟩ = some (.slice al xs.length cl) := kc (show w8.drew.cell? _ = _ from g3x) bw9
          have fw9_4 : w9.cell? ⟨p0, 4, none⟩ = some (.slice at2 ys.length ct) := kc (show w8.drew.cell? _ = _ from g4x) bw9
          have HB9 := mkHid (bt HB8.out.drew bw9)
          have HVR9 := mkHid (HVR8.out.below ((Below.refl _ w8).drew.trans bw9))
          have HVT9 := mkHid (HVT8.out.below ((Below.refl _ w8).drew.trans bw9))
          clear bw9 hHeld
          refine hK.out _ _ ⟨fw9_0, fw9_1, fw9_2, fw9_3, fw9_4⟩ (fun hHeld => ?_)
          clear hK K
          refine wpAnyH_ready (rs := [5]) (by kernel_rfl) (by simp) (AllReadyH.cons rfl (fun K hK => ?_) AllReadyH.nil)
          go_simp
          refine (HN1.out w9 HB9.out).mono ?_
          rintro e w10 ⟨rfl, bw10⟩
          have fw10_0 : w10.cell? ⟨p0, 0, none⟩ = some (.int .i64 k) := kc fw9_0 bw10
          have fw10_1 : w10.cell? ⟨p0, 1, none⟩ = some (.int .i64 q) := kc fw9_1 bw10
          have fw10_2 : w10.cell? ⟨p0, 2, none⟩ = some (.int .i64 t) := kc fw9_2 bw10
          have fw10_3 : w10.cell? ⟨p0, 3, none⟩ = some (.slice al xs.length cl) := kc fw9_3 bw10
          have fw10_4 : w10.cell? ⟨p0, 4, none⟩ = some (.slice at2 ys.length ct) := kc fw9_4 bw10
          have HB10 := mkHid (bt HB9.out bw10)
          have HVR10 := mkHid (HVR9.out.below bw10)
          have HVT10 := mkHid (HVT9.out.below bw10)
          clear bw10 hHeld
          refine hK.out _ _ ⟨fw10_0, fw10_1, fw10_2, fw10_3, fw10_4⟩ (fun hHeld => ?_)
          clear hK K
          refine wpAnyH_ready (rs := [9]) (by kernel_rfl) (by simp) (AllReadyH.cons rfl (fun K hK => ?_) AllReadyH.nil)
          go_simp
          refine (HKr.out w10 _ HB10.out HVR10.out).mono ?_
          rintro e w11 ⟨rfl, bw11⟩
          have fw11_0 : w11.cell? ⟨p0, 0, none⟩ = some (.int .i64 k) := kc fw10_0 bw11
          have fw11_1 : w11.cell? ⟨p0, 1, none⟩ = some (.int .i64 q) := kc fw10_1 bw11
          have fw11_2 : w11.cell? ⟨p0, 2, none⟩ = some (.int .i64 t) := kc fw10_2 bw11
          have fw11_3 : w11.cell? ⟨p0, 3, none⟩ = some (.slice al xs.length cl) := kc fw10_3 bw11
          have fw11_4 : w11.cell? ⟨p0, 4, none⟩ = some (.slice at2 ys.length ct) := kc fw10_4 bw11
          have HB11 := mkHid (bt HB10.out bw11)
          have HVR11 := mkHid (HVR10.out.below bw11)
          have HVT11 := mkHid (HVT10.out.below bw11)
          clear bw11 hHeld
          refine hK.out _ _ ⟨fw11_0, fw11_1, fw11_2, fw11_3, fw11_4⟩ (fun hHeld => ?_)
          clear hK K
          refine wpAnyH_ready (rs := [10]) (by kernel_rfl) (by simp) (AllReadyH.cons rfl (fun K hK => ?_) AllReadyH.nil)
          go_simp
          refine (HN1.out w11 HB11.out).mono ?_
          rintro e w12 ⟨rfl, bw12⟩
          have fw12_0 : w12.cell? ⟨p0, 0, none⟩ = some (.int .i64 k) := kc fw11_0 bw12
          have fw12_1 : w12.cell? ⟨p0, 1, none⟩ = some (.int .i64 q) := kc fw11_1 bw12
          have fw12_2 : w12.cell? ⟨p0, 2, none⟩ = some (.int .i64 t) := kc fw11_2 bw12
          have fw12_3 : w12.cell? ⟨p0, 3, none⟩ = some (.slice al xs.length cl) := kc fw11_3 bw12
          have fw12_4 : w12.cell? ⟨p0, 4, none⟩ = some (.slice at2 ys.length ct) := kc fw11_4 bw12
          have HB12 := mkHid (bt HB11.out bw12)
          have HVR12 := mkHid (HVR11.out.below bw12)
          have HVT12 := mkHid (HVT11.out.below bw12)
          clear bw12 hHeld
          refine hK.out _ _ ⟨fw12_0, fw12_1, fw12_2, fw12_3, fw12_4⟩ (fun hHeld => ?_)
          clear hK K
          refine takeD 11 73 (.bool true) rfl rfl (by kernel_rfl) (by kernel_rfl) (by kernel_rfl) (fun _ _ _ h => h) (Or.inl ⟨by kernel_rfl, by intro w hSw; (try dsimp only at hSw); go_simp⟩) hHeld ?_
          simp only [List.set_cons_zero, List.set_cons_succ]
          refine takeD 12 74 (.bool true) rfl rfl (by kernel_rfl) (by kernel_rfl) (by kernel_rfl) (fun _ _ _ h => h) (Or.inl ⟨by kernel_rfl, by intro w hSw; (try dsimp only at hSw); go_simp⟩) hHeld ?_
          simp only [List.set_cons_zero, List.set_cons_succ]
          refine takeD 13 75 (.int .i64 r) rfl rfl (by kernel_rfl) (by kernel_rfl) (by kernel_rfl) (fun _ _ _ h => h) (Or.inl ⟨by kernel_rfl, by intro w hSw; (try dsimp only at hSw); go_simp⟩) hHeld ?_
          simp only [List.set_cons_zero, List.set_cons_succ]
          refine takeD 14 76 (.int .i64 r) rfl rfl (by kernel_rfl) (by kernel_rfl) (by kernel_rfl) (fun _ _ _ h => h) (Or.inl ⟨by kernel_rfl, by intro w hSw; (try dsimp only at hSw); go_simp⟩) hHeld ?_
          simp only [List.set_cons_zero, List.set_cons_succ]
          refine takeD 15 77 (.bool true) rfl rfl (by kernel_rfl) (by kernel_rfl) (by kernel_rfl) (fun _ _ _ h => h) (Or.inl ⟨by kernel_rfl, by intro w hSw; (try dsimp only at hSw); go_simp⟩) hHeld ?_
          simp only [List.set_cons_zero, List.set_cons_succ]
          refine takeD 16 78 (.bool true) rfl rfl (by kernel_rfl) (by kernel_rfl) (by kernel_rfl) (fun _ _ _ h => h) (Or.inl ⟨by kernel_rfl, by intro w hSw; (try dsimp only at hSw); go_simp⟩) hHeld ?_
          simp only [List.set_cons_zero, List.set_cons_succ]
          refine takeD 17 79 (.bool true) rfl rfl (by kernel_rfl) (by kernel_rfl) (by kernel_rfl) (fun _ _ _ h => h) (Or.inl ⟨by kernel_rfl, by intro w hSw; (try dsimp only at hSw); go_simp⟩) hHeld ?_
          simp only [List.set_cons_zero, List.set_cons_succ]
          refine takeD 18 80 (V2) rfl rfl (by kernel_rfl) (by kernel_rfl) (by kernel_rfl) (fun _ _ _ h => h) (Or.inl ⟨by kernel_rfl, by intro w hSw; (try dsimp only at hSw); go_simp⟩) hHeld ?_
          simp only [List.set_cons_zero, List.set_cons_succ]
          refine takeD 20 82 (V2) rfl rfl (by kernel_rfl) (by kernel_rfl) (by kernel_rfl) (fun _ _ _ h => h) (Or.inl ⟨by kernel_rfl, by intro w hSw; (try dsimp only at hSw); go_simp⟩) hHeld ?_
          simp only [List.set_cons_zero, List.set_cons_succ]
          refine wpAnyH_ready (rs := [19]) (by kernel_rfl) (by simp) (AllReadyH.cons rfl (fun K hK => ?_) AllReadyH.nil)
          go_simp
          refine (HN2.out w12 HB12.out).mono ?_
          rintro e w13 ⟨rfl, bw13⟩
          have fw13_0 : w13.cell? ⟨p0, 0, none⟩ = some (.int .i64 k) := kc fw12_0 bw13
          have fw13_1 : w13.cell? ⟨p0, 1, none⟩ = some (.int .i64 q) := kc fw12_1 bw13
          have fw13_2 : w13.cell? ⟨p0, 2, none⟩ = some (.int .i64 t) := kc fw12_2 bw13
          have fw13_3 : w13.cell? ⟨p0, 3, none⟩ = some (.slice al xs.length cl) := kc fw12_3 bw13
          have fw13_4 : w13.cell? ⟨p0, 4, none⟩ = some (.slice at2 ys.length ct) := kc fw12_4 bw13
          have HB13 := mkHid (bt HB12.out bw13)
          have HVR13 := mkHid (HVR12.out.below bw13)
          have HVT13 := mkHid (HVT12.out.below bw13)
          clear bw13 hHeld
          refine hK.out _ _ ⟨fw13_0, fw13_1, fw13_2, fw13_3, fw13_4⟩ (fun hHeld => ?_)
          clear hK K
          refine wpAnyH_ready (rs := [21]) (by kernel_rfl) (by simp) (AllReadyH.cons rfl (fun K hK => ?_) AllReadyH.nil)
          go_simp
          refine (HN2.out w13 HB13.out).mono ?_
          rintro e w14 ⟨rfl, bw14⟩
          have fw14_0 : w14.cell? ⟨p0, 0, none⟩ = some (.int .i64 k) := kc fw13_0 bw14
          have fw14_1 : w14.cell? ⟨p0, 1, none⟩ = some (.int .i64 q) := kc fw13_1 bw14
          have fw14_2 : w14.cell? ⟨p0, 2, none⟩ = some (.int .i64 t) := kc fw13_2 bw14
          have fw14_3 : w14.cell? ⟨p0, 3, none⟩ = some (.slice al xs.length cl) := kc fw13_3 bw14
          have fw14_4 : w14.cell? ⟨p0, 4, none⟩ = some (.slice at2 ys.length ct) := kc fw13_4 bw14
          have HB14 := mkHid (bt HB13.out bw14)
          have HVR14 := mkHid (HVR13.out.below bw14)
          have HVT14 := mkHid (HVT13.out.below bw14)
          clear bw14 hHeld
          refine hK.out _ _ ⟨fw14_0, fw14_1, fw14_2, fw14_3, fw14_4⟩ (fun hHeld => ?_)
          clear hK K
          refine takeD 22 84 (.bool true) rfl rfl (by kernel_rfl) (by kernel_rfl) (by kernel_rfl) (fun _ _ _ h => h) (Or.inl ⟨by kernel_rfl, by intro w hSw; (try dsimp only at hSw); go_simp⟩) hHeld ?_
          simp only [List.set_cons_zero, List.set_cons_succ]
          refine takeD 23 85 (.bool true) rfl rfl (by kernel_rfl) (by kernel_rfl) (by kernel_rfl) (fun _ _ _ h => h) (Or.inl ⟨by kernel_rfl, by intro w hSw; (try dsimp only at hSw); go_simp⟩) hHeld ?_
          simp only [List.set_cons_zero, List.set_cons_succ]
          refine takeD 24 86 (.bool true) rfl rfl (by kernel_rfl) (by kernel_rfl) (by kernel_rfl) (fun _ _ _ h => h) (Or.inl ⟨by kernel_rfl, by intro w hSw; (try dsimp only at hSw); go_simp⟩) hHeld ?_
          simp only [List.set_cons_zero, List.set_cons_succ]
          refine takeD 25 87 (.pointer (some ⟨p0, 0, none⟩)) rfl rfl (by kernel_rfl) (by kernel_rfl) (by kernel_rfl) (fun _ _ _ h => h) (Or.inl ⟨by kernel_rfl, by intro w hSw; (try dsimp only at hSw); go_simp⟩) hHeld ?_
          simp only [List.set_cons_zero, List.set_cons_succ]
          refine takeD 26 88 (.agg #[.int .i64 k, .int .i64 q, .int .i64 t]) rfl rfl (by kernel_rfl) (by kernel_rfl) (by kernel_rfl) (fun _ _ _ h => h) (Or.inl ⟨by kernel_rfl, by intro w hSw; (try dsimp only at hSw); go_simp⟩) hHeld ?_
          simp only [List.set_cons_zero, List.set_cons_succ]
          refine takeD 27 89 (.pointer (some ⟨p0, 4, none⟩)) rfl rfl (by kernel_rfl) (by kernel_rfl) (by kernel_rfl) (fun _ _ _ h => h) (Or.inl ⟨by kernel_rfl, by intro w hSw; (try dsimp only at hSw); go_simp⟩) hHeld ?_
          simp only [List.set_cons_zero, List.set_cons_succ]
          refine takeD 28 90 (.slice at2 ys.length ct) rfl rfl (by kernel_rfl) (by kernel_rfl) (by kernel_rfl) (fun _ _ _ h => h) (Or.inl ⟨by kernel_rfl, by intro w hSw; (try dsimp only at hSw); go_simp⟩) hHeld ?_
          simp only [List.set_cons_zero, List.set_cons_succ]
          refine takeD 31 93 (.pointer (some ⟨p0, 0, none⟩)) rfl rfl (by kernel_rfl) (by kernel_rfl) (by kernel_rfl) (fun _ _ _ h => h) (Or.inl ⟨by kernel_rfl, by intro w hSw; (try dsimp only at hSw); go_simp⟩) hHeld ?_
          simp only [List.set_cons_zero, List.set_cons_succ]
          refine takeD 32 94 (.agg #[.int .i64 k, .int .i64 q, .int .i64 t]) rfl rfl (by kernel_rfl) (by kernel_rfl) (by kernel_rfl) (fun _ _ _ h => h) (Or.inl ⟨by kernel_rfl, by intro w hSw; (try dsimp only at hSw); go_simp⟩) hHeld ?_
          simp only [List.set_cons_zero, List.set_cons_succ]
          refine takeD 33 95 (u5) rfl rfl (by kernel_rfl) (by kernel_rfl) (by kernel_rfl) (fun _ _ _ h => h) (Or.inl ⟨by kernel_rfl, by intro w hSw; (try dsimp only at hSw); go_simp⟩) hHeld ?_
          simp only [List.set_cons_zero, List.set_cons_succ]
          refine wpAnyH_ready (rs := [29]) (by kernel_rfl) (by simp) (AllReadyH.cons rfl (fun K hK => ?_) AllReadyH.nil)
          go_simp
          refine (HG.out w14 HB14.out).mono ?_
          rintro e w15 ⟨rfl, bw15⟩
          have fw15_0 : w15.cell? ⟨p0, 0, none⟩ = some (.int .i64 k) := kc fw14_0 bw15
          have fw15_1 : w15.cell? ⟨p0, 1, none⟩ = some (.int .i64 q) := kc fw14_1 bw15
          have fw15_2 : w15.cell? ⟨p0, 2, none⟩ = some (.int .i64 t) := kc fw14_2 bw15
          have fw15_3 : w15.cell? ⟨p0, 3, none⟩ = some (.slice al xs.length cl) := kc fw14_3 bw15
          have fw15_4 : w15.cell? ⟨p0, 4, none⟩ = some (.slice at2 ys.length ct) := kc fw14_4 bw15
          have HB15 := mkHid (bt HB14.out bw15)
          have HVR15 := mkHid (HVR14.out.below bw15)
          have HVT15 := mkHid (HVT14.out.below bw15)
          clear bw15 hHeld
          refine hK.out _ _ ⟨fw15_0, fw15_1, fw15_2, fw15_3, fw15_4⟩ (fun hHeld => ?_)
          clear hK K
          refine wpAnyH_ready (rs := [30]) (by kernel_rfl) (by simp) (AllReadyH.cons rfl (fun K hK => ?_) AllReadyH.nil)
          go_simp
          refine (HN3.out w15 HB15.out).mono ?_
          rintro e w16 ⟨rfl, bw16⟩
          have fw16_0 : w16.cell? ⟨p0, 0, none⟩ = some (.int .i64 k) := kc fw15_0 bw16
          have fw16_1 : w16.cell? ⟨p0, 1, none⟩ = some (.int .i64 q) := kc fw15_1 bw16
          have fw16_2 : w16.cell? ⟨p0, 2, none⟩ = some (.int .i64 t) := kc fw15_2 bw16
          have fw16_3 : w16.cell? ⟨p0, 3, none⟩ = some (.slice al xs.length cl) := kc fw15_3 bw16
          have fw16_4 : w16.cell? ⟨p0, 4, none⟩ = some (.slice at2 ys.length ct) := kc fw15_4 bw16
          have HB16 := mkHid (bt HB15.out bw16)
          have HVR16 := mkHid (HVR15.out.below bw16)
          have HVT16 := mkHid (HVT15.out.below bw16)
          clear bw16 hHeld
          refine hK.out _ _ ⟨fw16_0, fw16_1, fw16_2, fw16_3, fw16_4⟩ (fun hHeld => ?_)
          clear hK K
          refine wpAnyH_ready (rs := [34]) (by kernel_rfl) (by simp) (AllReadyH.cons rfl (fun K hK => ?_) AllReadyH.nil)
          go_simp
          refine (HGrV.out w16 HB16.out HVT16.out).mono ?_
          rintro e w17 ⟨rfl, bw17⟩
          have fw17_0 : w17.cell? ⟨p0, 0, none⟩ = some (.int .i64 k) := kc fw16_0 bw17
          have fw17_1 : w17.cell? ⟨p0, 1, none⟩ = some (.int .i64 q) := kc fw16_1 bw17
          have fw17_2 : w17.cell? ⟨p0, 2, none⟩ = some (.int .i64 t) := kc fw16_2 bw17
          have fw17_3 : w17.cell? ⟨p0, 3, none⟩ = some (.slice al xs.length cl) := kc fw16_3 bw17
          have fw17_4 : w17.cell? ⟨p0, 4, none⟩ = some (.slice at2 ys.length ct) := kc fw16_4 bw17
          have HB17 := mkHid (bt HB16.out bw17)
          clear bw17 hHeld
          refine hK.out _ _ ⟨fw17_0, fw17_1, fw17_2, fw17_3, fw17_4⟩ (fun hHeld => ?_)
          clear hK K
          refine wpAnyH_ready (rs := [35]) (by kernel_rfl) (by simp) (AllReadyH.cons rfl (fun K hK => ?_) AllReadyH.nil)
          go_simp
          refine (HN3.out w17 HB17.out).mono ?_
          rintro e w18 ⟨rfl, bw18⟩
          have fw18_0 : w18.cell? ⟨p0, 0, none⟩ = some (.int .i64 k) := kc fw17_0 bw18
          have fw18_1 : w18.cell? ⟨p0, 1, none⟩ = some (.int .i64 q) := kc fw17_1 bw18
          have fw18_2 : w18.cell? ⟨p0, 2, none⟩ = some (.int .i64 t) := kc fw17_2 bw18
          have fw18_3 : w18.cell? ⟨p0, 3, none⟩ = some (.slice al xs.length cl) := kc fw17_3 bw18
          have fw18_4 : w18.cell? ⟨p0, 4, none⟩ = some (.slice at2 ys.length ct) := kc fw17_4 bw18
          have HB18 := mkHid (bt HB17.out bw18)
          clear bw18 hHeld
          refine hK.out _ _ ⟨fw18_0, fw18_1, fw18_2, fw18_3, fw18_4⟩ (fun hHeld => ?_)
          clear hK K
          refine takeD 36 98 (.bool true) rfl rfl (by kernel_rfl) (by kernel_rfl) (by kernel_rfl) (fun _ _ _ h => h) (Or.inl ⟨by kernel_rfl, by intro w hSw; (try dsimp only at hSw); go_simp⟩) hHeld ?_
          simp only [List.set_cons_zero, List.set_cons_succ]
          refine takeD 37 99 (.bool true) rfl rfl (by kernel_rfl) (by kernel_rfl) (by kernel_rfl) (fun _ _ _ h => h) (Or.inl ⟨by kernel_rfl, by intro w hSw; (try dsimp only at hSw); go_simp⟩) hHeld ?_
          simp only [List.set_cons_zero, List.set_cons_succ]
          refine takeD 38 2 (.bool true) rfl rfl (by kernel_rfl) (by kernel_rfl) (by kernel_rfl) (fun _ _ _ h => h) (Or.inl ⟨by kernel_rfl, by intro w hSw; (try dsimp only at hSw); go_simp⟩) hHeld ?_
          simp only [List.set_cons_zero, List.set_cons_succ]
          refine wpAnyH_done (by kernel_rfl) ?_ _
          go_wp2
          go_ret
          exact ⟨rfl, HB18.out⟩
end Go.Proofs.YtnmmphnaelpjdabDoor
