/- The law AdmitShorter: responses are within deadlines. -/
import Derived.Test.YtnmmphnaelpjdabDoorAdB
import Derived.Test.YtnmmphnaelpjdabDoorOpenPl
namespace Go.Proofs.YtnmmphnaelpjdabDoor
open Go.ChangeShapes Go.WideShapes Go.ChangeAt Go.RowKit Go.Joins
set_option maxRecDepth 100000
set_option linter.unusedVariables false
attribute [local go_sem] World.cell?_alloc_some frozen_alloc_some

theorem je_ex4 : ∃ je, Hid (Tryd.prog.info? 30 = some je ∧ je.zero = some (.agg #[.int .i64 0, .int .i64 0, .int .i64 0, .int .i64 0]) ∧ je.size = 4 ∧ je.bytes = 32) := by
  obtain ⟨i, hi, h0, h1, h2⟩ := info_parts info_task
  exact ⟨i, hi, h0, h1, h2⟩
theorem rguest_legal4 (w : World) (v : Value) (p : Int) (xs : List Tk) (h : Tks w v xs) (g : Bool) (hg : g = true ↔ okG p xs) :
    Calls Tryd.prog 10 #[.int .i64 p, v] w fun e w' => e = .returned (.bool g) ∧ Below w.heap.size w w' := by
  obtain ⟨b, hb, hc⟩ := legalGuest_is w v p xs h
  have : b = g := by cases b <;> cases g <;> simp_all
  subst this
  exact hc
/-- A list in a block of its own, one number of it written over. -/
theorem owns_set {w : World} {base : Nat} {v : Value} {xs : List Tk} {i : Nat} {x : Tk} (hi : xs[i]? = some x) (h : w.ownsRow base 30 4 v xs.length (xs.flatMap c4)) :
    ∃ g cap, v = .slice (some ⟨g, 0, none⟩) xs.length cap ∧ base ≤ g ∧ xs.length ≤ cap ∧ w.cell? ⟨g, i * 4 + 1, none⟩ = some (.int .i64 x.2.1) ∧ w.cell? ⟨g, i * 4 + 2, none⟩ = some (.int .i64 x.2.2.1) ∧ w.frozen? ⟨g, i * 4 + 2, none⟩ = false ∧ Tks (w.setCell ⟨g, i * 4 + 2, none⟩ (.int .i64 x.2.1)) (.slice (some ⟨g, 0, none⟩) xs.length cap) (xs.set i (later x)) := by
  have hil := (List.getElem?_eq_some_iff.mp hi).1
  obtain ⟨hl, ⟨_, hn⟩ | ⟨g, cap, cur, rfl, hbg, hg, hnc, hcm, hcs, ht⟩⟩ := id h
  · omega
  · have hcell : ∀ j y r, xs[j]? = some y → r < 4 → w.cell? ⟨g, j * 4 + r, none⟩ = (c4 y)[r]? := by
      intro j y r hj hr
      have hjl := (List.getElem?_eq_some_iff.mp hj).1
      rw [cell_of_row w g (j * 4 + r) cur 30 (0, 0) hg]
      have hb : j * 4 + r < xs.length * 4 := by omega
      have e1 : cur[j * 4 + r]? = (cur.toList.take (xs.length * 4))[j * 4 + r]? := by rw [List.getElem?_take_of_lt hb]; simp
      rw [e1, ht]
      exact fl_get c4 4 (fun _ => rfl) xs j r y hj hr
    refine ⟨g, cap, rfl, hbg, hnc, by simpa [c4] using hcell i x 1 hi (by omega), by simpa [c4] using hcell i x 2 hi (by omega), frozen_of_block hg, ?_⟩
    refine ⟨some ⟨g, 0, none⟩, cap, by rw [List.length_set], by rw [List.length_set]; simp only [maxLen] at hcm; omega, fun hp => ⟨g, 0, rfl, fun j y hj => ?_⟩⟩
    rw [List.getElem?_set] at hj
    have hset : ∀ o, o ≠ i * 4 + 2 → (w.setCell ⟨g, i * 4 + 2, none⟩ (.int .i64 x.2.1)).cell? ⟨g, o, none⟩ = w.cell? ⟨g, o, none⟩ := by
      intro o ho
      rw [cell_of_row _ g o _ 30 (0, 0) (heap_set hg), cell_of_row w g o cur 30 (0, 0) hg]
      simp [Ne.symm ho]
    have hnew : (w.setCell ⟨g, i * 4 + 2, none⟩ (.int .i64 x.2.1)).cell? ⟨g, i * 4 + 2, none⟩ = some (.int .i64 x.2.1) := by
      rw [cell_of_row _ g (i * 4 + 2) _ 30 (0, 0) (heap_set hg)]
      have : i * 4 + 2 < cur.size := by omega
      simp [this]
    by_cases e : i = j
    · subst e
      rw [if_pos rfl, if_pos hil] at hj
      have hy : later x = y := Option.some.inj hj
      subst hy
      simp only [Nat.zero_add]
      refine ⟨?_, ?_, ?_, ?_⟩
      · rw [hset _ (by omega)]; simpa [c4, later] using hcell i x 0 hi (by omega)
      · rw [hset _ (by omega)]; simpa [c4, later] using hcell i x 1 hi (by omega)
      · exact hnew
      · rw [hset _ (by omega)]; simpa [c4, later] using hcell i x 3 hi (by omega)
    · rw [if_neg e] at hj
      simp only [Nat.zero_add]
      refine ⟨?_, ?_, ?_, ?_⟩
      · rw [hset _ (by omega)]; simpa [c4] using hcell j y 0 hj (by omega)
      · rw [hset _ (by omega)]; simpa [c4] using hcell j y 1 hj (by omega)
      · rw [hset _ (by omega)]; simpa [c4] using hcell j y 2 hj (by omega)
      · rw [hset _ (by omega)]; simpa [c4] using hcell j y 3 hj (by omega)
theorem okG_later {xs : List Tk} {i : Nat} {x : Tk} (h : okG 2 xs) (hi : xs[i]? = some x) : okG 2 (xs.set i (later x)) := by
  obtain ⟨a, b, c, d⟩ := h
  refine ⟨a, by simpa using b, by simpa using c, fun y hy => ?_⟩
  rcases List.mem_or_eq_of_mem_set hy with h | h
  · exact d y h
  · rw [h]; exact later_ok (d x (List.mem_of_getElem? hi))
/-- What is told of each task of a guest that fits. -/
structure Told (w : World) (s : Sv) (a0 : Option Addr) (ct : Nat) (ys : List Tk) (j : Nat) (x : Tk) (r : Int) : Prop where
  d : r ≤ x.2.2.1
  work : tot cc (ys.take (j + 1)) ≤ r
  unt : untM ys j r ≤ r
  r0 : 1 ≤ r
  r1 : r ≤ 256
  resp : ∀ W, Below w.heap.size w W → Calls Tryd.prog 11 #[vS s, .slice a0 ys.length ct, .int .i64 (j : Int)] W fun e w' => e = .returned (.tuple #[.int .i64 r, .nilIface]) ∧ Below W.heap.size W w'
  until_ : ∀ W, Below w.heap.size w W → Calls Tryd.prog 12 #[.slice a0 ys.length ct, .int .i64 (j : Int), .int .i64 r] W fun e w' => e = .returned (.int .i64 (untM ys j r)) ∧ Below W.heap.size W w'
  late : ∀ W a1 c, Below w.heap.size w W → Tks W (.slice a1 ys.length c) (ys.set j (later x)) → ys.length ≤ c → Calls Tryd.prog 11 #[vS s, .slice a1 ys.length c, .int .i64 (j : Int)] W fun e w' => e = .returned (.tuple #[.int .i64 r, .nilIface]) ∧ Below W.heap.size W w'
theorem told {w : World} {s : Sv} {a0 : Option Addr} {ct : Nat} {ys : List Tk} {a : Nat → Addr} (hy : Tks w (.slice a0 ys.length ct) ys) (hc : ys.length ≤ ct) (E : Er6 w a) (h1 : okW s) (h2 : okG 2 ys) (h3 : FitO (gS s) (dS s) (qS s) ys) {j : Nat} {x : Tk} (hj : ys[j]? = some x) : ∃ r, Told w s a0 ct ys j x r := by
  have hjl := (List.getElem?_eq_some_iff.mp hj).1
  obtain ⟨n1, n2, n3, n4, n5⟩ := h1.nums
  obtain ⟨r, hr⟩ := lst_ex (fun l => untM ys j l ≤ sb (gS s) (dS s) (qS s) l) (dl ys j)
  have hr0 : ¬ r = 0 := fun e => h3 j hjl (by rw [e] at hr; exact hr)
  have hx := h2.2.2.2 x (List.mem_of_getElem? hj)
  obtain ⟨x1, x2, x3, x4, x5, x6⟩ := id hx
  have hR : Rsp (gS s) (dS s) (qS s) ys j r := hr
  rcases id hr with ⟨e, _⟩ | ⟨b1, b2, b3, b4⟩
  · exact absurd e hr0
  · rw [dl_at hj] at b2
    have b3' : untM ys j r ≤ sb (gS s) (dS s) (qS s) r := b3
    have hsb := sb_room (g := gS s) (d := dS s) (q := qS s) (l := r) (by omega) n2 n3 (by omega)
    have hw := work_le (xs := ys) h2.2.2.2 b1 j
    refine ⟨r, b2, by omega, by omega, b1, by omega, fun W hW => ?_, fun W hW => ?_, fun W a1 c hW hv hcc => ?_⟩
    · exact response_is W s a0 ct ys j a r 0 (hy.below hW) hc (E.late hW) (.yes r h1 h2 ⟨by omega, by omega⟩ (by simpa using hR) hr0)
    · exact runtil_is W _ ys j r (hy.below hW) h2.2.2 (by omega) (by omega) hjl
    · have hl : (ys.set j (later x)).length = ys.length := List.length_set
      have hk : RC s (ys.set j (later x)) (j : Int) r 0 := .yes r h1 (okG_later h2 hj) ⟨by omega, by rw [hl]; omega⟩ (by simpa using rsp_later hx hj hR hr0) hr0
      have := response_is W s a1 c (ys.set j (later x)) j a r 0 (by rw [hl]; exact hv) (by rw [hl]; exact hcc) (E.late hW) hk
      rw [hl] at this
      exact this
set_option maxHeartbeats 25600000 in
theorem shorter_walk (w : World) (s : Sv) (at2 : Option Addr) (ct : Nat) (ys : List Tk) (a : Nat → Addr) (n1 : Int) (hy : Tks w (.slice at2 ys.length ct) ys) (hc : ys.length ≤ ct) (E : Er6 w a) (hT : Err w 0 text0 (a 0)) (h1 : GC s 2 ys n1) :
    Calls Tryd.prog 4 #[vS s, .slice at2 ys.length ct] w fun e w' => e = .returned (.bool true) ∧ Below w.heap.size w w' := by
  obtain ⟨k, q, t⟩ := s
  obtain ⟨je, hje⟩ := je_ex4
  have HAL : Hid (∀ W, Below w.heap.size w W → Calls Tryd.prog 5 #[] W fun e w' => e = .returned (.bool true) ∧ Below W.heap.size W w') := mkHid (fun W hW => aalive W a (E.late hW) (hT.late hW))
  have HLG : Hid (∀ W g, (g = true ↔ okG 2 ys) → Below w.heap.size w W → Calls Tryd.prog 10 #[.int .i64 2, .slice at2 ys.length ct] W fun e w' => e = .returned (.bool g) ∧ Below W.heap.size W w') := mkHid (fun W g hg hW => rguest_legal4 W _ 2 ys (hy.below hW) g hg)
  have HG : Hid (∀ W, Below w.heap.size w W → Calls Tryd.prog 9 #[vS (k, q, t), .int .i64 2, .slice at2 ys.length ct] W fun e w' => e = .returned (ev6 a n1) ∧ Below W.heap.size W w') := mkHid (fun W hW => guestA_is W (k, q, t) 2 at2 ct ys a n1 (hy.below hW) hc (E.late hW) h1)
  by_cases hg : okG 2 ys
  · have HL := mkHid (fun W hW => HLG.out W true ⟨fun _ => hg, fun _ => rfl⟩ hW)
    have hl8 : (ys.length : Int) ≤ 8 := by have := hg.2.2.1; omega
    by_cases hn : n1 = 0
    · subst hn
      rw [ev6_0] at HG
      obtain ⟨o1, o2, o3⟩ := h1.zero2 rfl
      have HTD : Hid (∀ j x, ys[j]? = some x → ∃ r, Told w (k, q, t) at2 ct ys j x r) := mkHid (fun j x hj => told hy hc E o1 hg o3 hj)
      have HX : Hid (∀ x ∈ ys, okT x) := mkHid hg.2.2.2
      have HS := mkHid hy
      clear o1 o2 o3 h1 hy E hT hg HLG
      go_enter Tryd.func4, Tryd.ntmps4
      go_wp2_with (first
        | (go_at_call 5; refine (HAL.out _ (ba (Below.refl _ _) _)).mono ?_; rintro e w1 ⟨rfl, b1⟩; have c0 := kc (a := ⟨w.heap.size, 0, none⟩) (v := .int .i64 k) (by simp [go_sem]) b1; have c1 := kc (a := ⟨w.heap.size, 1, none⟩) (v := .int .i64 q) (by simp [go_sem]) b1; have c2 := kc (a := ⟨w.heap.size, 2, none⟩) (v := .int .i64 t) (by simp [go_sem]) b1; have HB1 := mkHid (bt (ba (Below.refl _ _) _) b1); clear b1)
        | (go_at_call 10; refine (HL.out _ HB1.out).mono ?_; rintro e w2 ⟨rfl, b2⟩; have d0 := kc c0 b2; have d1 := kc c1 b2; have d2 := kc c2 b2; have HB2 := mkHid (bt HB1.out b2); clear b2 c0 c1 c2)
        | (go_at_call 9; refine (HG.out _ HB2.out).mono ?_; rintro e w3 ⟨rfl, b3⟩; have e0 := kc d0 b3; have e1 := kc d1 b3; have e2 := kc d2 b3; have HB3 := mkHid (bt HB2.out b3); clear b3 d0 d1 d2))
      have HCE := mkHid (And.intro e0 (And.intro e1 e2))
      clear e0 e1 e2
      go_loopw [5, 25] (fun nv iv wr => ∃ (j : Nat) (N : Int), nv = .int .i64 N ∧ iv = .int .i64 (j : Int) ∧ j ≤ ys.length ∧ 0 ≤ N ∧ N ≤ 2048 ∧ Hid (tot cc (ys.take j) = N) ∧ Hid (Below w3.heap.size w3 wr)) (fun _ iv _ => ys.length - (intOf iv).toNat)
      case atStart => exact ⟨0, 0, rfl, rfl, Nat.zero_le _, by omega, by omega, mkHid rfl, mkHid (Below.refl _ _)⟩
      case round =>
        obtain ⟨j, N, rfl, rfl, hj, m0, m1, HNN, HB⟩ := hrel
        by_cases hlt : j < ys.length
        · obtain ⟨b, off, c, p, d, sx, hae, hxj, c0, c1, c2, c3_⟩ := HS.out.at (bt HB3.out HB.out) j hlt
          subst hae
          obtain ⟨r, hr⟩ := HTD.out j _ hxj
          have hji : (j : Int) < ys.length := by omega
          have e := tot_take cc hxj
          have t2 := tot_cc8 (xs := ys.take (j + 1)) (fun x hm => HX.out x (List.mem_of_mem_take hm)) (by rw [List.length_take]; omega)
          have hw := hr.work
          rw [HNN.out] at e
          have eq1 : cc (c, p, d, sx) = c := rfl
          rw [eq1] at e
          rw [e] at t2 hw
          have HT2 := mkHid e
          have hrd : r ≤ d := hr.d
          have hru := hr.unt
          have hr0 := hr.r0
          have hr1 := hr.r1
          have ew : IntKind.i64.wrap (N + c) = N + c := wfit (by omega) (by omega)
          have HR1 := mkHid hr.resp
          have HR2 := mkHid hr.until_
          have HR3 := mkHid hr.late
          obtain ⟨U, hU⟩ : ∃ U, untM ys j r = U := ⟨_, rfl⟩
          rw [hU] at hru HR2
          have HXJ := mkHid hxj
          obtain ⟨g0, g1, g2⟩ := HCE.out
          have f0 := kl (kc g0 HB.out) (oT (c, p, d, sx))
          have f1 := kl (kc g1 HB.out) (oT (c, p, d, sx))
          have f2 := kl (kc g2 HB.out) (oT (c, p, d, sx))
          have HB4 := mkHid (ba (bt HB3.out HB.out) (oT (c, p, d, sx)))
          have HC4 : Hid (Below w3.heap.size w3 (wr.alloc (oT (c, p, d, sx)))) := mkHid (ba HB.out _)
          obtain ⟨t0, t1, t2', t3⟩ := T4.new wr (c, p, d, sx)
          have M1 : Hid True := mkHid trivial
          clear hr hxj e eq1 hU g0 g1 g2
          go_wp2_with (first
            | (go_at_call 11; clear M1; refine (HR1.out _ HB4.out).mono ?_; rintro e w5 ⟨rfl, b5⟩; have z0 := kc f0 b5; have z1 := kc f1 b5; have z2 := kc f2 b5; have s2 := kc t2' b5; have HB5 := mkHid (bt HB4.out b5); have HC5 := mkHid (bt HC4.out b5); clear b5 f0 f1 f2 t0 t1 t2' t3)
            | (go_at_call 12; refine (HR2.out _ HB5.out).mono ?_; rintro e w6 ⟨rfl, b6⟩; have y0 := kc z0 b6; have y1 := kc z1 b6; have y2 := kc z2 b6; have HB6 := mkHid (bt HB5.out b6); have HC6 := mkHid (bt HC5.out b6); clear b6 z0 z1 z2 s2)
            | (at_builtin; have hm := World.ownsRow_made (base := w6.heap.size) (e := 30) (size := 4) w6 #[] 0 (Nat.le_refl _) (by unfold maxLen; omega) rfl; refine wpList_append_src4 _ rfl (.tmp 62) (.tmp 63) 25 25 rfl w6.heap.size 30 je Tryd.underlying25 hje.out.1 (.agg #[.int .i64 0, .int .i64 0, .int .i64 0, .int .i64 0]) 32 hje.out.2.1 rfl hje.out.2.2.1 hje.out.2.2.2 (.slice (some ⟨w6.heap.size, 0, none⟩) 0 0) 0 [] rfl hm (.slice (some ⟨b, off, none⟩) ys.length ct) ys.length (ys.flatMap c4) rfl (HS.out.below (ba HB6.out _)).src (by unfold maxLen; omega) (by omega) (by simp) ?_; intro v4 w7 ho4 hg4 hat4; rw [Nat.zero_add, List.nil_append] at ho4; have b7 : Below w6.heap.size w6 w7 := ((Below.refl _ w6).alloc (Nat.le_refl _) (.cells #[] 30)).grown hg4 (by simp) (fun k hk => by simp [Value.ownBlock] at hk; omega); obtain ⟨g, cap, rfl, hbg, hcap, hp1, hp2, hfz, htk⟩ := owns_set HXJ.out ho4; simp only at hp1 hp2 htk; have b8 : Below w6.heap.size w6 (w7.setCell ⟨g, j * 4 + 2, none⟩ (.int .i64 p)) := b7.setCell hbg _; have x0 := kc y0 b8; have x1 := kc y1 b8; have x2 := kc y2 b8; have HB8 := mkHid (bt HB6.out b8); have HC8 := mkHid (bt HC6.out b8); have HTK := mkHid htk; have HCP := mkHid hcap; clear hm ho4 hg4 hat4 b7 b8 hbg hcap htk y0 y1 y2)
            | (go_at_call 11; refine (HR3.out _ _ _ HB8.out HTK.out HCP.out).mono ?_; rintro e w9 ⟨rfl, b9⟩; have HC9 := mkHid (bt HC8.out b9); clear b9))
          go_roundw
          case rel => exact ⟨j + 1, N + c, by go_num, by go_num, by omega, t2.1, t2.2, HT2, HC9⟩
          case measure => simp [intOf]; omega
        · obtain rfl : j = ys.length := by omega
          go_wp2
          go_ret
          exact ⟨rfl, bt HB3.out HB.out⟩
    · have he : ∃ b, ev6 a n1 = vE b := by rcases h1.codes with h | h | h | h <;> first | exact absurd h hn | (rw [h]; exact ⟨_, rfl⟩)
      obtain ⟨b, he⟩ := he
      rw [he] at HG
      clear he h1 hy E hT hg HLG
      go_enter Tryd.func4, Tryd.ntmps4
      go_wp2_with (first
        | (go_at_call 5; refine (HAL.out _ (ba (Below.refl _ _) _)).mono ?_; rintro e w1 ⟨rfl, b1⟩; have c0 := kc (a := ⟨w.heap.size, 0, none⟩) (v := .int .i64 k) (by simp [go_sem]) b1; have c1 := kc (a := ⟨w.heap.size, 1, none⟩) (v := .int .i64 q) (by simp [go_sem]) b1; have c2 := kc (a := ⟨w.heap.size, 2, none⟩) (v := .int .i64 t) (by simp [go_sem]) b1; have HB1 := mkHid (bt (ba (Below.refl _ _) _) b1); clear b1)
        | (go_at_call 10; refine (HL.out _ HB1.out).mono ?_; rintro e w2 ⟨rfl, b2⟩; have d0 := kc c0 b2; have d1 := kc c1 b2; have d2 := kc c2 b2; have HB2 := mkHid (bt HB1.out b2); clear b2 c0 c1 c2)
        | (go_at_call 9; refine (HG.out _ HB2.out).mono ?_; rintro e w3 ⟨rfl, b3⟩; have HB3 := mkHid (bt HB2.out b3); clear b3 d0 d1 d2))
      go_ret
      exact ⟨rfl, HB3.out⟩
  · have HL := mkHid (fun W hW => HLG.out W false ⟨fun e => (by cases e), fun hf => absurd hf hg⟩ hW)
    clear h1 hy E hT hg HLG HG
    go_enter Tryd.func4, Tryd.ntmps4
    go_wp2_with (first
      | (go_at_call 5; refine (HAL.out _ (ba (Below.refl _ _) _)).mono ?_; rintro e w1 ⟨rfl, b1⟩; have HB1 := mkHid (bt (ba (Below.refl _ _) _) b1); clear b1)
      | (go_at_call 10; refine (HL.out _ HB1.out).mono ?_; rintro e w2 ⟨rfl, b2⟩; have HB2 := mkHid (bt HB1.out b2); clear b2))
    go_ret
    exact ⟨rfl, HB2.out⟩
theorem open_tasks_cap {H : Type} {enc : TypeId × Value → H} {W : World} {base : Nat} {v : Value} {d : DataW H} {p : List MemPlace}
    (hv : Value.okWide Tryd.prog W .any base 25 v) (h : DataW.Trod enc Tryd.prog W 0 (fun _ => true) true 25 v d p) : ∀ a n c, v = .slice a n c → n ≤ c := by
  obtain ⟨a, len, cap, rfl⟩ := okWide_slice Tryd.underlying25 hv
  obtain ⟨fuel, hf⟩ := h
  intro a' n' c' e
  simp at e
  obtain ⟨rfl, rfl, rfl⟩ := e
  rcases Go.Deep.open_slice Tryd.underlying25 (by simpa [Value.cells] using hf) with ⟨hcs, hx⟩ | ⟨x, l, c, m, n, D, Pl, hcs, _, hl, hm, hme, hx, hall⟩
  · simp at hcs
    omega
  · simp at hcs
    omega
end Go.Proofs.YtnmmphnaelpjdabDoor
