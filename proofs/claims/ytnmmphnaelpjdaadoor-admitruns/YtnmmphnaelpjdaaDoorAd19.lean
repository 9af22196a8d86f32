/- The law AdmitRuns: servers that fit below the whole, run by earliest deadline, are never late, and are done within Drain. -/
import Derived.Test.YtnmmphnaelpjdaaDoorAd18
import Derived.Test.YtnmmphnaelpjdaaDoorAdB
import Derived.Test.YtnmmphnaelpjdaaDoorSrcV
namespace Go.Proofs.YtnmmphnaelpjdaaDoor
open Go.ChangeShapes Go.WideShapes Go.ChangeAt Go.RowKit
set_option maxRecDepth 100000
set_option linter.unusedVariables false
attribute [local go_sem] World.cell?_alloc_some frozen_alloc_some

theorem svs_of_owns_cap {w : World} {base : Nat} {v : Value} {xs : List Sv} (hl : (xs.length : Int) ≤ 9223372036854775807) (h : w.ownsRow base 23 3 v xs.length (xs.flatMap c3)) : ∃ a cap, v = .slice a xs.length cap ∧ Svs w (.slice a xs.length cap) xs ∧ xs.length ≤ cap := by
  obtain ⟨a, cap, rfl, ht⟩ := svs_of_owns hl h
  refine ⟨a, cap, rfl, ht, ?_⟩
  obtain ⟨_, ⟨e, hn⟩ | ⟨g, cap', cur, e, hbg, hg, hnc, _⟩⟩ := h
  · rw [hn]; exact Nat.zero_le _
  · cases e; exact hnc
theorem ie_ex : ∃ ie, Hid (Tryd.prog.info? 23 = some ie ∧ ie.zero = some (.agg #[.int .i64 0, .int .i64 0, .int .i64 0]) ∧ ie.size = 3 ∧ ie.bytes = 24) := by
  obtain ⟨i, hi, h0, h1, h2⟩ := info_parts info_server
  exact ⟨i, hi, h0, h1, h2⟩
def spor (s : Sv) : Sv := (2, s.2.1, s.2.2)
theorem src_s3 (w : World) (s : Sv) (p : Nat) (hp : p = w.heap.size) : Src Tryd.prog 3 24 (.slice (some ⟨p, 0, none⟩) 1 1) 1 (c3 s) (w.alloc (oS s)) := by
  subst hp
  have h := (svs_one w s).src
  simpa using h
theorem Iw.of_owns {w : World} {base : Nat} {v : Value} {ws : List Int} (h : w.ownsRow base 3 1 v ws.length (ws.map (Value.int .i64))) : Iw w v ws ∧ ∃ a c, v = .slice a ws.length c := by
  rcases h.2 with ⟨rfl, h0⟩ | ⟨g, cap, cur, rfl, hg, hh, hcap, hm, hs, ht⟩
  · exact ⟨⟨none, 0, by rw [h0], fun hp => by omega⟩, none, 0, by rw [h0]⟩
  · refine ⟨⟨some ⟨g, 0, none⟩, cap, rfl, fun hp => ⟨g, 0, rfl, fun i x hi => ?_⟩⟩, _, _, rfl⟩
    rw [Nat.zero_add]
    have hil := (List.getElem?_eq_some_iff.mp hi).1
    refine cell_of_block hh ?_
    have e1 : cur[i]? = (cur.toList.take (ws.length * 1))[i]? := by rw [List.getElem?_take_of_lt (by omega)]; simp
    rw [e1, ht, List.getElem?_map, hi]
    rfl
theorem src_i1 (w : World) (x : Int) (p : Nat) (hp : p = w.heap.size) : Src Tryd.prog 1 59 (.slice (some ⟨p, 0, none⟩) 1 1) 1 [.int .i64 x] (w.alloc (.cells #[.int .i64 x] 3)) := by
  subst hp
  refine Src.ofSlice _ Tryd.underlying59 _ _ _ _ rfl (fun j u hj => ?_) (fun u hu => by simp at hu; subst hu; rfl)
  match j, hj with
  | 0, hj => simp at hj; subst hj; rw [add_none]; simp
  | j + 1, hj => simp at hj
theorem srv_spor {xs : List Sv} (h : ∀ x ∈ xs.map spor, okS x) : Srv (xs.map spor) (fun i => (xs.getD i (0, 0, 0)).2.1) (fun i => (xs.getD i (0, 0, 0)).2.2) := by
  intro i x hi
  refine ⟨h x (List.mem_of_getElem? hi), ?_⟩
  rw [List.getElem?_map] at hi
  cases hx : xs[i]? with
  | none => rw [hx] at hi; simp at hi
  | some y =>
    rw [hx] at hi
    have : spor y = x := by simpa using hi
    subst this
    simp [List.getD_eq_getElem?_getD, hx, spor]
theorem info_int : (Tryd.prog.info? 3).map (fun i => (i.zero, i.size, i.bytes)) = some (some (.int .i64 0), 1, 8) := by kernel_rfl
theorem ne_ex : ∃ ne, Hid (Tryd.prog.info? 3 = some ne ∧ ne.zero = some (.int .i64 0) ∧ ne.size = 1 ∧ ne.bytes = 8) := by
  obtain ⟨i, hi, h0, h1, h2⟩ := info_parts info_int
  exact ⟨i, hi, h0, h1, h2⟩
theorem rest40 (x : Int) : ∃ A B K : Int, x.tmod 40 = A ∧ IntKind.i64.wrap A = A ∧ IntKind.i64.wrap (A + 40) = B ∧ B.tmod 40 = K ∧ IntKind.i64.wrap K = K ∧ 0 ≤ K ∧ K ≤ 39 := by
  have a1 := Int.tmod_lt_of_pos x (show (0 : Int) < 40 by omega)
  have a2 : -40 < x.tmod 40 := by
    by_cases hn : 0 ≤ x
    · have := Int.tmod_nonneg 40 hn; omega
    · have e := Int.neg_tmod (a := -x) (b := 40)
      rw [Int.neg_neg] at e
      have := Int.tmod_lt_of_pos (-x) (show (0 : Int) < 40 by omega)
      omega
  have b1 := Int.tmod_lt_of_pos (x.tmod 40 + 40) (show (0 : Int) < 40 by omega)
  have b2 := Int.tmod_nonneg 40 (show 0 ≤ x.tmod 40 + 40 by omega)
  exact ⟨x.tmod 40, x.tmod 40 + 40, (x.tmod 40 + 40).tmod 40, rfl, wfit (by omega) (by omega), wfit (by omega) (by omega), rfl, wfit (by omega) (by omega), b2, by omega⟩
set_option maxHeartbeats 25600000 in
theorem runs_walk (w : World) (al aw : Option Addr) (cl cw : Nat) (xs : List Sv) (us : List Int) (a : Nat → Addr) (n1 r n2 : Int) (hx : Svs w (.slice al xs.length cl) xs) (hlx : xs.length * 24 ≤ 140737488355328) (hu : Iw w (.slice aw us.length cw) us) (hlu : (us.length : Int) ≤ 9223372036854775807) (E : Er6 w a) (hT : Err w 1 text1 (a 1)) (h1 : KC (0, 0, 0) (xs.map spor) n1) (h2 : DC (0, 0, 0) (xs.map spor) r n2) :
    Calls Tryd.prog 8 #[.slice al xs.length cl, .slice aw us.length cw] w fun e w' => e = .returned (.bool true) ∧ Below w.heap.size w w' := by
  obtain ⟨ie, hie⟩ := ie_ex
  obtain ⟨ne, hne⟩ := ne_ex
  have HAL : Hid (∀ W, Below w.heap.size w W → Calls Tryd.prog 9 #[] W fun e w' => e = .returned (.bool true) ∧ Below W.heap.size W w') := mkHid (fun W hW => aalive W a (E.late hW) (hT.late hW))
  have HK : Hid (∀ W v, Below w.heap.size w W → Svs W v (xs.map spor) → Calls Tryd.prog 10 #[vS (0, 0, 0), v] W fun e w' => e = .returned (ev6 a n1) ∧ Below W.heap.size W w') := mkHid (fun W v hW hv => kids_is W (0, 0, 0) v (xs.map spor) a n1 hv (E.late hW) h1)
  have HD : Hid (∀ W v, Below w.heap.size w W → Svs W v (xs.map spor) → Calls Tryd.prog 11 #[vS (0, 0, 0), v] W fun e w' => e = .returned (.tuple #[.int .i64 r, ev6 a n2]) ∧ Below W.heap.size W w') := mkHid (fun W v hW hv => drain_is W (0, 0, 0) v (xs.map spor) a r n2 hv (E.late hW) h2)
  have HS := mkHid hx
  have HU := mkHid hu
  have HLX := mkHid hlx
  have hxi : (xs.length : Int) ≤ 5864062014805 := by omega
  have HC : Hid ((∃ e, ev6 a n1 = vE e) ∨ (ev6 a n1 = .nilIface ∧ ev6 a n2 = .nilIface ∧ (xs.map spor).length ≤ 8 ∧ 1 ≤ r ∧ r ≤ 4096 ∧ (∀ x ∈ xs.map spor, okS x) ∧ (∀ l, 1 ≤ l → tot (sdem · l) (xs.map spor) ≤ l) ∧ tot (sreq · r) (xs.map spor) ≤ r)) := mkHid (by
    rcases h1.codes with h | h | h | h
    · right
      subst h
      obtain ⟨o1, o2, o3, o4⟩ := h1.zero rfl
      obtain ⟨e1, e2, e3⟩ := h2.fits h1
      subst e1
      have g0 : gS (0, 0, 0) = 0 := rfl
      have g1 : dS (0, 0, 0) = 0 := rfl
      have g2 : qS (0, 0, 0) = 1 := rfl
      rw [g0, g1, g2] at o4 e2
      rcases e2 with ⟨e, _⟩ | ⟨b1, b2, b3, _⟩
      · exact absurd e e3
      · refine ⟨rfl, rfl, o3, b1, b2, o2, fun l hl => ?_, ?_⟩
        · have := fitK_all (g := 0) (d := 0) (q := 1) (by omega) (by omega) o2 o4 hl
          rwa [sb_whole (by omega)] at this
        · have b3' : tot (sreq · r) (xs.map spor) ≤ sb 0 0 1 r := b3
          rwa [sb_whole (by omega)] at b3'
    · left; subst h; exact ⟨_, rfl⟩
    · left; subst h; exact ⟨_, rfl⟩
    · left; subst h; exact ⟨_, rfl⟩)
  clear E hT h1 h2 hx hu hlx
  generalize ev6 a n1 = V1 at *
  generalize ev6 a n2 = V2 at *
  go_enter Tryd.func8, Tryd.ntmps8
  go_wp2_with (go_at_call 9; refine (HAL.out _ (Below.refl _ _)).mono ?_; rintro e w1 ⟨rfl, b1⟩; have HB1 := mkHid b1; clear b1)
  have HM3 : Hid ((w1.alloc (.cells #[] 23)).ownsRow w1.heap.size 23 3 (.slice (some ⟨w1.heap.size, 0, none⟩) 0 0) 0 (((xs.map spor).take 0).flatMap c3)) := mkHid (World.ownsRow_made (base := w1.heap.size) (e := 23) (size := 3) w1 #[] 0 (Nat.le_refl _) (by unfold maxLen; omega) rfl)
  go_loopw [5, 20] (fun lv iv wr => ∃ j : Nat, iv = .int .i64 (j : Int) ∧ j ≤ xs.length ∧ Hid (wr.ownsRow w1.heap.size 23 3 lv j (((xs.map spor).take j).flatMap c3)) ∧ Hid (Below w1.heap.size w1 wr)) (fun _ iv _ => xs.length - (intOf iv).toNat)
  case atStart => exact ⟨0, rfl, Nat.zero_le _, HM3, mkHid ((Below.refl _ w1).alloc (Nat.le_refl _) _)⟩
  case round =>
    obtain ⟨j, rfl, hj, HO, HB⟩ := hrel
    by_cases hlt : j < xs.length
    · obtain ⟨b, off, kk, qx, tt, hae, hxj, c0, c1, c2⟩ := HS.out.at (bt HB1.out HB.out) j hlt
      subst hae
      have hji : (j : Int) < xs.length := by omega
      have HRV : Hid ((xs.map spor).take (j + 1) = (xs.map spor).take j ++ [(2, qx, tt)]) := mkHid (by
        rw [List.take_add_one, List.getElem?_map, hxj]; rfl)
      have HSZ := mkHid HB.out.size
      have HJ := mkHid hj
      clear hxj hj
      go_wp2_with (at_builtin; refine wpList_append_src3 _ rfl (.tmp 25) (.tmp 27) 24 24 rfl w1.heap.size 23 ie Tryd.underlying24 hie.out.1 (.agg #[.int .i64 0, .int .i64 0, .int .i64 0]) 24 hie.out.2.1 rfl hie.out.2.2.1 hie.out.2.2.2 _ j (((xs.map spor).take j).flatMap c3) rfl ((HO.out.alloc (oS (2, qx, tt))).alloc (oS (2, qx, tt))) (.slice (some ⟨wr.heap.size + 1, 0, none⟩) 1 1) 1 (c3 (2, qx, tt)) rfl (src_s3 (wr.alloc (oS (2, qx, tt))) (2, qx, tt) _ (by simp)) (by have := HLX.out; have := HJ.out; unfold maxLen; omega) (by have := HLX.out; have := HJ.out; omega) (by have := HSZ.out; simp; omega) ?_; intro v4 w4 ho4 hg4 hat4; have HO4 : Hid (w4.ownsRow w1.heap.size 23 3 v4 (j + 1) (((xs.map spor).take (j + 1)).flatMap c3)) := mkHid (by rw [HRV.out, List.flatMap_append]; simpa using ho4); have HB4 : Hid (Below w1.heap.size w1 w4) := mkHid (by
        have q1 := HB.out.alloc HB.out.size (oS (2, qx, tt))
        have q2 := q1.alloc q1.size (oS (2, qx, tt))
        exact q2.grown hg4 q2.size (fun k hk => (((HO.out.alloc (oS (2, qx, tt))).alloc (oS (2, qx, tt))).lt k hk).1)); clear ho4 hg4 hat4)
      go_roundw
      case rel => exact ⟨j + 1, by go_num, hlt, HO4, HB4⟩
      case measure => simp [intOf]; omega
    · obtain rfl : j = xs.length := by omega
      have ho := HO.out
      have hll : (xs.map spor).length = xs.length := by simp
      rw [← hll, List.take_length] at ho
      obtain ⟨la, lc, hle, hvr, hlc⟩ := svs_of_owns_cap (xs := xs.map spor) (by rw [hll]; omega) ho
      rw [← hle] at hvr
      have HVR := mkHid hvr
      have HLE := mkHid (show ∃ la lc, u5 = Value.slice la (xs.map spor).length lc from ⟨la, lc, hle⟩)
      clear hle hll ho hvr hlc HM3 hj
      have HB5 := mkHid (bt HB1.out HB.out)
      clear HB HO
      rename World => W5
      rcases HC.out with ⟨e, rfl⟩ | ⟨rfl, rfl, g8, r1, r2, gk, gf, gr⟩
      · clear HC
        go_wp2_with (go_at_call 10; refine (HK.out _ _ HB5.out HVR.out).mono ?_; rintro e w6 ⟨rfl, b6⟩; have HB6 := mkHid (bt HB5.out b6); clear b6)
        go_ret
        exact ⟨rfl, HB6.out⟩
      · have HF := mkHid (And.intro g8 (And.intro gk (And.intro gf gr)))
        clear HC g8 gk gf gr
        go_wp2_with (first
          | (go_at_call 10; refine (HK.out _ _ HB5.out HVR.out).mono ?_; rintro e w6 ⟨rfl, b6⟩; have HB6 := mkHid (bt HB5.out b6); have HV6 := mkHid (HVR.out.below b6); clear b6)
          | (go_at_call 11; refine (HD.out _ _ HB6.out HV6.out).mono ?_; rintro e w7 ⟨rfl, b7⟩; have HB7 := mkHid (bt HB6.out b7); have HV7 := mkHid (HV6.out.below b7); clear b7 HB6 HV6 HVR))
        have HM1 : Hid ((w7.alloc (.cells #[] 3)).ownsRow w7.heap.size 3 1 (.slice (some ⟨w7.heap.size, 0, none⟩) 0 0) ([] : List Int).length (([] : List Int).map (Value.int .i64))) := mkHid (World.ownsRow_made (base := w7.heap.size) (e := 3) (size := 1) w7 #[] 0 (Nat.le_refl _) (by unfold maxLen; omega) rfl)
        go_loopw [10, 43] (fun qv iv wr => ∃ (j : Nat) (ws : List Int), iv = .int .i64 (j : Int) ∧ j ≤ us.length ∧ Hid (ws.length ≤ j ∧ ws.length ≤ 50 ∧ (∀ x ∈ ws, 0 ≤ x ∧ x ≤ 39)) ∧ Hid (wr.ownsRow w7.heap.size 3 1 qv ws.length (ws.map (Value.int .i64))) ∧ Hid (Below w7.heap.size w7 wr)) (fun _ iv _ => us.length - (intOf iv).toNat)
        case atStart => exact ⟨0, [], rfl, Nat.zero_le _, mkHid ⟨Nat.le_refl _, by simp, by simp⟩, HM1, mkHid ((Below.refl _ w7).alloc (Nat.le_refl _) _)⟩
        case round =>
          obtain ⟨j, ws, rfl, hj, HW, HO, HB⟩ := hrel
          by_cases hlt : j < us.length
          · obtain ⟨b, off, x, hae, hxj, c0⟩ := HU.out.at (bt HB7.out HB.out) j hlt
            subst hae
            have hji : (j : Int) < us.length := by omega
            clear hxj
            obtain ⟨A, B, K, e1, e2, e3, e4, e5, k0, k1⟩ := rest40 x
            have HSZ := mkHid HB.out.size
            by_cases h50 : (j : Int) < 50
            · have HJ := mkHid h50
              have HK0 := mkHid (And.intro k0 k1)
              clear k0 k1
              go_wp2_with (at_builtin; refine wpList_append_srcV _ rfl (.tmp 50) (.tmp 55) 59 59 rfl w7.heap.size 3 ne Tryd.underlying59 hne.out.1 (.int .i64 0) 8 hne.out.2.1 rfl hne.out.2.2.1 hne.out.2.2.2 _ ws.length (ws.map (Value.int .i64)) rfl (HO.out.alloc (.cells #[.int .i64 K] 3)) (.slice (some ⟨wr.heap.size, 0, none⟩) 1 1) 1 [.int .i64 K] rfl (src_i1 wr K _ rfl) (by have := HW.out.2.1; unfold maxLen; omega) (by have := HW.out.2.1; omega) (by have := HSZ.out; simp; omega) ?_; intro v4 w4 ho4 hg4 hat4; have HO4 : Hid (w4.ownsRow w7.heap.size 3 1 v4 (ws ++ [K]).length ((ws ++ [K]).map (Value.int .i64))) := mkHid (by simpa using ho4); have HB4 : Hid (Below w7.heap.size w7 w4) := mkHid (by
                have q1 := HB.out.alloc HB.out.size (.cells #[.int .i64 K] 3)
                exact q1.grown hg4 q1.size (fun k hk => ((HO.out.alloc (.cells #[.int .i64 K] 3)).lt k hk).1)); clear ho4 hg4 hat4)
              go_roundw
              case rel => exact ⟨j + 1, ws ++ [K], by go_num, hlt, mkHid (by
                have h1 := HW.out
                have h2 := HJ.out
                refine ⟨by simp; omega, by simp; omega, fun x hx => ?_⟩
                rcases List.mem_append.mp hx with h | h
                · exact h1.2.2 x h
                · simp at h; subst h; exact HK0.out), HO4, HB4⟩
              case measure => simp [intOf]; omega
            · clear k0 k1 e1 e2 e3 e4 e5
              go_wp2
              go_roundw
              case rel => exact ⟨j + 1, ws, by go_num, hlt, mkHid ⟨by have := HW.out.1; omega, HW.out.2⟩, HO, HB⟩
              case measure => simp [intOf]; omega
          · obtain rfl : j = us.length := by omega
            obtain ⟨hiw, qa, qc, hqe⟩ := Iw.of_owns HO.out
            have HIW := mkHid hiw
            obtain ⟨la, lc, hle⟩ := HLE.out
            have HR : Hid (Calls Tryd.prog 25 #[u5, u10, .int .i64 1500] wr fun e w' => ∃ M, e = .returned (.tuple #[.bool false, .int .i64 M]) ∧ M ≤ r ∧ Below wr.heap.size wr w') := mkHid (by
              have h6 := HV7.out.below HB.out
              have h7 := HIW.out
              rw [hle] at h6
              rw [hqe] at h7
              rw [hle, hqe]
              exact run_is wr la qa lc qc (xs.map spor) ws _ _ r h6 HF.out.1 (srv_spor HF.out.2.1) HF.out.2.2.1 HF.out.2.2.2 r1 r2 h7 HW.out.2.2 HW.out.2.1)
            have HB8 := mkHid (bt HB7.out HB.out)
            clear hiw hqe hle HM1 HO HB HW HIW hj
            go_wp2_with (go_at_call 25; refine HR.out.mono ?_; rintro e w9 ⟨M, rfl, hM, b9⟩; have HB9 := mkHid (bt HB8.out b9); clear b9)
            go_ret
            exact ⟨rfl, HB9.out⟩
end Go.Proofs.YtnmmphnaelpjdaaDoor
