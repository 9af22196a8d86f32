/- QueueLists: Least and Merge against the document's, and that what is handed in stays. -/
import Derived.Test.YtjlmkmhggkcbhaaDoorQrleast
import Derived.Test.YtjlmkmhggkcbhaaDoorQrmerge
import Derived.Deep.RegionHeld3
namespace Go.Proofs.YtjlmkmhggkcbhaaDoor
open Go.ChangeShapes Go.WideShapes Go.ChangeAt Go.RowKit
set_option maxRecDepth 100000
set_option linter.unusedVariables false

theorem Cp.late {w w' : World} {base g c : Nat} {xs : List Int} (h : Cp w base g c xs) (hb : Below w.heap.size w w') : Cp w' base g c xs := own_keep h (kept_below (fun _ => False) hb) (fun _ _ => id)
theorem Cp.kept {F : Nat → Prop} {w w' : World} {base g c : Nat} {xs : List Int} (h : Cp w base g c xs) (hk : Kept F w w') (hn : ¬ F g) : Cp w' base g c xs := own_keep h hk (fun k hk e => by simp [Value.ownBlock] at hk; subst hk; exact hn e)
theorem Cp.slc {w : World} {base g c : Nat} {xs : List Int} (h : Cp w base g c xs) : Slc w (.slice (some ⟨g, 0, none⟩) xs.length c) xs := by
  obtain ⟨h1, h2, _⟩ := h.view
  refine ⟨_, c, rfl, by omega, fun hp => ⟨g, 0, rfl, fun i hi => ?_⟩⟩
  rw [Nat.zero_add, h2 i (by omega)]
  simp [List.getD, List.getElem?_append_left hi]
/-- The copies, as far as they are made. -/
structure Cs (w wr : World) (cv : Value) (ps : List (List Int)) (j : Nat) (us : List Value) : Prop where
  o : wr.ownsRow w.heap.size 36 1 cv j us
  s : ∀ i, i < j → ∃ g c base, us.getD i vnil = .slice (some ⟨g, 0, none⟩) (la ps i).length c ∧ Cp wr base g c (la ps i) ∧ cv.ownBlock ≠ some g ∧ w.heap.size ≤ g
  b : Below w.heap.size w wr
theorem Cs.late {w wr w' : World} {cv : Value} {ps : List (List Int)} {j : Nat} {us : List Value} (h : Cs w wr cv ps j us) (hb : Below wr.heap.size wr w') : Cs w w' cv ps j us :=
  ⟨own_keep h.o (kept_below (fun _ => False) hb) (fun _ _ => id), fun i hi => by
    obtain ⟨g, c, base, h1, h2, h3, h4⟩ := h.s i hi
    exact ⟨g, c, base, h1, h2.late hb, h3, h4⟩, h.b.trans (hb.mono h.b.size)⟩
theorem Cs.kept {F : Nat → Prop} {w wr w' : World} {cv : Value} {ps : List (List Int)} {j : Nat} {us : List Value} (h : Cs w wr cv ps j us) (hk : Kept F wr w') (hn : ∀ k, k < wr.heap.size → ¬ F k) : Cs w w' cv ps j us :=
  ⟨own_keep h.o hk (fun k hk' => hn k (h.o.lt k hk').2), fun i hi => by
    obtain ⟨g, c, base, h1, h2, h3, h4⟩ := h.s i hi
    exact ⟨g, c, base, h1, h2.kept hk (hn g h2.view.2.2), h3, h4⟩, h.b.trans (hk.below (fun k hF => Nat.le_of_not_lt (fun hlt => hn k (Nat.lt_of_lt_of_le hlt h.b.size) hF)) h.b.size)⟩
theorem Cs.put {w wr w1 w2 : World} {cv v2 : Value} {ps : List (List Int)} {j : Nat} {us : List Value} {g c : Nat} (h : Cs w wr cv ps j us) (hb : Below wr.heap.size wr w1) (hc : Cp w1 wr.heap.size g c (la ps j))
    (ho : w2.ownsRow w.heap.size 36 1 v2 (j + 1) (us ++ [.slice (some ⟨g, 0, none⟩) (la ps j).length c])) (hg : (w1.alloc (.cells #[.slice (some ⟨g, 0, none⟩) (la ps j).length c] 36)).grownBy w2 cv.ownBlock) (hat : v2.ownBlock = cv.ownBlock ∨ v2.ownBlock = some (w1.alloc (.cells #[.slice (some ⟨g, 0, none⟩) (la ps j).length c] 36)).heap.size) :
    Cs w w2 v2 ps (j + 1) (us ++ [.slice (some ⟨g, 0, none⟩) (la ps j).length c]) := by
  have hul : us.length = j := by have := h.o.1; omega
  have h1 := h.late hb
  have hb1 : Below w1.heap.size w1 (w1.alloc (.cells #[.slice (some ⟨g, 0, none⟩) (la ps j).length c] 36)) := (Below.refl _ w1).alloc (Nat.le_refl _) _
  have k2 : Kept (fun k => cv.ownBlock = some k) (w1.alloc (.cells #[.slice (some ⟨g, 0, none⟩) (la ps j).length c] 36)) w2 := Kept.grown hg (fun k hk => hk)
  have sz : (w1.alloc (.cells #[.slice (some ⟨g, 0, none⟩) (la ps j).length c] 36)).heap.size = w1.heap.size + 1 := by simp
  have hgw : wr.heap.size ≤ g := (hc.lt g rfl).1
  have hgl : g < w1.heap.size := hc.view.2.2
  have hcg : cv.ownBlock ≠ some g := fun e => by have := (h.o.lt g e).2; omega
  have nb : ∀ k, k < w1.heap.size → cv.ownBlock ≠ some k → v2.ownBlock ≠ some k := fun k hk hn => by
    rcases hat with e | e
    · rw [e]; exact hn
    · rw [e, sz]; intro e'; simp at e'; omega
  refine ⟨ho, fun i hi => ?_, (h1.b.trans (hb1.mono h1.b.size)).grown hg (by have := h1.b.size; omega) (fun k hk => (h1.o.lt k hk).1)⟩
  by_cases hlt : i < j
  · obtain ⟨g', c', base, e1, e2, e3, e4⟩ := h1.s i hlt
    exact ⟨g', c', base, by rw [← e1]; simp [List.getD, List.getElem?_append_left (show i < us.length by omega)], (e2.late hb1).kept k2 (fun e => e3 e), nb g' e2.view.2.2 e3, e4⟩
  · obtain rfl : i = j := by omega
    exact ⟨g, c, wr.heap.size, by simp [List.getD, ← hul], (hc.late hb1).kept k2 (fun e => hcg e), nb g hgl hcg, by have := h.b.size; omega⟩
theorem Cs.lsl {w wr : World} {cv : Value} {ps : List (List Int)} {us : List Value} (h : Cs w wr cv ps ps.length us) : Lsl wr cv ps us := by
  have hul : us.length = ps.length := by have := h.o.1; omega
  obtain ⟨a, c, e⟩ := own_shape h.o
  subst e
  refine ⟨a, c, rfl, hul, fun hp => ?_, fun i hi => ?_⟩
  · obtain ⟨g, rfl, _⟩ := own_some h.o hp
    exact ⟨g, 0, rfl, fun i hi => by rw [Nat.zero_add]; exact own_at h.o i _ (by simp [List.getD, hul, hi])⟩
  · obtain ⟨g, c', base, e1, e2, _⟩ := h.s i hi
    rw [e1]
    exact e2.slc
theorem Lsl.one {w : World} {v : Value} {ps : List (List Int)} {us : List Value} (h : Lsl w v ps us) {i : Nat} (hi : i < ps.length) : Sl w (us.getD i vnil) (la ps i) := by
  obtain ⟨_, _, _, _, _, hs⟩ := h
  exact (hs i hi).sl
theorem lists_long (w : World) (v0 v2 : Value) (rs : List Int) (n : Int) (ps : List (List Int)) (us : List Value) (h0 : Sl w v0 rs) (h2 : Lsl w v2 ps us) (hb : 2000 < rs.length ∨ 2000 < ps.length) (hl : (rs.length : Int) ≤ 9223372036854775807) (hp : (ps.length : Int) ≤ 9223372036854775807) :
    Calls Tryd.prog 4 #[v0, .int .i64 n, v2] w fun e w' => e = .returned (.bool true) ∧ Below w.heap.size w w' := by
  obtain ⟨a0, c0, rfl, _⟩ := h0
  obtain ⟨a2, c2, rfl, _⟩ := h2
  have hc : (2000 : Int) < rs.length ∨ ((rs.length : Int) ≤ 2000 ∧ (2000 : Int) < ps.length) := by omega
  clear hb
  rcases hc with h1 | ⟨h1, h3⟩
  all_goals
    go_enter Tryd.func4, Tryd.ntmps4
    go_wp2_with (first | (go_at_call 8; refine (alive_q _).mono ?_; rintro e w1 ⟨rfl, hb1'⟩; have HB1 := mkHid hb1'; clear hb1'))
    go_ret
    exact ⟨rfl, HB1.out⟩
set_option maxHeartbeats 6400000 in
theorem lists_walk (w : World) (v0 v2 : Value) (rs : List Int) (n : Int) (ps : List (List Int)) (us : List Value) (h0 : Sl w v0 rs) (h2 : Lsl w v2 ps us) (hr : rs.length ≤ 2000) (hl : ps.length ≤ 2000) (ht : tot ps ≤ 1048576) :
    Calls Tryd.prog 4 #[v0, .int .i64 n, v2] w fun e w' => e = .returned (.bool true) ∧ Below w.heap.size w w' := by
  obtain ⟨a0, c0, rfl, _⟩ := id h0
  obtain ⟨a2, c2, rfl, _⟩ := id h2
  have H0 := mkHid h0
  have H2 := mkHid h2
  have HT := mkHid ht
  have HR := mkHid hr
  have HL := mkHid hl
  have hri : (rs.length : Int) ≤ 2000 := by omega
  have hli : (ps.length : Int) ≤ 2000 := by omega
  obtain ⟨je, hje⟩ : ∃ ie, Hid (Tryd.prog.info? 36 = some ie ∧ ie.zero = some vnil ∧ ie.size = 1 ∧ ie.bytes = 24) := by
    obtain ⟨ie, h1, h2, h3, h4⟩ := info_parts infoSl
    exact ⟨ie, mkHid ⟨h1, h2, h3, h4⟩⟩
  obtain ⟨kk, hkk⟩ : ∃ kk, kk = lcount n rs.length := ⟨_, rfl⟩
  have HKK := mkHid hkk
  have HLB : Hid (∀ W g c, Sl W (.slice (some ⟨g, 0, none⟩) rs.length c) rs → Calls Tryd.prog 12 #[.slice (some ⟨g, 0, none⟩) rs.length c, .int .i64 n] W fun e w' => ∃ a c, e = .returned (.slice a kk c) ∧ Hid (Sl w' (.slice a kk c) (leastL rs n) ∧ Below W.heap.size W w')) := mkHid (fun W g c hW => by
    refine (least_sl W _ rs n hW (by omega)).mono ?_
    rw [← hkk]
    rintro e w' ⟨a, c', rfl, hh⟩
    exact ⟨a, c', rfl, some_sl hkk hh.out.1, hh.out.2.2.2⟩)
  have HRB : Hid (∀ W, Below w.heap.size w W → Calls Tryd.prog 14 #[.slice a0 rs.length c0, .int .i64 n] W fun e w' => ∃ a c, e = .returned (.slice a kk c) ∧ Hid (Sl w' (.slice a kk c) (leastL rs n) ∧ Below W.heap.size W w')) := mkHid (fun W hW => by
    have := refleast_is W _ rs n (H0.out.below hW) (by omega)
    rw [← hkk] at this
    exact this)
  have HLL : Hid (((leastL rs n).length : Int) ≤ 9223372036854775807) := mkHid (by rw [leastL_len]; have := lcount_le n rs.length; omega)
  clear h0 h2 ht hr hl hkk
  go_enter Tryd.func4, Tryd.ntmps4
  go_wp2_with (first
    | (go_at_call 8; refine (alive_q _).mono ?_; rintro e w1 ⟨rfl, b1⟩; have HB1 := mkHid b1; clear b1)
    | (go_at_call 11; refine (ints_is w1 _ rs (H0.out.below HB1.out) (by have := HR.out; omega)).mono ?_; rintro e w2 ⟨g1, c1, rfl, h⟩; have HC2 := mkHid h.out.1; have HB2 : Hid (Below w.heap.size w w2) := mkHid (HB1.out.trans (h.out.2.mono HB1.out.size)); clear h)
    | (go_at_call 12; refine (HLB.out w2 g1 c1 (HC2.out.sl c1)).mono ?_; rintro e w3 ⟨a3, c3, rfl, h⟩; have HS3 := mkHid h.out.1; have HC3 := mkHid (HC2.out.late h.out.2); have HB3 : Hid (Below w.heap.size w w3) := mkHid (HB2.out.trans (h.out.2.mono HB2.out.size)); clear h)
    | (go_at_call 14; refine (HRB.out w3 HB3.out).mono ?_; rintro e w4 ⟨a4, c4, rfl, h⟩; have HS4 := mkHid h.out.1; have HT4 := mkHid (HS3.out.below h.out.2); have HC4 := mkHid (HC3.out.late h.out.2); have HB4 : Hid (Below w.heap.size w w4) := mkHid (HB3.out.trans (h.out.2.mono HB3.out.size)); clear h)
    | (go_at_call 13; refine (same_true w4 _ _ (leastL rs n) HT4.out HS4.out HLL.out).mono ?_; rintro e w5 ⟨rfl, h⟩; have HC5 := mkHid (HC4.out.late h); have HB5 : Hid (Below w.heap.size w w5) := mkHid (HB4.out.trans (h.mono HB4.out.size)); clear h)
    | (go_at_call 15; refine (keptints_is w5 _ g1 c1 _ rs HC5.out (H0.out.below HB5.out) (by have := HR.out; omega)).mono ?_; rintro e w6 ⟨rfl, h⟩; have HB6 : Hid (Below w.heap.size w w6) := mkHid (HB5.out.trans (h.mono HB5.out.size)); clear h))
  have HS : Hid (Cs w (w6.alloc (.cells #[] 36)) (.slice (some ⟨w6.heap.size, 0, none⟩) 0 0) ps 0 []) := mkHid ⟨World.ownsRow_made (base := w.heap.size) (e := 36) (size := 1) w6 #[] 0 HB6.out.size (by unfold maxLen; omega) rfl, fun i hi => by omega, HB6.out.trans ((Below.refl _ w6).alloc HB6.out.size _)⟩
  clear HB1 HB2 HB3 HB4 HB5 HB6 HC2 HC3 HC4 HC5 HS3 HS4 HT4 HLB HRB HLL HKK
  go_loopw [9, 45] (fun cv iv wr => ∃ (j : Nat) (vs : List Value), iv = .int .i64 (j : Int) ∧ j ≤ ps.length ∧ Cs w wr cv ps j vs) (fun _ iv _ => ps.length - (intOf iv).toNat)
  case atStart => exact ⟨0, [], rfl, Nat.zero_le _, HS.out⟩
  case round =>
    clear HS
    obtain ⟨j, vs, rfl, hj, hS⟩ := hrel
    have HS := mkHid hS
    obtain ⟨sa, sc, hsv⟩ := own_shape hS.o
    subst hsv
    clear hS
    by_cases hlt : j < ps.length
    · obtain ⟨b, off, a1, c1, rfl, e1, x0, hx⟩ := H2.out.at HS.out.b j hlt
      have hji : (j : Int) < ps.length := by omega
      have hone := (H2.out.below HS.out.b).one hlt
      rw [e1] at hone
      have HI := mkHid (ints_is wr _ (la ps j) hone (by have := la_le_tot ps j; have := HT.out; omega))
      have HJ : Hid (j + 1 ≤ 2000) := mkHid (by have := HL.out; omega)
      obtain ⟨l, hl⟩ : ∃ l, l = (la ps j).length := ⟨_, rfl⟩
      rw [← hl] at x0 HI
      have HLL := mkHid hl
      clear hx hone e1 hl
      go_wp2_with (first
        | (go_at_call 11; refine HI.out.mono ?_; rintro e w7 ⟨g7, c7, rfl, h⟩; have HC7 := mkHid h.out.1; have HB7 := mkHid h.out.2; clear h)
        | (at_builtin; refine wpList_append_srcV _ rfl (.tmp 49) (.tmp 52) 37 37 rfl w.heap.size 36 je Tryd.underlying37 hje.out.1 vnil 24 hje.out.2.1 rfl hje.out.2.2.1 hje.out.2.2.2 (.slice sa j sc) j vs rfl (own_keep (HS.out.late HB7.out).o (kept_below (fun _ => False) ((Below.refl _ w7).alloc (Nat.le_refl _) _)) (fun _ _ => id)) (.slice (some ⟨w7.heap.size, 0, none⟩) 1 1) 1 [.slice (some ⟨g7, 0, none⟩) l c7] rfl (src_sl1 w7 _ l c7) (by have := HJ.out; unfold maxLen; omega) (by have := HJ.out; omega) (by have h1 := HS.out.b.size; have h2 := HB7.out.size; simp; omega) ?_; intro v5 w8 ho5 hg5 hat5; have HN := mkHid (by rw [HLL.out] at ho5 hg5 hat5; exact HS.out.put HB7.out HC7.out ho5 hg5 hat5); obtain ⟨a5, c5, rfl⟩ := own_shape ho5; clear ho5 hg5 hat5))
      go_roundw
      case rel => exact ⟨j + 1, _, by go_num, by omega, HN.out⟩
      case measure => simp [intOf]; omega
    · obtain rfl : j = ps.length := by omega
      have hmerge := merge_is wr _ ps vs HS.out.lsl (by have := HL.out; omega) HT.out
      have HREF := mkHid (fun W (hW : Below w.heap.size w W) => refmerge_is W _ ps us (H2.out.below hW) (by have := HL.out; omega) HT.out)
      obtain ⟨T, hT⟩ : ∃ T, T = tot ps := ⟨_, rfl⟩
      have hTi : (T : Int) ≤ 1048576 := by have := HT.out; omega
      rw [← hT] at hmerge
      have HTT := mkHid hT
      have HMG := mkHid hmerge
      clear hmerge hT hlt hj
      go_wp2_with (first
        | (go_at_call 16; refine HMG.out.mono ?_; rintro e w9 ⟨o, ma, mc, rfl, h⟩; have HM9 := h; have HB9 : Hid (Below w.heap.size w w9) := mkHid (HS.out.b.trans (h.out.2.2.mono HS.out.b.size)); have HOL : Hid (o.length = T) := mkHid (by rw [h.out.1.len, HTT.out]); clear h)
        | (go_at_call 17; refine (HREF.out w9 HB9.out).mono ?_; rintro e w10 ⟨o', ra, rc, rfl, h⟩; have heq := Mgd.uniq h.out.1 HM9.out.1; subst heq; have hT2 := HOL.out; subst hT2; have HS10 := mkHid h.out.2.1; have HB910 := mkHid h.out.2.2; clear h)
        | (go_at_call 13; refine (same_true w10 _ _ o' ((own_slc HM9.out.2.1).sl.below HB910.out) HS10.out (by omega)).mono ?_; rintro e w11 ⟨rfl, h⟩; have HB1011 := mkHid h; clear h))
      have h911 : Below w9.heap.size w9 w11 := HB910.out.trans (HB1011.out.mono HB910.out.size)
      have HO11 : Hid (w11.ownsRow wr.heap.size 3 1 (.slice ma o'.length mc) o'.length (o'.map (Value.int .i64))) := mkHid (own_keep HM9.out.2.1 (kept_below (fun _ => False) h911) (fun _ _ => id))
      have HC11 : Hid (Cs w w11 (.slice sa ps.length sc) ps ps.length vs) := mkHid ((HS.out.late HM9.out.2.2).late h911)
      have HWR : Hid (∀ k, (Value.slice ma o'.length mc).ownBlock = some k → wr.heap.size ≤ k) := mkHid (fun k hk => (HM9.out.2.1.lt k hk).1)
      have HCW := mkHid HS.out
      have HB11 : Hid (Below w.heap.size w w11) := mkHid (HB9.out.trans (h911.mono HB9.out.size))
      have HB11r : Hid (Below wr.heap.size wr w11) := mkHid (HM9.out.2.2.trans (h911.mono HM9.out.2.2.size))
      clear h911 HM9 HB9 HB910 HB1011 HS10 HMG HREF HS
      generalize wr = wo at *
      go_loopw [64] (fun iv wx => ∃ (j : Nat) (zs : List Int), iv = .int .i64 (j : Int) ∧ j ≤ o'.length ∧ zs.length = o'.length ∧ Hid (wx.ownsRow wo.heap.size 3 1 (.slice ma o'.length mc) o'.length (zs.map (Value.int .i64)) ∧ Kept (fun k => (Value.slice ma o'.length mc).ownBlock = some k) w11 wx)) (fun iv _ => o'.length - (intOf iv).toNat)
      case atStart => exact ⟨0, o', rfl, Nat.zero_le _, rfl, mkHid ⟨HO11.out, Kept.refl _ _⟩⟩
      case round =>
        clear HO11
        obtain ⟨j, zs, rfl, hj, hzl, HZ⟩ := hrel
        by_cases hlt : j < o'.length
        · obtain ⟨gm, rfl, _⟩ := own_some HZ.out.1 (by omega)
          have hjz : j < zs.length := by omega
          obtain ⟨z, hz⟩ : ∃ z, z = zs.getD j 0 := ⟨_, rfl⟩
          have y0 : wr.cell? ⟨gm, j, none⟩ = some (.int .i64 z) := own_at HZ.out.1 j _ (by rw [hz]; simp [List.getD, hjz])
          have f0 : wr.frozen? ⟨gm, j, none⟩ = false := own_frozen HZ.out.1 j
          have hji : (j : Int) < o'.length := by omega
          have HZL := mkHid hzl
          clear hz hzl hjz
          go_wp2
          go_roundw
          case rel =>
            refine ⟨j + 1, zs.set j (wrap64 (z + 1)), by go_num, by omega, by rw [List.length_set]; exact HZL.out, mkHid ⟨?_, HZ.out.2.trans (Kept.setCell (F := fun k => (Value.slice (some ⟨gm, 0, none⟩) o'.length mc).ownBlock = some k) _ (p := ⟨gm, j, none⟩) rfl _) (fun _ h => .inl h)⟩⟩
            rw [List.map_set]
            exact own_set HZ.out.1 j _
          case measure => simp [intOf]; omega
        · have HC12 : Hid (Cs w wr (.slice sa ps.length sc) ps ps.length vs) := mkHid (by
            have hk : Kept (fun k => (Value.slice ma o'.length mc).ownBlock = some k) wo wr := (kept_below _ HB11r.out).trans HZ.out.2 (fun k h => .inl h)
            exact HCW.out.kept hk (fun k hk h => by have := HWR.out k h; omega))
          obtain rfl : j = o'.length := by omega
          clear HZ hzl hj hlt HB11 HB11r HWR HCW HC11
          go_wp2
          generalize wr = wx at *
          go_loopw [76] (fun iv wy => ∃ j : Nat, iv = .int .i64 (j : Int) ∧ j ≤ ps.length ∧ Hid (Cs w wy (.slice sa ps.length sc) ps ps.length vs)) (fun iv _ => ps.length - (intOf iv).toNat)
          case atStart => exact ⟨0, rfl, Nat.zero_le _, HC12⟩
          case round =>
            clear HC12
            obtain ⟨j, rfl, hj, HC⟩ := hrel
            by_cases hlt : j < ps.length
            · obtain ⟨b, off, a1, c1, rfl, e1, x0, hx⟩ := H2.out.at HC.out.b j hlt
              obtain ⟨gc, rfl, _⟩ := own_some HC.out.o (by omega)
              obtain ⟨g, c, base, e2, hcp, _, _⟩ := HC.out.s j hlt
              have hvl : vs.length = ps.length := by have := HC.out.o.1; omega
              have y0 : wr.cell? ⟨gc, j, none⟩ = some (.slice (some ⟨g, 0, none⟩) (la ps j).length c) := own_at HC.out.o j _ (by rw [← e2]; simp [List.getD, hvl, hlt])
              have hone := (H2.out.below HC.out.b).one hlt
              rw [e1] at hone
              have hji : (j : Int) < ps.length := by omega
              have HKC := mkHid (And.intro hcp hone)
              have HLJ : Hid ((la ps j).length ≤ 1048576) := mkHid (by have := la_le_tot ps j; have := HT.out; omega)
              clear hcp hone e1 e2 hx hvl
              generalize hlj : (la ps j).length = l at y0 x0 HKC HLJ
              have hkc := keptints_is wr.drew base g c (.slice a1 l c1) (la ps j) (HKC.out.1.late (Below.refl _ _).drew) (HKC.out.2.below (Below.refl _ _).drew) (by rw [hlj]; exact HLJ.out)
              rw [hlj] at hkc
              have HKI := mkHid hkc
              clear hkc hlj
              go_wp2
              go_region_held3 (fun w' => w'.cell? ⟨gc, j, none⟩ = some (.slice (some ⟨g, 0, none⟩) l c) ∧ w'.cell? ⟨b, off + j, none⟩ = some (.slice a1 l c1)) (go_keep) (first
                | (go_at_call 15; refine HKI.out.mono ?_; rintro e w13 ⟨rfl, h⟩; have n0 := bcell h (show wr.drew.cell? _ = _ from y0); have n1 := bcell h (show wr.drew.cell? _ = _ from x0); have HC13 := mkHid (HC.out.late ((Below.refl _ wr).drew.trans h)); clear h))
              go_wp2
              go_roundw
              case rel => exact ⟨j + 1, by go_num, by omega, HC13⟩
              case measure => simp [intOf]; omega
            · obtain rfl : j = ps.length := by omega
              go_wp2
              go_ret
              exact ⟨rfl, HC.out.b⟩
end Go.Proofs.YtjlmkmhggkcbhaaDoor
