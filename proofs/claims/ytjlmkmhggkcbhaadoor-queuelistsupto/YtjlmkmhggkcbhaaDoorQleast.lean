/- Least. -/
import Derived.Test.YtjlmkmhggkcbhaaDoorQlist
import Derived.Test.YtjlmkmhggkcbhaaDoorQsame
import Derived.Laws.Small
namespace Go.Proofs.YtjlmkmhggkcbhaaDoor
open Go.ChangeShapes Go.WideShapes Go.ChangeAt Go.RowKit
set_option maxRecDepth 100000

theorem infoIntL : (Tryd.prog.info? 3).map (fun i => (i.zero, i.size, i.bytes)) = some (some (.int .i64 0), 1, 8) := by kernel_rfl
theorem zths_made (n : Nat) : (madeCells zth.cells (n * 2)).toList = tcs (List.replicate n (0, 0)) := by
  refine List.ext_getElem (by rw [tcs_len]; simp [madeCells]) (fun i h1 h2 => ?_)
  have h3 : i < n * 2 := by simpa [madeCells] using h1
  have hi : i / 2 < (List.replicate n ((0, 0) : Th)).length := by simp; omega
  obtain ⟨a, b⟩ := tcs_at (List.replicate n (0, 0)) (i / 2) hi
  have e : gt (List.replicate n ((0, 0) : Th)) (i / 2) = (0, 0) := by rw [gt_get hi]; simp
  rw [e] at a b
  have hl : (madeCells zth.cells (n * 2)).toList[i] = .int .i64 0 := by
    rcases (show i % 2 = 0 ∨ i % 2 = 1 by omega) with h | h <;> simp [madeCells, zth, Value.cells, h]
  rw [hl]
  rcases (show i / 2 * 2 = i ∨ i / 2 * 2 + 1 = i by omega) with h | h
  · rw [h] at a
    exact (List.getElem?_eq_some_iff.mp a).2.symm
  · rw [h] at b
    exact (List.getElem?_eq_some_iff.mp b).2.symm
theorem ints_made (n : Nat) : (madeCells (Value.int .i64 0).cells (n * 1)).toList = (List.replicate n (0 : Int)).map (Value.int .i64) := by
  rw [Nat.mul_one]
  refine List.ext_getElem (by simp [madeCells]) (fun i h1 h2 => ?_)
  simp [madeCells, Value.cells, Nat.mod_one]
theorem own_set2 {w : World} {base : Nat} {n g cap : Nat} {xs : List Th} (hn : xs.length = n) (h : w.ownsRow base 52 2 (.slice (some ⟨g, 0, none⟩) n cap) n (tcs xs)) (i : Nat) (hi : i < n) (x : Th) :
    ((w.setCell ⟨g, i * 2, none⟩ (.int .i64 x.1)).setCell ⟨g, i * 2 + 1, none⟩ (.int .i64 x.2)).ownsRow base 52 2 (.slice (some ⟨g, 0, none⟩) n cap) n (tcs (xs.set i x)) := by
  subst hn
  rcases h.2 with ⟨h0, _⟩ | ⟨g', cap', cur, h0, hb, hg, hnc, hcm, hcs, ht⟩
  · simp at h0
  · simp at h0
    obtain ⟨rfl, rfl⟩ := h0
    refine ⟨by rw [tcs_len, List.length_set], .inr ⟨g, cap, _, rfl, hb, heap_set (heap_set hg), hnc, hcm, by simpa using hcs, ?_⟩⟩
    rw [← tcs_set xs i x hi, ← ht]
    simp only [Array.set!_eq_setIfInBounds, Array.toList_setIfInBounds]
    rw [List.take_set, List.take_set]
theorem map_int_at {ps : List Int} {i : Nat} (h : i < ps.length) : (ps.map (Value.int .i64))[i]? = some (.int .i64 (ps.getD i 0)) := by simp [List.getD, h]
/-- How many Least answers. -/
def lcount (n : Int) (l : Nat) : Nat := if n < 1 then 0 else min n.toNat l
/-- A row of integers in a block of its own. -/
def IR (w : World) (g : Nat) (xs : List Int) : Prop := ∀ i, i < xs.length → w.cell? ⟨g, i, none⟩ = some (.int .i64 (xs.getD i 0)) ∧ w.frozen? ⟨g, i, none⟩ = false
def leastL (rs : List Int) (n : Int) : List Int := ((srtd (prs rs)).map (·.1)).take (lcount n rs.length)
theorem leastL_len (rs : List Int) (n : Int) : (leastL rs n).length = lcount n rs.length := by
  unfold leastL lcount
  simp only [List.length_take, List.length_map, srtd_len, prs_len]
  split <;> omega
theorem leastL_at {rs : List Int} {n : Int} {i : Nat} (h : i < lcount n rs.length) : (leastL rs n).getD i 0 = (gt (srtd (prs rs)) i).1 := by
  have hl : i < (srtd (prs rs)).length := by rw [srtd_len, prs_len]; unfold lcount at h; split at h <;> omega
  rw [gt_get hl]
  unfold leastL
  simp [List.getD, h, hl]
theorem own_lt {w : World} {base : Nat} {e : TypeId} {sz n g c : Nat} {xs : List Value} (h : w.ownsRow base e sz (.slice (some ⟨g, 0, none⟩) n c) n xs) : g < w.heap.size := (h.lt g rfl).2
set_option maxHeartbeats 3200000 in
theorem least_sl (w : World) (v : Value) (rs : List Int) (n : Int) (h : Sl w v rs) (hl : rs.length ≤ 100000000) :
    Calls Tryd.prog 12 #[v, .int .i64 n] w fun e w' => ∃ a c, e = .returned (.slice a (lcount n rs.length) c) ∧ Hid ((0 < lcount n rs.length → ∃ g, a = some ⟨g, 0, none⟩ ∧ IR w' g (leastL rs n) ∧ w.heap.size ≤ g ∧ g < w'.heap.size) ∧ (a = none → c = 0) ∧ lcount n rs.length ≤ c ∧ Below w.heap.size w w') := by
  obtain ⟨a0, c0, rfl, hx0⟩ := id h
  have hb0 : (rs.length : Int) ≤ 9223372036854775807 := by omega
  have H := mkHid h
  clear h hx0
  by_cases hn : n < 1
  · have e : lcount n rs.length = 0 := by unfold lcount; rw [if_pos hn]
    rw [e]
    go_enter Tryd.func12, Tryd.ntmps12
    go_wp2
    go_ret
    exact ⟨none, 0, rfl, fun h => absurd h (Nat.lt_irrefl _), fun _ => rfl, Nat.le_refl _, Below.refl _ _⟩
  · obtain ⟨k, hk⟩ : ∃ k, k = lcount n rs.length := ⟨_, rfl⟩
    have HK := mkHid hk
    have hmin : min n (rs.length : Int) = (k : Int) := by
      rw [hk]
      unfold lcount
      rw [if_neg hn]
      omega
    rw [← hk]
    clear hk
    have HLN : Hid (rs.length ≤ 100000000 ∧ k ≤ rs.length) := mkHid ⟨hl, by rw [HK.out]; unfold lcount; split <;> omega⟩
    clear hl
    obtain ⟨ii, hii⟩ : ∃ ii, Hid (Tryd.prog.info? 3 = some ii ∧ ii.zero = some (.int .i64 0) ∧ ii.size = 1 ∧ ii.bytes = 8) := by
      obtain ⟨ie, h1, h2, h3, h4⟩ := info_parts infoIntL
      exact ⟨ie, mkHid ⟨h1, h2, h3, h4⟩⟩
    obtain ⟨ie, hie⟩ : ∃ ie, Hid (Tryd.prog.info? 52 = some ie ∧ ie.zero = some zth ∧ ie.size = 2 ∧ ie.bytes = 16) := by
      obtain ⟨ie, h1, h2, h3, h4⟩ := info_parts infoTh
      exact ⟨ie, mkHid ⟨h1, h2, h3, h4⟩⟩
    go_enter Tryd.func12, Tryd.ntmps12
    go_wp2_with (first
      | (refine wpList_make_full _ rfl (.tmp 13) (.tmp 13) 28 rfl w.heap.size 52 ie zth 2 Tryd.underlying28 hie.out.1 hie.out.2.1 hie.out.2.2.1 .i64 .i64 (rs.length : Int) (rs.length : Int) rs.length rfl rfl rfl rfl (by rw [hie.out.2.2.2]; have := HLN.out.1; omega) (by have := HLN.out.1; unfold maxLen; omega) (Nat.le_refl _) ?_; intro w5 ho5 hg5; rw [zths_made] at ho5; have HO5 := mkHid ho5; have HB5 := mkHid ((Below.refl _ w).grown hg5 (Nat.le_refl _) (fun k hk => by simp at hk)); clear ho5 hg5))
    obtain ⟨g, hg⟩ : ∃ g, g = w.heap.size := ⟨_, rfl⟩
    have HG : Hid (w.heap.size ≤ g) := mkHid (by rw [hg]; exact Nat.le_refl _)
    have HO6 : Hid (w5.ownsRow w.heap.size 52 2 (.slice (some ⟨g, 0, none⟩) rs.length rs.length) rs.length (tcs (List.replicate rs.length (0, 0)))) := mkHid (by rw [hg]; exact HO5.out)
    rw [← hg]
    clear hg HO5
    go_loopw [17] (fun iv wr => ∃ (j : Nat) (xs : List Th), iv = .int .i64 (j : Int) ∧ j ≤ rs.length ∧ xs.length = rs.length ∧ (∀ i, i < j → gt xs i = ((i : Int), rs.getD i 0)) ∧ wr.ownsRow w.heap.size 52 2 (.slice (some ⟨g, 0, none⟩) rs.length rs.length) rs.length (tcs xs) ∧ Below w.heap.size w wr) (fun iv _ => rs.length - (intOf iv).toNat)
    case atStart => exact ⟨0, List.replicate rs.length (0, 0), rfl, Nat.zero_le _, by simp, fun i hi => absurd hi (Nat.not_lt_zero _), HO6.out, HB5.out⟩
    case round =>
      clear HO6 HB5
      obtain ⟨j, xs, rfl, hj, hxl, hx, ho, hb⟩ := hrel
      have HX := mkHid hx
      have HO := mkHid ho
      have HB := mkHid hb
      have HXL := mkHid hxl
      clear hx ho hb hxl
      by_cases hlt : j < rs.length
      · obtain ⟨b, off, rfl, x0⟩ := (H.out.below HB.out).at j hlt
        obtain ⟨x, hxx⟩ : ∃ x, x = rs.getD j 0 := ⟨_, rfl⟩
        rw [← hxx] at x0
        have HXX := mkHid hxx
        have hji : (j : Int) < rs.length := by omega
        have hjx : j < xs.length := by rw [HXL.out]; exact hlt
        obtain ⟨a1, a2⟩ := tcs_at xs j hjx
        have g0 : wr.cell? ⟨g, j * 2, none⟩ = some (.int .i64 (gt xs j).1) := by have := HO.out.cells (g := g) rfl (j * 2) _ a1; rwa [add_none, Nat.zero_add] at this
        have g1 : wr.cell? ⟨g, j * 2 + 1, none⟩ = some (.int .i64 (gt xs j).2) := by have := HO.out.cells (g := g) rfl (j * 2 + 1) _ a2; rwa [add_none, Nat.zero_add] at this
        obtain ⟨y, hy⟩ : ∃ y, y = gt xs j := ⟨_, rfl⟩
        rw [← hy] at g0 g1
        have f0 : wr.frozen? ⟨g, j * 2, none⟩ = false := own_frozen HO.out _
        have f1 : wr.frozen? ⟨g, j * 2 + 1, none⟩ = false := own_frozen HO.out _
        clear hxx hy a1 a2 hjx
        go_wp2
        go_roundw
        case rel =>
          have hk2 : Kept (fun k => k = g) wr ((wr.setCell ⟨g, j * 2, none⟩ (.int .i64 (j : Int))).setCell ⟨g, j * 2 + 1, none⟩ (.int .i64 x)) :=
            (Kept.setCell (F := fun k => k = g) wr (p := ⟨g, j * 2, none⟩) rfl _).trans (Kept.setCell (F := fun k => k = g) _ (p := ⟨g, j * 2 + 1, none⟩) rfl _) (fun _ h => .inl h)
          refine ⟨j + 1, xs.set j ((j : Int), x), by go_num, by omega, by rw [List.length_set]; exact HXL.out, fun i hi => ?_, own_set2 HXL.out HO.out j (by omega) ((j : Int), x), HB.out.trans (hk2.below (fun k e => by rw [e]; exact HG.out) HB.out.size)⟩
          rw [gt_set _ _ _ _ (by rw [HXL.out]; exact hlt)]
          split
          · rename_i e; rw [← e, HXX.out]
          · rename_i e; exact HX.out i (by omega)
        case measure => simp [intOf]; omega
      · obtain rfl : j = rs.length := by omega
        have hxs : xs = prs rs := gt_ext (by rw [HXL.out, prs_len]) (fun i hi => by rw [HXL.out] at hi; rw [HX.out i hi, prs_at hi])
        rw [hxs] at HO
        clear HX HXL hxs
        have hsrt := sort_is wr g rs.length (prs rs) (own_tr (by rw [prs_len]; exact HO.out)) (own_lt HO.out) (by rw [prs_len]; have := HLN.out.1; omega)
        rw [prs_len] at hsrt
        have HSRT := mkHid hsrt
        clear hsrt
        go_wp2_with (first
          | (go_at_call 35; refine HSRT.out.mono ?_; rintro e w2 ⟨rfl, h2⟩; have H2 := h2; have HB2 : Hid (Below w.heap.size w w2) := mkHid (HB.out.trans (h2.out.2.below (fun k e => by rw [e]; exact HG.out) HB.out.size)); have HG2 : Hid (g < w2.heap.size) := mkHid (Nat.lt_of_lt_of_le (own_lt HO.out) h2.out.2.size); clear h2)
          | (refine wpList_make_full _ rfl (.tmp 34) (.tmp 34) 36 rfl w.heap.size 3 ii (.int .i64 0) 1 Tryd.underlying36 hii.out.1 hii.out.2.1 hii.out.2.2.1 .i64 .i64 (k : Int) (k : Int) k rfl rfl rfl rfl (by rw [hii.out.2.2.2]; have := HLN.out; omega) (by have := HLN.out; unfold maxLen; omega) HB2.out.size ?_; intro w5 ho5 hg5; rw [ints_made] at ho5; have HO5 := mkHid ho5; have HB5 := mkHid ((Below.refl w2.heap.size w2).grown hg5 (Nat.le_refl _) (fun k hk => by simp at hk)); clear ho5 hg5))
        obtain ⟨pb, hpb⟩ : ∃ pb, pb = w2.heap.size := ⟨_, rfl⟩
        have HO6 : Hid (w5.ownsRow w.heap.size 3 1 (.slice (some ⟨pb, 0, none⟩) k k) k ((List.replicate k (0 : Int)).map (Value.int .i64))) := mkHid (by rw [hpb]; exact HO5.out)
        have HT5 : Hid (TR w5 g (srtd (prs rs))) := mkHid (fun i hi => by
          obtain ⟨⟨a1, a2⟩, a3, a4⟩ := H2.out.1 i hi
          exact ⟨⟨bcell HB5.out a1, bcell HB5.out a2⟩, bfrozen HB5.out HG2.out a3, bfrozen HB5.out HG2.out a4⟩)
        have HPW : Hid (w.heap.size ≤ pb) := mkHid (by rw [hpb]; exact HB2.out.size)
        have HW5 : Hid (Below w.heap.size w w5) := mkHid (HB2.out.trans (HB5.out.mono HB2.out.size))
        have hgp : ¬ g = pb := by have := HG2.out; omega
        rw [← hpb]
        clear hpb HO5 HB5 HB2 H2 HSRT HO HB hmin
        go_loopw [38] (fun iv wr => ∃ (j : Nat) (ps : List Int), iv = .int .i64 (j : Int) ∧ j ≤ k ∧ ps.length = k ∧ (∀ i, i < j → ps.getD i 0 = (gt (srtd (prs rs)) i).1) ∧ wr.ownsRow w.heap.size 3 1 (.slice (some ⟨pb, 0, none⟩) k k) k (ps.map (Value.int .i64)) ∧ TR wr g (srtd (prs rs)) ∧ Below w.heap.size w wr) (fun iv _ => k - (intOf iv).toNat)
        case atStart => exact ⟨0, List.replicate k 0, rfl, Nat.zero_le _, by simp, fun i hi => absurd hi (Nat.not_lt_zero _), HO6.out, HT5.out, HW5.out⟩
        case round =>
          clear HO6 HT5 HW5
          obtain ⟨j, ps, rfl, hj, hpl, hp, ho, ht, hb⟩ := hrel
          have HP := mkHid hp
          have HO := mkHid ho
          have HT := mkHid ht
          have HB := mkHid hb
          have HPL := mkHid hpl
          clear hp ho ht hb hpl
          by_cases hlt : j < k
          · have hjs : j < (srtd (prs rs)).length := by rw [srtd_len, prs_len]; have := HLN.out.2; omega
            obtain ⟨⟨t0, _⟩, _⟩ := HT.out j hjs
            obtain ⟨x, hx⟩ : ∃ x, x = (gt (srtd (prs rs)) j).1 := ⟨_, rfl⟩
            rw [← hx] at t0
            have HX := mkHid hx
            have hji : (j : Int) < k := by omega
            have hjr : (j : Int) < rs.length := by have := HLN.out.2; omega
            have p0 : wr.cell? ⟨pb, j, none⟩ = some (.int .i64 (ps.getD j 0)) := own_at HO.out j _ (map_int_at (by rw [HPL.out]; exact hlt))
            obtain ⟨y, hy⟩ : ∃ y, y = ps.getD j 0 := ⟨_, rfl⟩
            rw [← hy] at p0
            have f0 : wr.frozen? ⟨pb, j, none⟩ = false := own_frozen HO.out _
            clear hx hy hjs
            go_wp2
            go_roundw
            case rel =>
              have hk2 : Kept (fun k => k = pb) wr (wr.setCell ⟨pb, j, none⟩ (.int .i64 x)) := Kept.setCell (F := fun k => k = pb) wr (p := ⟨pb, j, none⟩) rfl _
              refine ⟨j + 1, ps.set j x, by go_num, by omega, by rw [List.length_set]; exact HPL.out, fun i hi => ?_, by rw [List.map_set]; exact own_set HO.out j _, fun i hi => ?_, HB.out.trans (hk2.below (fun k e => by rw [e]; exact HPW.out) HB.out.size)⟩
              · by_cases e : j = i
                · subst e
                  have : j < ps.length := by rw [HPL.out]; exact hlt
                  simp [List.getD, this, HX.out]
                · rw [← HP.out i (by omega)]
                  simp [List.getD, e]
              · obtain ⟨⟨b1, b2⟩, b3, b4⟩ := HT.out i hi
                have hgl := World.block_lt_of_cell? _ _ b1
                exact ⟨⟨hk2.cell b1 hgp, hk2.cell b2 hgp⟩, hk2.frozen b3 hgp hgl, hk2.frozen b4 hgp hgl⟩
            case measure => simp [intOf]; omega
          · obtain rfl : j = k := by omega
            go_wp2
            go_ret
            have hpb := own_lt HO.out
            refine ⟨some ⟨pb, 0, none⟩, j, rfl, fun _ => ⟨pb, rfl, fun i hi => ?_, HPW.out, hpb⟩, fun h => (by cases h), Nat.le_refl _, HB.out⟩
            rw [leastL_len, ← HK.out] at hi
            rw [leastL_at (by rw [← HK.out]; exact hi), ← HP.out i hi]
            exact ⟨own_at HO.out i _ (map_int_at (by rw [HPL.out]; exact hi)), own_frozen HO.out _⟩
theorem least_is (w : World) (v : Value) (rs : List Int) (n : Int) (h : IRd w v rs) (hl : rs.length ≤ 100000000) :
    Calls Tryd.prog 12 #[v, .int .i64 n] w fun e w' => ∃ a c, e = .returned (.slice a (lcount n rs.length) c) ∧ Hid ((0 < lcount n rs.length → ∃ g, a = some ⟨g, 0, none⟩ ∧ IR w' g (leastL rs n) ∧ w.heap.size ≤ g ∧ g < w'.heap.size) ∧ (a = none → c = 0) ∧ lcount n rs.length ≤ c ∧ Below w.heap.size w w') :=
  least_sl w v rs n h.sl hl
end Go.Proofs.YtjlmkmhggkcbhaaDoor
