/- play, one call by both: List. -/
import Derived.Test.YtjlmkmhggkcbhaaDoorQplay2
namespace Go.Proofs.YtjlmkmhggkcbhaaDoor
open Go.ChangeShapes Go.WideShapes Go.ChangeAt Go.RowKit
set_option maxRecDepth 100000
set_option linter.unusedVariables false

theorem Good.perm {F : Nat → Prop} {w : World} {p : Nat} {V L : List Th} (hv : Qu F w p V) (hg : Good V L) : V.Perm L := (List.perm_ext_iff_of_nodup hv.nodup hg.u).mpr hg.e
theorem tr_ts {w w' : World} {n c : Nat} {a : Option Addr} {ys : List Th} {B C : Nat} (hn : ys.length = n) (h : 0 < n → ∃ g, a = some ⟨g, 0, none⟩ ∧ TR w g ys ∧ B ≤ g ∧ g < C) (hb : Below w.heap.size w w') : TS w' (.slice a n c) ys := by
  subst hn
  refine ⟨a, c, rfl, fun hp => ?_⟩
  obtain ⟨g, rfl, ht, _⟩ := h hp
  exact ⟨g, rfl, fun i hi => ⟨bcell hb (ht i hi).1.1, bcell hb (ht i hi).1.2⟩⟩
theorem cell_block {w : World} {g j : Nat} {v : Value} (h : w.cell? ⟨g, j, none⟩ = some v) : ∃ c t fz, w.heap[g]? = some (.cells c t fz) ∧ c[j]? = some v := by
  unfold World.cell? at h
  simp only at h
  split at h
  · rename_i c t fz hb
    exact ⟨c, t, fz, hb, by simpa using h⟩
  · simp at h
theorem cell_set {w : World} {g i j : Nat} {u v : Value} (h : w.cell? ⟨g, j, none⟩ = some v) : (w.setCell ⟨g, i, none⟩ u).cell? ⟨g, j, none⟩ = some (if i = j then u else v) := by
  obtain ⟨c, t, fz, hb, hc⟩ := cell_block h
  have hs : (w.setCell ⟨g, i, none⟩ u).heap[g]? = some (.cells (c.set! i u) t fz) := by simp [World.setCell, Array.getElem?_modify, hb]
  rw [cell_of_row _ g j _ t fz hs]
  have hj := (Array.getElem?_eq_some_iff.mp hc).1
  simp only [Array.set!_eq_setIfInBounds, Array.getElem?_setIfInBounds]
  split
  · rename_i e; subst e; simp [hj]
  · exact hc
theorem frozen_set {w : World} {g i j : Nat} {u : Value} : (w.setCell ⟨g, i, none⟩ u).frozen? ⟨g, j, none⟩ = w.frozen? ⟨g, j, none⟩ := by
  simp
theorem tr_set {w : World} {g : Nat} {zs : List Th} (h : TR w g zs) (i : Nat) (hi : i < zs.length) (x : Th) : TR ((w.setCell ⟨g, i * 2, none⟩ (.int .i64 x.1)).setCell ⟨g, i * 2 + 1, none⟩ (.int .i64 x.2)) g (zs.set i x) := by
  intro j hj
  have hj' : j < zs.length := by simpa using hj
  obtain ⟨⟨a1, a2⟩, a3, a4⟩ := h j hj'
  rw [gt_set _ _ _ _ hi, cell_set (cell_set a1), cell_set (cell_set a2), frozen_set, frozen_set, frozen_set, frozen_set]
  refine ⟨?_, a3, a4⟩
  by_cases e : i = j
  · subst e
    rw [if_pos rfl, if_neg (by omega), if_pos rfl, if_pos rfl]
    exact ⟨rfl, rfl⟩
  · rw [if_neg (show ¬ i * 2 + 1 = j * 2 by omega), if_neg (show ¬ i * 2 = j * 2 by omega), if_neg (show ¬ i * 2 + 1 = j * 2 + 1 by omega), if_neg (show ¬ i * 2 = j * 2 + 1 by omega), if_neg e]
    exact ⟨rfl, rfl⟩
/-- The list that was answered is overwritten. -/
structure Ov (w4 wr : World) (la : Option Addr) (n B : Nat) : Prop where
  t : 0 < n → ∃ g zs, la = some ⟨g, 0, none⟩ ∧ zs.length = n ∧ TR wr g zs ∧ B ≤ g ∧ g < w4.heap.size
  k : Kept (fun k => ∃ g, la = some ⟨g, 0, none⟩ ∧ 0 < n ∧ k = g) w4 wr
set_option maxHeartbeats 3200000 in
theorem play_list (W0 w : World) (hB : Below W0.heap.size W0 w) (p q : Nat) (F G : Nat → Prop) (V L : List Th) (h : Pair W0.heap.size w p q F G V L) (wh id r : Int) :
    Calls Tryd.prog 10 #[.pointer (some ⟨p, 0, none⟩), .pointer (some ⟨q, 0, none⟩), .agg #[.int .i64 6, .int .i64 wh, .int .i64 id, .int .i64 r]] w fun e w' => e = .returned (.bool true) ∧ Hid (Nx W0.heap.size w w' p q F G) := by
  have H := mkHid h
  have hb : Below w.heap.size w (w.alloc (.cells #[.int .i64 6, .int .i64 wh, .int .i64 id, .int .i64 r] 33)) := (Below.refl _ w).alloc (Nat.le_refl _) _
  have HB := mkHid hb
  have hlist := list_is F _ p V (h.v.below hb) (by rw [h.g.n]; exact h.g.m)
  rw [h.g.n, srtd_congr (Good.perm h.v h.g)] at hlist
  have HLIST := mkHid hlist
  obtain ⟨qa, qc, q0, _, _⟩ := h.l.view
  have HQ0 := mkHid q0
  have hli : (L.length : Int) ≤ 4096 := by have := h.g.m; omega
  obtain ⟨n, hn⟩ : ∃ n, n = L.length := ⟨_, rfl⟩
  have HN := mkHid hn
  rw [← hn] at HLIST HQ0 hli
  clear h hB hb hlist q0 hn
  by_cases hbig : (200 : Int) < n
  · have HBIG := mkHid hbig
    go_enter Tryd.func10, Tryd.ntmps10
    go_wp2_with (first
      | (go_at_call 24; refine HLIST.out.mono ?_; rintro e w1 ⟨la, lc, rfl, h1⟩; have H1 := h1; have HB1 := mkHid (HB.out.trans (h1.out.2.mono HB.out.size)); have q1 := bcell HB1.out HQ0.out; clear h1))
    have HOV : Hid (Ov w1 w1 la n w.heap.size) := mkHid ⟨fun hp => by
      obtain ⟨g, e, ht, g1, g2⟩ := H1.out.1 hp
      have hs := HB.out.size
      exact ⟨g, srtd L, e, by rw [srtd_len, ← HN.out], ht, by omega, g2⟩, Kept.refl _ _⟩
    (try clear q1)
    go_loopw [140] (fun iv wr => ∃ j : Nat, iv = .int .i64 (j : Int) ∧ j ≤ n ∧ Ov w1 wr la n w.heap.size) (fun iv _ => n - (intOf iv).toNat)
    case atStart => exact ⟨0, rfl, Nat.zero_le _, HOV.out⟩
    case round =>
      clear HOV
      obtain ⟨j, rfl, hj, hO⟩ := hrel
      have HO := mkHid hO
      clear hO
      by_cases hlt : j < n
      · obtain ⟨g, zs, rfl, hz, ht, g1, g2⟩ := HO.out.t (by omega)
        obtain ⟨⟨c0, c1⟩, f0, f1⟩ := ht j (by omega)
        obtain ⟨y, hy⟩ : ∃ y, y = gt zs j := ⟨_, rfl⟩
        rw [← hy] at c0 c1
        have HZ := mkHid (And.intro hz ht)
        have HG := mkHid (And.intro g1 g2)
        have hji : (j : Int) < n := by omega
        clear hz ht g1 g2 hy
        go_wp2
        go_roundw
        case rel =>
          have hk := (Kept.setCell (F := fun k => k = g) wr (p := ⟨g, j * 2, none⟩) rfl (.int .i64 (-1))).trans (Kept.setCell (F := fun k => k = g) _ (p := ⟨g, j * 2 + 1, none⟩) rfl (.int .i64 (-1))) (fun _ h => .inl h)
          refine ⟨j + 1, by go_num, by omega, ⟨fun _ => ⟨g, zs.set j (-1, -1), rfl, by rw [List.length_set]; exact HZ.out.1, ?_, HG.out.1, HG.out.2⟩, HO.out.k.trans hk (fun k e => .inl ⟨g, rfl, by omega, e⟩)⟩⟩
          exact tr_set HZ.out.2 j (by rw [HZ.out.1]; exact hlt) (-1, -1)
        case measure => simp [intOf]; omega
      · obtain rfl : j = n := by omega
        have hkb : Below w.heap.size w1 wr := HO.out.k.below (fun k hk => by
          obtain ⟨g, e, h0, rfl⟩ := hk
          obtain ⟨g', zs, e', _, _, g1, _⟩ := HO.out.t h0
          rw [e] at e'
          simp at e'
          omega) HB1.out.size
        have HBF := mkHid (HB1.out.trans hkb)
        have q2 := bcell HBF.out HQ0.out
        have hlen : Hid (∀ W, Below w.heap.size w W → Calls Tryd.prog 23 #[.pointer (some ⟨p, 0, none⟩)] W fun e w' => e = .returned (.int .i64 (j : Int)) ∧ w' = W) := mkHid (fun W hW => by
          have := len_is F W p V (H.out.v.below hW)
          rw [H.out.g.n, ← HN.out] at this
          exact this)
        clear hkb
        go_wp2
        go_region_held3 (fun w' => w'.cell? ⟨q, 0, none⟩ = some (.slice qa j qc)) (go_keep) (first | (go_at_call 23; refine (hlen.out wr.drew HBF.out.drew).mono ?_; rintro e w9 ⟨rfl, rfl⟩))
        go_wp2
        go_ret
        exact ⟨by simp, H.out.same HBF.out.drew⟩
  · have HBIG := mkHid hbig
    go_enter Tryd.func10, Tryd.ntmps10
    go_wp2_with (first
      | (go_at_call 24; refine HLIST.out.mono ?_; rintro e w1 ⟨la, lc, rfl, h1⟩; have H1 := h1; have HB1 := mkHid (HB.out.trans (h1.out.2.mono HB.out.size)); have q1 := bcell HB1.out HQ0.out; clear h1)
      | (go_at_call 34; have hs := sorted_is G w1 q L (H.out.l.below HB1.out) H.out.g.m; rw [← HN.out] at hs; refine hs.mono ?_; clear hs; rintro e w2 ⟨sa, sc, rfl, h2⟩; have H2 := h2; have HB2 := mkHid (HB1.out.trans (h2.out.2.mono HB1.out.size)); clear h2)
      | (go_at_call 33; refine (same_things w2 _ _ (srtd L) (tr_ts (by rw [srtd_len, ← HN.out]) H1.out.1 H2.out.2) H2.out.1 (by rw [srtd_len, ← HN.out]; exact hli)).mono ?_; rintro e w3 ⟨rfl, h3⟩; have HB3 := mkHid (HB2.out.trans (h3.mono HB2.out.size)); have HB13 := mkHid (H2.out.2.trans (h3.mono H2.out.2.size)); clear h3))
    have HOV : Hid (Ov w3 w3 la n w.heap.size) := mkHid ⟨fun hp => by
      obtain ⟨g, e, ht, g1, g2⟩ := H1.out.1 hp
      have hs := HB.out.size
      have hb13 := HB13.out
      exact ⟨g, srtd L, e, by rw [srtd_len, ← HN.out], fun i hi => ⟨⟨bcell hb13 (ht i hi).1.1, bcell hb13 (ht i hi).1.2⟩, bfrozen hb13 g2 (ht i hi).2.1, bfrozen hb13 g2 (ht i hi).2.2⟩, by omega, Nat.lt_of_lt_of_le g2 hb13.size⟩, Kept.refl _ _⟩
    (try clear q1)
    go_loopw [140] (fun iv wr => ∃ j : Nat, iv = .int .i64 (j : Int) ∧ j ≤ n ∧ Ov w3 wr la n w.heap.size) (fun iv _ => n - (intOf iv).toNat)
    case atStart => exact ⟨0, rfl, Nat.zero_le _, HOV.out⟩
    case round =>
      clear HOV
      obtain ⟨j, rfl, hj, hO⟩ := hrel
      have HO := mkHid hO
      clear hO
      by_cases hlt : j < n
      · obtain ⟨g, zs, rfl, hz, ht, g1, g2⟩ := HO.out.t (by omega)
        obtain ⟨⟨c0, c1⟩, f0, f1⟩ := ht j (by omega)
        obtain ⟨y, hy⟩ : ∃ y, y = gt zs j := ⟨_, rfl⟩
        rw [← hy] at c0 c1
        have HZ := mkHid (And.intro hz ht)
        have HG := mkHid (And.intro g1 g2)
        have hji : (j : Int) < n := by omega
        clear hz ht g1 g2 hy
        go_wp2
        go_roundw
        case rel =>
          have hk := (Kept.setCell (F := fun k => k = g) wr (p := ⟨g, j * 2, none⟩) rfl (.int .i64 (-1))).trans (Kept.setCell (F := fun k => k = g) _ (p := ⟨g, j * 2 + 1, none⟩) rfl (.int .i64 (-1))) (fun _ h => .inl h)
          refine ⟨j + 1, by go_num, by omega, ⟨fun _ => ⟨g, zs.set j (-1, -1), rfl, by rw [List.length_set]; exact HZ.out.1, ?_, HG.out.1, HG.out.2⟩, HO.out.k.trans hk (fun k e => .inl ⟨g, rfl, by omega, e⟩)⟩⟩
          exact tr_set HZ.out.2 j (by rw [HZ.out.1]; exact hlt) (-1, -1)
        case measure => simp [intOf]; omega
      · obtain rfl : j = n := by omega
        have hkb : Below w.heap.size w3 wr := HO.out.k.below (fun k hk => by
          obtain ⟨g, e, h0, rfl⟩ := hk
          obtain ⟨g', zs, e', _, _, g1, _⟩ := HO.out.t h0
          rw [e] at e'
          simp at e'
          omega) HB3.out.size
        have HBF := mkHid (HB3.out.trans hkb)
        have q2 := bcell HBF.out HQ0.out
        have hlen : Hid (∀ W, Below w.heap.size w W → Calls Tryd.prog 23 #[.pointer (some ⟨p, 0, none⟩)] W fun e w' => e = .returned (.int .i64 (j : Int)) ∧ w' = W) := mkHid (fun W hW => by
          have := len_is F W p V (H.out.v.below hW)
          rw [H.out.g.n, ← HN.out] at this
          exact this)
        clear hkb
        go_wp2
        go_region_held3 (fun w' => w'.cell? ⟨q, 0, none⟩ = some (.slice qa j qc)) (go_keep) (first | (go_at_call 23; refine (hlen.out wr.drew HBF.out.drew).mono ?_; rintro e w9 ⟨rfl, rfl⟩))
        go_wp2
        go_ret
        exact ⟨by simp, H.out.same HBF.out.drew⟩
end Go.Proofs.YtjlmkmhggkcbhaaDoor
