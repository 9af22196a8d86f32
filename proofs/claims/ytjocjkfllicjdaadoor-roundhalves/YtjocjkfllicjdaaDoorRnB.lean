import Derived.Test.YtjocjkfllicjdaaDoorRnA
import Derived.Test.YtjocjkfllicjdaaDoorOadd
/- A round's Begin. -/
namespace Go.Proofs.YtjocjkfllicjdaaDoor
open Go.ChangeShapes Go.WideShapes Go.ChangeAt Go.RowKit
set_option maxRecDepth 100000
attribute [local go_sem] World.cell?_alloc_some frozen_alloc_some

theorem RB.void {G : Nat → Prop} {w w' : World} {p : Nat} {r r' : Rn} {t : Ep} {lv : Value} {ps : List Ep} (h : RB G w p r t lv ps) (hk : Kept (fun k => k = p) w w') (hb : w'.heap[p]? = some (oR r' t (.slice none 0 0))) (hn : r'.N = r.N) : RB G w' p r' t (.slice none 0 0) [] :=
  ⟨hb, h.gp, fun k hg => Nat.lt_of_lt_of_le (h.lt k hg) hk.size, ownN_kept h.tk hk (fun k e f => (h.tg k e).2 f), h.tg,
   ⟨World.ownsRow_nil _ _ _ _, by simp, by simp⟩, by simp [Value.ownBlock], by simp, h.st, by simp, by simp, by rw [hn]; exact h.nn⟩
theorem begin_state {G : Nat → Prop} {w : World} {p : Nat} {r : Rn} {t : Ep} {lv : Value} {ps : List Ep} (b : Bl) (es : Addr) (h : RB G w p r t lv ps) (hs : r.st = 3 ∨ r.st = 4) (he : w.cell? ⟨0, 0, none⟩ = some (vErr es)) : Calls Tryd.prog 15 #[.pointer (some ⟨p, 0, none⟩), vB b] w fun e w' => e = .returned (vErr es) ∧ Below w.heap.size w w' := by
  have x12 : w.cell? ⟨p, 12, none⟩ = some (.int .i64 r.st) := cell_of_block h.blk rfl
  clear h
  obtain ⟨b1, b2⟩ := b
  generalize r.st = s at hs x12
  simp only [vB]
  rcases hs with rfl | rfl
  · go_enter Tryd.func15, Tryd.ntmps15
    go_wp2
    go_ret
    exact ⟨rfl, ba (Below.refl _ w) _⟩
  · go_enter Tryd.func15, Tryd.ntmps15
    go_wp2
    go_ret
    exact ⟨rfl, ba (Below.refl _ w) _⟩
set_option maxHeartbeats 3200000 in
theorem begin_ballot {G : Nat → Prop} {w : World} {p : Nat} {r : Rn} {t : Ep} {lv : Value} {ps : List Ep} (b : Bl) (eb : Addr) (h : RB G w p r t lv ps) (h3 : r.st ≠ 3) (h4 : r.st ≠ 4) (hc : (balB b && aboveB b r.b) = false) (he : w.cell? ⟨15, 0, none⟩ = some (vErr eb)) : Calls Tryd.prog 15 #[.pointer (some ⟨p, 0, none⟩), vB b] w fun e w' => e = .returned (vErr eb) ∧ Below w.heap.size w w' := by
  obtain ⟨b1, b2⟩ := b
  obtain ⟨N, rd, st, ⟨c1, c2⟩, a0, a1, a2, a3, a4, a5, a6, nw, bg⟩ := r
  have e3 : (st == 3) = false := by simpa using h3
  have e4 : (st == 4) = false := by simpa using h4
  simp only at hc
  have HE := mkHid he
  have H := mkHid h
  have HB0 : Hid (Below w.heap.size w (w.alloc (oB (b1, b2)))) := mkHid (ba (Below.refl _ w) _)
  have hbx := heap_alloc_new w (oB (b1, b2))
  have kl0 : (w.alloc (oB (b1, b2))).cell? ⟨w.heap.size, 0, none⟩ = some (.int .i64 b1) := cell_of_block hbx rfl
  have kl1 : (w.alloc (oB (b1, b2))).cell? ⟨w.heap.size, 1, none⟩ = some (.int .i64 b2) := cell_of_block hbx rfl
  have y12 : w.cell? ⟨p, 12, none⟩ = some (.int .i64 st) := cell_of_block h.blk rfl
  have x13 : (w.alloc (oB (b1, b2))).cell? ⟨p, 13, none⟩ = some (.int .i64 c1) := kl (cell_of_block h.blk rfl) _
  have x14 : (w.alloc (oB (b1, b2))).cell? ⟨p, 14, none⟩ = some (.int .i64 c2) := kl (cell_of_block h.blk rfl) _
  clear h hbx
  clear H h3 h4 he
  simp only [vB]
  cases hq : balB (b1, b2) with
  | false =>
    have HL : Hid (∀ W, Calls Tryd.prog 38 #[.agg #[.int .i64 b1, .int .i64 b2]] W fun e w' => e = .returned (.bool false) ∧ Below W.heap.size W w') := mkHid (fun W => by have := isLegal_any W (b1, b2); rw [hq] at this; exact this)
    clear hq hc
    go_enter Tryd.func15, Tryd.ntmps15
    go_wp2
    have d0 : (w.alloc (oB (b1, b2))).drew.cell? ⟨w.heap.size, 0, none⟩ = some (.int .i64 b1) := kl0
    have d1 : (w.alloc (oB (b1, b2))).drew.cell? ⟨w.heap.size, 1, none⟩ = some (.int .i64 b2) := kl1
    have d2 : (w.alloc (oB (b1, b2))).drew.cell? ⟨p, 13, none⟩ = some (.int .i64 c1) := x13
    have d3 : (w.alloc (oB (b1, b2))).drew.cell? ⟨p, 14, none⟩ = some (.int .i64 c2) := x14
    clear kl0 kl1 x13 x14
    refine wp_region_held_drew (S := fun w' => w'.cell? ⟨w.heap.size, 0, none⟩ = some (.int .i64 b1) ∧ w'.cell? ⟨w.heap.size, 1, none⟩ = some (.int .i64 b2) ∧ w'.cell? ⟨p, 13, none⟩ = some (.int .i64 c1) ∧ w'.cell? ⟨p, 14, none⟩ = some (.int .i64 c2)) (by kernel_rfl) ⟨d0, d1, d2, d3⟩ (fun hHeld => ?_)
    refine tkE 0 18 (.agg #[.int .i64 b1, .int .i64 b2]) rfl rfl hHeld ?_
    simp only [sZ, sS]
    refine wpAnyH_ready (rs := [1]) (by kernel_rfl) (by simp) (AllReadyH.cons rfl (fun K hK => ?_) AllReadyH.nil)
    go_simp
    refine (HL.out (w.alloc (oB (b1, b2))).drew).mono ?_
    rintro e w1 ⟨rfl, bw1⟩
    have fw1_0 : w1.cell? ⟨w.heap.size, 0, none⟩ = some (.int .i64 b1) := kc (show (w.alloc (oB (b1, b2))).drew.cell? _ = _ from d0) bw1
    have fw1_1 : w1.cell? ⟨w.heap.size, 1, none⟩ = some (.int .i64 b2) := kc (show (w.alloc (oB (b1, b2))).drew.cell? _ = _ from d1) bw1
    have fw1_2 : w1.cell? ⟨p, 13, none⟩ = some (.int .i64 c1) := kc (show (w.alloc (oB (b1, b2))).drew.cell? _ = _ from d2) bw1
    have fw1_3 : w1.cell? ⟨p, 14, none⟩ = some (.int .i64 c2) := kc (show (w.alloc (oB (b1, b2))).drew.cell? _ = _ from d3) bw1
    have HB1 := mkHid (bt HB0.out.drew bw1)
    clear bw1 hHeld
    refine hK.out _ _ ⟨fw1_0, fw1_1, fw1_2, fw1_3⟩ (fun hHeld => ?_)
    clear hK K
    refine tkE 2 20 (.bool true) rfl rfl hHeld ?_
    simp only [sZ, sS]
    refine tkE 3 21 (.bool true) rfl rfl hHeld ?_
    simp only [sZ, sS]
    refine tkU 4 22 rfl rfl hHeld ?_
    simp only [sZ, sS]
    refine tkU 5 23 rfl rfl hHeld ?_
    simp only [sZ, sS]
    refine tkU 6 24 rfl rfl hHeld ?_
    simp only [sZ, sS]
    refine tkU 7 25 rfl rfl hHeld ?_
    simp only [sZ, sS]
    refine tkU 8 26 rfl rfl hHeld ?_
    simp only [sZ, sS]
    refine tkU 9 27 rfl rfl hHeld ?_
    simp only [sZ, sS]
    refine tkU 10 28 rfl rfl hHeld ?_
    simp only [sZ, sS]
    refine tkE 11 29 (.bool true) rfl rfl hHeld ?_
    simp only [sZ, sS]
    refine wpAnyH_done (by kernel_rfl) ?_ _
    have he1 := kc HE.out HB1.out
    go_wp2
    go_ret
    exact ⟨rfl, HB1.out⟩
  | true =>
    have ha : aboveB (b1, b2) (c1, c2) = false := by rw [hq] at hc; simpa using hc
    have HL : Hid (∀ W, Calls Tryd.prog 38 #[.agg #[.int .i64 b1, .int .i64 b2]] W fun e w' => e = .returned (.bool true) ∧ Below W.heap.size W w') := mkHid (fun W => by have := isLegal_any W (b1, b2); rw [hq] at this; exact this)
    have HA : Hid (∀ W, Calls Tryd.prog 39 #[.agg #[.int .i64 b1, .int .i64 b2], .agg #[.int .i64 c1, .int .i64 c2]] W fun e w' => e = .returned (.bool false) ∧ Below W.heap.size W w') := mkHid (fun W => by have := above_any W (b1, b2) (c1, c2); rw [ha] at this; exact this)
    clear hq hc ha
    go_enter Tryd.func15, Tryd.ntmps15
    go_wp2
    have d0 : (w.alloc (oB (b1, b2))).drew.cell? ⟨w.heap.size, 0, none⟩ = some (.int .i64 b1) := kl0
    have d1 : (w.alloc (oB (b1, b2))).drew.cell? ⟨w.heap.size, 1, none⟩ = some (.int .i64 b2) := kl1
    have d2 : (w.alloc (oB (b1, b2))).drew.cell? ⟨p, 13, none⟩ = some (.int .i64 c1) := x13
    have d3 : (w.alloc (oB (b1, b2))).drew.cell? ⟨p, 14, none⟩ = some (.int .i64 c2) := x14
    clear kl0 kl1 x13 x14
    refine wp_region_held_drew (S := fun w' => w'.cell? ⟨w.heap.size, 0, none⟩ = some (.int .i64 b1) ∧ w'.cell? ⟨w.heap.size, 1, none⟩ = some (.int .i64 b2) ∧ w'.cell? ⟨p, 13, none⟩ = some (.int .i64 c1) ∧ w'.cell? ⟨p, 14, none⟩ = some (.int .i64 c2)) (by kernel_rfl) ⟨d0, d1, d2, d3⟩ (fun hHeld => ?_)
    refine tkE 0 18 (.agg #[.int .i64 b1, .int .i64 b2]) rfl rfl hHeld ?_
    simp only [sZ, sS]
    refine wpAnyH_ready (rs := [1]) (by kernel_rfl) (by simp) (AllReadyH.cons rfl (fun K hK => ?_) AllReadyH.nil)
    go_simp
    refine (HL.out (w.alloc (oB (b1, b2))).drew).mono ?_
    rintro e w1 ⟨rfl, bw1⟩
    have fw1_0 : w1.cell? ⟨w.heap.size, 0, none⟩ = some (.int .i64 b1) := kc (show (w.alloc (oB (b1, b2))).drew.cell? _ = _ from d0) bw1
    have fw1_1 : w1.cell? ⟨w.heap.size, 1, none⟩ = some (.int .i64 b2) := kc (show (w.alloc (oB (b1, b2))).drew.cell? _ = _ from d1) bw1
    have fw1_2 : w1.cell? ⟨p, 13, none⟩ = some (.int .i64 c1) := kc (show (w.alloc (oB (b1, b2))).drew.cell? _ = _ from d2) bw1
    have fw1_3 : w1.cell? ⟨p, 14, none⟩ = some (.int .i64 c2) := kc (show (w.alloc (oB (b1, b2))).drew.cell? _ = _ from d3) bw1
    have HB1 := mkHid (bt HB0.out.drew bw1)
    clear bw1 hHeld
    refine hK.out _ _ ⟨fw1_0, fw1_1, fw1_2, fw1_3⟩ (fun hHeld => ?_)
    clear hK K
    refine tkE 2 20 (.bool false) rfl rfl hHeld ?_
    simp only [sZ, sS]
    refine tkE 3 21 (.bool false) rfl rfl hHeld ?_
    simp only [sZ, sS]
    refine tkE 4 22 (.agg #[.int .i64 b1, .int .i64 b2]) rfl rfl hHeld ?_
    simp only [sZ, sS]
    refine tkE 5 23 (.pointer (some ⟨p, 0, none⟩)) rfl rfl hHeld ?_
    simp only [sZ, sS]
    refine tkE 6 24 (.pointer (some ⟨p, 0, none⟩)) rfl rfl hHeld ?_
    simp only [sZ, sS]
    refine tkE 7 25 (.pointer (some ⟨p, 13, none⟩)) rfl rfl hHeld ?_
    simp only [sZ, sS]
    refine tkE 8 26 (.agg #[.int .i64 c1, .int .i64 c2]) rfl rfl hHeld ?_
    simp only [sZ, sS]
    refine wpAnyH_ready (rs := [9]) (by kernel_rfl) (by simp) (AllReadyH.cons rfl (fun K hK => ?_) AllReadyH.nil)
    go_simp
    refine (HA.out w1).mono ?_
    rintro e w2 ⟨rfl, bw2⟩
    have fw2_0 : w2.cell? ⟨w.heap.size, 0, none⟩ = some (.int .i64 b1) := kc fw1_0 bw2
    have fw2_1 : w2.cell? ⟨w.heap.size, 1, none⟩ = some (.int .i64 b2) := kc fw1_1 bw2
    have fw2_2 : w2.cell? ⟨p, 13, none⟩ = some (.int .i64 c1) := kc fw1_2 bw2
    have fw2_3 : w2.cell? ⟨p, 14, none⟩ = some (.int .i64 c2) := kc fw1_3 bw2
    have HB2 := mkHid (bt HB1.out bw2)
    clear bw2 hHeld
    refine hK.out _ _ ⟨fw2_0, fw2_1, fw2_2, fw2_3⟩ (fun hHeld => ?_)
    clear hK K
    refine tkE 10 28 (.bool true) rfl rfl hHeld ?_
    simp only [sZ, sS]
    refine tkE 11 29 (.bool true) rfl rfl hHeld ?_
    simp only [sZ, sS]
    refine wpAnyH_done (by kernel_rfl) ?_ _
    have he1 := kc HE.out HB2.out
    go_wp2
    go_ret
    exact ⟨rfl, HB2.out⟩
set_option maxHeartbeats 6400000 in
theorem begin_yes {G : Nat → Prop} {w : World} {p : Nat} {r : Rn} {t : Ep} {lv : Value} {ps : List Ep} (b : Bl) (h : RB G w p r t lv ps) (h3 : r.st ≠ 3) (h4 : r.st ≠ 4) (hc : (balB b && aboveB b r.b) = true) (hg : 0 ≤ r.bg ∧ r.bg ≤ 9223372036854775806) : Calls Tryd.prog 15 #[.pointer (some ⟨p, 0, none⟩), vB b] w fun e w' => e = .returned .nilIface ∧ RB G w' p (r.begin b) t (.slice none 0 0) [] ∧ Kept (fun k => k = p) w w' := by
  obtain ⟨b1, b2⟩ := b
  obtain ⟨N, rd, st, ⟨c1, c2⟩, a0, a1, a2, a3, a4, a5, a6, nw, bg⟩ := r
  have e3 : (st == 3) = false := by simpa using h3
  have e4 : (st == 4) = false := by simpa using h4
  simp only at hc hg
  have hwr : IntKind.i64.wrap (bg + 1) = bg + 1 := by rw [IntKind.wrap_i64]; omega
  have H := mkHid h
  have HB0 : Hid (Below w.heap.size w (w.alloc (oB (b1, b2)))) := mkHid (ba (Below.refl _ w) _)
  have hbx := heap_alloc_new w (oB (b1, b2))
  have kl0 : (w.alloc (oB (b1, b2))).cell? ⟨w.heap.size, 0, none⟩ = some (.int .i64 b1) := cell_of_block hbx rfl
  have kl1 : (w.alloc (oB (b1, b2))).cell? ⟨w.heap.size, 1, none⟩ = some (.int .i64 b2) := cell_of_block hbx rfl
  have y12 : w.cell? ⟨p, 12, none⟩ = some (.int .i64 st) := cell_of_block h.blk rfl
  have x13 : (w.alloc (oB (b1, b2))).cell? ⟨p, 13, none⟩ = some (.int .i64 c1) := kl (cell_of_block h.blk rfl) _
  have x14 : (w.alloc (oB (b1, b2))).cell? ⟨p, 14, none⟩ = some (.int .i64 c2) := kl (cell_of_block h.blk rfl) _
  clear h hbx
  clear h3 h4
  simp only [vB]
  obtain ⟨hq, ha⟩ : balB (b1, b2) = true ∧ aboveB (b1, b2) (c1, c2) = true := by simpa using hc
  have HL : Hid (∀ W, Calls Tryd.prog 38 #[.agg #[.int .i64 b1, .int .i64 b2]] W fun e w' => e = .returned (.bool true) ∧ Below W.heap.size W w') := mkHid (fun W => by have := isLegal_any W (b1, b2); rw [hq] at this; exact this)
  have HA : Hid (∀ W, Calls Tryd.prog 39 #[.agg #[.int .i64 b1, .int .i64 b2], .agg #[.int .i64 c1, .int .i64 c2]] W fun e w' => e = .returned (.bool true) ∧ Below W.heap.size W w') := mkHid (fun W => by have := above_any W (b1, b2) (c1, c2); rw [ha] at this; exact this)
  clear hq hc ha hg
  go_enter Tryd.func15, Tryd.ntmps15
  go_wp2
  have d0 : (w.alloc (oB (b1, b2))).drew.cell? ⟨w.heap.size, 0, none⟩ = some (.int .i64 b1) := kl0
  have d1 : (w.alloc (oB (b1, b2))).drew.cell? ⟨w.heap.size, 1, none⟩ = some (.int .i64 b2) := kl1
  have d2 : (w.alloc (oB (b1, b2))).drew.cell? ⟨p, 13, none⟩ = some (.int .i64 c1) := x13
  have d3 : (w.alloc (oB (b1, b2))).drew.cell? ⟨p, 14, none⟩ = some (.int .i64 c2) := x14
  clear kl0 kl1 x13 x14
  refine wp_region_held_drew (S := fun w' => w'.cell? ⟨w.heap.size, 0, none⟩ = some (.int .i64 b1) ∧ w'.cell? ⟨w.heap.size, 1, none⟩ = some (.int .i64 b2) ∧ w'.cell? ⟨p, 13, none⟩ = some (.int .i64 c1) ∧ w'.cell? ⟨p, 14, none⟩ = some (.int .i64 c2)) (by kernel_rfl) ⟨d0, d1, d2, d3⟩ (fun hHeld => ?_)
  refine tkE 0 18 (.agg #[.int .i64 b1, .int .i64 b2]) rfl rfl hHeld ?_
  simp only [sZ, sS]
  refine wpAnyH_ready (rs := [1]) (by kernel_rfl) (by simp) (AllReadyH.cons rfl (fun K hK => ?_) AllReadyH.nil)
  go_simp
  refine (HL.out (w.alloc (oB (b1, b2))).drew).mono ?_
  rintro e w1 ⟨rfl, bw1⟩
  have fw1_0 : w1.cell? ⟨w.heap.size, 0, none⟩ = some (.int .i64 b1) := kc (show (w.alloc (oB (b1, b2))).drew.cell? _ = _ from d0) bw1
  have fw1_1 : w1.cell? ⟨w.heap.size, 1, none⟩ = some (.int .i64 b2) := kc (show (w.alloc (oB (b1, b2))).drew.cell? _ = _ from d1) bw1
  have fw1_2 : w1.cell? ⟨p, 13, none⟩ = some (.int .i64 c1) := kc (show (w.alloc (oB (b1, b2))).drew.cell? _ = _ from d2) bw1
  have fw1_3 : w1.cell? ⟨p, 14, none⟩ = some (.int .i64 c2) := kc (show (w.alloc (oB (b1, b2))).drew.cell? _ = _ from d3) bw1
  have HB1 := mkHid (bt HB0.out.drew bw1)
  clear bw1 hHeld
  refine hK.out _ _ ⟨fw1_0, fw1_1, fw1_2, fw1_3⟩ (fun hHeld => ?_)
  clear hK K
  refine tkE 2 20 (.bool false) rfl rfl hHeld ?_
  simp only [sZ, sS]
  refine tkE 3 21 (.bool false) rfl rfl hHeld ?_
  simp only [sZ, sS]
  refine tkE 4 22 (.agg #[.int .i64 b1, .int .i64 b2]) rfl rfl hHeld ?_
  simp only [sZ, sS]
  refine tkE 5 23 (.pointer (some ⟨p, 0, none⟩)) rfl rfl hHeld ?_
  simp only [sZ, sS]
  refine tkE 6 24 (.pointer (some ⟨p, 0, none⟩)) rfl rfl hHeld ?_
  simp only [sZ, sS]
  refine tkE 7 25 (.pointer (some ⟨p, 13, none⟩)) rfl rfl hHeld ?_
  simp only [sZ, sS]
  refine tkE 8 26 (.agg #[.int .i64 c1, .int .i64 c2]) rfl rfl hHeld ?_
  simp only [sZ, sS]
  refine wpAnyH_ready (rs := [9]) (by kernel_rfl) (by simp) (AllReadyH.cons rfl (fun K hK => ?_) AllReadyH.nil)
  go_simp
  refine (HA.out w1).mono ?_
  rintro e w2 ⟨rfl, bw2⟩
  have fw2_0 : w2.cell? ⟨w.heap.size, 0, none⟩ = some (.int .i64 b1) := kc fw1_0 bw2
  have fw2_1 : w2.cell? ⟨w.heap.size, 1, none⟩ = some (.int .i64 b2) := kc fw1_1 bw2
  have fw2_2 : w2.cell? ⟨p, 13, none⟩ = some (.int .i64 c1) := kc fw1_2 bw2
  have fw2_3 : w2.cell? ⟨p, 14, none⟩ = some (.int .i64 c2) := kc fw1_3 bw2
  have HB2 := mkHid (bt HB1.out bw2)
  clear bw2 hHeld
  refine hK.out _ _ ⟨fw2_0, fw2_1, fw2_2, fw2_3⟩ (fun hHeld => ?_)
  clear hK K
  refine tkE 10 28 (.bool false) rfl rfl hHeld ?_
  simp only [sZ, sS]
  refine tkE 11 29 (.bool false) rfl rfl hHeld ?_
  simp only [sZ, sS]
  refine wpAnyH_done (by kernel_rfl) ?_ _
  have H2 := mkHid (H.out.below HB2.out)
  clear fw2_2 fw2_3
  have z13 : w2.cell? ⟨p, 13, none⟩ = some (.int .i64 c1) := cell_of_block H2.out.blk rfl
  have f13 := frozen_of_block (i := 13) H2.out.blk
  have z14 : w2.cell? ⟨p, 14, none⟩ = some (.int .i64 c2) := cell_of_block H2.out.blk rfl
  have f14 := frozen_of_block (i := 14) H2.out.blk
  have z22 : w2.cell? ⟨p, 22, none⟩ = some (.int .i64 nw.1) := cell_of_block H2.out.blk rfl
  have f22 := frozen_of_block (i := 22) H2.out.blk
  have z23 : w2.cell? ⟨p, 23, none⟩ = some (.int .i64 nw.2) := cell_of_block H2.out.blk rfl
  have f23 := frozen_of_block (i := 23) H2.out.blk
  have z24 : w2.cell? ⟨p, 24, none⟩ = some (lv) := cell_of_block H2.out.blk rfl
  have f24 := frozen_of_block (i := 24) H2.out.blk
  have z25 : w2.cell? ⟨p, 25, none⟩ = some (.int .i64 bg) := cell_of_block H2.out.blk rfl
  have f25 := frozen_of_block (i := 25) H2.out.blk
  have z0 : w2.cell? ⟨w.heap.size, 0, none⟩ = some (.int .i64 b1) := fw2_0
  have z1 : w2.cell? ⟨w.heap.size, 1, none⟩ = some (.int .i64 b2) := fw2_1
  obtain ⟨W5, hW5⟩ : ∃ W5, W5 = ((((w2.setCell ⟨p, 13, none⟩ (.int .i64 b1)).setCell ⟨p, 14, none⟩ (.int .i64 b2)).setCell ⟨p, 22, none⟩ (.int .i64 0)).setCell ⟨p, 23, none⟩ (.int .i64 0)).setCell ⟨p, 24, none⟩ (.slice none 0 0) := ⟨_, rfl⟩
  have hk5 : Kept (fun k => k = p) w2 W5 := by rw [hW5]; exact keptT (keptT (keptT (keptT (keptS w2 p 13 _) 14 _) 22 _) 23 _) 24 _
  have hb5 : W5.heap[p]? = some (oR ⟨N, rd, st, (b1, b2), a0, a1, a2, a3, a4, a5, a6, (0, 0), bg⟩ t (.slice none 0 0)) := by
    rw [hW5]
    have hb := heap_set (i := 24) (v := .slice none 0 0) (heap_set (i := 23) (v := .int .i64 0) (heap_set (i := 22) (v := .int .i64 0) (heap_set (i := 14) (v := .int .i64 b2) (heap_set (i := 13) (v := .int .i64 b1) H2.out.blk))))
    exact hb.trans (by kernel_rfl)
  have H5 := mkHid (H2.out.void hk5 hb5 rfl)
  have HK5 := mkHid hk5
  have HW5 := mkHid hW5
  clear hk5 hb5 hW5
  go_wp2_with (go_at_call 40; (with_reducible refine (enter_is (r := ⟨N, rd, st, (b1, b2), a0, a1, a2, a3, a4, a5, a6, (0, 0), bg⟩) (G := G) (t := t) (lv := .slice none 0 0) (ps := []) 1 (by rw [← HW5.out]; exact H5.out)).mono ?_); rintro e w6 ⟨rfl, h6, k6⟩; rw [← HW5.out] at k6; have H6 := mkHid (And.intro h6 k6); have y25 : w6.cell? ⟨p, 25, none⟩ = some (.int .i64 bg) := cell_of_block h6.blk rfl; have g25 := frozen_of_block (i := 25) h6.blk; clear h6 k6)
  go_ret
  have hk7 := keptS w6 p 25 (.int .i64 (bg + 1))
  refine ⟨rfl, H6.out.1.nums hk7 ?_ rfl, (below_kept _ HB2.out).trans (HK5.out.trans (H6.out.2.trans hk7 (fun _ e => .inl e)) (fun _ e => .inl e)) (fun _ e => .inl e)⟩
  have hb := heap_set (i := 25) (v := .int .i64 (bg + 1)) H6.out.1.blk
  exact hb.trans (by kernel_rfl)
end Go.Proofs.YtjocjkfllicjdaaDoor

/- A round's Ledger, Place, New. -/
namespace Go.Proofs.YtjocjkfllicjdaaDoor
open Go.ChangeShapes Go.WideShapes Go.ChangeAt Go.RowKit
set_option maxRecDepth 100000
attribute [local go_sem] World.cell?_alloc_some frozen_alloc_some

theorem small_fs {ps qs : List Ep} (h : fs1 qs = fs1 ps) (hs : ∀ u ∈ ps, small u) : ∀ u ∈ qs, small u := by
  intro u hu
  have h1 : u.1 ∈ fs1 ps := by rw [← h]; exact List.mem_map.mpr ⟨u, hu, rfl⟩
  obtain ⟨v, hv, e⟩ := List.mem_map.mp h1
  have := hs v hv
  unfold small at this ⊢
  rw [← e]
  exact this
theorem len_fs {ps qs : List Ep} (h : fs1 qs = fs1 ps) : qs.length = ps.length := by
  have := congrArg List.length h
  simpa [fs1] using this
theorem ledger_none {G : Nat → Prop} {w : World} {p : Nat} {r : Rn} {t : Ep} {lv : Value} {ps : List Ep} (h : RB G w p r t lv ps) (hh : hasB r = false) : Calls Tryd.prog 22 #[.pointer (some ⟨p, 0, none⟩)] w fun e w' => e = .returned (.slice none 0 0) ∧ w' = w := by
  have HH := mkHid (hasLedger_is h)
  rw [hh] at HH
  clear h hh
  go_enter Tryd.func22, Tryd.ntmps22
  go_wp2_with (go_at_call 45; (with_reducible refine HH.out.mono ?_); rintro e w1 ⟨rfl, rfl⟩)
  go_ret
  exact ⟨rfl, rfl⟩
theorem ledger_some {G : Nat → Prop} {w : World} {p : Nat} {r : Rn} {t : Ep} {lv : Value} {ps : List Ep} (h : RB G w p r t lv ps) (hh : hasB r = true) : Calls Tryd.prog 22 #[.pointer (some ⟨p, 0, none⟩)] w fun e w' => ∃ a c qs, e = .returned (.slice a qs.length c) ∧ Led w.heap.size w' (.slice a qs.length c) qs ∧ fs1 qs = fs1 ps ∧ Below w.heap.size w w' := by
  have HH := mkHid (hasLedger_is h)
  rw [hh] at HH
  have HC := mkHid (rcloneL_any w lv ps h.ens h.sl h.su)
  have x24 : w.cell? ⟨p, 24, none⟩ = some lv := cell_of_block h.blk rfl
  obtain ⟨la, lc, rfl⟩ := h.shape
  clear h hh
  go_enter Tryd.func22, Tryd.ntmps22
  go_wp2_with (first
    | (go_at_call 45; (with_reducible refine HH.out.mono ?_); rintro e w1 ⟨rfl, hw⟩; subst hw)
    | (go_at_call 42; (with_reducible refine HC.out.mono ?_); rintro e w2 ⟨v2, qs, rfl, hl2, hq2, b2⟩; obtain ⟨a2, c2, rfl, _⟩ := own_sh hl2.own; have H2 := mkHid (And.intro hl2 (And.intro hq2 b2)); clear hl2 hq2 b2))
  go_ret
  exact ⟨_, _, qs, rfl, H2.out⟩
theorem place_none {G : Nat → Prop} {w : World} {p : Nat} {r : Rn} {t : Ep} {lv : Value} {ps : List Ep} (h : RB G w p r t lv ps) (hh : hasB r = false) : Calls Tryd.prog 23 #[.pointer (some ⟨p, 0, none⟩)] w fun e w' => e = .returned (.int .i64 0) ∧ w' = w := by
  have HH := mkHid (hasLedger_is h)
  rw [hh] at HH
  clear h hh
  go_enter Tryd.func23, Tryd.ntmps23
  go_wp2_with (go_at_call 45; (with_reducible refine HH.out.mono ?_); rintro e w1 ⟨rfl, rfl⟩)
  go_ret
  exact ⟨rfl, rfl⟩
theorem place_reads {G : Nat → Prop} {w : World} {p : Nat} {r : Rn} {t : Ep} {lv : Value} {ps : List Ep} (h : RB G w p r t lv ps) (hh : hasB r = true) (hr : r.rd = true) : Calls Tryd.prog 23 #[.pointer (some ⟨p, 0, none⟩)] w fun e w' => e = .returned (.int .i64 (ps.length : Int)) ∧ w' = w := by
  have HH := mkHid (hasLedger_is h)
  rw [hh] at HH
  have x11 : w.cell? ⟨p, 11, none⟩ = some (.bool r.rd) := cell_of_block h.blk rfl
  rw [hr] at x11
  have x24 : w.cell? ⟨p, 24, none⟩ = some lv := cell_of_block h.blk rfl
  obtain ⟨la, lc, rfl⟩ := h.shape
  clear h hh hr
  go_enter Tryd.func23, Tryd.ntmps23
  go_wp2_with (go_at_call 45; (with_reducible refine HH.out.mono ?_); rintro e w1 ⟨rfl, hw⟩; subst hw)
  go_ret
  exact ⟨rfl, rfl⟩
set_option maxHeartbeats 3200000 in
theorem place_entry {G : Nat → Prop} {w : World} {p : Nat} {r : Rn} {t : Ep} {lv : Value} {ps : List Ep} (k : Nat) (h : RB G w p r t lv ps) (hh : hasB r = true) (hr : r.rd = false) (hk : PlIs (fs1 ps) t.1.cl t.1.nu (k + 1)) : Calls Tryd.prog 23 #[.pointer (some ⟨p, 0, none⟩)] w fun e w' => e = .returned (.int .i64 ((k : Int) + 1)) ∧ Below w.heap.size w w' := by
  have HH := mkHid (hasLedger_is h)
  rw [hh] at HH
  have HP : Hid (∀ W, Below w.heap.size w W → Calls Tryd.prog 46 #[lv, .int .i64 t.1.cl, .int .i64 t.1.nu] W fun e w' => e = .returned (.tuple #[.int .i64 ((k : Int) + 1), .nilIface]) ∧ Below W.heap.size W w') := mkHid (fun W hb => Place_yes W lv ps t.1.cl t.1.nu k (h.ens.below hb) (by have := h.sl; omega) hk)
  have x11 : w.cell? ⟨p, 11, none⟩ = some (.bool r.rd) := cell_of_block h.blk rfl
  rw [hr] at x11
  have d0 : w.drew.cell? ⟨p, 24, none⟩ = some lv := cell_of_block h.blk rfl
  have d1 : w.drew.cell? ⟨p, 1, none⟩ = some (.int .i64 t.1.cl) := cell_of_block h.blk rfl
  have d2 : w.drew.cell? ⟨p, 2, none⟩ = some (.int .i64 t.1.nu) := cell_of_block h.blk rfl
  have HB0 : Hid (Below w.heap.size w w) := mkHid (Below.refl _ w)
  obtain ⟨la, lc, rfl⟩ := h.shape
  clear h hh hr hk
  generalize t.1.cl = cl at HP d1
  generalize t.1.nu = nu at HP d2
  go_enter Tryd.func23, Tryd.ntmps23
  go_wp2_with (go_at_call 45; (with_reducible refine HH.out.mono ?_); rintro e w1 ⟨rfl, hw⟩; subst hw)
  refine wp_region_held_drew (S := fun w' => w'.cell? ⟨p, 24, none⟩ = some (.slice la ps.length lc) ∧ w'.cell? ⟨p, 1, none⟩ = some (.int .i64 cl) ∧ w'.cell? ⟨p, 2, none⟩ = some (.int .i64 nu)) (by kernel_rfl) ⟨d0, d1, d2⟩ (fun hHeld => ?_)
  refine tkE 0 18 (.pointer (some ⟨p, 0, none⟩)) rfl rfl hHeld ?_
  simp only [sZ, sS]
  refine tkE 1 19 (.pointer (some ⟨p, 0, none⟩)) rfl rfl hHeld ?_
  simp only [sZ, sS]
  refine tkE 2 20 (.pointer (some ⟨p, 24, none⟩)) rfl rfl hHeld ?_
  simp only [sZ, sS]
  refine tkE 3 21 (.slice la ps.length lc) rfl rfl hHeld ?_
  simp only [sZ, sS]
  refine tkE 4 22 (.pointer (some ⟨p, 0, none⟩)) rfl rfl hHeld ?_
  simp only [sZ, sS]
  refine tkE 5 23 (.pointer (some ⟨p, 0, none⟩)) rfl rfl hHeld ?_
  simp only [sZ, sS]
  refine tkE 6 24 (.pointer (some ⟨p, 1, none⟩)) rfl rfl hHeld ?_
  simp only [sZ, sS]
  refine tkE 7 25 (.pointer (some ⟨p, 1, none⟩)) rfl rfl hHeld ?_
  simp only [sZ, sS]
  refine tkE 8 26 (.int .i64 cl) rfl rfl hHeld ?_
  simp only [sZ, sS]
  refine tkE 9 27 (.pointer (some ⟨p, 0, none⟩)) rfl rfl hHeld ?_
  simp only [sZ, sS]
  refine tkE 10 28 (.pointer (some ⟨p, 0, none⟩)) rfl rfl hHeld ?_
  simp only [sZ, sS]
  refine tkE 11 29 (.pointer (some ⟨p, 1, none⟩)) rfl rfl hHeld ?_
  simp only [sZ, sS]
  refine tkE 12 30 (.pointer (some ⟨p, 2, none⟩)) rfl rfl hHeld ?_
  simp only [sZ, sS]
  refine tkE 13 31 (.int .i64 nu) rfl rfl hHeld ?_
  simp only [sZ, sS]
  refine wpAnyH_ready (rs := [14]) (by kernel_rfl) (by simp) (AllReadyH.cons rfl (fun K hK => ?_) AllReadyH.nil)
  go_simp
  refine (HP.out w1.drew HB0.out.drew).mono ?_
  rintro e w2 ⟨rfl, bw2⟩
  have fw2_0 : w2.cell? ⟨p, 24, none⟩ = some (.slice la ps.length lc) := kc (show w1.drew.cell? _ = _ from d0) bw2
  have fw2_1 : w2.cell? ⟨p, 1, none⟩ = some (.int .i64 cl) := kc (show w1.drew.cell? _ = _ from d1) bw2
  have fw2_2 : w2.cell? ⟨p, 2, none⟩ = some (.int .i64 nu) := kc (show w1.drew.cell? _ = _ from d2) bw2
  have HB2 := mkHid (bt HB0.out.drew bw2)
  clear bw2 hHeld
  refine hK.out _ _ ⟨fw2_0, fw2_1, fw2_2⟩ (fun hHeld => ?_)
  clear hK K
  refine tkE 15 17 (.tuple #[.int .i64 ((k : Int) + 1), .nilIface]) rfl rfl hHeld ?_
  simp only [sZ, sS]
  refine tkE 16 33 (.int .i64 ((k : Int) + 1)) rfl rfl hHeld ?_
  simp only [sZ, sS]
  refine tkE 17 34 (.nilIface) rfl rfl hHeld ?_
  simp only [sZ, sS]
  refine tkE 18 3 (.int .i64 ((k : Int) + 1)) rfl rfl hHeld ?_
  simp only [sZ, sS]
  refine tkE 19 4 (.nilIface) rfl rfl hHeld ?_
  simp only [sZ, sS]
  refine wpAnyH_done (by kernel_rfl) ?_ _
  go_wp2
  go_ret
  exact ⟨rfl, HB2.out⟩
end Go.Proofs.YtjocjkfllicjdaaDoor

/- A round's New. -/
namespace Go.Proofs.YtjocjkfllicjdaaDoor
open Go.ChangeShapes Go.WideShapes Go.ChangeAt Go.RowKit
set_option maxRecDepth 100000
attribute [local go_sem] World.cell?_alloc_some frozen_alloc_some

theorem new_number (w : World) (n : Int) (t : Ep) (rd : Bool) (en : Addr) (hn : ¬ (1 ≤ n ∧ n ≤ 7)) (he : w.cell? ⟨1, 0, none⟩ = some (vErr en)) : Calls Tryd.prog 9 #[.int .i64 n, vP t, .bool rd] w fun e w' => e = .returned (.tuple #[.pointer none, vErr en]) ∧ Below w.heap.size w w' := by
  obtain ⟨e, ta, tc⟩ := t
  have he1 := kl he (oE e (.slice ta e.ts.length tc))
  simp only [vP, vN, tv]
  by_cases h1 : n < 1
  · go_enter Tryd.func9, Tryd.ntmps9
    go_wp2
    go_quiet (fail)
    go_wp2
    go_ret2
    exact ⟨rfl, drb (ba (Below.refl _ w) _) _⟩
  · have h7 : 7 < n := by omega
    go_enter Tryd.func9, Tryd.ntmps9
    go_wp2
    go_quiet (fail)
    go_wp2
    go_ret2
    exact ⟨rfl, drb (ba (Below.refl _ w) _) _⟩
def zEn1 : En := ⟨0, 0, 0, 0, 0, 0, 0, 0, [], 0⟩
theorem RB.made {w w1 w' : World} {p : Nat} {n : Int} {rd : Bool} {t : Ep} (hp : p = w1.heap.size) (h1 : Below w.heap.size w w1) (hb : w' = w1.alloc (oR (Rn.zero n rd) t (.slice none 0 0))) (hn : 1 ≤ n ∧ n ≤ 7) (ht : w1.ownsRow w.heap.size 45 4 (tv t) t.1.ts.length (t.1.ts.flatMap c4)) (hs : small t) :
    RB (fun k => w.heap.size ≤ k ∧ k < w'.heap.size) w' p (Rn.zero n rd) t (.slice none 0 0) [] := by
  subst hp
  have hs1 := h1.size
  subst hb
  have hz : (w1.alloc (oR (Rn.zero n rd) t (.slice none 0 0))).heap.size = w1.heap.size + 1 := by simp
  have hk := below_kept (fun _ => False) (ba (Below.refl _ w1) (oR (Rn.zero n rd) t (.slice none 0 0)))
  refine ⟨heap_alloc_new w1 _, ⟨hs1, by omega⟩, fun k h => h.2, own_up4 (ownN_kept ht hk (fun _ _ f => f)) (Nat.zero_le _), fun k e => ?_, ⟨World.ownsRow_nil _ _ _ _, by simp, by simp⟩, by simp [Value.ownBlock], by simp, hs, by simp, by simp, hn⟩
  have := ht.lt k e
  exact ⟨⟨this.1, by omega⟩, by omega⟩
set_option maxHeartbeats 3200000 in
theorem new_reads (w : World) (n : Int) (t : Ep) (hn : 1 ≤ n ∧ n ≤ 7) : Calls Tryd.prog 9 #[.int .i64 n, vP t, .bool true] w fun e w' => ∃ p, e = .returned (.tuple #[.pointer (some ⟨p, 0, none⟩), .nilIface]) ∧ RB (fun k => w.heap.size ≤ k ∧ k < w'.heap.size) w' p (Rn.zero n true) (zEn1, none, 0) (.slice none 0 0) [] ∧ Below w.heap.size w w' := by
  obtain ⟨e, ta, tc⟩ := t
  have h1 : ¬ n < 1 := by omega
  have h7 : ¬ 7 < n := by omega
  have HN := mkHid hn
  clear hn
  simp only [vP, vN, tv]
  go_enter Tryd.func9, Tryd.ntmps9
  go_wp2
  go_ret2
  exact ⟨_, rfl, RB.made (w1 := w.alloc (oE e (.slice ta e.ts.length tc))) (t := (zEn1, none, 0)) (by simp) (ba (Below.refl _ w) _) rfl HN.out (World.ownsRow_nil _ _ _ _) (by simp [small, zEn1]), ba (ba (Below.refl _ w) _) _⟩
set_option maxHeartbeats 3200000 in
theorem new_state (w : World) (n : Int) (t : Ep) (es : Addr) (hn : 1 ≤ n ∧ n ≤ 7) (ht : EnW w t) (hf : ¬ inF t.1) (he : w.cell? ⟨0, 0, none⟩ = some (vErr es)) : Calls Tryd.prog 9 #[.int .i64 n, vP t, .bool false] w fun e w' => e = .returned (.tuple #[.pointer none, vErr es]) ∧ Below w.heap.size w w' := by
  have HC : Hid (∀ W, Below w.heap.size w W → Calls Tryd.prog 27 #[vP t] W fun e w' => e = .returned (vErr es) ∧ Below W.heap.size W w') := mkHid (fun W hb => check_no W t es (ht.below hb) hf (kc he hb))
  obtain ⟨e, ta, tc⟩ := t
  have h1 : ¬ n < 1 := by omega
  have h7 : ¬ 7 < n := by omega
  clear hn ht hf he
  simp only [vP, vN, tv] at HC ⊢
  go_enter Tryd.func9, Tryd.ntmps9
  go_wp2_with (go_at_call 27; (with_reducible refine (HC.out _ (ba (Below.refl _ w) _)).mono ?_); rintro r1 w1 ⟨rfl, b1x⟩; have HB1 := mkHid (bt (ba (Below.refl _ w) (oE e (.slice ta e.ts.length tc))) b1x); clear b1x)
  go_ret2
  exact ⟨rfl, HB1.out⟩
set_option maxHeartbeats 3200000 in
theorem new_entry (w : World) (n : Int) (t : Ep) (hn : 1 ≤ n ∧ n ≤ 7) (ht : EnW w t) (hs : small t) (hf : inF t.1) : Calls Tryd.prog 9 #[.int .i64 n, vP t, .bool false] w fun e w' => ∃ p a c, e = .returned (.tuple #[.pointer (some ⟨p, 0, none⟩), .nilIface]) ∧ RB (fun k => w.heap.size ≤ k ∧ k < w'.heap.size) w' p (Rn.zero n false) (t.1, a, c) (.slice none 0 0) [] ∧ Below w.heap.size w w' := by
  have HC : Hid (∀ W, Below w.heap.size w W → Calls Tryd.prog 27 #[vP t] W fun e w' => e = .returned .nilIface ∧ Below W.heap.size W w') := mkHid (fun W hb => check_yes W t (ht.below hb) hf)
  obtain ⟨e, ta, tc⟩ := t
  have HE : Hid (∀ W, Below w.heap.size w W → Calls Tryd.prog 28 #[vP (e, ta, tc)] W fun r w' => ∃ a2 c2, r = .returned (vP (e, a2, c2)) ∧ w'.ownsRow W.heap.size 45 4 (.slice a2 e.ts.length c2) e.ts.length (e.ts.flatMap c4) ∧ Below W.heap.size W w') := mkHid (fun W hb => rcloneE_any W e ta tc (ht.below hb) hs)
  have h1 : ¬ n < 1 := by omega
  have h7 : ¬ 7 < n := by omega
  have HN := mkHid hn
  have HS := mkHid hs
  clear hn ht hf hs
  simp only [vP, vN, tv] at HC HE ⊢
  go_enter Tryd.func9, Tryd.ntmps9
  go_wp2_with (first
    | (go_at_call 27; (with_reducible refine (HC.out _ (ba (Below.refl _ w) _)).mono ?_); rintro r1 w1 ⟨rfl, b1x⟩; have HB1 := mkHid (bt (ba (Below.refl _ w) (oE e (.slice ta e.ts.length tc))) b1x); have hx := (b1x.block w.heap.size (by simp)).trans (heap_alloc_new w (oE e (.slice ta e.ts.length tc))); obtain ⟨q0, q1, q2, q3, q4, q5, q6, q7, q8, q9⟩ := ent_cells hx; clear b1x hx)
    | (go_at_call 28; (with_reducible refine (HE.out _ HB1.out).mono ?_); rintro r2 w2 ⟨a2, c2, rfl, ho2, b2x⟩; have HO2 := mkHid (own_up4 ho2 HB1.out.size); have HB2 := mkHid (bt HB1.out b2x); clear b2x ho2))
  go_ret2
  exact ⟨_, a2, c2, rfl, RB.made (t := (e, a2, c2)) rfl HB2.out rfl HN.out HO2.out HS.out, ba HB2.out _⟩
end Go.Proofs.YtjocjkfllicjdaaDoor

/- A round goes on with its ledger. -/
namespace Go.Proofs.YtjocjkfllicjdaaDoor
open Go.ChangeShapes Go.WideShapes Go.ChangeAt Go.RowKit
set_option maxRecDepth 100000
attribute [local go_sem] World.cell?_alloc_some frozen_alloc_some

/-- Behind a call: the round r' with the ledger l. -/
def TlP (G : Nat → Prop) (w : World) (p : Nat) (t : Ep) (r' : Rn) (l : List En) (w' : World) : Prop :=
  ∃ G' a c qs, RB G' w' p r' t (.slice a qs.length c) qs ∧ fs1 qs = l ∧ (∀ j, G' j → G j ∨ w.heap.size ≤ j) ∧ Kept (fun k => k = p) w w'
def tellS (r : Rn) (k n : Nat) : Rn := if r.rd then r.enter 2 else if k = 0 ∧ 64 ≤ n then r.enter 4 else r.enter 2
def tellL (rd : Bool) (k : Nat) (e : En) (l : List En) : List En := if rd then l else if k = 0 then (if 64 ≤ l.length then [] else l ++ [e]) else l
theorem tell_reads {G : Nat → Prop} {w : World} {p : Nat} {r : Rn} {t : Ep} {lv : Value} {ps : List Ep} (h : RB G w p r t lv ps) (hr : r.rd = true) : Calls Tryd.prog 44 #[.pointer (some ⟨p, 0, none⟩)] w fun e w' => e = .returned (.tuple #[]) ∧ TlP G w p t (r.enter 2) (fs1 ps) w' := by
  have x11 : w.cell? ⟨p, 11, none⟩ = some (.bool r.rd) := cell_of_block h.blk rfl
  rw [hr] at x11
  obtain ⟨la, lc, rfl⟩ := h.shape
  have HE := mkHid (enter_is 2 h)
  clear h hr
  go_enter Tryd.func44, Tryd.ntmps44
  go_wp2_with (go_at_call 40; (with_reducible refine HE.out.mono ?_); rintro e w6 ⟨rfl, h6, k6⟩; have H6 := mkHid (And.intro h6 k6); clear h6 k6)
  first | go_end0 | refine bodyPost_ret (results_none rfl _ _ _) rfl ?_
  exact ⟨rfl, G, _, _, ps, H6.out.1, rfl, fun j hj => .inl hj, H6.out.2⟩
/-- The ledger is put in, in memory from B on. -/
theorem RB.put {G : Nat → Prop} {w w1 : World} {p : Nat} {r : Rn} {t : Ep} {lv : Value} {ps qs : List Ep} {a : Option Addr} {c : Nat} (h : RB G w p r t lv ps) (hb : Below w.heap.size w w1) (hL : Led w.heap.size w1 (.slice a qs.length c) qs) (hs : ∀ u ∈ qs, small u) (hl : qs.length * 96 ≤ 140737488355328) :
    RB (fun k => G k ∨ (w.heap.size ≤ k ∧ k < w1.heap.size)) (w1.setCell ⟨p, 24, none⟩ (.slice a qs.length c)) p r t (.slice a qs.length c) qs ∧ Kept (fun k => k = p) w (w1.setCell ⟨p, 24, none⟩ (.slice a qs.length c)) := by
  have hp := h.lt p h.gp
  have h1 := h.below hb
  have hk := keptS w1 p 24 (.slice a qs.length c)
  have hk0 := (below_kept (fun k => k = p) hb).trans hk (fun _ e => .inl e)
  have hz : (w1.setCell ⟨p, 24, none⟩ (.slice a qs.length c)).heap.size = w1.heap.size := by simp [World.setCell]
  refine ⟨?_, hk0⟩
  rw [← hz]
  refine h.list (r' := r) (Nat.le_refl _) hk0 ?_ rfl (hL.kept hk (fun k e => .inl (by omega))) hs hl
  have hb := heap_set (i := 24) (v := .slice a qs.length c) h1.blk
  exact hb.trans (by kernel_rfl)
set_option maxHeartbeats 6400000 in
theorem tell_there {G : Nat → Prop} {w : World} {p : Nat} {r : Rn} {t : Ep} {lv : Value} {ps : List Ep} (k : Nat) (hk : PlIs (fs1 ps) t.1.cl t.1.nu (k + 1)) (h : RB G w p r t lv ps) (hr : r.rd = false) : Calls Tryd.prog 44 #[.pointer (some ⟨p, 0, none⟩)] w fun e w' => e = .returned (.tuple #[]) ∧ TlP G w p t (r.enter 2) (fs1 ps) w' := by
  have HA : Hid (∀ W, Below w.heap.size w W → Calls Tryd.prog 56 #[lv, vP t] W fun e w' => ∃ a2 c2 qs, e = .returned (.tuple #[.slice a2 qs.length c2, .int .i64 ((k : Int) + 1), .nilIface]) ∧ Led W.heap.size w' (.slice a2 qs.length c2) qs ∧ fs1 qs = fs1 ps ∧ Below W.heap.size W w') := mkHid (fun W hb => (add_there W lv ps t k (h.ens.below hb) h.sl h.su hk).mono (by rintro e w' ⟨v', qs, rfl, hl, hq, hb'⟩; obtain ⟨a2, c2, rfl, _⟩ := own_sh hl.own; exact ⟨a2, c2, qs, rfl, hl, hq, hb'⟩))
  obtain ⟨e, ta, tc⟩ := t
  have x11 : w.cell? ⟨p, 11, none⟩ = some (.bool r.rd) := cell_of_block h.blk rfl
  rw [hr] at x11
  obtain ⟨la, lc, rfl⟩ := h.shape
  have d0 : w.drew.cell? ⟨p, 24, none⟩ = some (.slice la ps.length lc) := cell_of_block h.blk rfl
  have d1 : w.drew.cell? ⟨p, 1, none⟩ = some (.int .i64 e.cl) := cell_of_block h.blk rfl
  have d2 : w.drew.cell? ⟨p, 2, none⟩ = some (.int .i64 e.nu) := cell_of_block h.blk rfl
  have d3 : w.drew.cell? ⟨p, 3, none⟩ = some (.int .i64 e.ki) := cell_of_block h.blk rfl
  have d4 : w.drew.cell? ⟨p, 4, none⟩ = some (.int .i64 e.id) := cell_of_block h.blk rfl
  have d5 : w.drew.cell? ⟨p, 5, none⟩ = some (.int .i64 e.sk) := cell_of_block h.blk rfl
  have d6 : w.drew.cell? ⟨p, 6, none⟩ = some (.int .i64 e.sq) := cell_of_block h.blk rfl
  have d7 : w.drew.cell? ⟨p, 7, none⟩ = some (.int .i64 e.st) := cell_of_block h.blk rfl
  have d8 : w.drew.cell? ⟨p, 8, none⟩ = some (.int .i64 e.po) := cell_of_block h.blk rfl
  have d9 : w.drew.cell? ⟨p, 9, none⟩ = some (.slice ta e.ts.length tc) := cell_of_block h.blk rfl
  have d10 : w.drew.cell? ⟨p, 10, none⟩ = some (.int .i64 e.tm) := cell_of_block h.blk rfl
  have HB0 : Hid (Below w.heap.size w w) := mkHid (Below.refl _ w)
  have H := mkHid h
  clear hk hr h
  simp only [vP, vN, tv] at HA
  go_enter Tryd.func44, Tryd.ntmps44
  go_wp2
  refine wp_region_held_drew (S := fun w' => w'.cell? ⟨p, 24, none⟩ = some (.slice la ps.length lc) ∧ w'.cell? ⟨p, 1, none⟩ = some (.int .i64 e.cl) ∧ w'.cell? ⟨p, 2, none⟩ = some (.int .i64 e.nu) ∧ w'.cell? ⟨p, 3, none⟩ = some (.int .i64 e.ki) ∧ w'.cell? ⟨p, 4, none⟩ = some (.int .i64 e.id) ∧ w'.cell? ⟨p, 5, none⟩ = some (.int .i64 e.sk) ∧ w'.cell? ⟨p, 6, none⟩ = some (.int .i64 e.sq) ∧ w'.cell? ⟨p, 7, none⟩ = some (.int .i64 e.st) ∧ w'.cell? ⟨p, 8, none⟩ = some (.int .i64 e.po) ∧ w'.cell? ⟨p, 9, none⟩ = some (.slice ta e.ts.length tc) ∧ w'.cell? ⟨p, 10, none⟩ = some (.int .i64 e.tm)) (by kernel_rfl) ⟨d0, d1, d2, d3, d4, d5, d6, d7, d8, d9, d10⟩ (fun hHeld => ?_)
  refine tkE 0 12 (.pointer (some ⟨p, 0, none⟩)) rfl rfl hHeld ?_
  simp only [sZ, sS]
  refine tkE 1 13 (.pointer (some ⟨p, 0, none⟩)) rfl rfl hHeld ?_
  simp only [sZ, sS]
  refine tkE 2 14 (.pointer (some ⟨p, 24, none⟩)) rfl rfl hHeld ?_
  simp only [sZ, sS]
  refine tkE 3 15 (.slice la ps.length lc) rfl rfl hHeld ?_
  simp only [sZ, sS]
  refine tkE 4 16 (.pointer (some ⟨p, 0, none⟩)) rfl rfl hHeld ?_
  simp only [sZ, sS]
  refine tkE 5 17 (.pointer (some ⟨p, 0, none⟩)) rfl rfl hHeld ?_
  simp only [sZ, sS]
  refine tkE 6 18 (.pointer (some ⟨p, 1, none⟩)) rfl rfl hHeld ?_
  simp only [sZ, sS]
  refine tkE 7 19 (.agg #[.int .i64 e.cl, .int .i64 e.nu, .int .i64 e.ki, .int .i64 e.id, .int .i64 e.sk, .int .i64 e.sq, .int .i64 e.st, .int .i64 e.po, .slice ta e.ts.length tc, .int .i64 e.tm]) rfl rfl hHeld ?_
  simp only [sZ, sS]
  refine wpAnyH_ready (rs := [8]) (by kernel_rfl) (by simp) (AllReadyH.cons rfl (fun K hK => ?_) AllReadyH.nil)
  go_simp
  refine (HA.out w.drew HB0.out.drew).mono ?_
  rintro e w2 ⟨a2, c2, qs, rfl, hl2, hq2, bw2⟩
  have fw2_0 : w2.cell? ⟨p, 24, none⟩ = some (.slice la ps.length lc) := kc (show w.drew.cell? _ = _ from d0) bw2
  have fw2_1 : w2.cell? ⟨p, 1, none⟩ = some (.int .i64 e.cl) := kc (show w.drew.cell? _ = _ from d1) bw2
  have fw2_2 : w2.cell? ⟨p, 2, none⟩ = some (.int .i64 e.nu) := kc (show w.drew.cell? _ = _ from d2) bw2
  have fw2_3 : w2.cell? ⟨p, 3, none⟩ = some (.int .i64 e.ki) := kc (show w.drew.cell? _ = _ from d3) bw2
  have fw2_4 : w2.cell? ⟨p, 4, none⟩ = some (.int .i64 e.id) := kc (show w.drew.cell? _ = _ from d4) bw2
  have fw2_5 : w2.cell? ⟨p, 5, none⟩ = some (.int .i64 e.sk) := kc (show w.drew.cell? _ = _ from d5) bw2
  have fw2_6 : w2.cell? ⟨p, 6, none⟩ = some (.int .i64 e.sq) := kc (show w.drew.cell? _ = _ from d6) bw2
  have fw2_7 : w2.cell? ⟨p, 7, none⟩ = some (.int .i64 e.st) := kc (show w.drew.cell? _ = _ from d7) bw2
  have fw2_8 : w2.cell? ⟨p, 8, none⟩ = some (.int .i64 e.po) := kc (show w.drew.cell? _ = _ from d8) bw2
  have fw2_9 : w2.cell? ⟨p, 9, none⟩ = some (.slice ta e.ts.length tc) := kc (show w.drew.cell? _ = _ from d9) bw2
  have fw2_10 : w2.cell? ⟨p, 10, none⟩ = some (.int .i64 e.tm) := kc (show w.drew.cell? _ = _ from d10) bw2
  have HB2 := mkHid (bt HB0.out.drew bw2)
  clear bw2 hHeld
  refine hK.out _ _ ⟨fw2_0, fw2_1, fw2_2, fw2_3, fw2_4, fw2_5, fw2_6, fw2_7, fw2_8, fw2_9, fw2_10⟩ (fun hHeld => ?_)
  clear hK K
  refine tkE 9 11 (.tuple #[.slice a2 qs.length c2, .int .i64 ((k : Int) + 1), .nilIface]) rfl rfl hHeld ?_
  simp only [sZ, sS]
  refine tkE 10 21 (.slice a2 qs.length c2) rfl rfl hHeld ?_
  simp only [sZ, sS]
  refine tkE 11 22 (.int .i64 ((k : Int) + 1)) rfl rfl hHeld ?_
  simp only [sZ, sS]
  refine tkE 12 23 (.nilIface) rfl rfl hHeld ?_
  simp only [sZ, sS]
  refine tkE 13 3 (.slice a2 qs.length c2) rfl rfl hHeld ?_
  simp only [sZ, sS]
  refine tkE 14 4 (.int .i64 ((k : Int) + 1)) rfl rfl hHeld ?_
  simp only [sZ, sS]
  refine tkE 15 5 (.nilIface) rfl rfl hHeld ?_
  simp only [sZ, sS]
  refine wpAnyH_done (by kernel_rfl) ?_ _
  have h := H.out
  have H5 := mkHid (h.put HB2.out (hl2.low HB0.out.size) (small_fs hq2 h.su) (by rw [len_fs hq2]; exact h.sl))
  have HQ := mkHid hq2
  have z24 : w2.cell? ⟨p, 24, none⟩ = some (.slice la ps.length lc) := fw2_0
  have f24 := frozen_of_block (i := 24) (h.below HB2.out).blk
  clear h hl2 hq2 fw2_0 fw2_1 fw2_2 fw2_3 fw2_4 fw2_5 fw2_6 fw2_7 fw2_8 fw2_9 fw2_10
  go_wp2_with (go_at_call 40; (with_reducible refine (enter_is 2 H5.out.1).mono ?_); rintro e w6 ⟨rfl, h6, k6⟩; have H6 := mkHid (And.intro h6 k6); clear h6 k6)
  first | go_end0 | refine bodyPost_ret (results_none rfl _ _ _) rfl ?_
  exact ⟨rfl, _, _, _, qs, H6.out.1, HQ.out, fun j hj => hj.imp id (fun e => e.1), H5.out.2.trans H6.out.2 (fun _ e => .inl e)⟩
theorem small_snoc {ps qs : List Ep} {t : Ep} (h : fs1 qs = fs1 ps ++ [t.1]) (hs : ∀ u ∈ ps, small u) (ht : small t) : ∀ u ∈ qs, small u :=
  small_fs (ps := ps ++ [t]) (by rw [h]; simp [fs1]) (fun u hu => by
    rcases List.mem_append.mp hu with m | m
    · exact hs u m
    · simp at m; subst m; exact ht)
theorem len_snoc {ps qs : List Ep} {t : Ep} (h : fs1 qs = fs1 ps ++ [t.1]) (h64 : ps.length < 64) : qs.length * 96 ≤ 140737488355328 := by
  have := congrArg List.length h
  simp [fs1] at this
  omega
set_option maxHeartbeats 6400000 in
theorem tell_new {G : Nat → Prop} {w : World} {p : Nat} {r : Rn} {t : Ep} {lv : Value} {ps : List Ep} (hk : PlIs (fs1 ps) t.1.cl t.1.nu 0) (h64 : ps.length < 64) (h : RB G w p r t lv ps) (hr : r.rd = false) : Calls Tryd.prog 44 #[.pointer (some ⟨p, 0, none⟩)] w fun e w' => e = .returned (.tuple #[]) ∧ TlP G w p t (r.enter 2) (fs1 ps ++ [t.1]) w' := by
  have HA : Hid (∀ W, Below w.heap.size w W → Calls Tryd.prog 56 #[lv, vP t] W fun e w' => ∃ a2 c2 qs, e = .returned (.tuple #[.slice a2 qs.length c2, .int .i64 ((ps.length : Int) + 1), .nilIface]) ∧ Led W.heap.size w' (.slice a2 qs.length c2) qs ∧ fs1 qs = fs1 ps ++ [t.1] ∧ Below W.heap.size W w') := mkHid (fun W hb => (add_new W lv ps t (h.ens.below hb) h.su (h.ent.below hb) h.st hk h64).mono (by rintro e w' ⟨v', qs, rfl, hl, hq, hb'⟩; obtain ⟨a2, c2, rfl, _⟩ := own_sh hl.own; exact ⟨a2, c2, qs, rfl, hl, hq, hb'⟩))
  obtain ⟨e, ta, tc⟩ := t
  have x11 : w.cell? ⟨p, 11, none⟩ = some (.bool r.rd) := cell_of_block h.blk rfl
  rw [hr] at x11
  obtain ⟨la, lc, rfl⟩ := h.shape
  have d0 : w.drew.cell? ⟨p, 24, none⟩ = some (.slice la ps.length lc) := cell_of_block h.blk rfl
  have d1 : w.drew.cell? ⟨p, 1, none⟩ = some (.int .i64 e.cl) := cell_of_block h.blk rfl
  have d2 : w.drew.cell? ⟨p, 2, none⟩ = some (.int .i64 e.nu) := cell_of_block h.blk rfl
  have d3 : w.drew.cell? ⟨p, 3, none⟩ = some (.int .i64 e.ki) := cell_of_block h.blk rfl
  have d4 : w.drew.cell? ⟨p, 4, none⟩ = some (.int .i64 e.id) := cell_of_block h.blk rfl
  have d5 : w.drew.cell? ⟨p, 5, none⟩ = some (.int .i64 e.sk) := cell_of_block h.blk rfl
  have d6 : w.drew.cell? ⟨p, 6, none⟩ = some (.int .i64 e.sq) := cell_of_block h.blk rfl
  have d7 : w.drew.cell? ⟨p, 7, none⟩ = some (.int .i64 e.st) := cell_of_block h.blk rfl
  have d8 : w.drew.cell? ⟨p, 8, none⟩ = some (.int .i64 e.po) := cell_of_block h.blk rfl
  have d9 : w.drew.cell? ⟨p, 9, none⟩ = some (.slice ta e.ts.length tc) := cell_of_block h.blk rfl
  have d10 : w.drew.cell? ⟨p, 10, none⟩ = some (.int .i64 e.tm) := cell_of_block h.blk rfl
  have HB0 : Hid (Below w.heap.size w w) := mkHid (Below.refl _ w)
  have H := mkHid h
  clear hk hr h
  simp only [vP, vN, tv] at HA
  go_enter Tryd.func44, Tryd.ntmps44
  go_wp2
  refine wp_region_held_drew (S := fun w' => w'.cell? ⟨p, 24, none⟩ = some (.slice la ps.length lc) ∧ w'.cell? ⟨p, 1, none⟩ = some (.int .i64 e.cl) ∧ w'.cell? ⟨p, 2, none⟩ = some (.int .i64 e.nu) ∧ w'.cell? ⟨p, 3, none⟩ = some (.int .i64 e.ki) ∧ w'.cell? ⟨p, 4, none⟩ = some (.int .i64 e.id) ∧ w'.cell? ⟨p, 5, none⟩ = some (.int .i64 e.sk) ∧ w'.cell? ⟨p, 6, none⟩ = some (.int .i64 e.sq) ∧ w'.cell? ⟨p, 7, none⟩ = some (.int .i64 e.st) ∧ w'.cell? ⟨p, 8, none⟩ = some (.int .i64 e.po) ∧ w'.cell? ⟨p, 9, none⟩ = some (.slice ta e.ts.length tc) ∧ w'.cell? ⟨p, 10, none⟩ = some (.int .i64 e.tm)) (by kernel_rfl) ⟨d0, d1, d2, d3, d4, d5, d6, d7, d8, d9, d10⟩ (fun hHeld => ?_)
  refine tkE 0 12 (.pointer (some ⟨p, 0, none⟩)) rfl rfl hHeld ?_
  simp only [sZ, sS]
  refine tkE 1 13 (.pointer (some ⟨p, 0, none⟩)) rfl rfl hHeld ?_
  simp only [sZ, sS]
  refine tkE 2 14 (.pointer (some ⟨p, 24, none⟩)) rfl rfl hHeld ?_
  simp only [sZ, sS]
  refine tkE 3 15 (.slice la ps.length lc) rfl rfl hHeld ?_
  simp only [sZ, sS]
  refine tkE 4 16 (.pointer (some ⟨p, 0, none⟩)) rfl rfl hHeld ?_
  simp only [sZ, sS]
  refine tkE 5 17 (.pointer (some ⟨p, 0, none⟩)) rfl rfl hHeld ?_
  simp only [sZ, sS]
  refine tkE 6 18 (.pointer (some ⟨p, 1, none⟩)) rfl rfl hHeld ?_
  simp only [sZ, sS]
  refine tkE 7 19 (.agg #[.int .i64 e.cl, .int .i64 e.nu, .int .i64 e.ki, .int .i64 e.id, .int .i64 e.sk, .int .i64 e.sq, .int .i64 e.st, .int .i64 e.po, .slice ta e.ts.length tc, .int .i64 e.tm]) rfl rfl hHeld ?_
  simp only [sZ, sS]
  refine wpAnyH_ready (rs := [8]) (by kernel_rfl) (by simp) (AllReadyH.cons rfl (fun K hK => ?_) AllReadyH.nil)
  go_simp
  refine (HA.out w.drew HB0.out.drew).mono ?_
  rintro e w2 ⟨a2, c2, qs, rfl, hl2, hq2, bw2⟩
  have fw2_0 : w2.cell? ⟨p, 24, none⟩ = some (.slice la ps.length lc) := kc (show w.drew.cell? _ = _ from d0) bw2
  have fw2_1 : w2.cell? ⟨p, 1, none⟩ = some (.int .i64 e.cl) := kc (show w.drew.cell? _ = _ from d1) bw2
  have fw2_2 : w2.cell? ⟨p, 2, none⟩ = some (.int .i64 e.nu) := kc (show w.drew.cell? _ = _ from d2) bw2
  have fw2_3 : w2.cell? ⟨p, 3, none⟩ = some (.int .i64 e.ki) := kc (show w.drew.cell? _ = _ from d3) bw2
  have fw2_4 : w2.cell? ⟨p, 4, none⟩ = some (.int .i64 e.id) := kc (show w.drew.cell? _ = _ from d4) bw2
  have fw2_5 : w2.cell? ⟨p, 5, none⟩ = some (.int .i64 e.sk) := kc (show w.drew.cell? _ = _ from d5) bw2
  have fw2_6 : w2.cell? ⟨p, 6, none⟩ = some (.int .i64 e.sq) := kc (show w.drew.cell? _ = _ from d6) bw2
  have fw2_7 : w2.cell? ⟨p, 7, none⟩ = some (.int .i64 e.st) := kc (show w.drew.cell? _ = _ from d7) bw2
  have fw2_8 : w2.cell? ⟨p, 8, none⟩ = some (.int .i64 e.po) := kc (show w.drew.cell? _ = _ from d8) bw2
  have fw2_9 : w2.cell? ⟨p, 9, none⟩ = some (.slice ta e.ts.length tc) := kc (show w.drew.cell? _ = _ from d9) bw2
  have fw2_10 : w2.cell? ⟨p, 10, none⟩ = some (.int .i64 e.tm) := kc (show w.drew.cell? _ = _ from d10) bw2
  have HB2 := mkHid (bt HB0.out.drew bw2)
  clear bw2 hHeld
  refine hK.out _ _ ⟨fw2_0, fw2_1, fw2_2, fw2_3, fw2_4, fw2_5, fw2_6, fw2_7, fw2_8, fw2_9, fw2_10⟩ (fun hHeld => ?_)
  clear hK K
  refine tkE 9 11 (.tuple #[.slice a2 qs.length c2, .int .i64 ((ps.length : Int) + 1), .nilIface]) rfl rfl hHeld ?_
  simp only [sZ, sS]
  refine tkE 10 21 (.slice a2 qs.length c2) rfl rfl hHeld ?_
  simp only [sZ, sS]
  refine tkE 11 22 (.int .i64 ((ps.length : Int) + 1)) rfl rfl hHeld ?_
  simp only [sZ, sS]
  refine tkE 12 23 (.nilIface) rfl rfl hHeld ?_
  simp only [sZ, sS]
  refine tkE 13 3 (.slice a2 qs.length c2) rfl rfl hHeld ?_
  simp only [sZ, sS]
  refine tkE 14 4 (.int .i64 ((ps.length : Int) + 1)) rfl rfl hHeld ?_
  simp only [sZ, sS]
  refine tkE 15 5 (.nilIface) rfl rfl hHeld ?_
  simp only [sZ, sS]
  refine wpAnyH_done (by kernel_rfl) ?_ _
  have h := H.out
  have H5 := mkHid (h.put HB2.out (hl2.low HB0.out.size) (small_snoc hq2 h.su h.st) (len_snoc (t := (e, ta, tc)) hq2 h64))
  have HQ := mkHid hq2
  have z24 : w2.cell? ⟨p, 24, none⟩ = some (.slice la ps.length lc) := fw2_0
  have f24 := frozen_of_block (i := 24) (h.below HB2.out).blk
  clear h hl2 hq2 fw2_0 fw2_1 fw2_2 fw2_3 fw2_4 fw2_5 fw2_6 fw2_7 fw2_8 fw2_9 fw2_10
  go_wp2_with (go_at_call 40; (with_reducible refine (enter_is 2 H5.out.1).mono ?_); rintro e w6 ⟨rfl, h6, k6⟩; have H6 := mkHid (And.intro h6 k6); clear h6 k6)
  first | go_end0 | refine bodyPost_ret (results_none rfl _ _ _) rfl ?_
  exact ⟨rfl, _, _, _, qs, H6.out.1, HQ.out, fun j hj => hj.imp id (fun e => e.1), H5.out.2.trans H6.out.2 (fun _ e => .inl e)⟩
set_option maxHeartbeats 6400000 in
theorem tell_full {G : Nat → Prop} {w : World} {p : Nat} {r : Rn} {t : Ep} {lv : Value} {ps : List Ep} (ef : Addr) (hk : PlIs (fs1 ps) t.1.cl t.1.nu 0) (h64 : 64 ≤ ps.length) (he : w.cell? ⟨7, 0, none⟩ = some (vErr ef)) (h : RB G w p r t lv ps) (hr : r.rd = false) : Calls Tryd.prog 44 #[.pointer (some ⟨p, 0, none⟩)] w fun e w' => e = .returned (.tuple #[]) ∧ TlP G w p t (r.enter 4) [] w' := by
  have HA : Hid (∀ W, Below w.heap.size w W → Calls Tryd.prog 56 #[lv, vP t] W fun e w' => e = .returned (.tuple #[.slice none 0 0, .int .i64 0, vErr ef]) ∧ Below W.heap.size W w') := mkHid (fun W hb => add_full W lv ps t ef (h.ens.below hb) (by have := h.sl; omega) hk h64 (kc he hb))
  obtain ⟨e, ta, tc⟩ := t
  have x11 : w.cell? ⟨p, 11, none⟩ = some (.bool r.rd) := cell_of_block h.blk rfl
  rw [hr] at x11
  obtain ⟨la, lc, rfl⟩ := h.shape
  have d0 : w.drew.cell? ⟨p, 24, none⟩ = some (.slice la ps.length lc) := cell_of_block h.blk rfl
  have d1 : w.drew.cell? ⟨p, 1, none⟩ = some (.int .i64 e.cl) := cell_of_block h.blk rfl
  have d2 : w.drew.cell? ⟨p, 2, none⟩ = some (.int .i64 e.nu) := cell_of_block h.blk rfl
  have d3 : w.drew.cell? ⟨p, 3, none⟩ = some (.int .i64 e.ki) := cell_of_block h.blk rfl
  have d4 : w.drew.cell? ⟨p, 4, none⟩ = some (.int .i64 e.id) := cell_of_block h.blk rfl
  have d5 : w.drew.cell? ⟨p, 5, none⟩ = some (.int .i64 e.sk) := cell_of_block h.blk rfl
  have d6 : w.drew.cell? ⟨p, 6, none⟩ = some (.int .i64 e.sq) := cell_of_block h.blk rfl
  have d7 : w.drew.cell? ⟨p, 7, none⟩ = some (.int .i64 e.st) := cell_of_block h.blk rfl
  have d8 : w.drew.cell? ⟨p, 8, none⟩ = some (.int .i64 e.po) := cell_of_block h.blk rfl
  have d9 : w.drew.cell? ⟨p, 9, none⟩ = some (.slice ta e.ts.length tc) := cell_of_block h.blk rfl
  have d10 : w.drew.cell? ⟨p, 10, none⟩ = some (.int .i64 e.tm) := cell_of_block h.blk rfl
  have HB0 : Hid (Below w.heap.size w w) := mkHid (Below.refl _ w)
  have H := mkHid h
  clear hk hr h he
  simp only [vP, vN, tv] at HA
  go_enter Tryd.func44, Tryd.ntmps44
  go_wp2
  refine wp_region_held_drew (S := fun w' => w'.cell? ⟨p, 24, none⟩ = some (.slice la ps.length lc) ∧ w'.cell? ⟨p, 1, none⟩ = some (.int .i64 e.cl) ∧ w'.cell? ⟨p, 2, none⟩ = some (.int .i64 e.nu) ∧ w'.cell? ⟨p, 3, none⟩ = some (.int .i64 e.ki) ∧ w'.cell? ⟨p, 4, none⟩ = some (.int .i64 e.id) ∧ w'.cell? ⟨p, 5, none⟩ = some (.int .i64 e.sk) ∧ w'.cell? ⟨p, 6, none⟩ = some (.int .i64 e.sq) ∧ w'.cell? ⟨p, 7, none⟩ = some (.int .i64 e.st) ∧ w'.cell? ⟨p, 8, none⟩ = some (.int .i64 e.po) ∧ w'.cell? ⟨p, 9, none⟩ = some (.slice ta e.ts.length tc) ∧ w'.cell? ⟨p, 10, none⟩ = some (.int .i64 e.tm)) (by kernel_rfl) ⟨d0, d1, d2, d3, d4, d5, d6, d7, d8, d9, d10⟩ (fun hHeld => ?_)
  refine tkE 0 12 (.pointer (some ⟨p, 0, none⟩)) rfl rfl hHeld ?_
  simp only [sZ, sS]
  refine tkE 1 13 (.pointer (some ⟨p, 0, none⟩)) rfl rfl hHeld ?_
  simp only [sZ, sS]
  refine tkE 2 14 (.pointer (some ⟨p, 24, none⟩)) rfl rfl hHeld ?_
  simp only [sZ, sS]
  refine tkE 3 15 (.slice la ps.length lc) rfl rfl hHeld ?_
  simp only [sZ, sS]
  refine tkE 4 16 (.pointer (some ⟨p, 0, none⟩)) rfl rfl hHeld ?_
  simp only [sZ, sS]
  refine tkE 5 17 (.pointer (some ⟨p, 0, none⟩)) rfl rfl hHeld ?_
  simp only [sZ, sS]
  refine tkE 6 18 (.pointer (some ⟨p, 1, none⟩)) rfl rfl hHeld ?_
  simp only [sZ, sS]
  refine tkE 7 19 (.agg #[.int .i64 e.cl, .int .i64 e.nu, .int .i64 e.ki, .int .i64 e.id, .int .i64 e.sk, .int .i64 e.sq, .int .i64 e.st, .int .i64 e.po, .slice ta e.ts.length tc, .int .i64 e.tm]) rfl rfl hHeld ?_
  simp only [sZ, sS]
  refine wpAnyH_ready (rs := [8]) (by kernel_rfl) (by simp) (AllReadyH.cons rfl (fun K hK => ?_) AllReadyH.nil)
  go_simp
  refine (HA.out w.drew HB0.out.drew).mono ?_
  rintro e w2 ⟨rfl, bw2⟩
  have fw2_0 : w2.cell? ⟨p, 24, none⟩ = some (.slice la ps.length lc) := kc (show w.drew.cell? _ = _ from d0) bw2
  have fw2_1 : w2.cell? ⟨p, 1, none⟩ = some (.int .i64 e.cl) := kc (show w.drew.cell? _ = _ from d1) bw2
  have fw2_2 : w2.cell? ⟨p, 2, none⟩ = some (.int .i64 e.nu) := kc (show w.drew.cell? _ = _ from d2) bw2
  have fw2_3 : w2.cell? ⟨p, 3, none⟩ = some (.int .i64 e.ki) := kc (show w.drew.cell? _ = _ from d3) bw2
  have fw2_4 : w2.cell? ⟨p, 4, none⟩ = some (.int .i64 e.id) := kc (show w.drew.cell? _ = _ from d4) bw2
  have fw2_5 : w2.cell? ⟨p, 5, none⟩ = some (.int .i64 e.sk) := kc (show w.drew.cell? _ = _ from d5) bw2
  have fw2_6 : w2.cell? ⟨p, 6, none⟩ = some (.int .i64 e.sq) := kc (show w.drew.cell? _ = _ from d6) bw2
  have fw2_7 : w2.cell? ⟨p, 7, none⟩ = some (.int .i64 e.st) := kc (show w.drew.cell? _ = _ from d7) bw2
  have fw2_8 : w2.cell? ⟨p, 8, none⟩ = some (.int .i64 e.po) := kc (show w.drew.cell? _ = _ from d8) bw2
  have fw2_9 : w2.cell? ⟨p, 9, none⟩ = some (.slice ta e.ts.length tc) := kc (show w.drew.cell? _ = _ from d9) bw2
  have fw2_10 : w2.cell? ⟨p, 10, none⟩ = some (.int .i64 e.tm) := kc (show w.drew.cell? _ = _ from d10) bw2
  have HB2 := mkHid (bt HB0.out.drew bw2)
  clear bw2 hHeld
  refine hK.out _ _ ⟨fw2_0, fw2_1, fw2_2, fw2_3, fw2_4, fw2_5, fw2_6, fw2_7, fw2_8, fw2_9, fw2_10⟩ (fun hHeld => ?_)
  clear hK K
  refine tkE 9 11 (.tuple #[.slice none 0 0, .int .i64 0, .iface 108 (.pointer (some ef))]) rfl rfl hHeld ?_
  simp only [sZ, sS]
  refine tkE 10 21 (.slice none 0 0) rfl rfl hHeld ?_
  simp only [sZ, sS]
  refine tkE 11 22 (.int .i64 0) rfl rfl hHeld ?_
  simp only [sZ, sS]
  refine tkE 12 23 (.iface 108 (.pointer (some ef))) rfl rfl hHeld ?_
  simp only [sZ, sS]
  refine tkE 13 3 (.slice none 0 0) rfl rfl hHeld ?_
  simp only [sZ, sS]
  refine tkE 14 4 (.int .i64 0) rfl rfl hHeld ?_
  simp only [sZ, sS]
  refine tkE 15 5 (.iface 108 (.pointer (some ef))) rfl rfl hHeld ?_
  simp only [sZ, sS]
  refine wpAnyH_done (by kernel_rfl) ?_ _
  have h := H.out
  have hk5 : Kept (fun k => k = p) w (w2.setCell ⟨p, 24, none⟩ (.slice none 0 0)) := (below_kept _ HB2.out).trans (keptS w2 p 24 _) (fun _ e => .inl e)
  have H5 := mkHid (And.intro (h.void (r' := r) hk5 ((heap_set (i := 24) (v := .slice none 0 0) (h.below HB2.out).blk).trans (by kernel_rfl)) rfl) hk5)
  have z24 : w2.cell? ⟨p, 24, none⟩ = some (.slice la ps.length lc) := fw2_0
  have f24 := frozen_of_block (i := 24) (h.below HB2.out).blk
  clear h hk5 fw2_0 fw2_1 fw2_2 fw2_3 fw2_4 fw2_5 fw2_6 fw2_7 fw2_8 fw2_9 fw2_10
  go_wp2_with (go_at_call 40; (with_reducible refine (enter_is 4 H5.out.1).mono ?_); rintro e w6 ⟨rfl, h6, k6⟩; have H6 := mkHid (And.intro h6 k6); clear h6 k6)
  first | go_end0 | refine bodyPost_ret (results_none rfl _ _ _) rfl ?_
  exact ⟨rfl, G, _, _, [], H6.out.1, rfl, fun j hj => .inl hj, H5.out.2.trans H6.out.2 (fun _ e => .inl e)⟩
end Go.Proofs.YtjocjkfllicjdaaDoor

/- A round's Promise. -/
namespace Go.Proofs.YtjocjkfllicjdaaDoor
open Go.ChangeShapes Go.WideShapes Go.ChangeAt Go.RowKit
set_option maxRecDepth 100000
attribute [local go_sem] World.cell?_alloc_some frozen_alloc_some

def hearN (r : Rn) (i : Nat) (a : Bl) : Rn := { r.hear i with nw := if aboveB a r.nw then a else r.nw }
theorem hear_cnt (r : Rn) (i : Nat) (a : Bl) : (hearN r i a).cnt = (r.hear i).cnt := rfl
def newL (r : Rn) (a : Bl) (l m : List En) : List En := if aboveB a r.nw then m else l
theorem promise_no {G : Nat → Prop} {w : World} {p : Nat} {r : Rn} {t : Ep} {lv : Value} {ps : List Ep} (f : Int) (b a : Bl) (v : Value) (h : RB G w p r t lv ps) (hc : cntsB r 1 f b = false) : Calls Tryd.prog 19 #[.pointer (some ⟨p, 0, none⟩), .int .i64 f, vB b, vB a, v] w fun e w' => e = .returned (.bool false) ∧ Below w.heap.size w w' := by
  have HC : Hid (∀ W, Below w.heap.size w W → Calls Tryd.prog 41 #[.pointer (some ⟨p, 0, none⟩), .int .i64 1, .int .i64 f, vB b] W fun e w' => e = .returned (.bool false) ∧ Below W.heap.size W w') := mkHid (fun W hb => by have := counts_is 1 f b (h.below hb); rw [hc] at this; exact this)
  clear h hc
  obtain ⟨b1, b2⟩ := b
  obtain ⟨a1, a2⟩ := a
  simp only [vB] at HC ⊢
  go_enter Tryd.func19, Tryd.ntmps19
  go_wp2_with (go_at_call 41; (with_reducible refine (HC.out _ (ba (ba (Below.refl _ w) _) _)).mono ?_); rintro e w1 ⟨rfl, b1x⟩; have HB1 := mkHid (bt (ba (ba (Below.refl _ w) (oB (b1, b2))) (oB (a1, a2))) b1x); clear b1x)
  go_ret
  exact ⟨rfl, HB1.out⟩
/-- What stands behind the newest ballot and its ledger, where the promise tells a newer one. -/
theorem RB.newer {G : Nat → Prop} {w w2 w3 : World} {p : Nat} {r : Rn} {t : Ep} {lv : Value} {ps qs : List Ep} {a : Option Addr} {c : Nat} {x1 x2 : Int} (h : RB G w2 p r t lv ps) (hw : Kept (fun k => k = p) w w2) (hb : Below w2.heap.size w2 w3) (hL : Led w2.heap.size w3 (.slice a qs.length c) qs) (hs : ∀ u ∈ qs, small u) (hl : qs.length * 96 ≤ 140737488355328) :
    RB (fun k => G k ∨ (w2.heap.size ≤ k ∧ k < w3.heap.size)) (((w3.setCell ⟨p, 22, none⟩ (.int .i64 x1)).setCell ⟨p, 23, none⟩ (.int .i64 x2)).setCell ⟨p, 24, none⟩ (.slice a qs.length c)) p { r with nw := (x1, x2) } t (.slice a qs.length c) qs ∧ Kept (fun k => k = p) w (((w3.setCell ⟨p, 22, none⟩ (.int .i64 x1)).setCell ⟨p, 23, none⟩ (.int .i64 x2)).setCell ⟨p, 24, none⟩ (.slice a qs.length c)) := by
  have hp := h.lt p h.gp
  have h1 := h.below hb
  have hk := keptT (keptT (keptS w3 p 22 (.int .i64 x1)) 23 (.int .i64 x2)) 24 (.slice a qs.length c)
  have hk0 := (below_kept (fun k => k = p) hb).trans hk (fun _ e => .inl e)
  have hz : (((w3.setCell ⟨p, 22, none⟩ (.int .i64 x1)).setCell ⟨p, 23, none⟩ (.int .i64 x2)).setCell ⟨p, 24, none⟩ (.slice a qs.length c)).heap.size = w3.heap.size := by simp [World.setCell]
  refine ⟨?_, hw.trans hk0 (fun _ e => .inl e)⟩
  rw [← hz]
  refine h.list (r' := { r with nw := (x1, x2) }) (Nat.le_refl _) hk0 ?_ rfl (hL.kept hk (fun k e => .inl (by omega))) hs hl
  have hb := heap_set (i := 24) (v := .slice a qs.length c) (heap_set (i := 23) (v := .int .i64 x2) (heap_set (i := 22) (v := .int .i64 x1) h1.blk))
  exact hb.trans (by kernel_rfl)
set_option maxHeartbeats 6400000 in
theorem promise_old {G : Nat → Prop} {w : World} {p : Nat} {r : Rn} {t : Ep} {lv : Value} {ps : List Ep} (i : Nat) (b a : Bl) (lm : Value) (ms : List Ep) (h : RB G w p r t lv ps) (hc : cntsB r 1 (i : Int) b = true) (ha : aboveB a r.nw = false) (hh : ¬ halfI r.N ≤ ((r.hear i).cnt : Int)) : Calls Tryd.prog 19 #[.pointer (some ⟨p, 0, none⟩), .int .i64 (i : Int), vB b, vB a, lm] w fun e w' => e = .returned (.bool true) ∧ TlP G w p t (hearN r i a) (newL r a (fs1 ps) (fs1 ms)) w' := by
  have HC : Hid (∀ W, Below w.heap.size w W → Calls Tryd.prog 41 #[.pointer (some ⟨p, 0, none⟩), .int .i64 1, .int .i64 (i : Int), vB b] W fun e w' => e = .returned (.bool true) ∧ Below W.heap.size W w') := mkHid (fun W hb => by have := counts_is 1 (i : Int) b (h.below hb); rw [hc] at this; exact this)
  have hi : i < 7 := by have := cnts_true hc; have := h.nn; omega
  have hii : (i : Int) < 7 := by omega
  have H := mkHid h
  obtain ⟨n1, hn1⟩ : ∃ x, x = r.nw.1 := ⟨_, rfl⟩
  obtain ⟨n2, hn2⟩ : ∃ x, x = r.nw.2 := ⟨_, rfl⟩
  have hnw : r.nw = (n1, n2) := by rw [hn1, hn2]
  have HA : Hid (∀ W, Calls Tryd.prog 39 #[vB a, .agg #[.int .i64 n1, .int .i64 n2]] W fun e w' => e = .returned (.bool false) ∧ Below W.heap.size W w') := mkHid (fun W => by have := above_any W a r.nw; rw [ha, hnw] at this; exact this)
  obtain ⟨_, hlm⟩ : ∃ x, x = lm := ⟨_, rfl⟩
  clear hlm
  have HR1 : Hid (hearN r i a = { r.hear i with nw := if aboveB a r.nw then a else r.nw }) := mkHid rfl
  have HNL : Hid (newL r a (fs1 ps) (fs1 ms) = if aboveB a r.nw then fs1 ms else fs1 ps) := mkHid rfl
  rw [ha] at HR1 HNL
  have HHF : Hid (∀ G' W lv' qs, RB G' W p (hearN r i a) t lv' qs → Calls Tryd.prog 43 #[.pointer (some ⟨p, 0, none⟩)] W fun e w' => e = .returned (.bool false) ∧ w' = W) := mkHid (fun G' W lv' qs hW => by have := hasHalf_is hW; rw [hear_cnt, show (hearN r i a).N = r.N from rfl, decide_eq_false hh] at this; exact this)
  generalize hearN r i a = rn at HR1 HHF ⊢
  generalize newL r a (fs1 ps) (fs1 ms) = nl at HNL ⊢
  clear h hc ha hh hn1 hn2
  obtain ⟨b1, b2⟩ := b
  obtain ⟨x1, x2⟩ := a
  simp only [vB] at HC HA ⊢
  have hbx := heap_alloc_new (w.alloc (oB (b1, b2))) (oB (x1, x2))
  rw [show (w.alloc (oB (b1, b2))).heap.size = w.heap.size + 1 by simp] at hbx
  have HBX := mkHid hbx
  clear hbx
  go_enter Tryd.func19, Tryd.ntmps19
  go_wp2_with (go_at_call 41; (with_reducible refine (HC.out _ (ba (ba (Below.refl _ w) _) _)).mono ?_); rintro e w1 ⟨rfl, b1x⟩; have HB1 := mkHid (bt (ba (ba (Below.refl _ w) (oB (b1, b2))) (oB (x1, x2))) b1x); have HX1 := mkHid ((b1x.block (w.heap.size + 1) (lt_of_heap HBX.out)).trans HBX.out); have H1 := mkHid (H.out.below HB1.out); clear b1x; have xi := H1.out.cellA hi; have fi := frozen_of_block (i := 15 + i) H1.out.blk)
  have hk4 := (below_kept (fun k => k = p) HB1.out).trans (keptS w1 p (15 + i) (.bool true)) (fun _ e => .inl e)
  have hx4 : (w1.setCell ⟨p, 15 + i, none⟩ (.bool true)).heap[w.heap.size + 1]? = some (oB (x1, x2)) := ((keptS w1 p (15 + i) (.bool true)).block _ (lt_of_heap HX1.out) (by have := H.out.lt p H.out.gp; omega)).trans HX1.out
  have h4 := H1.out.hear hi
  clear xi fi
  generalize w1.setCell ⟨p, 15 + i, none⟩ (.bool true) = W4 at hk4 hx4 h4 ⊢
  have H4 := mkHid (And.intro h4 hk4)
  have HX4 := mkHid hx4
  have HB4 : Hid (Below W4.heap.size W4 W4) := mkHid (Below.refl _ W4)
  have d0 : W4.drew.cell? ⟨w.heap.size + 1, 0, none⟩ = some (.int .i64 x1) := cell_of_block hx4 rfl
  have d1 : W4.drew.cell? ⟨w.heap.size + 1, 1, none⟩ = some (.int .i64 x2) := cell_of_block hx4 rfl
  have d2 : W4.drew.cell? ⟨p, 22, none⟩ = some (.int .i64 n1) := cell_of_block h4.blk (by rw [show (r.hear i).nw = r.nw from rfl, hnw]; rfl)
  have d3 : W4.drew.cell? ⟨p, 23, none⟩ = some (.int .i64 n2) := cell_of_block h4.blk (by rw [show (r.hear i).nw = r.nw from rfl, hnw]; rfl)
  clear h4 hk4 hx4 hnw
  refine wp_region_held_drew (S := fun w' => w'.cell? ⟨w.heap.size + 1, 0, none⟩ = some (.int .i64 x1) ∧ w'.cell? ⟨w.heap.size + 1, 1, none⟩ = some (.int .i64 x2) ∧ w'.cell? ⟨p, 22, none⟩ = some (.int .i64 n1) ∧ w'.cell? ⟨p, 23, none⟩ = some (.int .i64 n2)) (by kernel_rfl) ⟨d0, d1, d2, d3⟩ (fun hHeld => ?_)
  refine tkE 0 21 (.agg #[.int .i64 x1, .int .i64 x2]) rfl rfl hHeld ?_
  simp only [sZ, sS]
  refine tkE 1 22 (.pointer (some ⟨p, 0, none⟩)) rfl rfl hHeld ?_
  simp only [sZ, sS]
  refine tkE 2 23 (.pointer (some ⟨p, 0, none⟩)) rfl rfl hHeld ?_
  simp only [sZ, sS]
  refine tkE 3 24 (.pointer (some ⟨p, 22, none⟩)) rfl rfl hHeld ?_
  simp only [sZ, sS]
  refine tkE 4 25 (.agg #[.int .i64 n1, .int .i64 n2]) rfl rfl hHeld ?_
  simp only [sZ, sS]
  refine wpAnyH_ready (rs := [5]) (by kernel_rfl) (by simp) (AllReadyH.cons rfl (fun K hK => ?_) AllReadyH.nil)
  go_simp
  refine (HA.out W4.drew).mono ?_
  rintro e w2 ⟨rfl, bw2⟩
  have fw2_0 : w2.cell? ⟨w.heap.size + 1, 0, none⟩ = some (.int .i64 x1) := kc (show W4.drew.cell? _ = _ from d0) bw2
  have fw2_1 : w2.cell? ⟨w.heap.size + 1, 1, none⟩ = some (.int .i64 x2) := kc (show W4.drew.cell? _ = _ from d1) bw2
  have fw2_2 : w2.cell? ⟨p, 22, none⟩ = some (.int .i64 n1) := kc (show W4.drew.cell? _ = _ from d2) bw2
  have fw2_3 : w2.cell? ⟨p, 23, none⟩ = some (.int .i64 n2) := kc (show W4.drew.cell? _ = _ from d3) bw2
  have HB2 := mkHid (bt HB4.out.drew bw2)
  clear bw2 hHeld
  refine hK.out _ _ ⟨fw2_0, fw2_1, fw2_2, fw2_3⟩ (fun hHeld => ?_)
  clear hK K
  refine wpAnyH_done (by kernel_rfl) ?_ _
  clear fw2_0 fw2_1 fw2_2 fw2_3
  have h2 := H4.out.1.below HB2.out
  have hk2 := H4.out.2.trans (below_kept (fun k => k = p) HB2.out) (fun _ e => .inl e)
  have hr1 : rn = r.hear i := HR1.out
  have hnl : nl = fs1 ps := HNL.out
  rw [← hr1] at h2
  have H5 := mkHid (And.intro h2 hk2)
  have HNL2 := mkHid hnl
  clear h2 hk2 hr1 hnl
  obtain ⟨la, lc, rfl⟩ := H5.out.1.shape
  go_wp2_with (go_at_call 43; (with_reducible refine (HHF.out _ _ _ _ H5.out.1).mono ?_); rintro e w5 ⟨rfl, hw5⟩; have HW5 := mkHid hw5; clear hw5)
  go_ret
  exact ⟨rfl, G, la, lc, ps, by rw [HW5.out]; exact H5.out.1, HNL2.out.symm, fun j hj => .inl hj, by rw [HW5.out]; exact H5.out.2⟩
set_option maxHeartbeats 6400000 in
theorem promise_oldh {G : Nat → Prop} {w : World} {p : Nat} {r : Rn} {t : Ep} {lv : Value} {ps : List Ep} (r' : Rn) (l' : List En) (i : Nat) (b a : Bl) (lm : Value) (ms : List Ep) (h : RB G w p r t lv ps) (hc : cntsB r 1 (i : Int) b = true) (ha : aboveB a r.nw = false) (hh : halfI r.N ≤ ((r.hear i).cnt : Int)) (hT : ∀ G' W a' c' qs, RB G' W p (hearN r i a) t (.slice a' qs.length c') qs → fs1 qs = newL r a (fs1 ps) (fs1 ms) → Kept (fun k => k = p) w W → Calls Tryd.prog 44 #[.pointer (some ⟨p, 0, none⟩)] W fun e w' => e = .returned (.tuple #[]) ∧ TlP G' W p t r' l' w') : Calls Tryd.prog 19 #[.pointer (some ⟨p, 0, none⟩), .int .i64 (i : Int), vB b, vB a, lm] w fun e w' => e = .returned (.bool true) ∧ TlP G w p t r' l' w' := by
  have HC : Hid (∀ W, Below w.heap.size w W → Calls Tryd.prog 41 #[.pointer (some ⟨p, 0, none⟩), .int .i64 1, .int .i64 (i : Int), vB b] W fun e w' => e = .returned (.bool true) ∧ Below W.heap.size W w') := mkHid (fun W hb => by have := counts_is 1 (i : Int) b (h.below hb); rw [hc] at this; exact this)
  have hi : i < 7 := by have := cnts_true hc; have := h.nn; omega
  have hii : (i : Int) < 7 := by omega
  have H := mkHid h
  obtain ⟨n1, hn1⟩ : ∃ x, x = r.nw.1 := ⟨_, rfl⟩
  obtain ⟨n2, hn2⟩ : ∃ x, x = r.nw.2 := ⟨_, rfl⟩
  have hnw : r.nw = (n1, n2) := by rw [hn1, hn2]
  have HA : Hid (∀ W, Calls Tryd.prog 39 #[vB a, .agg #[.int .i64 n1, .int .i64 n2]] W fun e w' => e = .returned (.bool false) ∧ Below W.heap.size W w') := mkHid (fun W => by have := above_any W a r.nw; rw [ha, hnw] at this; exact this)
  obtain ⟨_, hlm⟩ : ∃ x, x = lm := ⟨_, rfl⟩
  clear hlm
  have HR1 : Hid (hearN r i a = { r.hear i with nw := if aboveB a r.nw then a else r.nw }) := mkHid rfl
  have HNL : Hid (newL r a (fs1 ps) (fs1 ms) = if aboveB a r.nw then fs1 ms else fs1 ps) := mkHid rfl
  rw [ha] at HR1 HNL
  have HHF : Hid (∀ G' W lv' qs, RB G' W p (hearN r i a) t lv' qs → Calls Tryd.prog 43 #[.pointer (some ⟨p, 0, none⟩)] W fun e w' => e = .returned (.bool true) ∧ w' = W) := mkHid (fun G' W lv' qs hW => by have := hasHalf_is hW; rw [hear_cnt, show (hearN r i a).N = r.N from rfl, decide_eq_true hh] at this; exact this)
  have HTL := mkHid hT
  clear hT
  generalize hearN r i a = rn at HR1 HHF HTL ⊢
  generalize newL r a (fs1 ps) (fs1 ms) = nl at HNL HTL ⊢
  clear h hc ha hh hn1 hn2
  obtain ⟨b1, b2⟩ := b
  obtain ⟨x1, x2⟩ := a
  simp only [vB] at HC HA ⊢
  have hbx := heap_alloc_new (w.alloc (oB (b1, b2))) (oB (x1, x2))
  rw [show (w.alloc (oB (b1, b2))).heap.size = w.heap.size + 1 by simp] at hbx
  have HBX := mkHid hbx
  clear hbx
  go_enter Tryd.func19, Tryd.ntmps19
  go_wp2_with (go_at_call 41; (with_reducible refine (HC.out _ (ba (ba (Below.refl _ w) _) _)).mono ?_); rintro e w1 ⟨rfl, b1x⟩; have HB1 := mkHid (bt (ba (ba (Below.refl _ w) (oB (b1, b2))) (oB (x1, x2))) b1x); have HX1 := mkHid ((b1x.block (w.heap.size + 1) (lt_of_heap HBX.out)).trans HBX.out); have H1 := mkHid (H.out.below HB1.out); clear b1x; have xi := H1.out.cellA hi; have fi := frozen_of_block (i := 15 + i) H1.out.blk)
  have hk4 := (below_kept (fun k => k = p) HB1.out).trans (keptS w1 p (15 + i) (.bool true)) (fun _ e => .inl e)
  have hx4 : (w1.setCell ⟨p, 15 + i, none⟩ (.bool true)).heap[w.heap.size + 1]? = some (oB (x1, x2)) := ((keptS w1 p (15 + i) (.bool true)).block _ (lt_of_heap HX1.out) (by have := H.out.lt p H.out.gp; omega)).trans HX1.out
  have h4 := H1.out.hear hi
  clear xi fi
  generalize w1.setCell ⟨p, 15 + i, none⟩ (.bool true) = W4 at hk4 hx4 h4 ⊢
  have H4 := mkHid (And.intro h4 hk4)
  have HX4 := mkHid hx4
  have HB4 : Hid (Below W4.heap.size W4 W4) := mkHid (Below.refl _ W4)
  have d0 : W4.drew.cell? ⟨w.heap.size + 1, 0, none⟩ = some (.int .i64 x1) := cell_of_block hx4 rfl
  have d1 : W4.drew.cell? ⟨w.heap.size + 1, 1, none⟩ = some (.int .i64 x2) := cell_of_block hx4 rfl
  have d2 : W4.drew.cell? ⟨p, 22, none⟩ = some (.int .i64 n1) := cell_of_block h4.blk (by rw [show (r.hear i).nw = r.nw from rfl, hnw]; rfl)
  have d3 : W4.drew.cell? ⟨p, 23, none⟩ = some (.int .i64 n2) := cell_of_block h4.blk (by rw [show (r.hear i).nw = r.nw from rfl, hnw]; rfl)
  clear h4 hk4 hx4 hnw
  refine wp_region_held_drew (S := fun w' => w'.cell? ⟨w.heap.size + 1, 0, none⟩ = some (.int .i64 x1) ∧ w'.cell? ⟨w.heap.size + 1, 1, none⟩ = some (.int .i64 x2) ∧ w'.cell? ⟨p, 22, none⟩ = some (.int .i64 n1) ∧ w'.cell? ⟨p, 23, none⟩ = some (.int .i64 n2)) (by kernel_rfl) ⟨d0, d1, d2, d3⟩ (fun hHeld => ?_)
  refine tkE 0 21 (.agg #[.int .i64 x1, .int .i64 x2]) rfl rfl hHeld ?_
  simp only [sZ, sS]
  refine tkE 1 22 (.pointer (some ⟨p, 0, none⟩)) rfl rfl hHeld ?_
  simp only [sZ, sS]
  refine tkE 2 23 (.pointer (some ⟨p, 0, none⟩)) rfl rfl hHeld ?_
  simp only [sZ, sS]
  refine tkE 3 24 (.pointer (some ⟨p, 22, none⟩)) rfl rfl hHeld ?_
  simp only [sZ, sS]
  refine tkE 4 25 (.agg #[.int .i64 n1, .int .i64 n2]) rfl rfl hHeld ?_
  simp only [sZ, sS]
  refine wpAnyH_ready (rs := [5]) (by kernel_rfl) (by simp) (AllReadyH.cons rfl (fun K hK => ?_) AllReadyH.nil)
  go_simp
  refine (HA.out W4.drew).mono ?_
  rintro e w2 ⟨rfl, bw2⟩
  have fw2_0 : w2.cell? ⟨w.heap.size + 1, 0, none⟩ = some (.int .i64 x1) := kc (show W4.drew.cell? _ = _ from d0) bw2
  have fw2_1 : w2.cell? ⟨w.heap.size + 1, 1, none⟩ = some (.int .i64 x2) := kc (show W4.drew.cell? _ = _ from d1) bw2
  have fw2_2 : w2.cell? ⟨p, 22, none⟩ = some (.int .i64 n1) := kc (show W4.drew.cell? _ = _ from d2) bw2
  have fw2_3 : w2.cell? ⟨p, 23, none⟩ = some (.int .i64 n2) := kc (show W4.drew.cell? _ = _ from d3) bw2
  have HB2 := mkHid (bt HB4.out.drew bw2)
  clear bw2 hHeld
  refine hK.out _ _ ⟨fw2_0, fw2_1, fw2_2, fw2_3⟩ (fun hHeld => ?_)
  clear hK K
  refine wpAnyH_done (by kernel_rfl) ?_ _
  clear fw2_0 fw2_1 fw2_2 fw2_3
  have h2 := H4.out.1.below HB2.out
  have hk2 := H4.out.2.trans (below_kept (fun k => k = p) HB2.out) (fun _ e => .inl e)
  have hr1 : rn = r.hear i := HR1.out
  have hnl : nl = fs1 ps := HNL.out
  rw [← hr1] at h2
  have H5 := mkHid (And.intro h2 hk2)
  have HNL2 := mkHid hnl
  clear h2 hk2 hr1 hnl
  obtain ⟨la, lc, rfl⟩ := H5.out.1.shape
  go_wp2_with (first
    | (go_at_call 43; (with_reducible refine (HHF.out _ _ _ _ H5.out.1).mono ?_); rintro e w5 ⟨rfl, hw5⟩; have HW5 := mkHid hw5; clear hw5)
    | (go_at_call 44; (with_reducible refine (HTL.out G w5 la lc ps (by rw [HW5.out]; exact H5.out.1) (HNL2.out.symm) (by rw [HW5.out]; exact H5.out.2)).mono ?_); rintro e w6 ⟨rfl, h6⟩; have H6 := mkHid h6; clear h6))
  go_ret
  refine ⟨rfl, ?_⟩
  obtain ⟨G', a', c', qs, h7, hq7, hg7, hk7⟩ := H6.out
  have hwk : Kept (fun k => k = p) w w5 := by rw [HW5.out]; exact H5.out.2
  have hws := hwk.size
  exact ⟨G', a', c', qs, h7, hq7, fun j hj => (hg7 j hj).imp id (fun e => by omega), hwk.trans hk7 (fun _ e => .inl e)⟩
set_option maxHeartbeats 6400000 in
theorem promise_new {G : Nat → Prop} {w : World} {p : Nat} {r : Rn} {t : Ep} {lv : Value} {ps : List Ep} (i : Nat) (b a : Bl) (lm : Value) (ms : List Ep) (h : RB G w p r t lv ps) (hc : cntsB r 1 (i : Int) b = true) (hm : ∀ W, Kept (fun k => k = p) w W → Ens W lm ms) (hml : ms.length * 96 ≤ 140737488355328) (hms : ∀ u ∈ ms, small u) (ha : aboveB a r.nw = true) (hh : ¬ halfI r.N ≤ ((r.hear i).cnt : Int)) : Calls Tryd.prog 19 #[.pointer (some ⟨p, 0, none⟩), .int .i64 (i : Int), vB b, vB a, lm] w fun e w' => e = .returned (.bool true) ∧ TlP G w p t (hearN r i a) (newL r a (fs1 ps) (fs1 ms)) w' := by
  have HC : Hid (∀ W, Below w.heap.size w W → Calls Tryd.prog 41 #[.pointer (some ⟨p, 0, none⟩), .int .i64 1, .int .i64 (i : Int), vB b] W fun e w' => e = .returned (.bool true) ∧ Below W.heap.size W w') := mkHid (fun W hb => by have := counts_is 1 (i : Int) b (h.below hb); rw [hc] at this; exact this)
  have hi : i < 7 := by have := cnts_true hc; have := h.nn; omega
  have hii : (i : Int) < 7 := by omega
  have H := mkHid h
  obtain ⟨n1, hn1⟩ : ∃ x, x = r.nw.1 := ⟨_, rfl⟩
  obtain ⟨n2, hn2⟩ : ∃ x, x = r.nw.2 := ⟨_, rfl⟩
  have hnw : r.nw = (n1, n2) := by rw [hn1, hn2]
  have HA : Hid (∀ W, Calls Tryd.prog 39 #[vB a, .agg #[.int .i64 n1, .int .i64 n2]] W fun e w' => e = .returned (.bool true) ∧ Below W.heap.size W w') := mkHid (fun W => by have := above_any W a r.nw; rw [ha, hnw] at this; exact this)
  have HM : Hid (∀ W, Kept (fun k => k = p) w W → Calls Tryd.prog 42 #[lm] W fun e w' => ∃ a2 c2 qs, e = .returned (.slice a2 qs.length c2) ∧ Led W.heap.size w' (.slice a2 qs.length c2) qs ∧ fs1 qs = fs1 ms ∧ Below W.heap.size W w') := mkHid (fun W hb => (rcloneL_any W lm ms (hm W hb) hml hms).mono (by rintro e w' ⟨v', qs, rfl, hl, hq, hb'⟩; obtain ⟨a2, c2, rfl, _⟩ := own_sh hl.own; exact ⟨a2, c2, qs, rfl, hl, hq, hb'⟩))
  have HMS := mkHid (And.intro hml hms)
  obtain ⟨la, lc, rfl⟩ : ∃ la lc, lm = .slice la ms.length lc := by obtain ⟨la, lc, e, _⟩ := hm w (Kept.refl _ w); exact ⟨la, lc, e⟩
  clear hm hml hms
  have HR1 : Hid (hearN r i a = { r.hear i with nw := if aboveB a r.nw then a else r.nw }) := mkHid rfl
  have HNL : Hid (newL r a (fs1 ps) (fs1 ms) = if aboveB a r.nw then fs1 ms else fs1 ps) := mkHid rfl
  rw [ha] at HR1 HNL
  have HHF : Hid (∀ G' W lv' qs, RB G' W p (hearN r i a) t lv' qs → Calls Tryd.prog 43 #[.pointer (some ⟨p, 0, none⟩)] W fun e w' => e = .returned (.bool false) ∧ w' = W) := mkHid (fun G' W lv' qs hW => by have := hasHalf_is hW; rw [hear_cnt, show (hearN r i a).N = r.N from rfl, decide_eq_false hh] at this; exact this)
  generalize hearN r i a = rn at HR1 HHF ⊢
  generalize newL r a (fs1 ps) (fs1 ms) = nl at HNL ⊢
  clear h hc ha hh hn1 hn2
  obtain ⟨b1, b2⟩ := b
  obtain ⟨x1, x2⟩ := a
  simp only [vB] at HC HA ⊢
  have hbx := heap_alloc_new (w.alloc (oB (b1, b2))) (oB (x1, x2))
  rw [show (w.alloc (oB (b1, b2))).heap.size = w.heap.size + 1 by simp] at hbx
  have HBX := mkHid hbx
  clear hbx
  go_enter Tryd.func19, Tryd.ntmps19
  go_wp2_with (go_at_call 41; (with_reducible refine (HC.out _ (ba (ba (Below.refl _ w) _) _)).mono ?_); rintro e w1 ⟨rfl, b1x⟩; have HB1 := mkHid (bt (ba (ba (Below.refl _ w) (oB (b1, b2))) (oB (x1, x2))) b1x); have HX1 := mkHid ((b1x.block (w.heap.size + 1) (lt_of_heap HBX.out)).trans HBX.out); have H1 := mkHid (H.out.below HB1.out); clear b1x; have xi := H1.out.cellA hi; have fi := frozen_of_block (i := 15 + i) H1.out.blk)
  have hk4 := (below_kept (fun k => k = p) HB1.out).trans (keptS w1 p (15 + i) (.bool true)) (fun _ e => .inl e)
  have hx4 : (w1.setCell ⟨p, 15 + i, none⟩ (.bool true)).heap[w.heap.size + 1]? = some (oB (x1, x2)) := ((keptS w1 p (15 + i) (.bool true)).block _ (lt_of_heap HX1.out) (by have := H.out.lt p H.out.gp; omega)).trans HX1.out
  have h4 := H1.out.hear hi
  clear xi fi
  generalize w1.setCell ⟨p, 15 + i, none⟩ (.bool true) = W4 at hk4 hx4 h4 ⊢
  have H4 := mkHid (And.intro h4 hk4)
  have HX4 := mkHid hx4
  have HB4 : Hid (Below W4.heap.size W4 W4) := mkHid (Below.refl _ W4)
  have d0 : W4.drew.cell? ⟨w.heap.size + 1, 0, none⟩ = some (.int .i64 x1) := cell_of_block hx4 rfl
  have d1 : W4.drew.cell? ⟨w.heap.size + 1, 1, none⟩ = some (.int .i64 x2) := cell_of_block hx4 rfl
  have d2 : W4.drew.cell? ⟨p, 22, none⟩ = some (.int .i64 n1) := cell_of_block h4.blk (by rw [show (r.hear i).nw = r.nw from rfl, hnw]; rfl)
  have d3 : W4.drew.cell? ⟨p, 23, none⟩ = some (.int .i64 n2) := cell_of_block h4.blk (by rw [show (r.hear i).nw = r.nw from rfl, hnw]; rfl)
  clear h4 hk4 hx4 hnw
  refine wp_region_held_drew (S := fun w' => w'.cell? ⟨w.heap.size + 1, 0, none⟩ = some (.int .i64 x1) ∧ w'.cell? ⟨w.heap.size + 1, 1, none⟩ = some (.int .i64 x2) ∧ w'.cell? ⟨p, 22, none⟩ = some (.int .i64 n1) ∧ w'.cell? ⟨p, 23, none⟩ = some (.int .i64 n2)) (by kernel_rfl) ⟨d0, d1, d2, d3⟩ (fun hHeld => ?_)
  refine tkE 0 21 (.agg #[.int .i64 x1, .int .i64 x2]) rfl rfl hHeld ?_
  simp only [sZ, sS]
  refine tkE 1 22 (.pointer (some ⟨p, 0, none⟩)) rfl rfl hHeld ?_
  simp only [sZ, sS]
  refine tkE 2 23 (.pointer (some ⟨p, 0, none⟩)) rfl rfl hHeld ?_
  simp only [sZ, sS]
  refine tkE 3 24 (.pointer (some ⟨p, 22, none⟩)) rfl rfl hHeld ?_
  simp only [sZ, sS]
  refine tkE 4 25 (.agg #[.int .i64 n1, .int .i64 n2]) rfl rfl hHeld ?_
  simp only [sZ, sS]
  refine wpAnyH_ready (rs := [5]) (by kernel_rfl) (by simp) (AllReadyH.cons rfl (fun K hK => ?_) AllReadyH.nil)
  go_simp
  refine (HA.out W4.drew).mono ?_
  rintro e w2 ⟨rfl, bw2⟩
  have fw2_0 : w2.cell? ⟨w.heap.size + 1, 0, none⟩ = some (.int .i64 x1) := kc (show W4.drew.cell? _ = _ from d0) bw2
  have fw2_1 : w2.cell? ⟨w.heap.size + 1, 1, none⟩ = some (.int .i64 x2) := kc (show W4.drew.cell? _ = _ from d1) bw2
  have fw2_2 : w2.cell? ⟨p, 22, none⟩ = some (.int .i64 n1) := kc (show W4.drew.cell? _ = _ from d2) bw2
  have fw2_3 : w2.cell? ⟨p, 23, none⟩ = some (.int .i64 n2) := kc (show W4.drew.cell? _ = _ from d3) bw2
  have HB2 := mkHid (bt HB4.out.drew bw2)
  clear bw2 hHeld
  refine hK.out _ _ ⟨fw2_0, fw2_1, fw2_2, fw2_3⟩ (fun hHeld => ?_)
  clear hK K
  refine wpAnyH_done (by kernel_rfl) ?_ _
  have h2 := H4.out.1.below HB2.out
  have hk2 := H4.out.2.trans (below_kept (fun k => k = p) HB2.out) (fun _ e => .inl e)
  have H2 := mkHid (And.intro h2 hk2)
  clear h2 hk2
  have g0 : w2.drew.cell? ⟨w.heap.size + 1, 0, none⟩ = some (.int .i64 x1) := fw2_0
  have g1 : w2.drew.cell? ⟨w.heap.size + 1, 1, none⟩ = some (.int .i64 x2) := fw2_1
  go_wp2
  refine wp_region_held_drew (S := fun w' => w'.cell? ⟨w.heap.size + 1, 0, none⟩ = some (.int .i64 x1) ∧ w'.cell? ⟨w.heap.size + 1, 1, none⟩ = some (.int .i64 x2)) (by kernel_rfl) ⟨g0, g1⟩ (fun hHeld => ?_)
  refine tkE 0 27 (.pointer (some ⟨p, 0, none⟩)) rfl rfl hHeld ?_
  simp only [sZ, sS]
  refine tkE 1 28 (.pointer (some ⟨p, 0, none⟩)) rfl rfl hHeld ?_
  simp only [sZ, sS]
  refine tkE 2 29 (.agg #[.int .i64 x1, .int .i64 x2]) rfl rfl hHeld ?_
  simp only [sZ, sS]
  refine tkE 3 30 (.slice la ms.length lc) rfl rfl hHeld ?_
  simp only [sZ, sS]
  refine wpAnyH_ready (rs := [4]) (by kernel_rfl) (by simp) (AllReadyH.cons rfl (fun K hK => ?_) AllReadyH.nil)
  go_simp
  refine (HM.out w2.drew (H2.out.2.trans (Kept.drew (fun k => k = p) w2) (fun _ e => .inl e))).mono ?_
  rintro e w3 ⟨ya, yc, qs, rfl, hl3, hq3, b3⟩
  have b3' : Below w2.heap.size w2 w3 := ((Below.refl w2.heap.size w2).drew).trans b3
  have hl3' : Led w2.heap.size w3 (.slice ya qs.length yc) qs := hl3
  have h5 := H2.out.1.newer (x1 := x1) (x2 := x2) H2.out.2 b3' hl3' (small_fs hq3 HMS.out.2) (by rw [len_fs hq3]; exact HMS.out.1)
  have h3 := H2.out.1.below b3'
  have j0 : w3.cell? ⟨w.heap.size + 1, 0, none⟩ = some (.int .i64 x1) := kc (show w2.cell? _ = _ from g0) b3'
  have j1 : w3.cell? ⟨w.heap.size + 1, 1, none⟩ = some (.int .i64 x2) := kc (show w2.cell? _ = _ from g1) b3'
  have z22 : w3.cell? ⟨p, 22, none⟩ = some (.int .i64 (r.hear i).nw.1) := cell_of_block h3.blk rfl
  have z23 : w3.cell? ⟨p, 23, none⟩ = some (.int .i64 (r.hear i).nw.2) := cell_of_block h3.blk rfl
  have z24 : w3.cell? ⟨p, 24, none⟩ = some lv := cell_of_block h3.blk rfl
  have f22 := frozen_of_block (i := 22) h3.blk
  have f23 := frozen_of_block (i := 23) h3.blk
  have f24 := frozen_of_block (i := 24) h3.blk
  rw [show ({ r.hear i with nw := (x1, x2) } : Rn) = rn from HR1.out.symm] at h5
  have H5 := mkHid h5
  have HQ3 := mkHid (hq3.trans HNL.out.symm)
  have HWS := mkHid (And.intro H2.out.2.size b3'.size)
  clear h5 h3 hl3 hl3' b3 b3' hq3 hHeld g0 g1
  refine hK.out _ _ ⟨j0, j1⟩ (fun hHeld => ?_)
  clear hK K
  (try simp only [Act.put])
  refine tkE 5 32 (.pointer (some ⟨p, 0, none⟩)) rfl rfl hHeld ?_
  simp only [sZ, sS]
  refine tkE 6 33 (.pointer (some ⟨p, 22, none⟩)) rfl rfl hHeld ?_
  simp only [sZ, sS]
  refine wpAnyH_ready (rs := [7]) (by kernel_rfl) (by simp) (AllReadyH.cons rfl (fun K hK => ?_) AllReadyH.nil)
  go_simp
  have hpw : w.heap.size + 1 ≠ p := by have := H.out.lt p H.out.gp; omega
  have k2 := keptT (keptS w3 p 22 (.int .i64 x1)) 23 (.int .i64 x2)
  have m0 := k2.cell j0 hpw
  have m1 := k2.cell j1 hpw
  have k3 := keptT k2 24 (.slice ya qs.length yc)
  have o0 := k3.cell j0 hpw
  have o1 := k3.cell j1 hpw
  clear hHeld j0 j1 k2 k3 hpw
  refine hK.out _ _ ⟨m0, m1⟩ (fun hHeld => ?_)
  clear hK K
  (try simp only [Act.put])
  refine tkE 8 34 (.pointer (some ⟨p, 0, none⟩)) rfl rfl hHeld ?_
  simp only [sZ, sS]
  refine tkE 9 35 (.pointer (some ⟨p, 24, none⟩)) rfl rfl hHeld ?_
  simp only [sZ, sS]
  refine wpAnyH_ready (rs := [10]) (by kernel_rfl) (by simp) (AllReadyH.cons rfl (fun K hK => ?_) AllReadyH.nil)
  go_simp
  clear hHeld m0 m1
  refine hK.out _ _ ⟨o0, o1⟩ (fun hHeld => ?_)
  clear hK K hHeld o0 o1
  (try simp only [Act.put])
  refine wpAnyH_done (by kernel_rfl) ?_ _
  generalize ((w3.setCell ⟨p, 22, none⟩ (.int .i64 x1)).setCell ⟨p, 23, none⟩ (.int .i64 x2)).setCell ⟨p, 24, none⟩ (.slice ya qs.length yc) = W9 at H5 ⊢
  clear z22 z23 z24 f22 f23 f24
  go_wp2_with (go_at_call 43; (with_reducible refine (HHF.out _ _ _ _ H5.out.1).mono ?_); rintro e w5 ⟨rfl, hw5⟩; have HW5 := mkHid hw5; clear hw5)
  go_ret
  have e5 := HW5.out
  subst e5
  refine ⟨rfl, _, ya, yc, qs, H5.out.1, HQ3.out, fun j hj => ?_, H5.out.2⟩
  have := HWS.out
  rcases hj with e | e
  · exact .inl e
  · exact .inr (by omega)
set_option maxHeartbeats 6400000 in
theorem promise_newh {G : Nat → Prop} {w : World} {p : Nat} {r : Rn} {t : Ep} {lv : Value} {ps : List Ep} (r' : Rn) (l' : List En) (i : Nat) (b a : Bl) (lm : Value) (ms : List Ep) (h : RB G w p r t lv ps) (hc : cntsB r 1 (i : Int) b = true) (hm : ∀ W, Kept (fun k => k = p) w W → Ens W lm ms) (hml : ms.length * 96 ≤ 140737488355328) (hms : ∀ u ∈ ms, small u) (ha : aboveB a r.nw = true) (hh : halfI r.N ≤ ((r.hear i).cnt : Int)) (hT : ∀ G' W a' c' qs, RB G' W p (hearN r i a) t (.slice a' qs.length c') qs → fs1 qs = newL r a (fs1 ps) (fs1 ms) → Kept (fun k => k = p) w W → Calls Tryd.prog 44 #[.pointer (some ⟨p, 0, none⟩)] W fun e w' => e = .returned (.tuple #[]) ∧ TlP G' W p t r' l' w') : Calls Tryd.prog 19 #[.pointer (some ⟨p, 0, none⟩), .int .i64 (i : Int), vB b, vB a, lm] w fun e w' => e = .returned (.bool true) ∧ TlP G w p t r' l' w' := by
  have HC : Hid (∀ W, Below w.heap.size w W → Calls Tryd.prog 41 #[.pointer (some ⟨p, 0, none⟩), .int .i64 1, .int .i64 (i : Int), vB b] W fun e w' => e = .returned (.bool true) ∧ Below W.heap.size W w') := mkHid (fun W hb => by have := counts_is 1 (i : Int) b (h.below hb); rw [hc] at this; exact this)
  have hi : i < 7 := by have := cnts_true hc; have := h.nn; omega
  have hii : (i : Int) < 7 := by omega
  have H := mkHid h
  obtain ⟨n1, hn1⟩ : ∃ x, x = r.nw.1 := ⟨_, rfl⟩
  obtain ⟨n2, hn2⟩ : ∃ x, x = r.nw.2 := ⟨_, rfl⟩
  have hnw : r.nw = (n1, n2) := by rw [hn1, hn2]
  have HA : Hid (∀ W, Calls Tryd.prog 39 #[vB a, .agg #[.int .i64 n1, .int .i64 n2]] W fun e w' => e = .returned (.bool true) ∧ Below W.heap.size W w') := mkHid (fun W => by have := above_any W a r.nw; rw [ha, hnw] at this; exact this)
  have HM : Hid (∀ W, Kept (fun k => k = p) w W → Calls Tryd.prog 42 #[lm] W fun e w' => ∃ a2 c2 qs, e = .returned (.slice a2 qs.length c2) ∧ Led W.heap.size w' (.slice a2 qs.length c2) qs ∧ fs1 qs = fs1 ms ∧ Below W.heap.size W w') := mkHid (fun W hb => (rcloneL_any W lm ms (hm W hb) hml hms).mono (by rintro e w' ⟨v', qs, rfl, hl, hq, hb'⟩; obtain ⟨a2, c2, rfl, _⟩ := own_sh hl.own; exact ⟨a2, c2, qs, rfl, hl, hq, hb'⟩))
  have HMS := mkHid (And.intro hml hms)
  obtain ⟨la, lc, rfl⟩ : ∃ la lc, lm = .slice la ms.length lc := by obtain ⟨la, lc, e, _⟩ := hm w (Kept.refl _ w); exact ⟨la, lc, e⟩
  clear hm hml hms
  have HR1 : Hid (hearN r i a = { r.hear i with nw := if aboveB a r.nw then a else r.nw }) := mkHid rfl
  have HNL : Hid (newL r a (fs1 ps) (fs1 ms) = if aboveB a r.nw then fs1 ms else fs1 ps) := mkHid rfl
  rw [ha] at HR1 HNL
  have HHF : Hid (∀ G' W lv' qs, RB G' W p (hearN r i a) t lv' qs → Calls Tryd.prog 43 #[.pointer (some ⟨p, 0, none⟩)] W fun e w' => e = .returned (.bool true) ∧ w' = W) := mkHid (fun G' W lv' qs hW => by have := hasHalf_is hW; rw [hear_cnt, show (hearN r i a).N = r.N from rfl, decide_eq_true hh] at this; exact this)
  have HTL := mkHid hT
  clear hT
  generalize hearN r i a = rn at HR1 HHF HTL ⊢
  generalize newL r a (fs1 ps) (fs1 ms) = nl at HNL HTL ⊢
  clear h hc ha hh hn1 hn2
  obtain ⟨b1, b2⟩ := b
  obtain ⟨x1, x2⟩ := a
  simp only [vB] at HC HA ⊢
  have hbx := heap_alloc_new (w.alloc (oB (b1, b2))) (oB (x1, x2))
  rw [show (w.alloc (oB (b1, b2))).heap.size = w.heap.size + 1 by simp] at hbx
  have HBX := mkHid hbx
  clear hbx
  go_enter Tryd.func19, Tryd.ntmps19
  go_wp2_with (go_at_call 41; (with_reducible refine (HC.out _ (ba (ba (Below.refl _ w) _) _)).mono ?_); rintro e w1 ⟨rfl, b1x⟩; have HB1 := mkHid (bt (ba (ba (Below.refl _ w) (oB (b1, b2))) (oB (x1, x2))) b1x); have HX1 := mkHid ((b1x.block (w.heap.size + 1) (lt_of_heap HBX.out)).trans HBX.out); have H1 := mkHid (H.out.below HB1.out); clear b1x; have xi := H1.out.cellA hi; have fi := frozen_of_block (i := 15 + i) H1.out.blk)
  have hk4 := (below_kept (fun k => k = p) HB1.out).trans (keptS w1 p (15 + i) (.bool true)) (fun _ e => .inl e)
  have hx4 : (w1.setCell ⟨p, 15 + i, none⟩ (.bool true)).heap[w.heap.size + 1]? = some (oB (x1, x2)) := ((keptS w1 p (15 + i) (.bool true)).block _ (lt_of_heap HX1.out) (by have := H.out.lt p H.out.gp; omega)).trans HX1.out
  have h4 := H1.out.hear hi
  clear xi fi
  generalize w1.setCell ⟨p, 15 + i, none⟩ (.bool true) = W4 at hk4 hx4 h4 ⊢
  have H4 := mkHid (And.intro h4 hk4)
  have HX4 := mkHid hx4
  have HB4 : Hid (Below W4.heap.size W4 W4) := mkHid (Below.refl _ W4)
  have d0 : W4.drew.cell? ⟨w.heap.size + 1, 0, none⟩ = some (.int .i64 x1) := cell_of_block hx4 rfl
  have d1 : W4.drew.cell? ⟨w.heap.size + 1, 1, none⟩ = some (.int .i64 x2) := cell_of_block hx4 rfl
  have d2 : W4.drew.cell? ⟨p, 22, none⟩ = some (.int .i64 n1) := cell_of_block h4.blk (by rw [show (r.hear i).nw = r.nw from rfl, hnw]; rfl)
  have d3 : W4.drew.cell? ⟨p, 23, none⟩ = some (.int .i64 n2) := cell_of_block h4.blk (by rw [show (r.hear i).nw = r.nw from rfl, hnw]; rfl)
  clear h4 hk4 hx4 hnw
  refine wp_region_held_drew (S := fun w' => w'.cell? ⟨w.heap.size + 1, 0, none⟩ = some (.int .i64 x1) ∧ w'.cell? ⟨w.heap.size + 1, 1, none⟩ = some (.int .i64 x2) ∧ w'.cell? ⟨p, 22, none⟩ = some (.int .i64 n1) ∧ w'.cell? ⟨p, 23, none⟩ = some (.int .i64 n2)) (by kernel_rfl) ⟨d0, d1, d2, d3⟩ (fun hHeld => ?_)
  refine tkE 0 21 (.agg #[.int .i64 x1, .int .i64 x2]) rfl rfl hHeld ?_
  simp only [sZ, sS]
  refine tkE 1 22 (.pointer (some ⟨p, 0, none⟩)) rfl rfl hHeld ?_
  simp only [sZ, sS]
  refine tkE 2 23 (.pointer (some ⟨p, 0, none⟩)) rfl rfl hHeld ?_
  simp only [sZ, sS]
  refine tkE 3 24 (.pointer (some ⟨p, 22, none⟩)) rfl rfl hHeld ?_
  simp only [sZ, sS]
  refine tkE 4 25 (.agg #[.int .i64 n1, .int .i64 n2]) rfl rfl hHeld ?_
  simp only [sZ, sS]
  refine wpAnyH_ready (rs := [5]) (by kernel_rfl) (by simp) (AllReadyH.cons rfl (fun K hK => ?_) AllReadyH.nil)
  go_simp
  refine (HA.out W4.drew).mono ?_
  rintro e w2 ⟨rfl, bw2⟩
  have fw2_0 : w2.cell? ⟨w.heap.size + 1, 0, none⟩ = some (.int .i64 x1) := kc (show W4.drew.cell? _ = _ from d0) bw2
  have fw2_1 : w2.cell? ⟨w.heap.size + 1, 1, none⟩ = some (.int .i64 x2) := kc (show W4.drew.cell? _ = _ from d1) bw2
  have fw2_2 : w2.cell? ⟨p, 22, none⟩ = some (.int .i64 n1) := kc (show W4.drew.cell? _ = _ from d2) bw2
  have fw2_3 : w2.cell? ⟨p, 23, none⟩ = some (.int .i64 n2) := kc (show W4.drew.cell? _ = _ from d3) bw2
  have HB2 := mkHid (bt HB4.out.drew bw2)
  clear bw2 hHeld
  refine hK.out _ _ ⟨fw2_0, fw2_1, fw2_2, fw2_3⟩ (fun hHeld => ?_)
  clear hK K
  refine wpAnyH_done (by kernel_rfl) ?_ _
  have h2 := H4.out.1.below HB2.out
  have hk2 := H4.out.2.trans (below_kept (fun k => k = p) HB2.out) (fun _ e => .inl e)
  have H2 := mkHid (And.intro h2 hk2)
  clear h2 hk2
  have g0 : w2.drew.cell? ⟨w.heap.size + 1, 0, none⟩ = some (.int .i64 x1) := fw2_0
  have g1 : w2.drew.cell? ⟨w.heap.size + 1, 1, none⟩ = some (.int .i64 x2) := fw2_1
  go_wp2
  refine wp_region_held_drew (S := fun w' => w'.cell? ⟨w.heap.size + 1, 0, none⟩ = some (.int .i64 x1) ∧ w'.cell? ⟨w.heap.size + 1, 1, none⟩ = some (.int .i64 x2)) (by kernel_rfl) ⟨g0, g1⟩ (fun hHeld => ?_)
  refine tkE 0 27 (.pointer (some ⟨p, 0, none⟩)) rfl rfl hHeld ?_
  simp only [sZ, sS]
  refine tkE 1 28 (.pointer (some ⟨p, 0, none⟩)) rfl rfl hHeld ?_
  simp only [sZ, sS]
  refine tkE 2 29 (.agg #[.int .i64 x1, .int .i64 x2]) rfl rfl hHeld ?_
  simp only [sZ, sS]
  refine tkE 3 30 (.slice la ms.length lc) rfl rfl hHeld ?_
  simp only [sZ, sS]
  refine wpAnyH_ready (rs := [4]) (by kernel_rfl) (by simp) (AllReadyH.cons rfl (fun K hK => ?_) AllReadyH.nil)
  go_simp
  refine (HM.out w2.drew (H2.out.2.trans (Kept.drew (fun k => k = p) w2) (fun _ e => .inl e))).mono ?_
  rintro e w3 ⟨ya, yc, qs, rfl, hl3, hq3, b3⟩
  have b3' : Below w2.heap.size w2 w3 := ((Below.refl w2.heap.size w2).drew).trans b3
  have hl3' : Led w2.heap.size w3 (.slice ya qs.length yc) qs := hl3
  have h5 := H2.out.1.newer (x1 := x1) (x2 := x2) H2.out.2 b3' hl3' (small_fs hq3 HMS.out.2) (by rw [len_fs hq3]; exact HMS.out.1)
  have h3 := H2.out.1.below b3'
  have j0 : w3.cell? ⟨w.heap.size + 1, 0, none⟩ = some (.int .i64 x1) := kc (show w2.cell? _ = _ from g0) b3'
  have j1 : w3.cell? ⟨w.heap.size + 1, 1, none⟩ = some (.int .i64 x2) := kc (show w2.cell? _ = _ from g1) b3'
  have z22 : w3.cell? ⟨p, 22, none⟩ = some (.int .i64 (r.hear i).nw.1) := cell_of_block h3.blk rfl
  have z23 : w3.cell? ⟨p, 23, none⟩ = some (.int .i64 (r.hear i).nw.2) := cell_of_block h3.blk rfl
  have z24 : w3.cell? ⟨p, 24, none⟩ = some lv := cell_of_block h3.blk rfl
  have f22 := frozen_of_block (i := 22) h3.blk
  have f23 := frozen_of_block (i := 23) h3.blk
  have f24 := frozen_of_block (i := 24) h3.blk
  rw [show ({ r.hear i with nw := (x1, x2) } : Rn) = rn from HR1.out.symm] at h5
  have H5 := mkHid h5
  have HQ3 := mkHid (hq3.trans HNL.out.symm)
  have HWS := mkHid (And.intro H2.out.2.size b3'.size)
  clear h5 h3 hl3 hl3' b3 b3' hq3 hHeld g0 g1
  refine hK.out _ _ ⟨j0, j1⟩ (fun hHeld => ?_)
  clear hK K
  (try simp only [Act.put])
  refine tkE 5 32 (.pointer (some ⟨p, 0, none⟩)) rfl rfl hHeld ?_
  simp only [sZ, sS]
  refine tkE 6 33 (.pointer (some ⟨p, 22, none⟩)) rfl rfl hHeld ?_
  simp only [sZ, sS]
  refine wpAnyH_ready (rs := [7]) (by kernel_rfl) (by simp) (AllReadyH.cons rfl (fun K hK => ?_) AllReadyH.nil)
  go_simp
  have hpw : w.heap.size + 1 ≠ p := by have := H.out.lt p H.out.gp; omega
  have k2 := keptT (keptS w3 p 22 (.int .i64 x1)) 23 (.int .i64 x2)
  have m0 := k2.cell j0 hpw
  have m1 := k2.cell j1 hpw
  have k3 := keptT k2 24 (.slice ya qs.length yc)
  have o0 := k3.cell j0 hpw
  have o1 := k3.cell j1 hpw
  clear hHeld j0 j1 k2 k3 hpw
  refine hK.out _ _ ⟨m0, m1⟩ (fun hHeld => ?_)
  clear hK K
  (try simp only [Act.put])
  refine tkE 8 34 (.pointer (some ⟨p, 0, none⟩)) rfl rfl hHeld ?_
  simp only [sZ, sS]
  refine tkE 9 35 (.pointer (some ⟨p, 24, none⟩)) rfl rfl hHeld ?_
  simp only [sZ, sS]
  refine wpAnyH_ready (rs := [10]) (by kernel_rfl) (by simp) (AllReadyH.cons rfl (fun K hK => ?_) AllReadyH.nil)
  go_simp
  clear hHeld m0 m1
  refine hK.out _ _ ⟨o0, o1⟩ (fun hHeld => ?_)
  clear hK K hHeld o0 o1
  (try simp only [Act.put])
  refine wpAnyH_done (by kernel_rfl) ?_ _
  generalize ((w3.setCell ⟨p, 22, none⟩ (.int .i64 x1)).setCell ⟨p, 23, none⟩ (.int .i64 x2)).setCell ⟨p, 24, none⟩ (.slice ya qs.length yc) = W9 at H5 ⊢
  clear z22 z23 z24 f22 f23 f24
  go_wp2_with (first
    | (go_at_call 43; (with_reducible refine (HHF.out _ _ _ _ H5.out.1).mono ?_); rintro e w5 ⟨rfl, hw5⟩; have HW5 := mkHid hw5; clear hw5)
    | (go_at_call 44; (with_reducible refine (HTL.out _ w5 ya yc qs (by rw [HW5.out]; exact H5.out.1) HQ3.out (by rw [HW5.out]; exact H5.out.2)).mono ?_); rintro e w6 ⟨rfl, h6⟩; have H6 := mkHid h6; clear h6))
  go_ret
  refine ⟨rfl, ?_⟩
  obtain ⟨G', a', c', qs', h7, hq7, hg7, hk7⟩ := H6.out
  have hwk : Kept (fun k => k = p) w w5 := by rw [HW5.out]; exact H5.out.2
  have hws := hwk.size
  exact ⟨G', a', c', qs', h7, hq7, fun j hj => by
    have := HWS.out
    rcases hg7 j hj with e | e
    · exact e.imp id (fun e => by omega)
    · exact .inr (by omega), hwk.trans hk7 (fun _ e => .inl e)⟩
end Go.Proofs.YtjocjkfllicjdaaDoor

/- A round as a law has it. -/
namespace Go.Proofs.YtjocjkfllicjdaaDoor
open Go.ChangeShapes Go.WideShapes Go.ChangeAt Go.RowKit
set_option maxRecDepth 100000

/-- A round that was made behind w: its numbers, its entry, its ledger. -/
def LR (w W : World) (p : Nat) (r : Rn) (e : En) (l : List En) : Prop :=
  ∃ (G : Nat → Prop) (a : Option Addr) (c : Nat) (t : Ep) (qs : List Ep), RB G W p r t (.slice a qs.length c) qs ∧ t.1 = e ∧ fs1 qs = l ∧ (∀ k, G k → w.heap.size ≤ k) ∧ Below w.heap.size w W
theorem LR.low {w W : World} {p : Nat} {r : Rn} {e : En} {l : List En} (h : LR w W p r e l) : Below w.heap.size w W := by
  obtain ⟨G, a, c, t, qs, h1, h2, h3, h4, h5⟩ := h
  exact h5
theorem LR.at {w W : World} {p : Nat} {r : Rn} {e : En} {l : List En} (h : LR w W p r e l) : w.heap.size ≤ p ∧ p < W.heap.size := by
  obtain ⟨G, a, c, t, qs, h1, h2, h3, h4, h5⟩ := h
  exact ⟨h4 p h1.gp, h1.lt p h1.gp⟩
theorem LR.nn {w W : World} {p : Nat} {r : Rn} {e : En} {l : List En} (h : LR w W p r e l) : 1 ≤ r.N ∧ r.N ≤ 7 := by
  obtain ⟨G, a, c, t, qs, h1, h2, h3, h4, h5⟩ := h
  exact h1.nn
theorem LR.late {w W W' : World} {p : Nat} {r : Rn} {e : En} {l : List En} (h : LR w W p r e l) (hb : Below W.heap.size W W') : LR w W' p r e l := by
  obtain ⟨G, a, c, t, qs, h1, h2, h3, h4, h5⟩ := h
  exact ⟨G, a, c, t, qs, h1.below hb, h2, h3, h4, bt h5 hb⟩
theorem below_of {w W W' : World} {p : Nat} (h : Below w.heap.size w W) (hp : w.heap.size ≤ p) (hk : Kept (fun k => k = p) W W') : Below w.heap.size w W' :=
  h.trans (hk.below (fun j e => by omega) h.size)
theorem LR.of {w W W' : World} {p : Nat} {r : Rn} {l : List En} {G : Nat → Prop} {t : Ep} {e : En} (h : TlP G W p t r l W') (he : t.1 = e) (hG : ∀ k, G k → w.heap.size ≤ k) (hb : Below w.heap.size w W) (hp : w.heap.size ≤ p) : LR w W' p r e l ∧ Kept (fun k => k = p) W W' := by
  obtain ⟨G', a, c, qs, h1, h2, h3, h4⟩ := h
  exact ⟨⟨G', a, c, t, qs, h1, he, h2, fun k hk => by
    have := hb.size
    rcases h3 k hk with q | q
    · exact hG k q
    · omega, below_of hb hp h4⟩, h4⟩
theorem lr_stage {w W : World} {p : Nat} {r : Rn} {e : En} {l : List En} (h : LR w W p r e l) : Calls Tryd.prog 17 #[.pointer (some ⟨p, 0, none⟩)] W fun e w' => e = .returned (.int .i64 r.st) ∧ w' = W := by
  obtain ⟨G, a, c, t, qs, h1, h2, h3, h4, h5⟩ := h
  exact stage_is h1
theorem lr_begin {w W : World} {p : Nat} {r : Rn} {e : En} {l : List En} (b : Bl) (h : LR w W p r e l) (h3 : r.st ≠ 3) (h4 : r.st ≠ 4) (hc : (balB b && aboveB b r.b) = true) (hg : 0 ≤ r.bg ∧ r.bg ≤ 9223372036854775806) :
    Calls Tryd.prog 15 #[.pointer (some ⟨p, 0, none⟩), vB b] W fun x w' => x = .returned .nilIface ∧ LR w w' p (r.begin b) e [] ∧ Kept (fun k => k = p) W w' := by
  have hp := h.at.1
  obtain ⟨G, a, c, t, qs, h1, h2, h3', h4', h5⟩ := h
  refine (begin_yes b h1 h3 h4 hc hg).mono ?_
  rintro x w' ⟨rfl, hr, hk⟩
  exact ⟨rfl, ⟨G, none, 0, t, [], hr, h2, rfl, h4', below_of h5 hp hk⟩, hk⟩
theorem lr_accept {w W : World} {p : Nat} {r : Rn} {e : En} {l : List En} (i : Nat) (b : Bl) (h : LR w W p r e l) (hc : cntsB r 2 (i : Int) b = true) :
    Calls Tryd.prog 25 #[.pointer (some ⟨p, 0, none⟩), .int .i64 (i : Int), vB b] W fun x w' => x = .returned (.bool true) ∧ LR w w' p (accR r i) e l ∧ Kept (fun k => k = p) W w' := by
  have hp := h.at.1
  obtain ⟨G, a, c, t, qs, h1, h2, h3', h4', h5⟩ := h
  refine (accepted_yes i b h1 hc).mono ?_
  rintro x w' ⟨rfl, hr, hk⟩
  exact ⟨rfl, ⟨G, a, c, t, qs, hr, h2, h3', h4', below_of h5 hp hk⟩, hk⟩
theorem lr_accept_no {w W : World} {p : Nat} {r : Rn} {e : En} {l : List En} (f : Int) (b : Bl) (h : LR w W p r e l) (hc : cntsB r 2 f b = false) :
    Calls Tryd.prog 25 #[.pointer (some ⟨p, 0, none⟩), .int .i64 f, vB b] W fun x w' => x = .returned (.bool false) ∧ Below W.heap.size W w' := by
  obtain ⟨G, a, c, t, qs, h1, h2, h3', h4', h5⟩ := h
  exact accepted_no f b h1 hc
def promS (r : Rn) (i : Nat) (a : Bl) (k n : Nat) : Rn := if halfI r.N ≤ ((r.hear i).cnt : Int) then tellS (hearN r i a) k n else hearN r i a
def promL (r : Rn) (i : Nat) (a : Bl) (k : Nat) (e : En) (l m : List En) : List En := if halfI r.N ≤ ((r.hear i).cnt : Int) then tellL r.rd k e (newL r a l m) else newL r a l m
/-- The round goes on with its ledger, whatever it is. -/
theorem tell_any {W : World} {G : Nat → Prop} {p : Nat} {r : Rn} {t : Ep} {a : Option Addr} {c k : Nat} {qs : List Ep} {l : List En} (ef : Addr) (h : RB G W p r t (.slice a qs.length c) qs) (hq : fs1 qs = l) (hk : PlIs l t.1.cl t.1.nu k) (he : W.cell? ⟨7, 0, none⟩ = some (vErr ef)) :
    Calls Tryd.prog 44 #[.pointer (some ⟨p, 0, none⟩)] W fun e w' => e = .returned (.tuple #[]) ∧ TlP G W p t (tellS r k l.length) (tellL r.rd k t.1 l) w' := by
  have hl : l.length = qs.length := by rw [← hq]; simp [fs1]
  unfold tellS tellL
  by_cases hr : r.rd = true
  · rw [if_pos hr, if_pos hr, ← hq]
    exact tell_reads h hr
  · have hr' : r.rd = false := by simpa using hr
    rw [if_neg hr, if_neg hr]
    by_cases h0 : k = 0
    · subst h0
      rw [if_pos rfl]
      by_cases h64 : 64 ≤ l.length
      · rw [if_pos ⟨rfl, h64⟩, if_pos h64]
        exact tell_full ef (by rw [hq]; exact hk) (by omega) he h hr'
      · rw [if_neg (fun q => h64 q.2), if_neg h64, ← hq]
        exact tell_new (by rw [hq]; exact hk) (by omega) h hr'
    · rw [if_neg (fun q => h0 q.1), if_neg h0, ← hq]
      obtain ⟨j, rfl⟩ : ∃ j, k = j + 1 := ⟨k - 1, by omega⟩
      exact tell_there j (by rw [hq]; exact hk) h hr'
theorem promise_any {W : World} {G : Nat → Prop} {p : Nat} {r : Rn} {t : Ep} {lv : Value} {ps : List Ep} (i k : Nat) (b a : Bl) (lm : Value) (ms : List Ep) (ef : Addr) (h : RB G W p r t lv ps) (hc : cntsB r 1 (i : Int) b = true) (hm : ∀ W', Kept (fun k => k = p) W W' → Ens W' lm ms) (hml : ms.length * 96 ≤ 140737488355328) (hms : ∀ u ∈ ms, small u)
    (hk : PlIs (newL r a (fs1 ps) (fs1 ms)) t.1.cl t.1.nu k) (he : ∀ W', Kept (fun k => k = p) W W' → W'.cell? ⟨7, 0, none⟩ = some (vErr ef)) :
    Calls Tryd.prog 19 #[.pointer (some ⟨p, 0, none⟩), .int .i64 (i : Int), vB b, vB a, lm] W fun e w' => e = .returned (.bool true) ∧ TlP G W p t (promS r i a k (newL r a (fs1 ps) (fs1 ms)).length) (promL r i a k t.1 (fs1 ps) (fs1 ms)) w' := by
  unfold promS promL
  by_cases hh : halfI r.N ≤ ((r.hear i).cnt : Int)
  · rw [if_pos hh, if_pos hh]
    have hT : ∀ G' W' a' c' qs, RB G' W' p (hearN r i a) t (.slice a' qs.length c') qs → fs1 qs = newL r a (fs1 ps) (fs1 ms) → Kept (fun k => k = p) W W' → Calls Tryd.prog 44 #[.pointer (some ⟨p, 0, none⟩)] W' fun e w' => e = .returned (.tuple #[]) ∧ TlP G' W' p t (tellS (hearN r i a) k (newL r a (fs1 ps) (fs1 ms)).length) (tellL r.rd k t.1 (newL r a (fs1 ps) (fs1 ms))) w' :=
      fun G' W' a' c' qs h' hq hk' => tell_any ef h' hq hk (he W' hk')
    cases ha : aboveB a r.nw with
    | true => exact promise_newh _ _ i b a lm ms h hc hm hml hms ha hh hT
    | false => exact promise_oldh _ _ i b a lm ms h hc ha hh hT
  · rw [if_neg hh, if_neg hh]
    cases ha : aboveB a r.nw with
    | true => exact promise_new i b a lm ms h hc hm hml hms ha hh
    | false => exact promise_old i b a lm ms h hc ha hh
theorem lr_promise {w W : World} {p : Nat} {r : Rn} {e : En} {l : List En} (i k : Nat) (b a : Bl) (lm : Value) (ms : List Ep) (ef : Addr) (h : LR w W p r e l) (hc : cntsB r 1 (i : Int) b = true) (hm : ∀ W', Kept (fun k => k = p) W W' → Ens W' lm ms) (hml : ms.length * 96 ≤ 140737488355328) (hms : ∀ u ∈ ms, small u)
    (hk : PlIs (newL r a l (fs1 ms)) e.cl e.nu k) (he : w.cell? ⟨7, 0, none⟩ = some (vErr ef)) :
    Calls Tryd.prog 19 #[.pointer (some ⟨p, 0, none⟩), .int .i64 (i : Int), vB b, vB a, lm] W fun x w' => x = .returned (.bool true) ∧ LR w w' p (promS r i a k (newL r a l (fs1 ms)).length) e (promL r i a k e l (fs1 ms)) ∧ Kept (fun k => k = p) W w' := by
  have hp := h.at.1
  obtain ⟨G, av, c, t, qs, h1, rfl, rfl, h4, h5⟩ := h
  refine (promise_any i k b a lm ms ef h1 hc hm hml hms hk (fun W' hk' => (below_of h5 hp hk').cell (World.block_lt_of_cell? w _ he) ▸ he)).mono ?_
  rintro x w' ⟨rfl, hT⟩
  exact ⟨rfl, LR.of hT rfl h4 h5 hp⟩
theorem lr_promise_no {w W : World} {p : Nat} {r : Rn} {e : En} {l : List En} (f : Int) (b a : Bl) (v : Value) (h : LR w W p r e l) (hc : cntsB r 1 f b = false) :
    Calls Tryd.prog 19 #[.pointer (some ⟨p, 0, none⟩), .int .i64 f, vB b, vB a, v] W fun x w' => x = .returned (.bool false) ∧ Below W.heap.size W w' := by
  obtain ⟨G, a', c, t, qs, h1, h2, h3', h4', h5⟩ := h
  exact promise_no f b a v h1 hc
theorem lr_ledger {w W : World} {p : Nat} {r : Rn} {e : En} {l : List En} (h : LR w W p r e l) (hh : hasB r = true) : Calls Tryd.prog 22 #[.pointer (some ⟨p, 0, none⟩)] W fun x w' => ∃ a c qs, x = .returned (.slice a qs.length c) ∧ Led W.heap.size w' (.slice a qs.length c) qs ∧ Ens w' (.slice a qs.length c) qs ∧ fs1 qs = l ∧ Below W.heap.size W w' := by
  obtain ⟨G, a, c, t, ps, h1, h2, rfl, h4, h5⟩ := h
  refine (ledger_some h1 hh).mono ?_
  rintro x w' ⟨a2, c2, qs, rfl, hl, hq, hb⟩
  exact ⟨a2, c2, qs, rfl, hl, hl.ens (by have := h1.sl; rw [len_fs hq]; omega) (fun u hu => by have := small_fs hq h1.su u hu; unfold small at this; omega), hq, hb⟩
theorem lr_place_reads {w W : World} {p : Nat} {r : Rn} {e : En} {l : List En} (h : LR w W p r e l) (hh : hasB r = true) (hr : r.rd = true) : Calls Tryd.prog 23 #[.pointer (some ⟨p, 0, none⟩)] W fun x w' => x = .returned (.int .i64 (l.length : Int)) ∧ w' = W := by
  obtain ⟨G, a, c, t, ps, h1, h2, rfl, h4, h5⟩ := h
  have := place_reads h1 hh hr
  rw [show ps.length = (fs1 ps).length by simp [fs1]] at this
  exact this
theorem lr_place {w W : World} {p : Nat} {r : Rn} {e : En} {l : List En} (k : Nat) (h : LR w W p r e l) (hh : hasB r = true) (hr : r.rd = false) (hk : PlIs l e.cl e.nu (k + 1)) : Calls Tryd.prog 23 #[.pointer (some ⟨p, 0, none⟩)] W fun x w' => x = .returned (.int .i64 ((k : Int) + 1)) ∧ Below W.heap.size W w' := by
  obtain ⟨G, a, c, t, ps, h1, rfl, rfl, h4, h5⟩ := h
  exact place_entry k h1 hh hr hk
theorem lr_new {w W : World} (n : Int) (t : Ep) (hb : Below w.heap.size w W) (hn : 1 ≤ n ∧ n ≤ 7) (ht : EnW W t) (hs : small t) (hf : inF t.1) : Calls Tryd.prog 9 #[.int .i64 n, vP t, .bool false] W fun x w' => ∃ p, x = .returned (.tuple #[.pointer (some ⟨p, 0, none⟩), .nilIface]) ∧ LR w w' p (Rn.zero n false) t.1 [] ∧ Below W.heap.size W w' ∧ W.heap.size ≤ p := by
  refine (new_entry W n t hn ht hs hf).mono ?_
  rintro x w' ⟨p, a, c, rfl, h, hb'⟩
  exact ⟨p, rfl, ⟨_, none, 0, (t.1, a, c), [], h, rfl, rfl, fun k hk => by have := hb.size; have := hk.1; omega, bt hb hb'⟩, hb', h.gp.1⟩
theorem lr_new_reads {w W : World} (n : Int) (t : Ep) (hb : Below w.heap.size w W) (hn : 1 ≤ n ∧ n ≤ 7) : Calls Tryd.prog 9 #[.int .i64 n, vP t, .bool true] W fun x w' => ∃ p, x = .returned (.tuple #[.pointer (some ⟨p, 0, none⟩), .nilIface]) ∧ LR w w' p (Rn.zero n true) zEn1 [] ∧ Below W.heap.size W w' ∧ W.heap.size ≤ p := by
  refine (new_reads W n t hn).mono ?_
  rintro x w' ⟨p, rfl, h, hb'⟩
  exact ⟨p, rfl, ⟨_, none, 0, (zEn1, none, 0), [], h, rfl, rfl, fun k hk => by have := hb.size; have := hk.1; omega, bt hb hb'⟩, hb', h.gp.1⟩
end Go.Proofs.YtjocjkfllicjdaaDoor

/- The layer's example. -/
namespace Go.Proofs.YtjocjkfllicjdaaDoor
open Go.ChangeShapes Go.WideShapes Go.ChangeAt Go.RowKit
set_option maxRecDepth 100000
attribute [local go_sem] World.cell?_alloc_some frozen_alloc_some

def mkD (c n x : Int) : En := ⟨c, n, 3, 0, 0, 0, 0, 0, [], x⟩
def mk1 : En := mkD 0 1 0
theorem mkD_in {c n x : Int} (hc : 0 ≤ c ∧ c ≤ 15) (hn : 1 ≤ n ∧ n ≤ 1099511627776) (hx : 0 ≤ x ∧ x ≤ 1099511627776) : inF (mkD c n x) := by
  refine ⟨⟨by show c < 16; omega, hn.1⟩, ⟨by simp [mkD], fun m hm => ?_, fun t ht => by simp [mkD] at ht⟩, .inr (.inl ⟨rfl, ⟨rfl, rfl, rfl⟩, rfl, rfl⟩)⟩
  simp only [hnum, mkD, List.mem_cons, List.not_mem_nil, or_false] at hm
  unfold amt
  rcases hm with rfl | rfl | rfl | rfl | rfl | rfl | rfl | rfl | rfl <;> omega
theorem mk1_in : inF mk1 := mkD_in (by omega) (by omega) (by omega)
theorem mk1_ent (w : World) : EnW w (mk1, none, 0) := ⟨none, 0, rfl, by simp [mk1, mkD], fun hp => by simp [mk1, mkD] at hp⟩
theorem make1_is (w : World) : Calls Tryd.prog 14 #[] w fun e w' => e = .returned (vP (mk1, none, 0)) ∧ Below w.heap.size w w' := by
  go_enter Tryd.func14, Tryd.ntmps14
  go_wp2
  refine bodyPost_ret (ent_leaves1 rfl (heap_alloc_new w _) _ rfl) rfl ⟨rfl, ba (Below.refl _ w) _⟩
theorem led_nil0 (B : Nat) (w : World) : Led B w (.slice none 0 0) [] := ⟨World.ownsRow_nil _ _ _ _, by simp, by simp⟩
theorem ens_nil0 (w : World) : Ens w (.slice none 0 0) [] := (led_nil0 0 w).ens (by simp) (by simp)
theorem plis_nil (c n : Int) : PlIs [] c n 0 := .inl ⟨rfl, by simp⟩
theorem plis_last {l : List En} {e : En} (h : PlIs l e.cl e.nu 0) : PlIs (l ++ [e]) e.cl e.nu (l.length + 1) := by
  rcases h with ⟨_, h⟩ | ⟨j, x, h0, _⟩
  · refine .inr ⟨l.length, e, rfl, by simp, ⟨rfl, rfl⟩, fun i x hi hx => h i x ?_⟩
    rwa [List.getElem?_append_left hi] at hx
  · omega
/-- A law's own ballot outlives what a round does. -/
theorem two_kept {W W' : World} {p b : Nat} {x y : Int} (hk : Kept (fun k => k = p) W W') (hb : b ≠ p) (h : W.heap[b]? = some (oB (x, y))) : W'.heap[b]? = some (oB (x, y)) := (hk.block b (lt_of_heap h) hb).trans h
theorem two_at {W : World} {b : Nat} {x y : Int} (h : W.heap[b]? = some (oB (x, y))) : W.cell? ⟨b, 0, none⟩ = some (.int .i64 x) ∧ W.cell? ⟨b, 1, none⟩ = some (.int .i64 y) := ⟨cell_of_block h rfl, cell_of_block h rfl⟩
def ra1 : Rn := (Rn.zero 3 false).begin (1, 0)
def ra2 : Rn := hearN ra1 0 (0, 0)
def ra3 : Rn := (hearN ra2 2 (0, 0)).enter 2
def ra4 : Rn := ra3.hear 1
def ra5 : Rn := (ra4.hear 2).enter 3
theorem ra2_is : promS ra1 0 (0, 0) 0 (newL ra1 (0, 0) [] (fs1 [])).length = ra2 := rfl
theorem ra2_l : promL ra1 0 (0, 0) 0 mk1 [] (fs1 []) = [] := rfl
theorem ra3_is : promS ra2 2 (0, 0) 0 (newL ra2 (0, 0) [] (fs1 [])).length = ra3 := rfl
theorem ra3_l : promL ra2 2 (0, 0) 0 mk1 [] (fs1 []) = [mk1] := rfl
theorem ra4_is : accR ra3 1 = ra4 := rfl
theorem ra5_is : accR ra4 2 = ra5 := rfl
set_option maxHeartbeats 12800000 in
theorem ralive (w : World) (ef : Addr) (he : w.cell? ⟨7, 0, none⟩ = some (vErr ef)) : Calls Tryd.prog 7 #[] w fun e w' => e = .returned (.bool true) ∧ Below w.heap.size w w' := by
  have HE := mkHid he
  clear he
  go_enter Tryd.func7, Tryd.ntmps7
  go_wp2_with (first
    | (go_at_call 14; (with_reducible refine (make1_is w).mono ?_); rintro x w1 ⟨rfl, b1⟩; have HB1 := mkHid b1; clear b1; simp only [vP, vN, tv])
    | (go_at_call 9; (with_reducible refine (lr_new (w := w) (W := w1) 3 (mk1, none, 0) HB1.out (by omega) (mk1_ent w1) (by simp [small, mk1, mkD]) mk1_in).mono ?_); rintro x w2 ⟨p, rfl, h2, b2, p2⟩; have H2 := mkHid h2; have HP2 := mkHid h2.at.2; clear h2 b2 p2)
    | (go_at_call 15; (with_reducible refine (lr_begin (1, 0) (H2.out.late (ba (Below.refl _ w2) (oB (1, 0)))) (by decide) (by decide) (by decide) (by decide)).mono ?_); rintro x w3 ⟨rfl, h3, k3⟩; have H3 : Hid (LR w w3 p ra1 mk1 []) := mkHid h3; have hx3 := two_kept k3 (by have := HP2.out; omega) (heap_alloc_new w2 (oB (1, 0))); have HX3 := mkHid hx3; obtain ⟨y0, y1⟩ := two_at hx3; clear h3 k3 hx3)
    | (go_at_call 19; have HC : Calls Tryd.prog 19 #[.pointer (some ⟨p, 0, none⟩), .int .i64 0, vB (1, 0), vB (0, 0), .slice none 0 0] w3 fun x w' => x = .returned (.bool true) ∧ LR w w' p ra2 mk1 [] ∧ Kept (fun k => k = p) w3 w' := lr_promise 0 0 (1, 0) (0, 0) (.slice none 0 0) [] ef H3.out rfl (fun W' _ => ens_nil0 W') (by simp) (by simp) (plis_nil _ _) HE.out; (with_reducible refine HC.mono ?_); clear HC; rintro x w4 ⟨rfl, h4, k4⟩; have H4 := mkHid h4; have hx4 := two_kept k4 (by have := HP2.out; omega) HX3.out; have HX4 := mkHid hx4; obtain ⟨z0, z1⟩ := two_at hx4; clear h4 k4 hx4 y0 y1)
    | (go_at_call 19; have HC : Calls Tryd.prog 19 #[.pointer (some ⟨p, 0, none⟩), .int .i64 0, vB (1, 0), vB (0, 0), .slice none 0 0] w4 fun x w' => x = .returned (.bool false) ∧ Below w4.heap.size w4 w' := lr_promise_no 0 (1, 0) (0, 0) (.slice none 0 0) H4.out rfl; (with_reducible refine HC.mono ?_); clear HC; rintro x w5 ⟨rfl, b5⟩; have H5 := mkHid (H4.out.late b5); have hx5 := (b5.block _ (lt_of_heap HX4.out)).trans HX4.out; have HX5 := mkHid hx5; obtain ⟨y0, y1⟩ := two_at hx5; clear b5 hx5 z0 z1)
    | (go_at_call 19; have HC : Calls Tryd.prog 19 #[.pointer (some ⟨p, 0, none⟩), .int .i64 2, vB (1, 0), vB (0, 0), .slice none 0 0] w5 fun x w' => x = .returned (.bool true) ∧ LR w w' p ra3 mk1 [mk1] ∧ Kept (fun k => k = p) w5 w' := lr_promise 2 0 (1, 0) (0, 0) (.slice none 0 0) [] ef H5.out rfl (fun W' _ => ens_nil0 W') (by simp) (by simp) (plis_nil _ _) HE.out; (with_reducible refine HC.mono ?_); clear HC; rintro x w6 ⟨rfl, h6, k6⟩; have H6 := mkHid h6; have hx6 := two_kept k6 (by have := HP2.out; omega) HX5.out; have HX6 := mkHid hx6; obtain ⟨z0, z1⟩ := two_at hx6; clear h6 k6 hx6 y0 y1)
    | (go_at_call 25; have HC : Calls Tryd.prog 25 #[.pointer (some ⟨p, 0, none⟩), .int .i64 1, vB (1, 0)] w6 fun x w' => x = .returned (.bool true) ∧ LR w w' p ra4 mk1 [mk1] ∧ Kept (fun k => k = p) w6 w' := lr_accept 1 (1, 0) H6.out rfl; (with_reducible refine HC.mono ?_); clear HC; rintro x w7 ⟨rfl, h7, k7⟩; have H7 := mkHid h7; have hx7 := two_kept k7 (by have := HP2.out; omega) HX6.out; obtain ⟨y0, y1⟩ := two_at hx7; clear h7 k7 hx7 z0 z1)
    | (go_at_call 25; have HC : Calls Tryd.prog 25 #[.pointer (some ⟨p, 0, none⟩), .int .i64 2, vB (1, 0)] w7 fun x w' => x = .returned (.bool true) ∧ LR w w' p ra5 mk1 [mk1] ∧ Kept (fun k => k = p) w7 w' := lr_accept 2 (1, 0) H7.out rfl; (with_reducible refine HC.mono ?_); clear HC; rintro x w8 ⟨rfl, h8, k8⟩; have H8 := mkHid h8; clear h8 k8 y0 y1)
    | (go_at_call 17; have HC : Calls Tryd.prog 17 #[.pointer (some ⟨p, 0, none⟩)] w8 fun x w' => x = .returned (.int .i64 3) ∧ w' = w8 := lr_stage H8.out; (with_reducible refine HC.mono ?_); clear HC; rintro x w9 ⟨rfl, e9⟩; have H9 : Hid (LR w w9 p ra5 mk1 [mk1]) := mkHid (e9 ▸ H8.out); clear e9)
    | (go_at_call 23; have HC : Calls Tryd.prog 23 #[.pointer (some ⟨p, 0, none⟩)] w9 fun x w' => x = .returned (.int .i64 1) ∧ Below w9.heap.size w9 w' := lr_place 0 H9.out rfl rfl (plis_last (l := []) (plis_nil _ _)); (with_reducible refine HC.mono ?_); clear HC; rintro x w10 ⟨rfl, b10⟩; have HB10 := mkHid (bt H9.out.low b10); clear b10))
  go_ret
  exact ⟨rfl, HB10.out⟩
end Go.Proofs.YtjocjkfllicjdaaDoor

