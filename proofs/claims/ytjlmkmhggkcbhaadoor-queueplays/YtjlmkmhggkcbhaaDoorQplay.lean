/- play, one call by both: Push, Turn, Drop. -/
import Derived.Test.YtjlmkmhggkcbhaaDoorQpair
namespace Go.Proofs.YtjlmkmhggkcbhaaDoor
open Go.ChangeShapes Go.WideShapes Go.ChangeAt Go.RowKit
set_option maxRecDepth 100000
set_option linter.unusedVariables false

set_option maxHeartbeats 3200000 in
theorem play_push (W0 w : World) (a : Nat → Addr) (HE : Errs W0 a) (hB : Below W0.heap.size W0 w) (p q : Nat) (F G : Nat → Prop) (V L : List Th) (h : Pair W0.heap.size w p q F G V L) (wh id r : Int) :
    Calls Tryd.prog 10 #[.pointer (some ⟨p, 0, none⟩), .pointer (some ⟨q, 0, none⟩), .agg #[.int .i64 1, .int .i64 wh, .int .i64 id, .int .i64 r]] w fun e w' => e = .returned (.bool true) ∧ Hid (Nx W0.heap.size w w' p q F G) := by
  obtain ⟨ev, hnum, hpush⟩ := push_both W0 w a HE hB h id r
  have HNUM := mkHid hnum
  have HPUSH := mkHid hpush
  have H := mkHid h
  have HBW := mkHid hB
  obtain ⟨W, hW⟩ : ∃ W, W = w.alloc (.cells #[.int .i64 1, .int .i64 wh, .int .i64 id, .int .i64 r] 33) := ⟨_, rfl⟩
  have hb : Below w.heap.size w W := by rw [hW]; exact (Below.refl _ w).alloc (Nat.le_refl _) _
  have HB := mkHid hb
  have HLT : Hid (∀ k, F k ∨ G k → k < w.heap.size) := mkHid (fun k hk => hk.elim (h.v.lt k) (h.l.1 k))
  have c0 : W.cell? ⟨w.heap.size, 0, none⟩ = some (.int .i64 1) := by rw [hW]; simp
  have c2 : W.cell? ⟨w.heap.size, 2, none⟩ = some (.int .i64 id) := by rw [hW]; simp
  have c3 : W.cell? ⟨w.heap.size, 3, none⟩ = some (.int .i64 r) := by rw [hW]; simp
  obtain ⟨cd, hcd⟩ : ∃ cd, cd = pcode L id := ⟨_, rfl⟩
  have HCD := mkHid hcd
  have HC : Hid (W.cell? ⟨w.heap.size, 0, none⟩ = some (.int .i64 1) ∧ W.cell? ⟨w.heap.size, 2, none⟩ = some (.int .i64 id) ∧ W.cell? ⟨w.heap.size, 3, none⟩ = some (.int .i64 r)) := mkHid ⟨c0, c2, c3⟩
  clear hnum hpush h hB hb hcd HE c0 c2 c3
  go_enter Tryd.func10, Tryd.ntmps10
  go_wp2_with (first | (go_at_call 18; (try rw [← hW]); refine (HPUSH.out W HB.out).mono ?_; rintro e w1 ⟨rfl, hq⟩; have HQ := mkHid hq.out; obtain ⟨F', V', x1, x2, x3, x4⟩ := hq.out; have n0 : ¬ F w.heap.size := fun f => absurd (HLT.out _ (.inl f)) (Nat.lt_irrefl _); have d0 : w1.cell? ⟨w.heap.size, 0, none⟩ = some (.int .i64 1) := x3.cell HC.out.1 n0; have d2 : w1.cell? ⟨w.heap.size, 2, none⟩ = some (.int .i64 id) := x3.cell HC.out.2.1 n0; have d3 : w1.cell? ⟨w.heap.size, 3, none⟩ = some (.int .i64 r) := x3.cell HC.out.2.2 n0; have hws : w.heap.size < w1.heap.size := Nat.lt_of_lt_of_le (by rw [hW]; simp) x3.size; have HWS := mkHid hws; have HB1 : Hid (Below W0.heap.size W0 w1) := mkHid ((HBW.out.trans (HB.out.mono HBW.out.size)).trans (x3.below H.out.fb (Nat.le_trans HBW.out.size HB.out.size))); clear hq x1 x2 x3 x4 n0 hws))
  clear hW
  have HD : Hid (∀ w9, Kept G w1.drew w9 → w9.cell? ⟨w.heap.size, 0, none⟩ = some (.int .i64 1) ∧ w9.cell? ⟨w.heap.size, 2, none⟩ = some (.int .i64 id) ∧ w9.cell? ⟨w.heap.size, 3, none⟩ = some (.int .i64 r)) := mkHid (fun w9 hk => ⟨hk.cell (w := w1.drew) d0 (fun f => absurd (HLT.out _ (.inr f)) (Nat.lt_irrefl _)), hk.cell (w := w1.drew) d2 (fun f => absurd (HLT.out _ (.inr f)) (Nat.lt_irrefl _)), hk.cell (w := w1.drew) d3 (fun f => absurd (HLT.out _ (.inr f)) (Nat.lt_irrefl _))⟩)
  go_region_held3 (fun w' => w'.cell? ⟨w.heap.size, 0, none⟩ = some (.int .i64 1) ∧ w'.cell? ⟨w.heap.size, 2, none⟩ = some (.int .i64 id) ∧ w'.cell? ⟨w.heap.size, 3, none⟩ = some (.int .i64 r)) (go_keep) (first
    | (go_at_call 27; have hn := HNUM.out w1.drew HB1.out.drew; rw [← HCD.out] at hn; refine hn.mono ?_; clear hn; rintro e w2 ⟨rfl, hb2⟩; have HB2 : Hid (Below w1.heap.size w1 w2) := mkHid (((Below.refl _ w1).drew).trans hb2); obtain ⟨e0, e2, e3⟩ := HD.out w2 (kept_below G hb2); clear hb2)
    | (go_at_call 28; have hn := rpush_is G w2 q L id r (H.out.rq HB.out HQ.out HB2.out) H.out.g.m; rw [← HCD.out] at hn; refine hn.mono ?_; clear hn; rintro e w3 ⟨rfl, h3⟩; have H3 : Hid (Lr G w2 w3 q (pushL L id r)) := h3; have hk3 : Kept G w1.drew w3 := (by obtain ⟨_, _, _, k3⟩ := h3.out; exact (kept_below G (show Below w1.drew.heap.size w1.drew w2 from ⟨HB2.out.os, HB2.out.tape, HB2.out.output, HB2.out.size, HB2.out.block⟩)).trans k3 (fun _ x => .inl x)); obtain ⟨g0, g2, g3⟩ := HD.out w3 hk3; clear h3 hk3))
  go_wp2
  go_ret
  refine ⟨by simp, ?_⟩
  exact H.out.nx HBW.out.size HB.out HQ.out HB2.out H3.out
set_option maxHeartbeats 3200000 in
theorem play_turn (W0 w : World) (a : Nat → Addr) (HE : Errs W0 a) (hB : Below W0.heap.size W0 w) (p q : Nat) (F G : Nat → Prop) (V L : List Th) (h : Pair W0.heap.size w p q F G V L) (wh id r : Int) :
    Calls Tryd.prog 10 #[.pointer (some ⟨p, 0, none⟩), .pointer (some ⟨q, 0, none⟩), .agg #[.int .i64 4, .int .i64 wh, .int .i64 id, .int .i64 r]] w fun e w' => e = .returned (.bool true) ∧ Hid (Nx W0.heap.size w w' p q F G) := by
  obtain ⟨ev, hnum, hpush, href⟩ := turn_both W0 w a HE hB h id r
  have HREF := mkHid href
  have HNUM := mkHid hnum
  have HPUSH := mkHid hpush
  have H := mkHid h
  have HBW := mkHid hB
  obtain ⟨W, hW⟩ : ∃ W, W = w.alloc (.cells #[.int .i64 4, .int .i64 wh, .int .i64 id, .int .i64 r] 33) := ⟨_, rfl⟩
  have hb : Below w.heap.size w W := by rw [hW]; exact (Below.refl _ w).alloc (Nat.le_refl _) _
  have HB := mkHid hb
  have HLT : Hid (∀ k, F k ∨ G k → k < w.heap.size) := mkHid (fun k hk => hk.elim (h.v.lt k) (h.l.1 k))
  have c0 : W.cell? ⟨w.heap.size, 0, none⟩ = some (.int .i64 4) := by rw [hW]; simp
  have c2 : W.cell? ⟨w.heap.size, 2, none⟩ = some (.int .i64 id) := by rw [hW]; simp
  have c3 : W.cell? ⟨w.heap.size, 3, none⟩ = some (.int .i64 r) := by rw [hW]; simp
  obtain ⟨cd, hcd⟩ : ∃ cd, cd = gcode L id := ⟨_, rfl⟩
  have HCD := mkHid hcd
  have HC : Hid (W.cell? ⟨w.heap.size, 0, none⟩ = some (.int .i64 4) ∧ W.cell? ⟨w.heap.size, 2, none⟩ = some (.int .i64 id) ∧ W.cell? ⟨w.heap.size, 3, none⟩ = some (.int .i64 r)) := mkHid ⟨c0, c2, c3⟩
  clear hnum hpush h hB hb hcd HE c0 c2 c3 href
  go_enter Tryd.func10, Tryd.ntmps10
  go_wp2_with (first | (go_at_call 20; (try rw [← hW]); refine (HPUSH.out W HB.out).mono ?_; rintro e w1 ⟨rfl, hq⟩; have HQ := mkHid hq.out; obtain ⟨F', V', x1, x2, x3, x4⟩ := hq.out; have n0 : ¬ F w.heap.size := fun f => absurd (HLT.out _ (.inl f)) (Nat.lt_irrefl _); have d0 : w1.cell? ⟨w.heap.size, 0, none⟩ = some (.int .i64 4) := x3.cell HC.out.1 n0; have d2 : w1.cell? ⟨w.heap.size, 2, none⟩ = some (.int .i64 id) := x3.cell HC.out.2.1 n0; have d3 : w1.cell? ⟨w.heap.size, 3, none⟩ = some (.int .i64 r) := x3.cell HC.out.2.2 n0; have hws : w.heap.size < w1.heap.size := Nat.lt_of_lt_of_le (by rw [hW]; simp) x3.size; have HWS := mkHid hws; have HB1 : Hid (Below W0.heap.size W0 w1) := mkHid ((HBW.out.trans (HB.out.mono HBW.out.size)).trans (x3.below H.out.fb (Nat.le_trans HBW.out.size HB.out.size))); clear hq x1 x2 x3 x4 n0 hws))
  clear hW
  have HD : Hid (∀ w9, Kept G w1.drew w9 → w9.cell? ⟨w.heap.size, 0, none⟩ = some (.int .i64 4) ∧ w9.cell? ⟨w.heap.size, 2, none⟩ = some (.int .i64 id) ∧ w9.cell? ⟨w.heap.size, 3, none⟩ = some (.int .i64 r)) := mkHid (fun w9 hk => ⟨hk.cell (w := w1.drew) d0 (fun f => absurd (HLT.out _ (.inr f)) (Nat.lt_irrefl _)), hk.cell (w := w1.drew) d2 (fun f => absurd (HLT.out _ (.inr f)) (Nat.lt_irrefl _)), hk.cell (w := w1.drew) d3 (fun f => absurd (HLT.out _ (.inr f)) (Nat.lt_irrefl _))⟩)
  go_region_held3 (fun w' => w'.cell? ⟨w.heap.size, 0, none⟩ = some (.int .i64 4) ∧ w'.cell? ⟨w.heap.size, 2, none⟩ = some (.int .i64 id) ∧ w'.cell? ⟨w.heap.size, 3, none⟩ = some (.int .i64 r)) (go_keep) (first
    | (go_at_call 27; have hn := HNUM.out w1.drew HB1.out.drew; rw [← HCD.out] at hn; refine hn.mono ?_; clear hn; rintro e w2 ⟨rfl, hb2⟩; have HB2 : Hid (Below w1.heap.size w1 w2) := mkHid (((Below.refl _ w1).drew).trans hb2); obtain ⟨e0, e2, e3⟩ := HD.out w2 (kept_below G hb2); clear hb2)
    | (go_at_call 31; have hn := HREF.out w2 G (H.out.rq HB.out HQ.out HB2.out); rw [← HCD.out] at hn; refine hn.mono ?_; clear hn; rintro e w3 ⟨rfl, h3⟩; have H3 : Hid (Lr G w2 w3 q (turnL L id r)) := h3; have hk3 : Kept G w1.drew w3 := (by obtain ⟨_, _, _, k3⟩ := h3.out; exact (kept_below G (show Below w1.drew.heap.size w1.drew w2 from ⟨HB2.out.os, HB2.out.tape, HB2.out.output, HB2.out.size, HB2.out.block⟩)).trans k3 (fun _ x => .inl x)); obtain ⟨g0, g2, g3⟩ := HD.out w3 hk3; clear h3 hk3))
  go_wp2
  go_ret
  refine ⟨by simp, ?_⟩
  exact H.out.nx HBW.out.size HB.out HQ.out HB2.out H3.out
set_option maxHeartbeats 3200000 in
theorem play_drop (W0 w : World) (a : Nat → Addr) (HE : Errs W0 a) (hB : Below W0.heap.size W0 w) (p q : Nat) (F G : Nat → Prop) (V L : List Th) (h : Pair W0.heap.size w p q F G V L) (wh id r : Int) :
    Calls Tryd.prog 10 #[.pointer (some ⟨p, 0, none⟩), .pointer (some ⟨q, 0, none⟩), .agg #[.int .i64 5, .int .i64 wh, .int .i64 id, .int .i64 r]] w fun e w' => e = .returned (.bool true) ∧ Hid (Nx W0.heap.size w w' p q F G) := by
  obtain ⟨ev, hnum, hpush, href⟩ := drop_both W0 w a HE hB h id
  have HREF := mkHid href
  have HNUM := mkHid hnum
  have HPUSH := mkHid hpush
  have H := mkHid h
  have HBW := mkHid hB
  obtain ⟨W, hW⟩ : ∃ W, W = w.alloc (.cells #[.int .i64 5, .int .i64 wh, .int .i64 id, .int .i64 r] 33) := ⟨_, rfl⟩
  have hb : Below w.heap.size w W := by rw [hW]; exact (Below.refl _ w).alloc (Nat.le_refl _) _
  have HB := mkHid hb
  have HLT : Hid (∀ k, F k ∨ G k → k < w.heap.size) := mkHid (fun k hk => hk.elim (h.v.lt k) (h.l.1 k))
  have c0 : W.cell? ⟨w.heap.size, 0, none⟩ = some (.int .i64 5) := by rw [hW]; simp
  have c2 : W.cell? ⟨w.heap.size, 2, none⟩ = some (.int .i64 id) := by rw [hW]; simp
  obtain ⟨cd, hcd⟩ : ∃ cd, cd = gcode L id := ⟨_, rfl⟩
  have HCD := mkHid hcd
  have HC : Hid (W.cell? ⟨w.heap.size, 0, none⟩ = some (.int .i64 5) ∧ W.cell? ⟨w.heap.size, 2, none⟩ = some (.int .i64 id)) := mkHid ⟨c0, c2⟩
  clear hnum hpush h hB hb hcd HE c0 c2 href
  go_enter Tryd.func10, Tryd.ntmps10
  go_wp2_with (first | (go_at_call 19; (try rw [← hW]); refine (HPUSH.out W HB.out).mono ?_; rintro e w1 ⟨rfl, hq⟩; have HQ := mkHid hq.out; obtain ⟨F', V', x1, x2, x3, x4⟩ := hq.out; have n0 : ¬ F w.heap.size := fun f => absurd (HLT.out _ (.inl f)) (Nat.lt_irrefl _); have d0 : w1.cell? ⟨w.heap.size, 0, none⟩ = some (.int .i64 5) := x3.cell HC.out.1 n0; have d2 : w1.cell? ⟨w.heap.size, 2, none⟩ = some (.int .i64 id) := x3.cell HC.out.2 n0; have hws : w.heap.size < w1.heap.size := Nat.lt_of_lt_of_le (by rw [hW]; simp) x3.size; have HWS := mkHid hws; have HB1 : Hid (Below W0.heap.size W0 w1) := mkHid ((HBW.out.trans (HB.out.mono HBW.out.size)).trans (x3.below H.out.fb (Nat.le_trans HBW.out.size HB.out.size))); clear hq x1 x2 x3 x4 n0 hws))
  clear hW
  have HD : Hid (∀ w9, Kept G w1.drew w9 → w9.cell? ⟨w.heap.size, 0, none⟩ = some (.int .i64 5) ∧ w9.cell? ⟨w.heap.size, 2, none⟩ = some (.int .i64 id)) := mkHid (fun w9 hk => ⟨hk.cell (w := w1.drew) d0 (fun f => absurd (HLT.out _ (.inr f)) (Nat.lt_irrefl _)), hk.cell (w := w1.drew) d2 (fun f => absurd (HLT.out _ (.inr f)) (Nat.lt_irrefl _))⟩)
  go_region_held3 (fun w' => w'.cell? ⟨w.heap.size, 0, none⟩ = some (.int .i64 5) ∧ w'.cell? ⟨w.heap.size, 2, none⟩ = some (.int .i64 id)) (go_keep) (first
    | (go_at_call 27; have hn := HNUM.out w1.drew HB1.out.drew; rw [← HCD.out] at hn; refine hn.mono ?_; clear hn; rintro e w2 ⟨rfl, hb2⟩; have HB2 : Hid (Below w1.heap.size w1 w2) := mkHid (((Below.refl _ w1).drew).trans hb2); obtain ⟨e0, e2⟩ := HD.out w2 (kept_below G hb2); clear hb2)
    | (go_at_call 32; have hn := HREF.out w2 G (H.out.rq HB.out HQ.out HB2.out); rw [← HCD.out] at hn; refine hn.mono ?_; clear hn; rintro e w3 ⟨rfl, h3⟩; have H3 : Hid (Lr G w2 w3 q (dropL L id)) := h3; have hk3 : Kept G w1.drew w3 := (by obtain ⟨_, _, _, k3⟩ := h3.out; exact (kept_below G (show Below w1.drew.heap.size w1.drew w2 from ⟨HB2.out.os, HB2.out.tape, HB2.out.output, HB2.out.size, HB2.out.block⟩)).trans k3 (fun _ x => .inl x)); obtain ⟨g0, g2⟩ := HD.out w3 hk3; clear h3 hk3))
  go_wp2
  go_ret
  refine ⟨by simp, ?_⟩
  exact H.out.nx HBW.out.size HB.out HQ.out HB2.out H3.out
end Go.Proofs.YtjlmkmhggkcbhaaDoor
