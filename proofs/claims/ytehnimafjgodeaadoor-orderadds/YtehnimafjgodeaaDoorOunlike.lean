/- The law OrderUnlike. -/
import Derived.Test.YtehnimafjgodeaaDoorOread
namespace Go.Proofs.YtehnimafjgodeaaDoor
open Go.ChangeShapes Go.WideShapes Go.ChangeAt Go.RowKit
set_option maxRecDepth 100000
attribute [local go_sem] World.cell?_alloc_some frozen_alloc_some

theorem write_yes (w : World) (v : Value) (ps : List Ep) (es : Addr) (h : Ens w v ps) (hl : ps.length ≤ 64) (he : w.cell? ⟨0, 0, none⟩ = some (vErr es)) (hf : ∀ t ∈ ps, inF t.1) : Calls Tryd.prog 24 #[v] w fun r w' => ∃ v', r = .returned (.tuple #[v', .nilIface]) ∧ w'.ownsRow w.heap.size 5 1 v' (bytesL (fs1 ps)).length ((bytesL (fs1 ps)).map (Value.int .u8)) ∧ Below w.heap.size w w' := by
  refine (write_all w v ps es h hl he).mono ?_
  rintro r w' ⟨hb, ⟨_, v', rfl, ho⟩ | ⟨hn, _⟩⟩
  · exact ⟨v', rfl, ho, hb⟩
  · exact absurd hf hn
theorem bytesL_inj {l m : List En} (hl : ∀ e ∈ l, inF e) (hm : ∀ e ∈ m, inF e) (h : bytesL l = bytesL m) : l = m := by
  rw [bytesL_eq, bytesL_eq] at h
  obtain ⟨h1, h2⟩ := enc_free _ _ _ _ h
  have := (chunks_pre l m [] hl hm (by omega) (by simpa using h2)).2
  rw [this, h1, List.take_of_length_le (Nat.le_refl _)]
theorem ens_two (w : World) (t u : Ep) (ht : EnW w t) (hu : EnW w u) : Ens (w.alloc (.cells #[.int .i64 t.1.cl, .int .i64 t.1.nu, .int .i64 t.1.ki, .int .i64 t.1.id, .int .i64 t.1.sk, .int .i64 t.1.sq, .int .i64 t.1.st, .int .i64 t.1.po, tv t, .int .i64 t.1.tm, .int .i64 u.1.cl, .int .i64 u.1.nu, .int .i64 u.1.ki, .int .i64 u.1.id, .int .i64 u.1.sk, .int .i64 u.1.sq, .int .i64 u.1.st, .int .i64 u.1.po, tv u, .int .i64 u.1.tm] 28)) (.slice (some ⟨w.heap.size, 0, none⟩) 2 2) [t, u] := by
  have hn := heap_alloc_new w (.cells #[.int .i64 t.1.cl, .int .i64 t.1.nu, .int .i64 t.1.ki, .int .i64 t.1.id, .int .i64 t.1.sk, .int .i64 t.1.sq, .int .i64 t.1.st, .int .i64 t.1.po, tv t, .int .i64 t.1.tm, .int .i64 u.1.cl, .int .i64 u.1.nu, .int .i64 u.1.ki, .int .i64 u.1.id, .int .i64 u.1.sk, .int .i64 u.1.sq, .int .i64 u.1.st, .int .i64 u.1.po, tv u, .int .i64 u.1.tm] 28)
  refine ⟨_, _, rfl, by simp, fun _ => ⟨w.heap.size, 0, rfl, fun i x hx => ?_⟩, fun x hx => ?_⟩
  · have hi : i = 0 ∨ i = 1 := by have := (List.getElem?_eq_some_iff.mp hx).1; simp at this; omega
    rcases hi with rfl | rfl <;> simp at hx <;> subst hx
    · exact ⟨cell_of_block hn rfl, cell_of_block hn rfl, cell_of_block hn rfl, cell_of_block hn rfl, cell_of_block hn rfl, cell_of_block hn rfl, cell_of_block hn rfl, cell_of_block hn rfl, cell_of_block hn rfl, cell_of_block hn rfl⟩
    · exact ⟨cell_of_block hn rfl, cell_of_block hn rfl, cell_of_block hn rfl, cell_of_block hn rfl, cell_of_block hn rfl, cell_of_block hn rfl, cell_of_block hn rfl, cell_of_block hn rfl, cell_of_block hn rfl, cell_of_block hn rfl⟩
  · simp at hx
    rcases hx with rfl | rfl
    · exact ht.below ((Below.refl _ _).alloc (Nat.le_refl _) _)
    · exact hu.below ((Below.refl _ _).alloc (Nat.le_refl _) _)
theorem read_yes (w : World) (v : Value) (l : List En) (eb es : Addr) (h : Rd w v (bytesL l)) (hl : l.length ≤ 64) (hf : ∀ e ∈ l, inF e) (he : w.cell? ⟨1, 0, none⟩ = some (vErr eb)) (hes : w.cell? ⟨0, 0, none⟩ = some (vErr es)) :
    Calls Tryd.prog 20 #[v] w fun r w' => ∃ v' qs, r = .returned (.tuple #[v', .nilIface]) ∧ Led w.heap.size w' v' qs ∧ fs1 qs = l ∧ Below w.heap.size w w' := by
  refine (read_any w v _ eb es h (by have := bytesL_len hl hf; omega) he hes).mono ?_
  rintro r w' ⟨hb, ⟨v', qs, hq, hq64, he, rfl, hL⟩ | ⟨hno, _⟩⟩
  · exact ⟨v', qs, rfl, hL, (bytesL_inj hf (fun e he => by obtain ⟨t, ht, rfl⟩ := List.mem_map.mp he; exact hq t ht) he).symm, hb⟩
  · exact absurd rfl (hno l hl hf)
theorem read_two (w : World) (v : Value) (e f : En) (eb es : Addr) (h : Rd w v (bytesL [e, f])) (hf : inF e) (hg : inF f) (he : w.cell? ⟨1, 0, none⟩ = some (vErr eb)) (hes : w.cell? ⟨0, 0, none⟩ = some (vErr es)) :
    Calls Tryd.prog 20 #[v] w fun r w' => ∃ gb gc xa xc ya yc, r = .returned (.tuple #[.slice (some ⟨gb, 0, none⟩) 2 gc, .nilIface]) ∧ EnAt w' gb 0 (e, xa, xc) ∧ EnAt w' gb 10 (f, ya, yc) ∧ EnW w' (e, xa, xc) ∧ EnW w' (f, ya, yc) ∧ Below w.heap.size w w' := by
  have hall : ∀ x ∈ [e, f], inF x := by intro x hx; simp at hx; rcases hx with rfl | rfl <;> assumption
  refine (read_yes w v [e, f] eb es h (by simp) hall he hes).mono ?_
  rintro r w' ⟨v', qs, rfl, hL, hq, hb⟩
  match qs, hq with
  | [(e', xa, xc), (f', ya, yc)], hq =>
    simp at hq
    obtain ⟨rfl, rfl⟩ := hq
    have hen := hL.ens (by simp) (fun t ht => by simp at ht; rcases ht with rfl | rfl; have := hf.2.1.1; simp only; omega; have := hg.2.1.1; simp only; omega)
    obtain ⟨a0, cap, rfl, _, hr, hw⟩ := hen
    obtain ⟨g, off, rfl, hc⟩ := hr (by simp)
    have hz : off = 0 := by
      rcases hL.own.2 with ⟨e1, _⟩ | ⟨g1, cap1, cur, e1, _⟩
      · simp at e1
      · simp at e1; exact e1.1.2
    subst hz
    exact ⟨g, cap, xa, xc, ya, yc, rfl, by simpa using hc 0 _ rfl, by simpa using hc 1 _ rfl, hw _ (by simp), hw _ (by simp), hb⟩
set_option maxHeartbeats 12800000 in
theorem unlike_nonn (w : World) (e f : En) (a a2 : Option Addr) (cap cap2 : Nat) (es : Addr) (ht : EnW w (e, a, cap)) (hu : EnW w (f, a2, cap2)) (hf : ¬ inF e) (hg : ¬ inF f) (hes : w.cell? ⟨0, 0, none⟩ = some (vErr es)) : Calls Tryd.prog 7 #[vP (e, a, cap), vP (f, a2, cap2)] w fun r w' => r = .returned (.bool true) ∧ Below w.heap.size w w' := by
  have R0 := fun W (hW : Below ((w.alloc (oE e (.slice a e.ts.length cap))).alloc (oE f (.slice a2 f.ts.length cap2))).heap.size ((w.alloc (oE e (.slice a e.ts.length cap))).alloc (oE f (.slice a2 f.ts.length cap2))) W) => two_facts hW
  have HT := mkHid ht
  have HU := mkHid hu
  have HF := mkHid hf
  have HG := mkHid hg
  have M1 : True := trivial
  have M2 : True := trivial
  clear ht hu hf hg
  simp only [vP, vN, tv]
  go_enter Tryd.func7, Tryd.ntmps7
  go_wp2_with (first
    | (go_at_call 9; refine (alive_any _).mono ?_; rintro r w1 ⟨rfl, b1⟩; have HB1 : Hid (Below ((w.alloc (oE e (.slice a e.ts.length cap))).alloc (oE f (.slice a2 f.ts.length cap2))).heap.size ((w.alloc (oE e (.slice a e.ts.length cap))).alloc (oE f (.slice a2 f.ts.length cap2))) w1) := mkHid b1; clear b1; obtain ⟨p0, p1, p2, p3, p4, p5, p6, p7, p8, p9⟩ := ent_cells (R0 _ HB1.out).1; obtain ⟨q0, q1, q2, q3, q4, q5, q6, q7, q8, q9⟩ := ent_cells (R0 _ HB1.out).2)
    | (go_at_call 12; clear M1; refine (put_no w1 (e, a, cap) es (HT.out.below (two_below HB1.out)) HF.out (kc hes (two_below HB1.out))).mono ?_; rintro r w2 ⟨rfl, b2⟩; have HB2 := mkHid (bt HB1.out b2); clear b2; clear p0 p1 p2 p3 p4 p5 p6 p7 p8 p9 q0 q1 q2 q3 q4 q5 q6 q7 q8 q9; obtain ⟨p0, p1, p2, p3, p4, p5, p6, p7, p8, p9⟩ := ent_cells (R0 _ HB2.out).1; obtain ⟨q0, q1, q2, q3, q4, q5, q6, q7, q8, q9⟩ := ent_cells (R0 _ HB2.out).2)
    | (go_at_call 12; refine (put_no w2 (f, a2, cap2) es (HU.out.below (two_below HB2.out)) HG.out (kc hes (two_below HB2.out))).mono ?_; rintro r w3 ⟨rfl, b3⟩; have HB3 := mkHid (bt HB2.out b3); clear b3; clear p0 p1 p2 p3 p4 p5 p6 p7 p8 p9 q0 q1 q2 q3 q4 q5 q6 q7 q8 q9; obtain ⟨p0, p1, p2, p3, p4, p5, p6, p7, p8, p9⟩ := ent_cells (R0 _ HB3.out).1; obtain ⟨q0, q1, q2, q3, q4, q5, q6, q7, q8, q9⟩ := ent_cells (R0 _ HB3.out).2)
    | (go_at_call 14; refine (inForm_no w3 (e, a, cap) (HT.out.below (two_below HB3.out)) HF.out).mono ?_; rintro r w4 ⟨rfl, b4⟩; have HB4 := mkHid (bt HB3.out b4); clear b4))
  go_ret
  exact ⟨rfl, two_below HB4.out⟩
set_option maxHeartbeats 12800000 in
theorem unlike_nony (w : World) (e f : En) (a a2 : Option Addr) (cap cap2 : Nat) (es : Addr) (ht : EnW w (e, a, cap)) (hu : EnW w (f, a2, cap2)) (hf : ¬ inF e) (hg : inF f) (hes : w.cell? ⟨0, 0, none⟩ = some (vErr es)) : Calls Tryd.prog 7 #[vP (e, a, cap), vP (f, a2, cap2)] w fun r w' => r = .returned (.bool true) ∧ Below w.heap.size w w' := by
  have R0 := fun W (hW : Below ((w.alloc (oE e (.slice a e.ts.length cap))).alloc (oE f (.slice a2 f.ts.length cap2))).heap.size ((w.alloc (oE e (.slice a e.ts.length cap))).alloc (oE f (.slice a2 f.ts.length cap2))) W) => two_facts hW
  have HT := mkHid ht
  have HU := mkHid hu
  have HF := mkHid hf
  have HG := mkHid hg
  have M1 : True := trivial
  have M2 : True := trivial
  clear ht hu hf hg
  simp only [vP, vN, tv]
  go_enter Tryd.func7, Tryd.ntmps7
  go_wp2_with (first
    | (go_at_call 9; refine (alive_any _).mono ?_; rintro r w1 ⟨rfl, b1⟩; have HB1 : Hid (Below ((w.alloc (oE e (.slice a e.ts.length cap))).alloc (oE f (.slice a2 f.ts.length cap2))).heap.size ((w.alloc (oE e (.slice a e.ts.length cap))).alloc (oE f (.slice a2 f.ts.length cap2))) w1) := mkHid b1; clear b1; obtain ⟨p0, p1, p2, p3, p4, p5, p6, p7, p8, p9⟩ := ent_cells (R0 _ HB1.out).1; obtain ⟨q0, q1, q2, q3, q4, q5, q6, q7, q8, q9⟩ := ent_cells (R0 _ HB1.out).2)
    | (go_at_call 12; clear M1; refine (put_no w1 (e, a, cap) es (HT.out.below (two_below HB1.out)) HF.out (kc hes (two_below HB1.out))).mono ?_; rintro r w2 ⟨rfl, b2⟩; have HB2 := mkHid (bt HB1.out b2); clear b2; clear p0 p1 p2 p3 p4 p5 p6 p7 p8 p9 q0 q1 q2 q3 q4 q5 q6 q7 q8 q9; obtain ⟨p0, p1, p2, p3, p4, p5, p6, p7, p8, p9⟩ := ent_cells (R0 _ HB2.out).1; obtain ⟨q0, q1, q2, q3, q4, q5, q6, q7, q8, q9⟩ := ent_cells (R0 _ HB2.out).2)
    | (go_at_call 12; refine (put_yes w2 (f, a2, cap2) (HU.out.below (two_below HB2.out)) HG.out).mono ?_; rintro r w3 ⟨v3, rfl, ho3, b3⟩; obtain ⟨ua, uc, rfl⟩ := own_shape ho3; clear ho3; have HB3 := mkHid (bt HB2.out b3); clear b3; clear p0 p1 p2 p3 p4 p5 p6 p7 p8 p9 q0 q1 q2 q3 q4 q5 q6 q7 q8 q9; obtain ⟨p0, p1, p2, p3, p4, p5, p6, p7, p8, p9⟩ := ent_cells (R0 _ HB3.out).1; obtain ⟨q0, q1, q2, q3, q4, q5, q6, q7, q8, q9⟩ := ent_cells (R0 _ HB3.out).2)
    | (go_at_call 14; refine (inForm_no w3 (e, a, cap) (HT.out.below (two_below HB3.out)) HF.out).mono ?_; rintro r w4 ⟨rfl, b4⟩; have HB4 := mkHid (bt HB3.out b4); clear b4))
  go_ret
  exact ⟨rfl, two_below HB4.out⟩
set_option maxHeartbeats 12800000 in
theorem unlike_noyn (w : World) (e f : En) (a a2 : Option Addr) (cap cap2 : Nat) (es : Addr) (ht : EnW w (e, a, cap)) (hu : EnW w (f, a2, cap2)) (hf : inF e) (hg : ¬ inF f) (hes : w.cell? ⟨0, 0, none⟩ = some (vErr es)) : Calls Tryd.prog 7 #[vP (e, a, cap), vP (f, a2, cap2)] w fun r w' => r = .returned (.bool true) ∧ Below w.heap.size w w' := by
  have R0 := fun W (hW : Below ((w.alloc (oE e (.slice a e.ts.length cap))).alloc (oE f (.slice a2 f.ts.length cap2))).heap.size ((w.alloc (oE e (.slice a e.ts.length cap))).alloc (oE f (.slice a2 f.ts.length cap2))) W) => two_facts hW
  have HT := mkHid ht
  have HU := mkHid hu
  have HF := mkHid hf
  have HG := mkHid hg
  have M1 : True := trivial
  have M2 : True := trivial
  clear ht hu hf hg
  simp only [vP, vN, tv]
  go_enter Tryd.func7, Tryd.ntmps7
  go_wp2_with (first
    | (go_at_call 9; refine (alive_any _).mono ?_; rintro r w1 ⟨rfl, b1⟩; have HB1 : Hid (Below ((w.alloc (oE e (.slice a e.ts.length cap))).alloc (oE f (.slice a2 f.ts.length cap2))).heap.size ((w.alloc (oE e (.slice a e.ts.length cap))).alloc (oE f (.slice a2 f.ts.length cap2))) w1) := mkHid b1; clear b1; obtain ⟨p0, p1, p2, p3, p4, p5, p6, p7, p8, p9⟩ := ent_cells (R0 _ HB1.out).1; obtain ⟨q0, q1, q2, q3, q4, q5, q6, q7, q8, q9⟩ := ent_cells (R0 _ HB1.out).2)
    | (go_at_call 12; clear M1; refine (put_yes w1 (e, a, cap) (HT.out.below (two_below HB1.out)) HF.out).mono ?_; rintro r w2 ⟨v2, rfl, ho2, b2⟩; obtain ⟨va, vc, rfl⟩ := own_shape ho2; clear ho2; have HB2 := mkHid (bt HB1.out b2); clear b2; clear p0 p1 p2 p3 p4 p5 p6 p7 p8 p9 q0 q1 q2 q3 q4 q5 q6 q7 q8 q9; obtain ⟨p0, p1, p2, p3, p4, p5, p6, p7, p8, p9⟩ := ent_cells (R0 _ HB2.out).1; obtain ⟨q0, q1, q2, q3, q4, q5, q6, q7, q8, q9⟩ := ent_cells (R0 _ HB2.out).2)
    | (go_at_call 12; refine (put_no w2 (f, a2, cap2) es (HU.out.below (two_below HB2.out)) HG.out (kc hes (two_below HB2.out))).mono ?_; rintro r w3 ⟨rfl, b3⟩; have HB3 := mkHid (bt HB2.out b3); clear b3; clear p0 p1 p2 p3 p4 p5 p6 p7 p8 p9 q0 q1 q2 q3 q4 q5 q6 q7 q8 q9; obtain ⟨p0, p1, p2, p3, p4, p5, p6, p7, p8, p9⟩ := ent_cells (R0 _ HB3.out).1; obtain ⟨q0, q1, q2, q3, q4, q5, q6, q7, q8, q9⟩ := ent_cells (R0 _ HB3.out).2)
    | (go_at_call 14; clear M2; refine (inForm_yes w3 (e, a, cap) (HT.out.below (two_below HB3.out)) HF.out).mono ?_; rintro r w4 ⟨rfl, b4⟩; have HB4 := mkHid (bt HB3.out b4); clear b4; clear p0 p1 p2 p3 p4 p5 p6 p7 p8 p9 q0 q1 q2 q3 q4 q5 q6 q7 q8 q9; obtain ⟨p0, p1, p2, p3, p4, p5, p6, p7, p8, p9⟩ := ent_cells (R0 _ HB4.out).1; obtain ⟨q0, q1, q2, q3, q4, q5, q6, q7, q8, q9⟩ := ent_cells (R0 _ HB4.out).2)
    | (go_at_call 14; refine (inForm_no w4 (f, a2, cap2) (HU.out.below (two_below HB4.out)) HG.out).mono ?_; rintro r w5 ⟨rfl, b5⟩; have HB5 := mkHid (bt HB4.out b5); clear b5))
  go_ret
  exact ⟨rfl, two_below HB5.out⟩
end Go.Proofs.YtehnimafjgodeaaDoor
