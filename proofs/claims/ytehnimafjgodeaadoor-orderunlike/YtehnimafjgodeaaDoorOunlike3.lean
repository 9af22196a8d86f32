/- The law OrderUnlike, of entries in form. -/
import Derived.Test.YtehnimafjgodeaaDoorOunlike
namespace Go.Proofs.YtehnimafjgodeaaDoor
open Go.ChangeShapes Go.WideShapes Go.ChangeAt Go.RowKit
set_option maxRecDepth 100000
attribute [local go_sem] World.cell?_alloc_some frozen_alloc_some

set_option maxHeartbeats 51200000 in
theorem unlike_diff (w : World) (e f : En) (a a2 : Option Addr) (cap cap2 : Nat) (es eb : Addr) (ht : EnW w (e, a, cap)) (hu : EnW w (f, a2, cap2)) (hf : inF e) (hg : inF f) (hne : ¬ e = f) (hes : w.cell? ⟨0, 0, none⟩ = some (vErr es)) (heb : w.cell? ⟨1, 0, none⟩ = some (vErr eb)) : Calls Tryd.prog 7 #[vP (e, a, cap), vP (f, a2, cap2)] w fun r w' => r = .returned (.bool true) ∧ Below w.heap.size w w' := by
  have HNE := mkHid hne
  have hx1 : ¬ (strOfNums (bytesE e)).toList = (strOfNums (bytesE f)).toList := str_neL (encL_byts _) (encL_byts _) (fun h => hne (bytesE_inj hf hg h))
  have hx2 : ¬ (strOfNums (bytesL [e, f])).toList = (strOfNums (bytesL [f, e])).toList := str_neL (bytesL_byts _) (bytesL_byts _) (fun h => hne (by
    have := bytesL_inj (l := [e, f]) (m := [f, e]) (by intro x hx; simp at hx; rcases hx with rfl | rfl <;> assumption) (by intro x hx; simp at hx; rcases hx with rfl | rfl <;> assumption) h
    simp at this
    exact this.1))
  have R0 := fun W (hW : Below ((w.alloc (oE e (.slice a e.ts.length cap))).alloc (oE f (.slice a2 f.ts.length cap2))).heap.size ((w.alloc (oE e (.slice a e.ts.length cap))).alloc (oE f (.slice a2 f.ts.length cap2))) W) => two_facts hW
  have HT := mkHid ht
  have HU := mkHid hu
  have HF := mkHid hf
  have HG := mkHid hg
  have M0 : True := trivial
  have M1 : True := trivial
  have M2 : True := trivial
  clear ht hu hf hg hne
  simp only [vP, vN, tv]
  go_enter Tryd.func7, Tryd.ntmps7
  go_wp2_with (first
    | (go_at_call 9; clear M0; refine (alive_any _).mono ?_; rintro r w1 ⟨rfl, b1⟩; have HB1 : Hid (Below ((w.alloc (oE e (.slice a e.ts.length cap))).alloc (oE f (.slice a2 f.ts.length cap2))).heap.size ((w.alloc (oE e (.slice a e.ts.length cap))).alloc (oE f (.slice a2 f.ts.length cap2))) w1) := mkHid b1; clear b1; obtain ⟨p0, p1, p2, p3, p4, p5, p6, p7, p8, p9⟩ := ent_cells (R0 _ HB1.out).1; obtain ⟨q0, q1, q2, q3, q4, q5, q6, q7, q8, q9⟩ := ent_cells (R0 _ HB1.out).2)
    | (go_at_call 12; clear M1; refine (put_yes w1 (e, a, cap) (HT.out.below (two_below HB1.out)) HF.out).mono ?_; rintro r w2 ⟨v2, rfl, ho2, b2⟩; obtain ⟨va, vc, rfl⟩ := own_shape ho2; have HO2 : Hid (w2.ownsRow w1.heap.size 5 1 (.slice va (bytesE e).length vc) (bytesE e).length ((bytesE e).map (Value.int .u8))) := mkHid ho2; have HB2 := mkHid (bt HB1.out b2); clear b2 ho2; clear p0 p1 p2 p3 p4 p5 p6 p7 p8 p9 q0 q1 q2 q3 q4 q5 q6 q7 q8 q9; obtain ⟨p0, p1, p2, p3, p4, p5, p6, p7, p8, p9⟩ := ent_cells (R0 _ HB2.out).1; obtain ⟨q0, q1, q2, q3, q4, q5, q6, q7, q8, q9⟩ := ent_cells (R0 _ HB2.out).2)
    | (go_at_call 12; refine (put_yes w2 (f, a2, cap2) (HU.out.below (two_below HB2.out)) HG.out).mono ?_; rintro r w3 ⟨v3, rfl, ho3, b3⟩; obtain ⟨ua, uc, rfl⟩ := own_shape ho3; have HO3 : Hid (w3.ownsRow w2.heap.size 5 1 (.slice ua (bytesE f).length uc) (bytesE f).length ((bytesE f).map (Value.int .u8))) := mkHid ho3; have HB3 := mkHid (bt HB2.out b3); have HP3 := mkHid b3; clear b3 ho3; clear p0 p1 p2 p3 p4 p5 p6 p7 p8 p9 q0 q1 q2 q3 q4 q5 q6 q7 q8 q9; obtain ⟨p0, p1, p2, p3, p4, p5, p6, p7, p8, p9⟩ := ent_cells (R0 _ HB3.out).1; obtain ⟨q0, q1, q2, q3, q4, q5, q6, q7, q8, q9⟩ := ent_cells (R0 _ HB3.out).2)
    | (go_at_call 13; refine (refSame_no w3 (e, a, cap) (f, a2, cap2) (HT.out.below (two_below HB3.out)) (HU.out.below (two_below HB3.out)) HNE.out).mono ?_; rintro r w4 ⟨rfl, b4⟩; have HB4 := mkHid (bt HB3.out b4); have HP4 := mkHid (bt HP3.out b4); have HP4' := mkHid b4; clear b4; clear p0 p1 p2 p3 p4 p5 p6 p7 p8 p9 q0 q1 q2 q3 q4 q5 q6 q7 q8 q9; obtain ⟨p0, p1, p2, p3, p4, p5, p6, p7, p8, p9⟩ := ent_cells (R0 _ HB4.out).1; obtain ⟨q0, q1, q2, q3, q4, q5, q6, q7, q8, q9⟩ := ent_cells (R0 _ HB4.out).2)
    | (go_at_call 24; clear M2; refine (write_yes _ _ [(e, a, cap), (f, a2, cap2)] es (ens_two w4 (e, a, cap) (f, a2, cap2) (HT.out.below (two_below HB4.out)) (HU.out.below (two_below HB4.out))) (by simp) (kl (kc hes (two_below HB4.out)) _) (fun t ht => by simp at ht; rcases ht with rfl | rfl; exact HF.out; exact HG.out)).mono ?_; rintro r w5 ⟨v5, rfl, ho5, b5⟩; simp only [fs1, List.map_cons, List.map_nil] at ho5; obtain ⟨oa, oc, rfl⟩ := own_shape ho5; have HO5 := mkHid ho5; have hb5 := bt (ba (Below.refl _ w4) _) b5; have HB5 := mkHid (bt HB4.out hb5); have HP5 := mkHid hb5; clear b5 ho5 hb5; clear p0 p1 p2 p3 p4 p5 p6 p7 p8 p9 q0 q1 q2 q3 q4 q5 q6 q7 q8 q9; obtain ⟨p0, p1, p2, p3, p4, p5, p6, p7, p8, p9⟩ := ent_cells (R0 _ HB5.out).1; obtain ⟨q0, q1, q2, q3, q4, q5, q6, q7, q8, q9⟩ := ent_cells (R0 _ HB5.out).2)
    | (go_at_call 24; refine (write_yes _ _ [(f, a2, cap2), (e, a, cap)] es (ens_two w5 (f, a2, cap2) (e, a, cap) (HU.out.below (two_below HB5.out)) (HT.out.below (two_below HB5.out))) (by simp) (kl (kc hes (two_below HB5.out)) _) (fun t ht => by simp at ht; rcases ht with rfl | rfl; exact HG.out; exact HF.out)).mono ?_; rintro r w6 ⟨v6, rfl, ho6, b6⟩; simp only [fs1, List.map_cons, List.map_nil] at ho6; obtain ⟨za, zc, rfl⟩ := own_shape ho6; have HO6 := mkHid ho6; have hb6 := bt (ba (Below.refl _ w5) _) b6; have HB6 := mkHid (bt HB5.out hb6); have HP6 := mkHid hb6; clear b6 ho6 hb6; clear p0 p1 p2 p3 p4 p5 p6 p7 p8 p9 q0 q1 q2 q3 q4 q5 q6 q7 q8 q9; obtain ⟨p0, p1, p2, p3, p4, p5, p6, p7, p8, p9⟩ := ent_cells (R0 _ HB6.out).1; obtain ⟨q0, q1, q2, q3, q4, q5, q6, q7, q8, q9⟩ := ent_cells (R0 _ HB6.out).2)
    | (go_at_call 20; refine (read_two w6 _ e f eb es ((Rd.of_owns (bs := bytesL [e, f]) (bytesL_byts _) HO5.out).later HP6.out) HF.out HG.out (kc heb (two_below HB6.out)) (kc hes (two_below HB6.out))).mono ?_; rintro r w8 ⟨gb, gc, xa, xc, ya, yc, rfl, hgx, hgy, hxw, hyw, b8⟩; have HGX := mkHid hgx; have HGY := mkHid hgy; have HXW := mkHid hxw; have HYW := mkHid hyw; have HB8 := mkHid (bt HB6.out b8); have HP8 := mkHid b8; clear b8 hgx hgy hxw hyw; clear p0 p1 p2 p3 p4 p5 p6 p7 p8 p9 q0 q1 q2 q3 q4 q5 q6 q7 q8 q9))
  have HCV0 : Hid (∀ W, Below w8.heap.size w8 W → (convert 35 9 (.slice va (bytesE e).length vc)).run Tryd.prog W = .ok (.string (strOfNums (bytesE e))) W) := mkHid (fun W hW => ((Rd.of_owns (bs := bytesE e) (encL_byts _) HO2.out).later (bt (bt (bt (bt (bt HP4.out HP5.out) HP6.out) HP8.out) (Below.refl _ _)) hW)).conv)
  have HCV1 : Hid (∀ W, Below w8.heap.size w8 W → (convert 35 9 (.slice ua (bytesE f).length uc)).run Tryd.prog W = .ok (.string (strOfNums (bytesE f))) W) := mkHid (fun W hW => ((Rd.of_owns (bs := bytesE f) (encL_byts _) HO3.out).later (bt (bt (bt (bt HP4'.out HP5.out) HP6.out) HP8.out) hW)).conv)
  have HCV2 : Hid (∀ W, Below w8.heap.size w8 W → (convert 35 9 (.slice oa (bytesL [e, f]).length oc)).run Tryd.prog W = .ok (.string (strOfNums (bytesL [e, f]))) W) := mkHid (fun W hW => ((Rd.of_owns (bs := bytesL [e, f]) (bytesL_byts _) HO5.out).later (bt (bt HP6.out HP8.out) hW)).conv)
  have HCV3 : Hid (∀ W, Below w8.heap.size w8 W → (convert 35 9 (.slice za (bytesL [f, e]).length zc)).run Tryd.prog W = .ok (.string (strOfNums (bytesL [f, e]))) W) := mkHid (fun W hW => ((Rd.of_owns (bs := bytesL [f, e]) (bytesL_byts _) HO6.out).later (bt HP8.out hW)).conv)
  have HD0 : Hid (Below w8.heap.size w8 w8.drew) := mkHid (Below.refl _ w8).drew
  obtain ⟨p0, p1, p2, p3, p4, p5, p6, p7, p8, p9⟩ := ent_cells (R0 _ (bt HB8.out HD0.out)).1
  obtain ⟨q0, q1, q2, q3, q4, q5, q6, q7, q8, q9⟩ := ent_cells (R0 _ (bt HB8.out HD0.out)).2
  obtain ⟨g0, g1, g2, g3, g4, g5, g6, g7, g8, g9⟩ := (HGX.out.below HD0.out).ten
  obtain ⟨h0, h1, h2, h3, h4, h5, h6, h7, h8, h9⟩ := (HGY.out.below HD0.out).ten
  simp only [Nat.zero_add, Nat.reduceAdd, tv] at g0 g1 g2 g3 g4 g5 g6 g7 g8 g9 h0 h1 h2 h3 h4 h5 h6 h7 h8 h9
  have cv0 := HCV0.out _ HD0.out
  have cv1 := HCV1.out _ HD0.out
  have cv2 := HCV2.out _ HD0.out
  have cv3 := HCV3.out _ HD0.out
  refine wp_region_held_drew (S := fun w' => w'.cell? ⟨w.heap.size, 0, none⟩ = some (.int .i64 e.cl) ∧ w'.cell? ⟨w.heap.size, 1, none⟩ = some (.int .i64 e.nu) ∧ w'.cell? ⟨w.heap.size, 2, none⟩ = some (.int .i64 e.ki) ∧ w'.cell? ⟨w.heap.size, 3, none⟩ = some (.int .i64 e.id) ∧ w'.cell? ⟨w.heap.size, 4, none⟩ = some (.int .i64 e.sk) ∧ w'.cell? ⟨w.heap.size, 5, none⟩ = some (.int .i64 e.sq) ∧ w'.cell? ⟨w.heap.size, 6, none⟩ = some (.int .i64 e.st) ∧ w'.cell? ⟨w.heap.size, 7, none⟩ = some (.int .i64 e.po) ∧ w'.cell? ⟨w.heap.size, 8, none⟩ = some (.slice a e.ts.length cap) ∧ w'.cell? ⟨w.heap.size, 9, none⟩ = some (.int .i64 e.tm) ∧ w'.cell? ⟨w.heap.size + 1, 0, none⟩ = some (.int .i64 f.cl) ∧ w'.cell? ⟨w.heap.size + 1, 1, none⟩ = some (.int .i64 f.nu) ∧ w'.cell? ⟨w.heap.size + 1, 2, none⟩ = some (.int .i64 f.ki) ∧ w'.cell? ⟨w.heap.size + 1, 3, none⟩ = some (.int .i64 f.id) ∧ w'.cell? ⟨w.heap.size + 1, 4, none⟩ = some (.int .i64 f.sk) ∧ w'.cell? ⟨w.heap.size + 1, 5, none⟩ = some (.int .i64 f.sq) ∧ w'.cell? ⟨w.heap.size + 1, 6, none⟩ = some (.int .i64 f.st) ∧ w'.cell? ⟨w.heap.size + 1, 7, none⟩ = some (.int .i64 f.po) ∧ w'.cell? ⟨w.heap.size + 1, 8, none⟩ = some (.slice a2 f.ts.length cap2) ∧ w'.cell? ⟨w.heap.size + 1, 9, none⟩ = some (.int .i64 f.tm) ∧ w'.cell? ⟨gb, 0, none⟩ = some (.int .i64 e.cl) ∧ w'.cell? ⟨gb, 1, none⟩ = some (.int .i64 e.nu) ∧ w'.cell? ⟨gb, 2, none⟩ = some (.int .i64 e.ki) ∧ w'.cell? ⟨gb, 3, none⟩ = some (.int .i64 e.id) ∧ w'.cell? ⟨gb, 4, none⟩ = some (.int .i64 e.sk) ∧ w'.cell? ⟨gb, 5, none⟩ = some (.int .i64 e.sq) ∧ w'.cell? ⟨gb, 6, none⟩ = some (.int .i64 e.st) ∧ w'.cell? ⟨gb, 7, none⟩ = some (.int .i64 e.po) ∧ w'.cell? ⟨gb, 8, none⟩ = some (.slice xa e.ts.length xc) ∧ w'.cell? ⟨gb, 9, none⟩ = some (.int .i64 e.tm) ∧ w'.cell? ⟨gb, 10, none⟩ = some (.int .i64 f.cl) ∧ w'.cell? ⟨gb, 11, none⟩ = some (.int .i64 f.nu) ∧ w'.cell? ⟨gb, 12, none⟩ = some (.int .i64 f.ki) ∧ w'.cell? ⟨gb, 13, none⟩ = some (.int .i64 f.id) ∧ w'.cell? ⟨gb, 14, none⟩ = some (.int .i64 f.sk) ∧ w'.cell? ⟨gb, 15, none⟩ = some (.int .i64 f.sq) ∧ w'.cell? ⟨gb, 16, none⟩ = some (.int .i64 f.st) ∧ w'.cell? ⟨gb, 17, none⟩ = some (.int .i64 f.po) ∧ w'.cell? ⟨gb, 18, none⟩ = some (.slice ya f.ts.length yc) ∧ w'.cell? ⟨gb, 19, none⟩ = some (.int .i64 f.tm) ∧ (convert 35 9 (.slice va (bytesE e).length vc)).run Tryd.prog w' = .ok (.string (strOfNums (bytesE e))) w' ∧ (convert 35 9 (.slice ua (bytesE f).length uc)).run Tryd.prog w' = .ok (.string (strOfNums (bytesE f))) w' ∧ (convert 35 9 (.slice oa (bytesL [e, f]).length oc)).run Tryd.prog w' = .ok (.string (strOfNums (bytesL [e, f]))) w' ∧ (convert 35 9 (.slice za (bytesL [f, e]).length zc)).run Tryd.prog w' = .ok (.string (strOfNums (bytesL [f, e]))) w') (by kernel_rfl) ⟨p0, p1, p2, p3, p4, p5, p6, p7, p8, p9, q0, q1, q2, q3, q4, q5, q6, q7, q8, q9, g0, g1, g2, g3, g4, g5, g6, g7, g8, g9, h0, h1, h2, h3, h4, h5, h6, h7, h8, h9, cv0, cv1, cv2, cv3⟩ (fun hHeld => ?_)
  refine takeD 0 64 (.slice va (bytesE e).length vc) rfl rfl (by kernel_rfl) (by kernel_rfl) (by kernel_rfl) (fun _ _ _ h => h) (Or.inl ⟨by kernel_rfl, by intro w hSw; (try dsimp only at hSw); go_simp⟩) hHeld ?_
  simp only [List.set_cons_zero, List.set_cons_succ]
  refine takeD 1 65 (.string (strOfNums (bytesE e))) rfl rfl (by kernel_rfl) (by kernel_rfl) (by kernel_rfl) (fun _ _ _ h => h) (Or.inl ⟨by kernel_rfl, by intro w hSw; (try dsimp only at hSw); go_simp⟩) hHeld ?_
  simp only [List.set_cons_zero, List.set_cons_succ]
  refine takeD 2 66 (.slice ua (bytesE f).length uc) rfl rfl (by kernel_rfl) (by kernel_rfl) (by kernel_rfl) (fun _ _ _ h => h) (Or.inl ⟨by kernel_rfl, by intro w hSw; (try dsimp only at hSw); go_simp⟩) hHeld ?_
  simp only [List.set_cons_zero, List.set_cons_succ]
  refine takeD 3 67 (.string (strOfNums (bytesE f))) rfl rfl (by kernel_rfl) (by kernel_rfl) (by kernel_rfl) (fun _ _ _ h => h) (Or.inl ⟨by kernel_rfl, by intro w hSw; (try dsimp only at hSw); go_simp⟩) hHeld ?_
  simp only [List.set_cons_zero, List.set_cons_succ]
  refine takeD 4 68 (.bool false) rfl rfl (by kernel_rfl) (by kernel_rfl) (by kernel_rfl) (fun _ _ _ h => h) (Or.inl ⟨by kernel_rfl, by intro w hSw; (try dsimp only at hSw); go_simp⟩) hHeld ?_
  simp only [List.set_cons_zero, List.set_cons_succ]
  refine takeD 5 69 (.bool false) rfl rfl (by kernel_rfl) (by kernel_rfl) (by kernel_rfl) (fun _ _ _ h => h) (Or.inl ⟨by kernel_rfl, by intro w hSw; (try dsimp only at hSw); go_simp⟩) hHeld ?_
  simp only [List.set_cons_zero, List.set_cons_succ]
  refine takeD 6 70 (.bool true) rfl rfl (by kernel_rfl) (by kernel_rfl) (by kernel_rfl) (fun _ _ _ h => h) (Or.inl ⟨by kernel_rfl, by intro w hSw; (try dsimp only at hSw); go_simp⟩) hHeld ?_
  simp only [List.set_cons_zero, List.set_cons_succ]
  refine takeD 7 71 (.bool true) rfl rfl (by kernel_rfl) (by kernel_rfl) (by kernel_rfl) (fun _ _ _ h => h) (Or.inl ⟨by kernel_rfl, by intro w hSw; (try dsimp only at hSw); go_simp⟩) hHeld ?_
  simp only [List.set_cons_zero, List.set_cons_succ]
  refine takeD 8 72 (.agg #[.int .i64 e.cl, .int .i64 e.nu, .int .i64 e.ki, .int .i64 e.id, .int .i64 e.sk, .int .i64 e.sq, .int .i64 e.st, .int .i64 e.po, .slice a e.ts.length cap, .int .i64 e.tm]) rfl rfl (by kernel_rfl) (by kernel_rfl) (by kernel_rfl) (fun _ _ _ h => h) (Or.inl ⟨by kernel_rfl, by intro w hSw; (try dsimp only at hSw); go_simp⟩) hHeld ?_
  simp only [List.set_cons_zero, List.set_cons_succ]
  refine takeD 9 73 (.agg #[.int .i64 f.cl, .int .i64 f.nu, .int .i64 f.ki, .int .i64 f.id, .int .i64 f.sk, .int .i64 f.sq, .int .i64 f.st, .int .i64 f.po, .slice a2 f.ts.length cap2, .int .i64 f.tm]) rfl rfl (by kernel_rfl) (by kernel_rfl) (by kernel_rfl) (fun _ _ _ h => h) (Or.inl ⟨by kernel_rfl, by intro w hSw; (try dsimp only at hSw); go_simp⟩) hHeld ?_
  simp only [List.set_cons_zero, List.set_cons_succ]
  refine takeD 11 75 (.bool false) rfl rfl (by kernel_rfl) (by kernel_rfl) (by kernel_rfl) (fun _ _ _ h => h) (Or.inl ⟨by kernel_rfl, by intro w hSw; (try dsimp only at hSw); go_simp⟩) hHeld ?_
  simp only [List.set_cons_zero, List.set_cons_succ]
  refine wpAnyH_ready (rs := [10]) (by kernel_rfl) (by simp) (AllReadyH.cons rfl (fun K hK => ?_) AllReadyH.nil)
  go_simp
  refine (oSame_no _ (e, a, cap) (f, a2, cap2) (HT.out.below (two_below (bt HB8.out HD0.out))) (HU.out.below (two_below (bt HB8.out HD0.out))) HNE.out).mono ?_
  rintro r w9 ⟨rfl, hb6⟩
  have HD9 := mkHid (bt HD0.out hb6)
  clear hb6 hHeld
  clear p0 p1 p2 p3 p4 p5 p6 p7 p8 p9 q0 q1 q2 q3 q4 q5 q6 q7 q8 q9 g0 g1 g2 g3 g4 g5 g6 g7 g8 g9 h0 h1 h2 h3 h4 h5 h6 h7 h8 h9 cv0 cv1 cv2 cv3
  obtain ⟨p0, p1, p2, p3, p4, p5, p6, p7, p8, p9⟩ := ent_cells (R0 _ (bt HB8.out HD9.out)).1
  obtain ⟨q0, q1, q2, q3, q4, q5, q6, q7, q8, q9⟩ := ent_cells (R0 _ (bt HB8.out HD9.out)).2
  obtain ⟨g0, g1, g2, g3, g4, g5, g6, g7, g8, g9⟩ := (HGX.out.below HD9.out).ten
  obtain ⟨h0, h1, h2, h3, h4, h5, h6, h7, h8, h9⟩ := (HGY.out.below HD9.out).ten
  simp only [Nat.zero_add, Nat.reduceAdd, tv] at g0 g1 g2 g3 g4 g5 g6 g7 g8 g9 h0 h1 h2 h3 h4 h5 h6 h7 h8 h9
  have cv0 := HCV0.out _ HD9.out
  have cv1 := HCV1.out _ HD9.out
  have cv2 := HCV2.out _ HD9.out
  have cv3 := HCV3.out _ HD9.out
  refine hK.out _ _ ⟨p0, p1, p2, p3, p4, p5, p6, p7, p8, p9, q0, q1, q2, q3, q4, q5, q6, q7, q8, q9, g0, g1, g2, g3, g4, g5, g6, g7, g8, g9, h0, h1, h2, h3, h4, h5, h6, h7, h8, h9, cv0, cv1, cv2, cv3⟩ (fun hHeld => ?_)
  clear hK K
  refine takeD 12 76 (.bool true) rfl rfl (by kernel_rfl) (by kernel_rfl) (by kernel_rfl) (fun _ _ _ h => h) (Or.inl ⟨by kernel_rfl, by intro w hSw; (try dsimp only at hSw); go_simp⟩) hHeld ?_
  simp only [List.set_cons_zero, List.set_cons_succ]
  refine takeD 13 77 (.bool true) rfl rfl (by kernel_rfl) (by kernel_rfl) (by kernel_rfl) (fun _ _ _ h => h) (Or.inl ⟨by kernel_rfl, by intro w hSw; (try dsimp only at hSw); go_simp⟩) hHeld ?_
  simp only [List.set_cons_zero, List.set_cons_succ]
  refine takeD 14 78 (.bool true) rfl rfl (by kernel_rfl) (by kernel_rfl) (by kernel_rfl) (fun _ _ _ h => h) (Or.inl ⟨by kernel_rfl, by intro w hSw; (try dsimp only at hSw); go_simp⟩) hHeld ?_
  simp only [List.set_cons_zero, List.set_cons_succ]
  refine takeD 15 79 (.nilIface) rfl rfl (by kernel_rfl) (by kernel_rfl) (by kernel_rfl) (fun _ _ _ h => h) (Or.inl ⟨by kernel_rfl, by intro w hSw; (try dsimp only at hSw); go_simp⟩) hHeld ?_
  simp only [List.set_cons_zero, List.set_cons_succ]
  refine takeD 16 80 (.bool true) rfl rfl (by kernel_rfl) (by kernel_rfl) (by kernel_rfl) (fun _ _ _ h => h) (Or.inl ⟨by kernel_rfl, by intro w hSw; (try dsimp only at hSw); go_simp⟩) hHeld ?_
  simp only [List.set_cons_zero, List.set_cons_succ]
  refine takeD 17 81 (.bool true) rfl rfl (by kernel_rfl) (by kernel_rfl) (by kernel_rfl) (fun _ _ _ h => h) (Or.inl ⟨by kernel_rfl, by intro w hSw; (try dsimp only at hSw); go_simp⟩) hHeld ?_
  simp only [List.set_cons_zero, List.set_cons_succ]
  refine takeD 18 82 (.bool true) rfl rfl (by kernel_rfl) (by kernel_rfl) (by kernel_rfl) (fun _ _ _ h => h) (Or.inl ⟨by kernel_rfl, by intro w hSw; (try dsimp only at hSw); go_simp⟩) hHeld ?_
  simp only [List.set_cons_zero, List.set_cons_succ]
  refine takeD 19 83 (.nilIface) rfl rfl (by kernel_rfl) (by kernel_rfl) (by kernel_rfl) (fun _ _ _ h => h) (Or.inl ⟨by kernel_rfl, by intro w hSw; (try dsimp only at hSw); go_simp⟩) hHeld ?_
  simp only [List.set_cons_zero, List.set_cons_succ]
  refine takeD 20 84 (.bool true) rfl rfl (by kernel_rfl) (by kernel_rfl) (by kernel_rfl) (fun _ _ _ h => h) (Or.inl ⟨by kernel_rfl, by intro w hSw; (try dsimp only at hSw); go_simp⟩) hHeld ?_
  simp only [List.set_cons_zero, List.set_cons_succ]
  refine takeD 21 85 (.bool true) rfl rfl (by kernel_rfl) (by kernel_rfl) (by kernel_rfl) (fun _ _ _ h => h) (Or.inl ⟨by kernel_rfl, by intro w hSw; (try dsimp only at hSw); go_simp⟩) hHeld ?_
  simp only [List.set_cons_zero, List.set_cons_succ]
  refine takeD 22 86 (.bool true) rfl rfl (by kernel_rfl) (by kernel_rfl) (by kernel_rfl) (fun _ _ _ h => h) (Or.inl ⟨by kernel_rfl, by intro w hSw; (try dsimp only at hSw); go_simp⟩) hHeld ?_
  simp only [List.set_cons_zero, List.set_cons_succ]
  refine takeD 23 87 (.nilIface) rfl rfl (by kernel_rfl) (by kernel_rfl) (by kernel_rfl) (fun _ _ _ h => h) (Or.inl ⟨by kernel_rfl, by intro w hSw; (try dsimp only at hSw); go_simp⟩) hHeld ?_
  simp only [List.set_cons_zero, List.set_cons_succ]
  refine takeD 24 88 (.bool true) rfl rfl (by kernel_rfl) (by kernel_rfl) (by kernel_rfl) (fun _ _ _ h => h) (Or.inl ⟨by kernel_rfl, by intro w hSw; (try dsimp only at hSw); go_simp⟩) hHeld ?_
  simp only [List.set_cons_zero, List.set_cons_succ]
  refine takeD 25 89 (.bool true) rfl rfl (by kernel_rfl) (by kernel_rfl) (by kernel_rfl) (fun _ _ _ h => h) (Or.inl ⟨by kernel_rfl, by intro w hSw; (try dsimp only at hSw); go_simp⟩) hHeld ?_
  simp only [List.set_cons_zero, List.set_cons_succ]
  refine takeD 26 90 (.bool true) rfl rfl (by kernel_rfl) (by kernel_rfl) (by kernel_rfl) (fun _ _ _ h => h) (Or.inl ⟨by kernel_rfl, by intro w hSw; (try dsimp only at hSw); go_simp⟩) hHeld ?_
  simp only [List.set_cons_zero, List.set_cons_succ]
  refine takeD 27 91 (.slice oa (bytesL [e, f]).length oc) rfl rfl (by kernel_rfl) (by kernel_rfl) (by kernel_rfl) (fun _ _ _ h => h) (Or.inl ⟨by kernel_rfl, by intro w hSw; (try dsimp only at hSw); go_simp⟩) hHeld ?_
  simp only [List.set_cons_zero, List.set_cons_succ]
  refine takeD 28 92 (.string (strOfNums (bytesL [e, f]))) rfl rfl (by kernel_rfl) (by kernel_rfl) (by kernel_rfl) (fun _ _ _ h => h) (Or.inl ⟨by kernel_rfl, by intro w hSw; (try dsimp only at hSw); go_simp⟩) hHeld ?_
  simp only [List.set_cons_zero, List.set_cons_succ]
  refine takeD 29 93 (.slice za (bytesL [f, e]).length zc) rfl rfl (by kernel_rfl) (by kernel_rfl) (by kernel_rfl) (fun _ _ _ h => h) (Or.inl ⟨by kernel_rfl, by intro w hSw; (try dsimp only at hSw); go_simp⟩) hHeld ?_
  simp only [List.set_cons_zero, List.set_cons_succ]
  refine takeD 30 94 (.string (strOfNums (bytesL [f, e]))) rfl rfl (by kernel_rfl) (by kernel_rfl) (by kernel_rfl) (fun _ _ _ h => h) (Or.inl ⟨by kernel_rfl, by intro w hSw; (try dsimp only at hSw); go_simp⟩) hHeld ?_
  simp only [List.set_cons_zero, List.set_cons_succ]
  refine takeD 31 95 (.bool false) rfl rfl (by kernel_rfl) (by kernel_rfl) (by kernel_rfl) (fun _ _ _ h => h) (Or.inl ⟨by kernel_rfl, by intro w hSw; (try dsimp only at hSw); go_simp⟩) hHeld ?_
  simp only [List.set_cons_zero, List.set_cons_succ]
  refine takeD 32 96 (.bool false) rfl rfl (by kernel_rfl) (by kernel_rfl) (by kernel_rfl) (fun _ _ _ h => h) (Or.inl ⟨by kernel_rfl, by intro w hSw; (try dsimp only at hSw); go_simp⟩) hHeld ?_
  simp only [List.set_cons_zero, List.set_cons_succ]
  refine takeD 33 97 (.bool true) rfl rfl (by kernel_rfl) (by kernel_rfl) (by kernel_rfl) (fun _ _ _ h => h) (Or.inl ⟨by kernel_rfl, by intro w hSw; (try dsimp only at hSw); go_simp⟩) hHeld ?_
  simp only [List.set_cons_zero, List.set_cons_succ]
  refine takeD 34 98 (.bool true) rfl rfl (by kernel_rfl) (by kernel_rfl) (by kernel_rfl) (fun _ _ _ h => h) (Or.inl ⟨by kernel_rfl, by intro w hSw; (try dsimp only at hSw); go_simp⟩) hHeld ?_
  simp only [List.set_cons_zero, List.set_cons_succ]
  refine takeD 35 99 (.bool true) rfl rfl (by kernel_rfl) (by kernel_rfl) (by kernel_rfl) (fun _ _ _ h => h) (Or.inl ⟨by kernel_rfl, by intro w hSw; (try dsimp only at hSw); go_simp⟩) hHeld ?_
  simp only [List.set_cons_zero, List.set_cons_succ]
  refine takeD 36 100 (.slice (some ⟨gb, 0, none⟩) 2 gc) rfl rfl (by kernel_rfl) (by kernel_rfl) (by kernel_rfl) (fun _ _ _ h => h) (Or.inl ⟨by kernel_rfl, by intro w hSw; (try dsimp only at hSw); go_simp⟩) hHeld ?_
  simp only [List.set_cons_zero, List.set_cons_succ]
  refine takeD 37 101 (.int .i64 2) rfl rfl (by kernel_rfl) (by kernel_rfl) (by kernel_rfl) (fun _ _ _ h => h) (Or.inl ⟨by kernel_rfl, by intro w hSw; (try dsimp only at hSw); go_simp⟩) hHeld ?_
  simp only [List.set_cons_zero, List.set_cons_succ]
  refine takeD 38 102 (.bool true) rfl rfl (by kernel_rfl) (by kernel_rfl) (by kernel_rfl) (fun _ _ _ h => h) (Or.inl ⟨by kernel_rfl, by intro w hSw; (try dsimp only at hSw); go_simp⟩) hHeld ?_
  simp only [List.set_cons_zero, List.set_cons_succ]
  refine takeD 39 103 (.bool true) rfl rfl (by kernel_rfl) (by kernel_rfl) (by kernel_rfl) (fun _ _ _ h => h) (Or.inl ⟨by kernel_rfl, by intro w hSw; (try dsimp only at hSw); go_simp⟩) hHeld ?_
  simp only [List.set_cons_zero, List.set_cons_succ]
  refine takeD 40 104 (.bool true) rfl rfl (by kernel_rfl) (by kernel_rfl) (by kernel_rfl) (fun _ _ _ h => h) (Or.inl ⟨by kernel_rfl, by intro w hSw; (try dsimp only at hSw); go_simp⟩) hHeld ?_
  simp only [List.set_cons_zero, List.set_cons_succ]
  refine takeD 41 105 (.slice (some ⟨gb, 0, none⟩) 2 gc) rfl rfl (by kernel_rfl) (by kernel_rfl) (by kernel_rfl) (fun _ _ _ h => h) (Or.inl ⟨by kernel_rfl, by intro w hSw; (try dsimp only at hSw); go_simp⟩) hHeld ?_
  simp only [List.set_cons_zero, List.set_cons_succ]
  refine takeD 42 106 (.pointer (some ⟨gb, 0, none⟩)) rfl rfl (by kernel_rfl) (by kernel_rfl) (by kernel_rfl) (fun _ _ _ h => h) (Or.inl ⟨by kernel_rfl, by intro w hSw; (try dsimp only at hSw); go_simp⟩) hHeld ?_
  simp only [List.set_cons_zero, List.set_cons_succ]
  refine takeD 43 107 (.agg #[.int .i64 e.cl, .int .i64 e.nu, .int .i64 e.ki, .int .i64 e.id, .int .i64 e.sk, .int .i64 e.sq, .int .i64 e.st, .int .i64 e.po, .slice xa e.ts.length xc, .int .i64 e.tm]) rfl rfl (by kernel_rfl) (by kernel_rfl) (by kernel_rfl) (fun _ _ _ h => h) (Or.inl ⟨by kernel_rfl, by intro w hSw; (try dsimp only at hSw); go_simp⟩) hHeld ?_
  simp only [List.set_cons_zero, List.set_cons_succ]
  refine takeD 44 108 (.agg #[.int .i64 e.cl, .int .i64 e.nu, .int .i64 e.ki, .int .i64 e.id, .int .i64 e.sk, .int .i64 e.sq, .int .i64 e.st, .int .i64 e.po, .slice a e.ts.length cap, .int .i64 e.tm]) rfl rfl (by kernel_rfl) (by kernel_rfl) (by kernel_rfl) (fun _ _ _ h => h) (Or.inl ⟨by kernel_rfl, by intro w hSw; (try dsimp only at hSw); go_simp⟩) hHeld ?_
  simp only [List.set_cons_zero, List.set_cons_succ]
  refine wpAnyH_ready (rs := [45]) (by kernel_rfl) (by simp) (AllReadyH.cons rfl (fun K hK => ?_) AllReadyH.nil)
  go_simp
  refine (refSame_yes _ (e, xa, xc) (e, a, cap) (HXW.out.below HD9.out) (HT.out.below (two_below (bt HB8.out HD9.out))) rfl).mono ?_
  rintro r w10 ⟨rfl, hb6⟩
  have HD10 := mkHid (bt HD9.out hb6)
  clear hb6 hHeld
  clear p0 p1 p2 p3 p4 p5 p6 p7 p8 p9 q0 q1 q2 q3 q4 q5 q6 q7 q8 q9 g0 g1 g2 g3 g4 g5 g6 g7 g8 g9 h0 h1 h2 h3 h4 h5 h6 h7 h8 h9 cv0 cv1 cv2 cv3
  obtain ⟨p0, p1, p2, p3, p4, p5, p6, p7, p8, p9⟩ := ent_cells (R0 _ (bt HB8.out HD10.out)).1
  obtain ⟨q0, q1, q2, q3, q4, q5, q6, q7, q8, q9⟩ := ent_cells (R0 _ (bt HB8.out HD10.out)).2
  obtain ⟨g0, g1, g2, g3, g4, g5, g6, g7, g8, g9⟩ := (HGX.out.below HD10.out).ten
  obtain ⟨h0, h1, h2, h3, h4, h5, h6, h7, h8, h9⟩ := (HGY.out.below HD10.out).ten
  simp only [Nat.zero_add, Nat.reduceAdd, tv] at g0 g1 g2 g3 g4 g5 g6 g7 g8 g9 h0 h1 h2 h3 h4 h5 h6 h7 h8 h9
  have cv0 := HCV0.out _ HD10.out
  have cv1 := HCV1.out _ HD10.out
  have cv2 := HCV2.out _ HD10.out
  have cv3 := HCV3.out _ HD10.out
  refine hK.out _ _ ⟨p0, p1, p2, p3, p4, p5, p6, p7, p8, p9, q0, q1, q2, q3, q4, q5, q6, q7, q8, q9, g0, g1, g2, g3, g4, g5, g6, g7, g8, g9, h0, h1, h2, h3, h4, h5, h6, h7, h8, h9, cv0, cv1, cv2, cv3⟩ (fun hHeld => ?_)
  clear hK K
  refine takeD 46 110 (.bool true) rfl rfl (by kernel_rfl) (by kernel_rfl) (by kernel_rfl) (fun _ _ _ h => h) (Or.inl ⟨by kernel_rfl, by intro w hSw; (try dsimp only at hSw); go_simp⟩) hHeld ?_
  simp only [List.set_cons_zero, List.set_cons_succ]
  refine takeD 47 111 (.bool true) rfl rfl (by kernel_rfl) (by kernel_rfl) (by kernel_rfl) (fun _ _ _ h => h) (Or.inl ⟨by kernel_rfl, by intro w hSw; (try dsimp only at hSw); go_simp⟩) hHeld ?_
  simp only [List.set_cons_zero, List.set_cons_succ]
  refine takeD 48 112 (.slice (some ⟨gb, 0, none⟩) 2 gc) rfl rfl (by kernel_rfl) (by kernel_rfl) (by kernel_rfl) (fun _ _ _ h => h) (Or.inl ⟨by kernel_rfl, by intro w hSw; (try dsimp only at hSw); go_simp⟩) hHeld ?_
  simp only [List.set_cons_zero, List.set_cons_succ]
  refine takeD 49 113 (.pointer (some ⟨gb, 10, none⟩)) rfl rfl (by kernel_rfl) (by kernel_rfl) (by kernel_rfl) (fun _ _ _ h => h) (Or.inl ⟨by kernel_rfl, by intro w hSw; (try dsimp only at hSw); go_simp⟩) hHeld ?_
  simp only [List.set_cons_zero, List.set_cons_succ]
  refine takeD 50 114 (.agg #[.int .i64 f.cl, .int .i64 f.nu, .int .i64 f.ki, .int .i64 f.id, .int .i64 f.sk, .int .i64 f.sq, .int .i64 f.st, .int .i64 f.po, .slice ya f.ts.length yc, .int .i64 f.tm]) rfl rfl (by kernel_rfl) (by kernel_rfl) (by kernel_rfl) (fun _ _ _ h => h) (Or.inl ⟨by kernel_rfl, by intro w hSw; (try dsimp only at hSw); go_simp⟩) hHeld ?_
  simp only [List.set_cons_zero, List.set_cons_succ]
  refine takeD 51 115 (.agg #[.int .i64 f.cl, .int .i64 f.nu, .int .i64 f.ki, .int .i64 f.id, .int .i64 f.sk, .int .i64 f.sq, .int .i64 f.st, .int .i64 f.po, .slice a2 f.ts.length cap2, .int .i64 f.tm]) rfl rfl (by kernel_rfl) (by kernel_rfl) (by kernel_rfl) (fun _ _ _ h => h) (Or.inl ⟨by kernel_rfl, by intro w hSw; (try dsimp only at hSw); go_simp⟩) hHeld ?_
  simp only [List.set_cons_zero, List.set_cons_succ]
  refine wpAnyH_ready (rs := [52]) (by kernel_rfl) (by simp) (AllReadyH.cons rfl (fun K hK => ?_) AllReadyH.nil)
  go_simp
  refine (refSame_yes _ (f, ya, yc) (f, a2, cap2) (HYW.out.below HD10.out) (HU.out.below (two_below (bt HB8.out HD10.out))) rfl).mono ?_
  rintro r w11 ⟨rfl, hb6⟩
  have HD11 := mkHid (bt HD10.out hb6)
  clear hb6 hHeld
  clear p0 p1 p2 p3 p4 p5 p6 p7 p8 p9 q0 q1 q2 q3 q4 q5 q6 q7 q8 q9 g0 g1 g2 g3 g4 g5 g6 g7 g8 g9 h0 h1 h2 h3 h4 h5 h6 h7 h8 h9 cv0 cv1 cv2 cv3
  obtain ⟨p0, p1, p2, p3, p4, p5, p6, p7, p8, p9⟩ := ent_cells (R0 _ (bt HB8.out HD11.out)).1
  obtain ⟨q0, q1, q2, q3, q4, q5, q6, q7, q8, q9⟩ := ent_cells (R0 _ (bt HB8.out HD11.out)).2
  obtain ⟨g0, g1, g2, g3, g4, g5, g6, g7, g8, g9⟩ := (HGX.out.below HD11.out).ten
  obtain ⟨h0, h1, h2, h3, h4, h5, h6, h7, h8, h9⟩ := (HGY.out.below HD11.out).ten
  simp only [Nat.zero_add, Nat.reduceAdd, tv] at g0 g1 g2 g3 g4 g5 g6 g7 g8 g9 h0 h1 h2 h3 h4 h5 h6 h7 h8 h9
  have cv0 := HCV0.out _ HD11.out
  have cv1 := HCV1.out _ HD11.out
  have cv2 := HCV2.out _ HD11.out
  have cv3 := HCV3.out _ HD11.out
  refine hK.out _ _ ⟨p0, p1, p2, p3, p4, p5, p6, p7, p8, p9, q0, q1, q2, q3, q4, q5, q6, q7, q8, q9, g0, g1, g2, g3, g4, g5, g6, g7, g8, g9, h0, h1, h2, h3, h4, h5, h6, h7, h8, h9, cv0, cv1, cv2, cv3⟩ (fun hHeld => ?_)
  clear hK K
  refine takeD 53 117 (.bool true) rfl rfl (by kernel_rfl) (by kernel_rfl) (by kernel_rfl) (fun _ _ _ h => h) (Or.inl ⟨by kernel_rfl, by intro w hSw; (try dsimp only at hSw); go_simp⟩) hHeld ?_
  simp only [List.set_cons_zero, List.set_cons_succ]
  refine takeD 54 4 (.bool true) rfl rfl (by kernel_rfl) (by kernel_rfl) (by kernel_rfl) (fun _ _ _ h => h) (Or.inl ⟨by kernel_rfl, by intro w hSw; (try dsimp only at hSw); go_simp⟩) hHeld ?_
  simp only [List.set_cons_zero, List.set_cons_succ]
  refine wpAnyH_done (by kernel_rfl) ?_ _
  go_wp2
  go_ret
  exact ⟨rfl, two_below (bt HB8.out HD11.out)⟩
end Go.Proofs.YtehnimafjgodeaaDoor
