/- The law OrderForms. -/
import Derived.Test.YtehnimafjgodeaaDoorOforms1
namespace Go.Proofs.YtehnimafjgodeaaDoor
open Go.ChangeShapes Go.WideShapes Go.ChangeAt Go.RowKit
set_option maxRecDepth 100000
attribute [local go_sem] World.cell?_alloc_some frozen_alloc_some

set_option maxHeartbeats 12800000 in
theorem forms_no (w : World) (t : Ep) (es : Addr) (ss : List UInt8) (ht : EnW w t) (hs : small t) (E : Err w 0 ss es) (hf : ¬ inF t.1) : Calls Tryd.prog 3 #[vP t] w fun r w' => r = .returned (.bool true) ∧ Below w.heap.size w w' := by
  have hes : w.cell? ⟨0, 0, none⟩ = some (vErr es) := E.1
  obtain ⟨e, a, cap⟩ := t
  have R0 := fun W (hW : Below (w.alloc (oE e (.slice a e.ts.length cap))).heap.size (w.alloc (oE e (.slice a e.ts.length cap))) W) => (hW.block w.heap.size (by simp)).trans (entO w e (.slice a e.ts.length cap))
  have HT := mkHid ht
  have HSM := mkHid hs
  have HF := mkHid hf
  have hlen : (e.ts.length : Int) ≤ 9223372036854775807 := by unfold small at hs; simp only at hs; omega
  clear ht hs hf
  simp only [vP, vN, tv]
  go_enter Tryd.func3, Tryd.ntmps3
  go_wp2_with (first
    | (go_at_call 9; refine (alive_any _).mono ?_; rintro r w1 ⟨rfl, b1⟩; have HB1 : Hid (Below (w.alloc (oE e (.slice a e.ts.length cap))).heap.size (w.alloc (oE e (.slice a e.ts.length cap))) w1) := mkHid b1; clear b1; obtain ⟨p0, p1, p2, p3, p4, p5, p6, p7, p8, p9⟩ := ent_cells (R0 _ HB1.out))
    | (go_at_call 10; refine (copy_any _ _ [(e, a, cap)] (ens_one w1 (e, a, cap) (HT.out.below (bt (ba (Below.refl _ w) _) HB1.out))) (by simp) (fun u hu => by simp at hu; subst hu; exact HSM.out)).mono ?_; rintro r w2 ⟨v2, qs, rfl, hl2, hq2, b2⟩; obtain ⟨g, gc, ia, ic, rfl, hat2, hw2⟩ := led_one hl2 (e := e) (by simpa using hq2) hlen; obtain ⟨d0, d1, d2, d3, d4, d5, d6, d7, d8, d9⟩ := hat2.ten; simp only [Nat.zero_add, tv] at d0 d1 d2 d3 d4 d5 d6 d7 d8 d9; have HIW := mkHid (EnW.below hw2 (ba (Below.refl _ w2) (oE e (.slice ia e.ts.length ic)))); have HB2 := mkHid (bt HB1.out (bt (ba (Below.refl _ w1) _) b2)); have I0 := fun W (hW : Below (w2.alloc (oE e (.slice ia e.ts.length ic))).heap.size (w2.alloc (oE e (.slice ia e.ts.length ic))) W) => (hW.block w2.heap.size (by simp)).trans (entO w2 e (.slice ia e.ts.length ic)); clear hat2 hw2 hl2 hq2 b2; clear p0 p1 p2 p3 p4 p5 p6 p7 p8 p9; obtain ⟨p0, p1, p2, p3, p4, p5, p6, p7, p8, p9⟩ := ent_cells (R0 _ HB2.out))
    | (go_at_call 11; refine (check_no _ (e, ia, ic) es HIW.out HF.out (kl (kc hes (bt (ba (Below.refl _ w) _) HB2.out)) _)).mono ?_; rintro r w4 ⟨rfl, b4⟩; have HI4 : Hid (Below (w2.alloc (oE e (.slice ia e.ts.length ic))).heap.size (w2.alloc (oE e (.slice ia e.ts.length ic))) w4) := mkHid b4; have HB4 := mkHid (bt HB2.out (bt (ba (Below.refl _ w2) _) b4)); clear b4 d0 d1 d2 d3 d4 d5 d6 d7 d8 d9; clear p0 p1 p2 p3 p4 p5 p6 p7 p8 p9; obtain ⟨p0, p1, p2, p3, p4, p5, p6, p7, p8, p9⟩ := ent_cells (R0 _ HB4.out); obtain ⟨q0, q1, q2, q3, q4, q5, q6, q7, q8, q9⟩ := ent_cells (I0 _ HI4.out))
    | (go_at_call 12; refine (put_no w4 (e, ia, ic) es (HIW.out.below HI4.out) HF.out (kc hes (bt (ba (Below.refl _ w) _) HB4.out))).mono ?_; rintro r w5 ⟨rfl, b5⟩; have HI5 := mkHid (bt HI4.out b5); have HB5 := mkHid (bt HB4.out b5); clear b5; clear q0 q1 q2 q3 q4 q5 q6 q7 q8 q9; clear p0 p1 p2 p3 p4 p5 p6 p7 p8 p9; obtain ⟨p0, p1, p2, p3, p4, p5, p6, p7, p8, p9⟩ := ent_cells (R0 _ HB5.out); obtain ⟨q0, q1, q2, q3, q4, q5, q6, q7, q8, q9⟩ := ent_cells (I0 _ HI5.out))
    | (go_at_call 13; refine (refSame_yes w5 (e, ia, ic) (e, a, cap) (HIW.out.below HI5.out) (HT.out.below (bt (ba (Below.refl _ w) _) HB5.out)) rfl).mono ?_; rintro r w6 ⟨rfl, b6⟩; have HB6 := mkHid (bt HB5.out b6); clear b6; clear q0 q1 q2 q3 q4 q5 q6 q7 q8 q9; clear p0 p1 p2 p3 p4 p5 p6 p7 p8 p9; obtain ⟨p0, p1, p2, p3, p4, p5, p6, p7, p8, p9⟩ := ent_cells (R0 _ HB6.out))
    | (go_at_call 14; refine (inForm_no w6 (e, a, cap) (HT.out.below (bt (ba (Below.refl _ w) _) HB6.out)) HF.out).mono ?_; rintro r w7 ⟨rfl, b7⟩; have HB7 := mkHid (bt HB6.out b7); clear b7; clear p0 p1 p2 p3 p4 p5 p6 p7 p8 p9; obtain ⟨p0, p1, p2, p3, p4, p5, p6, p7, p8, p9⟩ := ent_cells (R0 _ HB7.out); have ce := kc hes (bt (ba (Below.refl _ w) _) HB7.out); have ceq := E.eq))
  go_ret
  exact ⟨rfl, bt (ba (Below.refl _ w) _) HB7.out⟩
set_option maxHeartbeats 25600000 in
theorem forms_yes (w : World) (t : Ep) (eb : Addr) (ht : EnW w t) (hs : small t) (heb : w.cell? ⟨1, 0, none⟩ = some (vErr eb)) (hf : inF t.1) : Calls Tryd.prog 3 #[vP t] w fun r w' => r = .returned (.bool true) ∧ Below w.heap.size w w' := by
  obtain ⟨e, a, cap⟩ := t
  have R0 := fun W (hW : Below (w.alloc (oE e (.slice a e.ts.length cap))).heap.size (w.alloc (oE e (.slice a e.ts.length cap))) W) => (hW.block w.heap.size (by simp)).trans (entO w e (.slice a e.ts.length cap))
  have HT := mkHid ht
  have HSM := mkHid hs
  have HF := mkHid hf
  have hlen : (e.ts.length : Int) ≤ 9223372036854775807 := by unfold small at hs; simp only at hs; omega
  clear ht hs hf
  simp only [vP, vN, tv]
  go_enter Tryd.func3, Tryd.ntmps3
  go_wp2_with (first
    | (go_at_call 9; refine (alive_any _).mono ?_; rintro r w1 ⟨rfl, b1⟩; have HB1 : Hid (Below (w.alloc (oE e (.slice a e.ts.length cap))).heap.size (w.alloc (oE e (.slice a e.ts.length cap))) w1) := mkHid b1; clear b1; obtain ⟨p0, p1, p2, p3, p4, p5, p6, p7, p8, p9⟩ := ent_cells (R0 _ HB1.out))
    | (go_at_call 10; refine (copy_any _ _ [(e, a, cap)] (ens_one w1 (e, a, cap) (HT.out.below (bt (ba (Below.refl _ w) _) HB1.out))) (by simp) (fun u hu => by simp at hu; subst hu; exact HSM.out)).mono ?_; rintro r w2 ⟨v2, qs, rfl, hl2, hq2, b2⟩; obtain ⟨g, gc, ia, ic, rfl, hat2, hw2⟩ := led_one hl2 (e := e) (by simpa using hq2) hlen; obtain ⟨d0, d1, d2, d3, d4, d5, d6, d7, d8, d9⟩ := hat2.ten; simp only [Nat.zero_add, tv] at d0 d1 d2 d3 d4 d5 d6 d7 d8 d9; have HIW := mkHid (EnW.below hw2 (ba (Below.refl _ w2) (oE e (.slice ia e.ts.length ic)))); have HB2 := mkHid (bt HB1.out (bt (ba (Below.refl _ w1) _) b2)); have I0 := fun W (hW : Below (w2.alloc (oE e (.slice ia e.ts.length ic))).heap.size (w2.alloc (oE e (.slice ia e.ts.length ic))) W) => (hW.block w2.heap.size (by simp)).trans (entO w2 e (.slice ia e.ts.length ic)); clear hat2 hw2 hl2 hq2 b2; clear p0 p1 p2 p3 p4 p5 p6 p7 p8 p9; obtain ⟨p0, p1, p2, p3, p4, p5, p6, p7, p8, p9⟩ := ent_cells (R0 _ HB2.out))
    | (go_at_call 11; refine (check_yes _ (e, ia, ic) HIW.out HF.out).mono ?_; rintro r w4 ⟨rfl, b4⟩; have HI4 : Hid (Below (w2.alloc (oE e (.slice ia e.ts.length ic))).heap.size (w2.alloc (oE e (.slice ia e.ts.length ic))) w4) := mkHid b4; have HB4 := mkHid (bt HB2.out (bt (ba (Below.refl _ w2) _) b4)); clear b4 d0 d1 d2 d3 d4 d5 d6 d7 d8 d9; clear p0 p1 p2 p3 p4 p5 p6 p7 p8 p9; obtain ⟨p0, p1, p2, p3, p4, p5, p6, p7, p8, p9⟩ := ent_cells (R0 _ HB4.out); obtain ⟨q0, q1, q2, q3, q4, q5, q6, q7, q8, q9⟩ := ent_cells (I0 _ HI4.out))
    | (go_at_call 12; refine (put_yes w4 (e, ia, ic) (HIW.out.below HI4.out) HF.out).mono ?_; rintro r w5 ⟨v5, rfl, ho5, b5⟩; obtain ⟨xba, bc, rfl⟩ := own_shape ho5; have HO5 := mkHid ho5; clear ho5; have HI5 := mkHid (bt HI4.out b5); have HB5 := mkHid (bt HB4.out b5); have HP5 := mkHid b5; clear b5; clear q0 q1 q2 q3 q4 q5 q6 q7 q8 q9; clear p0 p1 p2 p3 p4 p5 p6 p7 p8 p9; obtain ⟨p0, p1, p2, p3, p4, p5, p6, p7, p8, p9⟩ := ent_cells (R0 _ HB5.out); obtain ⟨q0, q1, q2, q3, q4, q5, q6, q7, q8, q9⟩ := ent_cells (I0 _ HI5.out))
    | (go_at_call 13; refine (refSame_yes w5 (e, ia, ic) (e, a, cap) (HIW.out.below HI5.out) (HT.out.below (bt (ba (Below.refl _ w) _) HB5.out)) rfl).mono ?_; rintro r w6 ⟨rfl, b6⟩; have HB6 := mkHid (bt HB5.out b6); have HP6 := mkHid b6; clear b6; clear q0 q1 q2 q3 q4 q5 q6 q7 q8 q9; clear p0 p1 p2 p3 p4 p5 p6 p7 p8 p9; obtain ⟨p0, p1, p2, p3, p4, p5, p6, p7, p8, p9⟩ := ent_cells (R0 _ HB6.out))
    | (go_at_call 14; refine (inForm_yes w6 (e, a, cap) (HT.out.below (bt (ba (Below.refl _ w) _) HB6.out)) HF.out).mono ?_; rintro r w7 ⟨rfl, b7⟩; have HB7 := mkHid (bt HB6.out b7); have HP7 := mkHid b7; clear b7; clear p0 p1 p2 p3 p4 p5 p6 p7 p8 p9; obtain ⟨p0, p1, p2, p3, p4, p5, p6, p7, p8, p9⟩ := ent_cells (R0 _ HB7.out))
    | (go_at_call 15; refine (get_yes w7 (.slice xba (bytesE e).length bc) (bytesE e) eb e ((Rd.of_owns (encL_byts _) HO5.out).later (bt HP6.out HP7.out)) (by have := HF.out.blen; omega) (kc heb (bt (ba (Below.refl _ w) _) HB7.out)) rfl HF.out).mono ?_; rintro r w8 ⟨da, dc, rfl, ho8, b8⟩; simp only [vP, vN, tv]; have HO8 := mkHid ho8; have HP8 := mkHid b8; have HB8 := mkHid (bt HB7.out b8); clear b8 ho8; clear p0 p1 p2 p3 p4 p5 p6 p7 p8 p9; obtain ⟨p0, p1, p2, p3, p4, p5, p6, p7, p8, p9⟩ := ent_cells (R0 _ HB8.out)))
  have D0 := fun W (hW : Below (w8.alloc (oE e (.slice da e.ts.length dc))).heap.size (w8.alloc (oE e (.slice da e.ts.length dc))) W) => (hW.block w8.heap.size (by simp)).trans (entO w8 e (.slice da e.ts.length dc))
  have HDW : Hid (EnW (w8.alloc (oE e (.slice da e.ts.length dc))) (e, da, dc)) := mkHid (by
    obtain ⟨x, y, e9, h9⟩ := tks_of_owns hlen HO8.out
    simp only [Value.slice.injEq] at e9
    obtain ⟨rfl, _, rfl⟩ := e9
    exact EnW.below (t := (e, da, dc)) h9 (ba (Below.refl _ w8) _))
  have HCV : Hid (∀ W, Below (w8.alloc (oE e (.slice da e.ts.length dc))).heap.size (w8.alloc (oE e (.slice da e.ts.length dc))) W → (convert 35 9 (.slice xba (bytesE e).length bc)).run Tryd.prog W = .ok (.string (strOfNums (bytesE e))) W) := mkHid (fun W hW => ((Rd.of_owns (encL_byts _) HO5.out).later (bt (bt (bt (bt HP6.out HP7.out) HP8.out) (ba (Below.refl _ w8) _)) hW)).conv)
  obtain ⟨bn, hbn⟩ : ∃ bn, bn = (bytesE e).length := ⟨_, rfl⟩
  rw [← hbn] at HCV ⊢
  clear hbn
  clear p0 p1 p2 p3 p4 p5 p6 p7 p8 p9
  obtain ⟨p0, p1, p2, p3, p4, p5, p6, p7, p8, p9⟩ := ent_cells (R0 _ (bt HB8.out ((ba (Below.refl _ w8) (oE e (.slice da e.ts.length dc))).drew)))
  obtain ⟨q0, q1, q2, q3, q4, q5, q6, q7, q8, q9⟩ := ent_cells (D0 _ (Below.refl _ _).drew)
  have cv := HCV.out _ (Below.refl _ _).drew
  refine wp_region_held_drew (S := fun w' => w'.cell? ⟨w.heap.size, 0, none⟩ = some (.int .i64 e.cl) ∧ w'.cell? ⟨w.heap.size, 1, none⟩ = some (.int .i64 e.nu) ∧ w'.cell? ⟨w.heap.size, 2, none⟩ = some (.int .i64 e.ki) ∧ w'.cell? ⟨w.heap.size, 3, none⟩ = some (.int .i64 e.id) ∧ w'.cell? ⟨w.heap.size, 4, none⟩ = some (.int .i64 e.sk) ∧ w'.cell? ⟨w.heap.size, 5, none⟩ = some (.int .i64 e.sq) ∧ w'.cell? ⟨w.heap.size, 6, none⟩ = some (.int .i64 e.st) ∧ w'.cell? ⟨w.heap.size, 7, none⟩ = some (.int .i64 e.po) ∧ w'.cell? ⟨w.heap.size, 8, none⟩ = some (.slice a e.ts.length cap) ∧ w'.cell? ⟨w.heap.size, 9, none⟩ = some (.int .i64 e.tm) ∧ w'.cell? ⟨w8.heap.size, 0, none⟩ = some (.int .i64 e.cl) ∧ w'.cell? ⟨w8.heap.size, 1, none⟩ = some (.int .i64 e.nu) ∧ w'.cell? ⟨w8.heap.size, 2, none⟩ = some (.int .i64 e.ki) ∧ w'.cell? ⟨w8.heap.size, 3, none⟩ = some (.int .i64 e.id) ∧ w'.cell? ⟨w8.heap.size, 4, none⟩ = some (.int .i64 e.sk) ∧ w'.cell? ⟨w8.heap.size, 5, none⟩ = some (.int .i64 e.sq) ∧ w'.cell? ⟨w8.heap.size, 6, none⟩ = some (.int .i64 e.st) ∧ w'.cell? ⟨w8.heap.size, 7, none⟩ = some (.int .i64 e.po) ∧ w'.cell? ⟨w8.heap.size, 8, none⟩ = some (.slice da e.ts.length dc) ∧ w'.cell? ⟨w8.heap.size, 9, none⟩ = some (.int .i64 e.tm) ∧ (convert 35 9 (.slice xba bn bc)).run Tryd.prog w' = .ok (.string (strOfNums (bytesE e))) w') (by kernel_rfl) ⟨p0, p1, p2, p3, p4, p5, p6, p7, p8, p9, q0, q1, q2, q3, q4, q5, q6, q7, q8, q9, cv⟩ (fun hHeld => ?_)
  refine takeD 0 48 (.nilIface) rfl rfl (by kernel_rfl) (by kernel_rfl) (by kernel_rfl) (fun _ _ _ h => h) (Or.inl ⟨by kernel_rfl, by intro w hSw; (try dsimp only at hSw); go_simp⟩) hHeld ?_
  simp only [List.set_cons_zero, List.set_cons_succ]
  refine takeD 1 49 (.bool true) rfl rfl (by kernel_rfl) (by kernel_rfl) (by kernel_rfl) (fun _ _ _ h => h) (Or.inl ⟨by kernel_rfl, by intro w hSw; (try dsimp only at hSw); go_simp⟩) hHeld ?_
  simp only [List.set_cons_zero, List.set_cons_succ]
  refine takeD 2 50 (.bool true) rfl rfl (by kernel_rfl) (by kernel_rfl) (by kernel_rfl) (fun _ _ _ h => h) (Or.inl ⟨by kernel_rfl, by intro w hSw; (try dsimp only at hSw); go_simp⟩) hHeld ?_
  simp only [List.set_cons_zero, List.set_cons_succ]
  refine takeD 3 51 (.nilIface) rfl rfl (by kernel_rfl) (by kernel_rfl) (by kernel_rfl) (fun _ _ _ h => h) (Or.inl ⟨by kernel_rfl, by intro w hSw; (try dsimp only at hSw); go_simp⟩) hHeld ?_
  simp only [List.set_cons_zero, List.set_cons_succ]
  refine takeD 4 52 (.bool true) rfl rfl (by kernel_rfl) (by kernel_rfl) (by kernel_rfl) (fun _ _ _ h => h) (Or.inl ⟨by kernel_rfl, by intro w hSw; (try dsimp only at hSw); go_simp⟩) hHeld ?_
  simp only [List.set_cons_zero, List.set_cons_succ]
  refine takeD 5 53 (.bool true) rfl rfl (by kernel_rfl) (by kernel_rfl) (by kernel_rfl) (fun _ _ _ h => h) (Or.inl ⟨by kernel_rfl, by intro w hSw; (try dsimp only at hSw); go_simp⟩) hHeld ?_
  simp only [List.set_cons_zero, List.set_cons_succ]
  refine takeD 6 54 (.bool true) rfl rfl (by kernel_rfl) (by kernel_rfl) (by kernel_rfl) (fun _ _ _ h => h) (Or.inl ⟨by kernel_rfl, by intro w hSw; (try dsimp only at hSw); go_simp⟩) hHeld ?_
  simp only [List.set_cons_zero, List.set_cons_succ]
  refine takeD 7 55 (.slice xba bn bc) rfl rfl (by kernel_rfl) (by kernel_rfl) (by kernel_rfl) (fun _ _ _ h => h) (Or.inl ⟨by kernel_rfl, by intro w hSw; (try dsimp only at hSw); go_simp⟩) hHeld ?_
  simp only [List.set_cons_zero, List.set_cons_succ]
  refine takeD 8 56 (.string (strOfNums (bytesE e))) rfl rfl (by kernel_rfl) (by kernel_rfl) (by kernel_rfl) (fun _ _ _ h => h) (Or.inl ⟨by kernel_rfl, by intro w hSw; (try dsimp only at hSw); go_simp⟩) hHeld ?_
  simp only [List.set_cons_zero, List.set_cons_succ]
  refine takeD 9 57 (.agg #[.int .i64 e.cl, .int .i64 e.nu, .int .i64 e.ki, .int .i64 e.id, .int .i64 e.sk, .int .i64 e.sq, .int .i64 e.st, .int .i64 e.po, .slice a e.ts.length cap, .int .i64 e.tm]) rfl rfl (by kernel_rfl) (by kernel_rfl) (by kernel_rfl) (fun _ _ _ h => h) (Or.inl ⟨by kernel_rfl, by intro w hSw; (try dsimp only at hSw); go_simp⟩) hHeld ?_
  simp only [List.set_cons_zero, List.set_cons_succ]
  have HB9 := mkHid (HB8.out.trans ((ba (Below.refl _ w8) (oE e (.slice da e.ts.length dc))).drew.mono HB8.out.size))
  have HD9 : Hid (Below (w8.alloc (oE e (.slice da e.ts.length dc))).heap.size (w8.alloc (oE e (.slice da e.ts.length dc))) (w8.alloc (oE e (.slice da e.ts.length dc))).drew) := mkHid (Below.refl _ _).drew
  refine wpAnyH_ready (rs := [10]) (by kernel_rfl) (by simp) (AllReadyH.cons rfl (fun K hK => ?_) AllReadyH.nil)
  go_simp
  refine (refput_any _ (e, a, cap) (HT.out.below (bt (ba (Below.refl _ w) _) HB9.out)) HF.out).mono ?_
  rintro r w10 ⟨v10, rfl, ho10, hb6⟩
  have HB10 := mkHid (bt HB9.out hb6)
  have HD10 := mkHid (bt HD9.out hb6)
  obtain ⟨xa, xc, rfl⟩ := own_shape ho10
  have HC10 := mkHid (Rd.of_owns (bs := bytesE e) (encL_byts _) ho10).conv
  clear ho10
  clear hb6 hHeld
  clear p0 p1 p2 p3 p4 p5 p6 p7 p8 p9 q0 q1 q2 q3 q4 q5 q6 q7 q8 q9 cv
  obtain ⟨p0, p1, p2, p3, p4, p5, p6, p7, p8, p9⟩ := ent_cells (R0 _ HB10.out)
  obtain ⟨q0, q1, q2, q3, q4, q5, q6, q7, q8, q9⟩ := ent_cells (D0 _ HD10.out)
  have cv := HCV.out _ HD10.out
  refine hK.out _ _ ⟨p0, p1, p2, p3, p4, p5, p6, p7, p8, p9, q0, q1, q2, q3, q4, q5, q6, q7, q8, q9, cv⟩ (fun hHeld => ?_)
  clear hK K
  have cv2 := HC10.out
  refine wpAnyH_ready (rs := [11]) (by kernel_rfl) (by simp) (AllReadyH.cons rfl (fun K hK => ?_) AllReadyH.nil)
  go_simp
  refine hK.out _ _ hHeld (fun hHeld => ?_)
  clear hK K cv2
  (try simp only [Act.put])
  refine takeD 12 60 (.bool true) rfl rfl (by kernel_rfl) (by kernel_rfl) (by kernel_rfl) (fun _ _ _ h => h) (Or.inl ⟨by kernel_rfl, by intro w hSw; (try dsimp only at hSw); go_simp⟩) hHeld ?_
  simp only [List.set_cons_zero, List.set_cons_succ]
  refine takeD 13 61 (.bool true) rfl rfl (by kernel_rfl) (by kernel_rfl) (by kernel_rfl) (fun _ _ _ h => h) (Or.inl ⟨by kernel_rfl, by intro w hSw; (try dsimp only at hSw); go_simp⟩) hHeld ?_
  simp only [List.set_cons_zero, List.set_cons_succ]
  refine takeD 14 62 (.bool true) rfl rfl (by kernel_rfl) (by kernel_rfl) (by kernel_rfl) (fun _ _ _ h => h) (Or.inl ⟨by kernel_rfl, by intro w hSw; (try dsimp only at hSw); go_simp⟩) hHeld ?_
  simp only [List.set_cons_zero, List.set_cons_succ]
  refine takeD 15 63 (.nilIface) rfl rfl (by kernel_rfl) (by kernel_rfl) (by kernel_rfl) (fun _ _ _ h => h) (Or.inl ⟨by kernel_rfl, by intro w hSw; (try dsimp only at hSw); go_simp⟩) hHeld ?_
  simp only [List.set_cons_zero, List.set_cons_succ]
  refine takeD 16 64 (.bool true) rfl rfl (by kernel_rfl) (by kernel_rfl) (by kernel_rfl) (fun _ _ _ h => h) (Or.inl ⟨by kernel_rfl, by intro w hSw; (try dsimp only at hSw); go_simp⟩) hHeld ?_
  simp only [List.set_cons_zero, List.set_cons_succ]
  refine takeD 17 65 (.bool true) rfl rfl (by kernel_rfl) (by kernel_rfl) (by kernel_rfl) (fun _ _ _ h => h) (Or.inl ⟨by kernel_rfl, by intro w hSw; (try dsimp only at hSw); go_simp⟩) hHeld ?_
  simp only [List.set_cons_zero, List.set_cons_succ]
  refine takeD 18 66 (.bool true) rfl rfl (by kernel_rfl) (by kernel_rfl) (by kernel_rfl) (fun _ _ _ h => h) (Or.inl ⟨by kernel_rfl, by intro w hSw; (try dsimp only at hSw); go_simp⟩) hHeld ?_
  simp only [List.set_cons_zero, List.set_cons_succ]
  refine takeD 19 67 (.agg #[.int .i64 e.cl, .int .i64 e.nu, .int .i64 e.ki, .int .i64 e.id, .int .i64 e.sk, .int .i64 e.sq, .int .i64 e.st, .int .i64 e.po, .slice da e.ts.length dc, .int .i64 e.tm]) rfl rfl (by kernel_rfl) (by kernel_rfl) (by kernel_rfl) (fun _ _ _ h => h) (Or.inl ⟨by kernel_rfl, by intro w hSw; (try dsimp only at hSw); go_simp⟩) hHeld ?_
  simp only [List.set_cons_zero, List.set_cons_succ]
  refine takeD 20 68 (.agg #[.int .i64 e.cl, .int .i64 e.nu, .int .i64 e.ki, .int .i64 e.id, .int .i64 e.sk, .int .i64 e.sq, .int .i64 e.st, .int .i64 e.po, .slice a e.ts.length cap, .int .i64 e.tm]) rfl rfl (by kernel_rfl) (by kernel_rfl) (by kernel_rfl) (fun _ _ _ h => h) (Or.inl ⟨by kernel_rfl, by intro w hSw; (try dsimp only at hSw); go_simp⟩) hHeld ?_
  simp only [List.set_cons_zero, List.set_cons_succ]
  refine wpAnyH_ready (rs := [21]) (by kernel_rfl) (by simp) (AllReadyH.cons rfl (fun K hK => ?_) AllReadyH.nil)
  go_simp
  refine (refSame_yes _ (e, da, dc) (e, a, cap) (HDW.out.below HD10.out) (HT.out.below (bt (ba (Below.refl _ w) _) HB10.out)) rfl).mono ?_
  rintro r w11 ⟨rfl, hb6⟩
  have HB11 := mkHid (bt HB10.out hb6)
  have HD11 := mkHid (bt HD10.out hb6)
  clear hb6 hHeld
  clear p0 p1 p2 p3 p4 p5 p6 p7 p8 p9 q0 q1 q2 q3 q4 q5 q6 q7 q8 q9 cv
  obtain ⟨p0, p1, p2, p3, p4, p5, p6, p7, p8, p9⟩ := ent_cells (R0 _ HB11.out)
  obtain ⟨q0, q1, q2, q3, q4, q5, q6, q7, q8, q9⟩ := ent_cells (D0 _ HD11.out)
  have cv := HCV.out _ HD11.out
  refine hK.out _ _ ⟨p0, p1, p2, p3, p4, p5, p6, p7, p8, p9, q0, q1, q2, q3, q4, q5, q6, q7, q8, q9, cv⟩ (fun hHeld => ?_)
  clear hK K
  refine takeD 22 70 (.bool true) rfl rfl (by kernel_rfl) (by kernel_rfl) (by kernel_rfl) (fun _ _ _ h => h) (Or.inl ⟨by kernel_rfl, by intro w hSw; (try dsimp only at hSw); go_simp⟩) hHeld ?_
  simp only [List.set_cons_zero, List.set_cons_succ]
  refine takeD 23 71 (.bool true) rfl rfl (by kernel_rfl) (by kernel_rfl) (by kernel_rfl) (fun _ _ _ h => h) (Or.inl ⟨by kernel_rfl, by intro w hSw; (try dsimp only at hSw); go_simp⟩) hHeld ?_
  simp only [List.set_cons_zero, List.set_cons_succ]
  refine takeD 24 72 (.agg #[.int .i64 e.cl, .int .i64 e.nu, .int .i64 e.ki, .int .i64 e.id, .int .i64 e.sk, .int .i64 e.sq, .int .i64 e.st, .int .i64 e.po, .slice da e.ts.length dc, .int .i64 e.tm]) rfl rfl (by kernel_rfl) (by kernel_rfl) (by kernel_rfl) (fun _ _ _ h => h) (Or.inl ⟨by kernel_rfl, by intro w hSw; (try dsimp only at hSw); go_simp⟩) hHeld ?_
  simp only [List.set_cons_zero, List.set_cons_succ]
  refine takeD 25 73 (.agg #[.int .i64 e.cl, .int .i64 e.nu, .int .i64 e.ki, .int .i64 e.id, .int .i64 e.sk, .int .i64 e.sq, .int .i64 e.st, .int .i64 e.po, .slice a e.ts.length cap, .int .i64 e.tm]) rfl rfl (by kernel_rfl) (by kernel_rfl) (by kernel_rfl) (fun _ _ _ h => h) (Or.inl ⟨by kernel_rfl, by intro w hSw; (try dsimp only at hSw); go_simp⟩) hHeld ?_
  simp only [List.set_cons_zero, List.set_cons_succ]
  refine wpAnyH_ready (rs := [26]) (by kernel_rfl) (by simp) (AllReadyH.cons rfl (fun K hK => ?_) AllReadyH.nil)
  go_simp
  refine (oSame_yes _ (e, da, dc) (e, a, cap) (HDW.out.below HD11.out) (HT.out.below (bt (ba (Below.refl _ w) _) HB11.out)) rfl).mono ?_
  rintro r w12 ⟨rfl, hb6⟩
  have HB12 := mkHid (bt HB11.out hb6)
  have HD12 := mkHid (bt HD11.out hb6)
  clear hb6 hHeld
  clear p0 p1 p2 p3 p4 p5 p6 p7 p8 p9 q0 q1 q2 q3 q4 q5 q6 q7 q8 q9 cv
  obtain ⟨p0, p1, p2, p3, p4, p5, p6, p7, p8, p9⟩ := ent_cells (R0 _ HB12.out)
  obtain ⟨q0, q1, q2, q3, q4, q5, q6, q7, q8, q9⟩ := ent_cells (D0 _ HD12.out)
  have cv := HCV.out _ HD12.out
  refine hK.out _ _ ⟨p0, p1, p2, p3, p4, p5, p6, p7, p8, p9, q0, q1, q2, q3, q4, q5, q6, q7, q8, q9, cv⟩ (fun hHeld => ?_)
  clear hK K
  refine takeD 27 75 (.bool true) rfl rfl (by kernel_rfl) (by kernel_rfl) (by kernel_rfl) (fun _ _ _ h => h) (Or.inl ⟨by kernel_rfl, by intro w hSw; (try dsimp only at hSw); go_simp⟩) hHeld ?_
  simp only [List.set_cons_zero, List.set_cons_succ]
  refine takeD 28 2 (.bool true) rfl rfl (by kernel_rfl) (by kernel_rfl) (by kernel_rfl) (fun _ _ _ h => h) (Or.inl ⟨by kernel_rfl, by intro w hSw; (try dsimp only at hSw); go_simp⟩) hHeld ?_
  simp only [List.set_cons_zero, List.set_cons_succ]
  refine wpAnyH_done (by kernel_rfl) ?_ _
  go_wp2
  go_ret
  exact ⟨rfl, bt (ba (Below.refl _ w) _) HB12.out⟩
end Go.Proofs.YtehnimafjgodeaaDoor
