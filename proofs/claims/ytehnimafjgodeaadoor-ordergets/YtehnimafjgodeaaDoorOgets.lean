/- The law OrderGets. -/
import Derived.Test.YtehnimafjgodeaaDoorOrread
import Derived.Test.YtehnimafjgodeaaDoorOledgers
import Derived.Test.YtehnimafjgodeaaDoorMarked
namespace Go.Proofs.YtehnimafjgodeaaDoor
open Go.ChangeShapes Go.WideShapes Go.ChangeAt Go.RowKit
set_option maxRecDepth 100000
attribute [local go_sem] World.cell?_alloc_some frozen_alloc_some

/-- An entry is answered, and x beside it. -/
def GU (w : World) (e0 : En) (x : Value) (r : Ending) (w' : World) : Prop := ∃ a c, r = .returned (.tuple #[vP (e0, a, c), x]) ∧ EnW w' (e0, a, c) ∧ Below w.heap.size w w'
/-- A ledger is answered, and x beside it. -/
def LU (w : World) (l0 : List En) (x : Value) (r : Ending) (w' : World) : Prop := ∃ a c, ∃ qs : List Ep, r = .returned (.tuple #[.slice a qs.length c, x]) ∧ Ens w' (.slice a qs.length c) qs ∧ fs1 qs = l0 ∧ Below w.heap.size w w'
def zE0 : En := ⟨0, 0, 0, 0, 0, 0, 0, 0, [], 0⟩
theorem enw_of {w : World} {base : Nat} {e : En} {a : Option Addr} {c : Nat} (hl : (e.ts.length : Int) ≤ 9223372036854775807) (h : w.ownsRow base 68 4 (.slice a e.ts.length c) e.ts.length (e.ts.flatMap c4)) : EnW w (e, a, c) := by
  obtain ⟨x, y, e9, h9⟩ := tks_of_owns hl h
  simp only [Value.slice.injEq] at e9
  obtain ⟨rfl, _, rfl⟩ := e9
  exact h9
theorem enw_zero (w : World) : EnW w (zE0, none, 0) := tks_nil w
theorem ens_nil (w : World) : Ens w (.slice none ([] : List Ep).length 0) [] := ⟨none, 0, rfl, by simp, fun hp => by simp at hp, fun t ht => by simp at ht⟩
theorem led_ens {base : Nat} {w : World} {v : Value} {qs : List Ep} (h : Led base w v qs) (hl : qs.length ≤ 64) (hf : ∀ t ∈ qs, inF t.1) : ∃ a c, v = .slice a qs.length c ∧ Ens w (.slice a qs.length c) qs := by
  have he := h.ens (by omega) (fun t ht => by have := (hf t ht).2.1.1; omega)
  obtain ⟨a, c, e, _⟩ := own_sh h.own
  rw [e] at he
  exact ⟨a, c, e, he⟩
theorem all_fs {qs : List Ep} (hf : ∀ t ∈ qs, inF t.1) : ∀ e ∈ fs1 qs, inF e := fun e he => by obtain ⟨t, ht, rfl⟩ := List.mem_map.mp he; exact hf t ht
theorem fs_len (qs : List Ep) : (fs1 qs).length = qs.length := by simp
set_option maxHeartbeats 25600000 in
theorem gets_yy (w : World) (v : Value) (bs : List Int) (e0 : En) (l0 : List En) (eb es : Addr) (ss : List UInt8) (E : Err w 1 ss eb) (hes : w.cell? ⟨0, 0, none⟩ = some (vErr es)) (h : Rd w v bs) (hl : (bs.length : Int) ≤ 140737488351232)
    (h1 : ∀ W V, Rd W V bs → Below w.heap.size w W → Calls Tryd.prog 15 #[V] W (GU W e0 .nilIface)) (h2 : ∀ W V, Rd W V bs → Below w.heap.size w W → Calls Tryd.prog 19 #[V] W (GU W e0 (.bool true))) (h3 : ∀ W V, Rd W V bs → Below w.heap.size w W → Calls Tryd.prog 20 #[V] W (LU W l0 .nilIface)) (h4 : ∀ W V, Rd W V bs → Below w.heap.size w W → Calls Tryd.prog 21 #[V] W (LU W l0 (.bool true))) (hf : inF e0 ∧ bs = bytesE e0) (hq : (∀ e ∈ l0, inF e) ∧ l0.length ≤ 64 ∧ bs = bytesL l0) :
    Calls Tryd.prog 4 #[v] w fun r w' => r = .returned (.bool true) ∧ Below w.heap.size w w' := by
  obtain ⟨sa, sc, rfl⟩ : ∃ a c, v = .slice a bs.length c := h.2.imp fun a h => h.imp fun c h => h.1
  have HV := mkHid h
  have HE0 := mkHid E
  have HES := mkHid hes
  have H1 := mkHid h1
  have H2 := mkHid h2
  have H3 := mkHid h3
  have H4 := mkHid h4
  have HF := mkHid hf
  have HQ := mkHid hq
  have HQL := mkHid hq.2.1
  clear h E hes h1 h2 h3 h4 hf hq
  go_enter Tryd.func4, Tryd.ntmps4
  go_wp2_with (first
    | (go_at_call 9; refine (alive_any w).mono ?_; rintro r w1 ⟨rfl, b1⟩; have HB1 := mkHid b1; clear b1)
    | (go_at_call 18; refine (nbytes_any w1 _ bs (HV.out.later HB1.out) (by omega)).mono ?_; rintro r w2 ⟨g, cap, rfl, hm2, b2⟩; have HM2 : Hid (∀ W, Below w2.heap.size w2 W → Mk W w1.heap.size g cap bs) := mkHid (fun W hW => hm2.kept (kept_of_below hW) (by have := hm2.lt; omega)); have HB2 := mkHid (bt HB1.out b2); clear hm2 b2)
    | (go_at_call 15; refine (H1.out w2 _ ((HM2.out _ (Below.refl _ _)).rd HV.out.1) HB2.out).mono ?_; rintro r w3 ⟨ga, gc, rfl, hw3, b3⟩; simp only [vP, vN, tv]; have HW3 := mkHid (EnW.below hw3 (ba (Below.refl _ w3) (oE e0 (.slice ga e0.ts.length gc)))); have HP3 : Hid (Below w2.heap.size w2 (w3.alloc (oE e0 (.slice ga e0.ts.length gc)))) := mkHid (ba b3 _); have R1 := fun W (hW : Below (w3.alloc (oE e0 (.slice ga e0.ts.length gc))).heap.size (w3.alloc (oE e0 (.slice ga e0.ts.length gc))) W) => (hW.block w3.heap.size (by simp)).trans (entO w3 e0 (.slice ga e0.ts.length gc)); clear hw3 b3)
    | (go_at_call 19; refine (H2.out (w3.alloc (oE e0 (.slice ga e0.ts.length gc))) _ (HV.out.later (bt HB2.out HP3.out)) (bt HB2.out HP3.out)).mono ?_; rintro r w4 ⟨ha, hc, rfl, hw4, b4⟩; simp only [vP, vN, tv]; have HW4 := mkHid (EnW.below hw4 (ba (Below.refl _ w4) (oE e0 (.slice ha e0.ts.length hc)))); have HP4 : Hid (Below (w3.alloc (oE e0 (.slice ga e0.ts.length gc))).heap.size (w3.alloc (oE e0 (.slice ga e0.ts.length gc))) (w4.alloc (oE e0 (.slice ha e0.ts.length hc)))) := mkHid (ba b4 _); have R2 := fun W (hW : Below (w4.alloc (oE e0 (.slice ha e0.ts.length hc))).heap.size (w4.alloc (oE e0 (.slice ha e0.ts.length hc))) W) => (hW.block w4.heap.size (by simp)).trans (entO w4 e0 (.slice ha e0.ts.length hc)); clear hw4 b4)
    | (go_at_call 20; refine (H3.out (w4.alloc (oE e0 (.slice ha e0.ts.length hc))) _ ((HM2.out _ (bt HP3.out HP4.out)).rd HV.out.1) (bt HB2.out (bt HP3.out HP4.out))).mono ?_; rintro r w5 ⟨la, lc, qs, rfl, he5, hq5, b5⟩; have HE5 := mkHid he5; have HQ5 := mkHid hq5; have HP5 : Hid (Below (w4.alloc (oE e0 (.slice ha e0.ts.length hc))).heap.size (w4.alloc (oE e0 (.slice ha e0.ts.length hc))) w5) := mkHid b5; clear he5 hq5 b5)
    | (go_at_call 21; refine (H4.out w5 _ (HV.out.later (bt HB2.out (bt (bt HP3.out HP4.out) HP5.out))) (bt HB2.out (bt (bt HP3.out HP4.out) HP5.out))).mono ?_; rintro r w6 ⟨ma, mc, rs, rfl, he6, hq6, b6⟩; have HE6 := mkHid he6; have HQ6 := mkHid hq6; have HE5b := mkHid (HE5.out.below b6); have HP6 : Hid (Below (w4.alloc (oE e0 (.slice ha e0.ts.length hc))).heap.size (w4.alloc (oE e0 (.slice ha e0.ts.length hc))) w6) := mkHid (bt HP5.out b6); have HB6 := mkHid (bt HB2.out (bt (bt HP3.out HP4.out) (bt HP5.out b6))); obtain ⟨p0, p1, p2, p3, p4, p5, p6, p7, p8, p9⟩ := ent_cells (R1 _ (bt HP4.out (bt HP5.out b6))); obtain ⟨q0, q1, q2, q3, q4, q5, q6, q7, q8, q9⟩ := ent_cells (R2 _ (bt HP5.out b6)); clear he6 hq6 b6)
    | (go_at_call 13; refine (refSame_yes w6 (e0, ga, gc) (e0, ha, hc) (HW3.out.below (bt HP4.out HP6.out)) (HW4.out.below HP6.out) rfl).mono ?_; rintro r w7 ⟨rfl, b7⟩; have HP7 := mkHid b7; have HB7 := mkHid (bt HB6.out b7); clear p0 p1 p2 p3 p4 p5 p6 p7 p8 p9; clear q0 q1 q2 q3 q4 q5 q6 q7 q8 q9; obtain ⟨p0, p1, p2, p3, p4, p5, p6, p7, p8, p9⟩ := ent_cells (R1 _ (bt HP4.out (bt HP6.out b7))); obtain ⟨q0, q1, q2, q3, q4, q5, q6, q7, q8, q9⟩ := ent_cells (R2 _ (bt HP6.out b7)); clear b7)
    | (go_at_call 22; refine (sameL_yes w7 _ _ qs rs (HE5b.out.below HP7.out) (HE6.out.below HP7.out) (HQ5.out.trans HQ6.out.symm)).mono ?_; rintro r w8 ⟨rfl, b8⟩; have HP8 := mkHid (bt HP7.out b8); have HB8 := mkHid (bt HB7.out b8); clear p0 p1 p2 p3 p4 p5 p6 p7 p8 p9; clear q0 q1 q2 q3 q4 q5 q6 q7 q8 q9; obtain ⟨p0, p1, p2, p3, p4, p5, p6, p7, p8, p9⟩ := ent_cells (R1 _ (bt HP4.out (bt HP6.out HP8.out))); obtain ⟨q0, q1, q2, q3, q4, q5, q6, q7, q8, q9⟩ := ent_cells (R2 _ (bt HP6.out HP8.out)); clear b8)
    | (go_at_call 23; refine (nkept_any w8 _ g cap _ bs (HM2.out _ (bt (bt HP3.out HP4.out) (bt HP6.out HP8.out))) (HV.out.later HB8.out) (by omega)).mono ?_; rintro r w9 ⟨rfl, nq, hw⟩; have b9 : Below w8.heap.size w8 w9 := by { rw [hw]; exact drb (Below.refl _ _) nq }; have HP9 := mkHid (bt HP8.out b9); have HB9 := mkHid (bt HB8.out b9); clear p0 p1 p2 p3 p4 p5 p6 p7 p8 p9; clear q0 q1 q2 q3 q4 q5 q6 q7 q8 q9; obtain ⟨p0, p1, p2, p3, p4, p5, p6, p7, p8, p9⟩ := ent_cells (R1 _ (bt HP4.out (bt HP6.out HP9.out))); obtain ⟨q0, q1, q2, q3, q4, q5, q6, q7, q8, q9⟩ := ent_cells (R2 _ (bt HP6.out HP9.out)); have ce := kc HE0.out.1 HB9.out; have ceq := HE0.out.same; clear b9 hw)
    | (go_at_call 12; refine (put_yes w9 (e0, ga, gc) (HW3.out.below (bt HP4.out (bt HP6.out HP9.out))) HF.out.1).mono ?_; rintro r w10 ⟨v10, rfl, ho10, b10⟩; simp only [← HF.out.2] at ho10; obtain ⟨xa, xc, rfl⟩ := own_shape ho10; have HB10 := mkHid (bt HB9.out b10); have cv1 := (Rd.of_owns HV.out.1 ho10).conv; have cv2 := (HV.out.later HB10.out).conv; have HP10 := mkHid (bt HP9.out b10); clear ho10 b10)
    | (go_at_call 24; refine (write_yes2 w10 _ qs es (HE5b.out.below HP10.out) (by have := HQL.out; have e := congrArg List.length HQ5.out; simp at e; omega) (kc HES.out HB10.out) (fun t ht => HQ.out.1 _ (by rw [← HQ5.out]; exact List.mem_map.mpr ⟨t, ht, rfl⟩))).mono ?_; rintro r w11 ⟨v11, rfl, ho11, b11⟩; simp only [HQ5.out, ← HQ.out.2.2] at ho11; obtain ⟨ya, yc, rfl⟩ := own_shape ho11; have HB11 := mkHid (bt HB10.out b11); clear cv1 cv2; have cv3 := (Rd.of_owns HV.out.1 ho11).conv; have cv4 := (HV.out.later HB11.out).conv; clear ho11 b11))
  go_ret
  exact ⟨rfl, HB11.out⟩
set_option maxHeartbeats 25600000 in
theorem gets_yn (w : World) (v : Value) (bs : List Int) (e0 : En) (l0 : List En) (eb es : Addr) (ss : List UInt8) (E : Err w 1 ss eb) (hes : w.cell? ⟨0, 0, none⟩ = some (vErr es)) (h : Rd w v bs) (hl : (bs.length : Int) ≤ 140737488351232)
    (h1 : ∀ W V, Rd W V bs → Below w.heap.size w W → Calls Tryd.prog 15 #[V] W (GU W e0 .nilIface)) (h2 : ∀ W V, Rd W V bs → Below w.heap.size w W → Calls Tryd.prog 19 #[V] W (GU W e0 (.bool true))) (h3 : ∀ W V, Rd W V bs → Below w.heap.size w W → Calls Tryd.prog 20 #[V] W (LU W l0 (vErr eb))) (h4 : ∀ W V, Rd W V bs → Below w.heap.size w W → Calls Tryd.prog 21 #[V] W (LU W l0 (.bool false))) (hf : inF e0 ∧ bs = bytesE e0) :
    Calls Tryd.prog 4 #[v] w fun r w' => r = .returned (.bool true) ∧ Below w.heap.size w w' := by
  obtain ⟨sa, sc, rfl⟩ : ∃ a c, v = .slice a bs.length c := h.2.imp fun a h => h.imp fun c h => h.1
  have HV := mkHid h
  have HE0 := mkHid E
  have HES := mkHid hes
  have H1 := mkHid h1
  have H2 := mkHid h2
  have H3 := mkHid h3
  have H4 := mkHid h4
  have HF := mkHid hf
  clear h E hes h1 h2 h3 h4 hf 
  go_enter Tryd.func4, Tryd.ntmps4
  go_wp2_with (first
    | (go_at_call 9; refine (alive_any w).mono ?_; rintro r w1 ⟨rfl, b1⟩; have HB1 := mkHid b1; clear b1)
    | (go_at_call 18; refine (nbytes_any w1 _ bs (HV.out.later HB1.out) (by omega)).mono ?_; rintro r w2 ⟨g, cap, rfl, hm2, b2⟩; have HM2 : Hid (∀ W, Below w2.heap.size w2 W → Mk W w1.heap.size g cap bs) := mkHid (fun W hW => hm2.kept (kept_of_below hW) (by have := hm2.lt; omega)); have HB2 := mkHid (bt HB1.out b2); clear hm2 b2)
    | (go_at_call 15; refine (H1.out w2 _ ((HM2.out _ (Below.refl _ _)).rd HV.out.1) HB2.out).mono ?_; rintro r w3 ⟨ga, gc, rfl, hw3, b3⟩; simp only [vP, vN, tv]; have HW3 := mkHid (EnW.below hw3 (ba (Below.refl _ w3) (oE e0 (.slice ga e0.ts.length gc)))); have HP3 : Hid (Below w2.heap.size w2 (w3.alloc (oE e0 (.slice ga e0.ts.length gc)))) := mkHid (ba b3 _); have R1 := fun W (hW : Below (w3.alloc (oE e0 (.slice ga e0.ts.length gc))).heap.size (w3.alloc (oE e0 (.slice ga e0.ts.length gc))) W) => (hW.block w3.heap.size (by simp)).trans (entO w3 e0 (.slice ga e0.ts.length gc)); clear hw3 b3)
    | (go_at_call 19; refine (H2.out (w3.alloc (oE e0 (.slice ga e0.ts.length gc))) _ (HV.out.later (bt HB2.out HP3.out)) (bt HB2.out HP3.out)).mono ?_; rintro r w4 ⟨ha, hc, rfl, hw4, b4⟩; simp only [vP, vN, tv]; have HW4 := mkHid (EnW.below hw4 (ba (Below.refl _ w4) (oE e0 (.slice ha e0.ts.length hc)))); have HP4 : Hid (Below (w3.alloc (oE e0 (.slice ga e0.ts.length gc))).heap.size (w3.alloc (oE e0 (.slice ga e0.ts.length gc))) (w4.alloc (oE e0 (.slice ha e0.ts.length hc)))) := mkHid (ba b4 _); have R2 := fun W (hW : Below (w4.alloc (oE e0 (.slice ha e0.ts.length hc))).heap.size (w4.alloc (oE e0 (.slice ha e0.ts.length hc))) W) => (hW.block w4.heap.size (by simp)).trans (entO w4 e0 (.slice ha e0.ts.length hc)); clear hw4 b4)
    | (go_at_call 20; refine (H3.out (w4.alloc (oE e0 (.slice ha e0.ts.length hc))) _ ((HM2.out _ (bt HP3.out HP4.out)).rd HV.out.1) (bt HB2.out (bt HP3.out HP4.out))).mono ?_; rintro r w5 ⟨la, lc, qs, rfl, he5, hq5, b5⟩; have HE5 := mkHid he5; have HQ5 := mkHid hq5; have HP5 : Hid (Below (w4.alloc (oE e0 (.slice ha e0.ts.length hc))).heap.size (w4.alloc (oE e0 (.slice ha e0.ts.length hc))) w5) := mkHid b5; clear he5 hq5 b5)
    | (go_at_call 21; refine (H4.out w5 _ (HV.out.later (bt HB2.out (bt (bt HP3.out HP4.out) HP5.out))) (bt HB2.out (bt (bt HP3.out HP4.out) HP5.out))).mono ?_; rintro r w6 ⟨ma, mc, rs, rfl, he6, hq6, b6⟩; have HE6 := mkHid he6; have HQ6 := mkHid hq6; have HE5b := mkHid (HE5.out.below b6); have HP6 : Hid (Below (w4.alloc (oE e0 (.slice ha e0.ts.length hc))).heap.size (w4.alloc (oE e0 (.slice ha e0.ts.length hc))) w6) := mkHid (bt HP5.out b6); have HB6 := mkHid (bt HB2.out (bt (bt HP3.out HP4.out) (bt HP5.out b6))); obtain ⟨p0, p1, p2, p3, p4, p5, p6, p7, p8, p9⟩ := ent_cells (R1 _ (bt HP4.out (bt HP5.out b6))); obtain ⟨q0, q1, q2, q3, q4, q5, q6, q7, q8, q9⟩ := ent_cells (R2 _ (bt HP5.out b6)); clear he6 hq6 b6)
    | (go_at_call 13; refine (refSame_yes w6 (e0, ga, gc) (e0, ha, hc) (HW3.out.below (bt HP4.out HP6.out)) (HW4.out.below HP6.out) rfl).mono ?_; rintro r w7 ⟨rfl, b7⟩; have HP7 := mkHid b7; have HB7 := mkHid (bt HB6.out b7); clear p0 p1 p2 p3 p4 p5 p6 p7 p8 p9; clear q0 q1 q2 q3 q4 q5 q6 q7 q8 q9; obtain ⟨p0, p1, p2, p3, p4, p5, p6, p7, p8, p9⟩ := ent_cells (R1 _ (bt HP4.out (bt HP6.out b7))); obtain ⟨q0, q1, q2, q3, q4, q5, q6, q7, q8, q9⟩ := ent_cells (R2 _ (bt HP6.out b7)); clear b7)
    | (go_at_call 22; refine (sameL_yes w7 _ _ qs rs (HE5b.out.below HP7.out) (HE6.out.below HP7.out) (HQ5.out.trans HQ6.out.symm)).mono ?_; rintro r w8 ⟨rfl, b8⟩; have HP8 := mkHid (bt HP7.out b8); have HB8 := mkHid (bt HB7.out b8); clear p0 p1 p2 p3 p4 p5 p6 p7 p8 p9; clear q0 q1 q2 q3 q4 q5 q6 q7 q8 q9; obtain ⟨p0, p1, p2, p3, p4, p5, p6, p7, p8, p9⟩ := ent_cells (R1 _ (bt HP4.out (bt HP6.out HP8.out))); obtain ⟨q0, q1, q2, q3, q4, q5, q6, q7, q8, q9⟩ := ent_cells (R2 _ (bt HP6.out HP8.out)); clear b8)
    | (go_at_call 23; refine (nkept_any w8 _ g cap _ bs (HM2.out _ (bt (bt HP3.out HP4.out) (bt HP6.out HP8.out))) (HV.out.later HB8.out) (by omega)).mono ?_; rintro r w9 ⟨rfl, nq, hw⟩; have b9 : Below w8.heap.size w8 w9 := by { rw [hw]; exact drb (Below.refl _ _) nq }; have HP9 := mkHid (bt HP8.out b9); have HB9 := mkHid (bt HB8.out b9); clear p0 p1 p2 p3 p4 p5 p6 p7 p8 p9; clear q0 q1 q2 q3 q4 q5 q6 q7 q8 q9; obtain ⟨p0, p1, p2, p3, p4, p5, p6, p7, p8, p9⟩ := ent_cells (R1 _ (bt HP4.out (bt HP6.out HP9.out))); obtain ⟨q0, q1, q2, q3, q4, q5, q6, q7, q8, q9⟩ := ent_cells (R2 _ (bt HP6.out HP9.out)); have ce := kc HE0.out.1 HB9.out; have ceq := HE0.out.same; clear b9 hw)
    | (go_at_call 12; refine (put_yes w9 (e0, ga, gc) (HW3.out.below (bt HP4.out (bt HP6.out HP9.out))) HF.out.1).mono ?_; rintro r w10 ⟨v10, rfl, ho10, b10⟩; simp only [← HF.out.2] at ho10; obtain ⟨xa, xc, rfl⟩ := own_shape ho10; have HB10 := mkHid (bt HB9.out b10); have cv1 := (Rd.of_owns HV.out.1 ho10).conv; have cv2 := (HV.out.later HB10.out).conv; have HP10 := mkHid (bt HP9.out b10); clear ho10 b10))
  go_ret
  exact ⟨rfl, HB10.out⟩
set_option maxHeartbeats 25600000 in
theorem gets_ny (w : World) (v : Value) (bs : List Int) (e0 : En) (l0 : List En) (eb es : Addr) (ss : List UInt8) (E : Err w 1 ss eb) (hes : w.cell? ⟨0, 0, none⟩ = some (vErr es)) (h : Rd w v bs) (hl : (bs.length : Int) ≤ 140737488351232)
    (h1 : ∀ W V, Rd W V bs → Below w.heap.size w W → Calls Tryd.prog 15 #[V] W (GU W e0 (vErr eb))) (h2 : ∀ W V, Rd W V bs → Below w.heap.size w W → Calls Tryd.prog 19 #[V] W (GU W e0 (.bool false))) (h3 : ∀ W V, Rd W V bs → Below w.heap.size w W → Calls Tryd.prog 20 #[V] W (LU W l0 .nilIface)) (h4 : ∀ W V, Rd W V bs → Below w.heap.size w W → Calls Tryd.prog 21 #[V] W (LU W l0 (.bool true))) (hq : (∀ e ∈ l0, inF e) ∧ l0.length ≤ 64 ∧ bs = bytesL l0) :
    Calls Tryd.prog 4 #[v] w fun r w' => r = .returned (.bool true) ∧ Below w.heap.size w w' := by
  obtain ⟨sa, sc, rfl⟩ : ∃ a c, v = .slice a bs.length c := h.2.imp fun a h => h.imp fun c h => h.1
  have HV := mkHid h
  have HE0 := mkHid E
  have HES := mkHid hes
  have H1 := mkHid h1
  have H2 := mkHid h2
  have H3 := mkHid h3
  have H4 := mkHid h4
  have HQ := mkHid hq
  have HQL := mkHid hq.2.1
  clear h E hes h1 h2 h3 h4 hq
  go_enter Tryd.func4, Tryd.ntmps4
  go_wp2_with (first
    | (go_at_call 9; refine (alive_any w).mono ?_; rintro r w1 ⟨rfl, b1⟩; have HB1 := mkHid b1; clear b1)
    | (go_at_call 18; refine (nbytes_any w1 _ bs (HV.out.later HB1.out) (by omega)).mono ?_; rintro r w2 ⟨g, cap, rfl, hm2, b2⟩; have HM2 : Hid (∀ W, Below w2.heap.size w2 W → Mk W w1.heap.size g cap bs) := mkHid (fun W hW => hm2.kept (kept_of_below hW) (by have := hm2.lt; omega)); have HB2 := mkHid (bt HB1.out b2); clear hm2 b2)
    | (go_at_call 15; refine (H1.out w2 _ ((HM2.out _ (Below.refl _ _)).rd HV.out.1) HB2.out).mono ?_; rintro r w3 ⟨ga, gc, rfl, hw3, b3⟩; simp only [vP, vN, tv]; have HW3 := mkHid (EnW.below hw3 (ba (Below.refl _ w3) (oE e0 (.slice ga e0.ts.length gc)))); have HP3 : Hid (Below w2.heap.size w2 (w3.alloc (oE e0 (.slice ga e0.ts.length gc)))) := mkHid (ba b3 _); have R1 := fun W (hW : Below (w3.alloc (oE e0 (.slice ga e0.ts.length gc))).heap.size (w3.alloc (oE e0 (.slice ga e0.ts.length gc))) W) => (hW.block w3.heap.size (by simp)).trans (entO w3 e0 (.slice ga e0.ts.length gc)); clear hw3 b3)
    | (go_at_call 19; refine (H2.out (w3.alloc (oE e0 (.slice ga e0.ts.length gc))) _ (HV.out.later (bt HB2.out HP3.out)) (bt HB2.out HP3.out)).mono ?_; rintro r w4 ⟨ha, hc, rfl, hw4, b4⟩; simp only [vP, vN, tv]; have HW4 := mkHid (EnW.below hw4 (ba (Below.refl _ w4) (oE e0 (.slice ha e0.ts.length hc)))); have HP4 : Hid (Below (w3.alloc (oE e0 (.slice ga e0.ts.length gc))).heap.size (w3.alloc (oE e0 (.slice ga e0.ts.length gc))) (w4.alloc (oE e0 (.slice ha e0.ts.length hc)))) := mkHid (ba b4 _); have R2 := fun W (hW : Below (w4.alloc (oE e0 (.slice ha e0.ts.length hc))).heap.size (w4.alloc (oE e0 (.slice ha e0.ts.length hc))) W) => (hW.block w4.heap.size (by simp)).trans (entO w4 e0 (.slice ha e0.ts.length hc)); clear hw4 b4)
    | (go_at_call 20; refine (H3.out (w4.alloc (oE e0 (.slice ha e0.ts.length hc))) _ ((HM2.out _ (bt HP3.out HP4.out)).rd HV.out.1) (bt HB2.out (bt HP3.out HP4.out))).mono ?_; rintro r w5 ⟨la, lc, qs, rfl, he5, hq5, b5⟩; have HE5 := mkHid he5; have HQ5 := mkHid hq5; have HP5 : Hid (Below (w4.alloc (oE e0 (.slice ha e0.ts.length hc))).heap.size (w4.alloc (oE e0 (.slice ha e0.ts.length hc))) w5) := mkHid b5; clear he5 hq5 b5)
    | (go_at_call 21; refine (H4.out w5 _ (HV.out.later (bt HB2.out (bt (bt HP3.out HP4.out) HP5.out))) (bt HB2.out (bt (bt HP3.out HP4.out) HP5.out))).mono ?_; rintro r w6 ⟨ma, mc, rs, rfl, he6, hq6, b6⟩; have HE6 := mkHid he6; have HQ6 := mkHid hq6; have HE5b := mkHid (HE5.out.below b6); have HP6 : Hid (Below (w4.alloc (oE e0 (.slice ha e0.ts.length hc))).heap.size (w4.alloc (oE e0 (.slice ha e0.ts.length hc))) w6) := mkHid (bt HP5.out b6); have HB6 := mkHid (bt HB2.out (bt (bt HP3.out HP4.out) (bt HP5.out b6))); obtain ⟨p0, p1, p2, p3, p4, p5, p6, p7, p8, p9⟩ := ent_cells (R1 _ (bt HP4.out (bt HP5.out b6))); obtain ⟨q0, q1, q2, q3, q4, q5, q6, q7, q8, q9⟩ := ent_cells (R2 _ (bt HP5.out b6)); clear he6 hq6 b6)
    | (go_at_call 13; refine (refSame_yes w6 (e0, ga, gc) (e0, ha, hc) (HW3.out.below (bt HP4.out HP6.out)) (HW4.out.below HP6.out) rfl).mono ?_; rintro r w7 ⟨rfl, b7⟩; have HP7 := mkHid b7; have HB7 := mkHid (bt HB6.out b7); clear p0 p1 p2 p3 p4 p5 p6 p7 p8 p9; clear q0 q1 q2 q3 q4 q5 q6 q7 q8 q9; obtain ⟨p0, p1, p2, p3, p4, p5, p6, p7, p8, p9⟩ := ent_cells (R1 _ (bt HP4.out (bt HP6.out b7))); obtain ⟨q0, q1, q2, q3, q4, q5, q6, q7, q8, q9⟩ := ent_cells (R2 _ (bt HP6.out b7)); clear b7)
    | (go_at_call 22; refine (sameL_yes w7 _ _ qs rs (HE5b.out.below HP7.out) (HE6.out.below HP7.out) (HQ5.out.trans HQ6.out.symm)).mono ?_; rintro r w8 ⟨rfl, b8⟩; have HP8 := mkHid (bt HP7.out b8); have HB8 := mkHid (bt HB7.out b8); clear p0 p1 p2 p3 p4 p5 p6 p7 p8 p9; clear q0 q1 q2 q3 q4 q5 q6 q7 q8 q9; obtain ⟨p0, p1, p2, p3, p4, p5, p6, p7, p8, p9⟩ := ent_cells (R1 _ (bt HP4.out (bt HP6.out HP8.out))); obtain ⟨q0, q1, q2, q3, q4, q5, q6, q7, q8, q9⟩ := ent_cells (R2 _ (bt HP6.out HP8.out)); clear b8)
    | (go_at_call 23; refine (nkept_any w8 _ g cap _ bs (HM2.out _ (bt (bt HP3.out HP4.out) (bt HP6.out HP8.out))) (HV.out.later HB8.out) (by omega)).mono ?_; rintro r w9 ⟨rfl, nq, hw⟩; have b9 : Below w8.heap.size w8 w9 := by { rw [hw]; exact drb (Below.refl _ _) nq }; have HP9 := mkHid (bt HP8.out b9); have HB9 := mkHid (bt HB8.out b9); clear p0 p1 p2 p3 p4 p5 p6 p7 p8 p9; clear q0 q1 q2 q3 q4 q5 q6 q7 q8 q9; obtain ⟨p0, p1, p2, p3, p4, p5, p6, p7, p8, p9⟩ := ent_cells (R1 _ (bt HP4.out (bt HP6.out HP9.out))); obtain ⟨q0, q1, q2, q3, q4, q5, q6, q7, q8, q9⟩ := ent_cells (R2 _ (bt HP6.out HP9.out)); have ce := kc HE0.out.1 HB9.out; have ceq := HE0.out.same; clear b9 hw)
    | (go_at_call 24; refine (write_yes2 w9 _ qs es (HE5b.out.below HP9.out) (by have := HQL.out; have e := congrArg List.length HQ5.out; simp at e; omega) (kc HES.out HB9.out) (fun t ht => HQ.out.1 _ (by rw [← HQ5.out]; exact List.mem_map.mpr ⟨t, ht, rfl⟩))).mono ?_; rintro r w11 ⟨v11, rfl, ho11, b11⟩; simp only [HQ5.out, ← HQ.out.2.2] at ho11; obtain ⟨ya, yc, rfl⟩ := own_shape ho11; have HB11 := mkHid (bt HB9.out b11); have cv3 := (Rd.of_owns HV.out.1 ho11).conv; have cv4 := (HV.out.later HB11.out).conv; clear ho11 b11))
  go_ret
  exact ⟨rfl, HB11.out⟩
set_option maxHeartbeats 25600000 in
theorem gets_nn (w : World) (v : Value) (bs : List Int) (e0 : En) (l0 : List En) (eb es : Addr) (ss : List UInt8) (E : Err w 1 ss eb) (hes : w.cell? ⟨0, 0, none⟩ = some (vErr es)) (h : Rd w v bs) (hl : (bs.length : Int) ≤ 140737488351232)
    (h1 : ∀ W V, Rd W V bs → Below w.heap.size w W → Calls Tryd.prog 15 #[V] W (GU W e0 (vErr eb))) (h2 : ∀ W V, Rd W V bs → Below w.heap.size w W → Calls Tryd.prog 19 #[V] W (GU W e0 (.bool false))) (h3 : ∀ W V, Rd W V bs → Below w.heap.size w W → Calls Tryd.prog 20 #[V] W (LU W l0 (vErr eb))) (h4 : ∀ W V, Rd W V bs → Below w.heap.size w W → Calls Tryd.prog 21 #[V] W (LU W l0 (.bool false))) :
    Calls Tryd.prog 4 #[v] w fun r w' => r = .returned (.bool true) ∧ Below w.heap.size w w' := by
  obtain ⟨sa, sc, rfl⟩ : ∃ a c, v = .slice a bs.length c := h.2.imp fun a h => h.imp fun c h => h.1
  have HV := mkHid h
  have HE0 := mkHid E
  have HES := mkHid hes
  have H1 := mkHid h1
  have H2 := mkHid h2
  have H3 := mkHid h3
  have H4 := mkHid h4
  clear h E hes h1 h2 h3 h4 
  go_enter Tryd.func4, Tryd.ntmps4
  go_wp2_with (first
    | (go_at_call 9; refine (alive_any w).mono ?_; rintro r w1 ⟨rfl, b1⟩; have HB1 := mkHid b1; clear b1)
    | (go_at_call 18; refine (nbytes_any w1 _ bs (HV.out.later HB1.out) (by omega)).mono ?_; rintro r w2 ⟨g, cap, rfl, hm2, b2⟩; have HM2 : Hid (∀ W, Below w2.heap.size w2 W → Mk W w1.heap.size g cap bs) := mkHid (fun W hW => hm2.kept (kept_of_below hW) (by have := hm2.lt; omega)); have HB2 := mkHid (bt HB1.out b2); clear hm2 b2)
    | (go_at_call 15; refine (H1.out w2 _ ((HM2.out _ (Below.refl _ _)).rd HV.out.1) HB2.out).mono ?_; rintro r w3 ⟨ga, gc, rfl, hw3, b3⟩; simp only [vP, vN, tv]; have HW3 := mkHid (EnW.below hw3 (ba (Below.refl _ w3) (oE e0 (.slice ga e0.ts.length gc)))); have HP3 : Hid (Below w2.heap.size w2 (w3.alloc (oE e0 (.slice ga e0.ts.length gc)))) := mkHid (ba b3 _); have R1 := fun W (hW : Below (w3.alloc (oE e0 (.slice ga e0.ts.length gc))).heap.size (w3.alloc (oE e0 (.slice ga e0.ts.length gc))) W) => (hW.block w3.heap.size (by simp)).trans (entO w3 e0 (.slice ga e0.ts.length gc)); clear hw3 b3)
    | (go_at_call 19; refine (H2.out (w3.alloc (oE e0 (.slice ga e0.ts.length gc))) _ (HV.out.later (bt HB2.out HP3.out)) (bt HB2.out HP3.out)).mono ?_; rintro r w4 ⟨ha, hc, rfl, hw4, b4⟩; simp only [vP, vN, tv]; have HW4 := mkHid (EnW.below hw4 (ba (Below.refl _ w4) (oE e0 (.slice ha e0.ts.length hc)))); have HP4 : Hid (Below (w3.alloc (oE e0 (.slice ga e0.ts.length gc))).heap.size (w3.alloc (oE e0 (.slice ga e0.ts.length gc))) (w4.alloc (oE e0 (.slice ha e0.ts.length hc)))) := mkHid (ba b4 _); have R2 := fun W (hW : Below (w4.alloc (oE e0 (.slice ha e0.ts.length hc))).heap.size (w4.alloc (oE e0 (.slice ha e0.ts.length hc))) W) => (hW.block w4.heap.size (by simp)).trans (entO w4 e0 (.slice ha e0.ts.length hc)); clear hw4 b4)
    | (go_at_call 20; refine (H3.out (w4.alloc (oE e0 (.slice ha e0.ts.length hc))) _ ((HM2.out _ (bt HP3.out HP4.out)).rd HV.out.1) (bt HB2.out (bt HP3.out HP4.out))).mono ?_; rintro r w5 ⟨la, lc, qs, rfl, he5, hq5, b5⟩; have HE5 := mkHid he5; have HQ5 := mkHid hq5; have HP5 : Hid (Below (w4.alloc (oE e0 (.slice ha e0.ts.length hc))).heap.size (w4.alloc (oE e0 (.slice ha e0.ts.length hc))) w5) := mkHid b5; clear he5 hq5 b5)
    | (go_at_call 21; refine (H4.out w5 _ (HV.out.later (bt HB2.out (bt (bt HP3.out HP4.out) HP5.out))) (bt HB2.out (bt (bt HP3.out HP4.out) HP5.out))).mono ?_; rintro r w6 ⟨ma, mc, rs, rfl, he6, hq6, b6⟩; have HE6 := mkHid he6; have HQ6 := mkHid hq6; have HE5b := mkHid (HE5.out.below b6); have HP6 : Hid (Below (w4.alloc (oE e0 (.slice ha e0.ts.length hc))).heap.size (w4.alloc (oE e0 (.slice ha e0.ts.length hc))) w6) := mkHid (bt HP5.out b6); have HB6 := mkHid (bt HB2.out (bt (bt HP3.out HP4.out) (bt HP5.out b6))); obtain ⟨p0, p1, p2, p3, p4, p5, p6, p7, p8, p9⟩ := ent_cells (R1 _ (bt HP4.out (bt HP5.out b6))); obtain ⟨q0, q1, q2, q3, q4, q5, q6, q7, q8, q9⟩ := ent_cells (R2 _ (bt HP5.out b6)); clear he6 hq6 b6)
    | (go_at_call 13; refine (refSame_yes w6 (e0, ga, gc) (e0, ha, hc) (HW3.out.below (bt HP4.out HP6.out)) (HW4.out.below HP6.out) rfl).mono ?_; rintro r w7 ⟨rfl, b7⟩; have HP7 := mkHid b7; have HB7 := mkHid (bt HB6.out b7); clear p0 p1 p2 p3 p4 p5 p6 p7 p8 p9; clear q0 q1 q2 q3 q4 q5 q6 q7 q8 q9; obtain ⟨p0, p1, p2, p3, p4, p5, p6, p7, p8, p9⟩ := ent_cells (R1 _ (bt HP4.out (bt HP6.out b7))); obtain ⟨q0, q1, q2, q3, q4, q5, q6, q7, q8, q9⟩ := ent_cells (R2 _ (bt HP6.out b7)); clear b7)
    | (go_at_call 22; refine (sameL_yes w7 _ _ qs rs (HE5b.out.below HP7.out) (HE6.out.below HP7.out) (HQ5.out.trans HQ6.out.symm)).mono ?_; rintro r w8 ⟨rfl, b8⟩; have HP8 := mkHid (bt HP7.out b8); have HB8 := mkHid (bt HB7.out b8); clear p0 p1 p2 p3 p4 p5 p6 p7 p8 p9; clear q0 q1 q2 q3 q4 q5 q6 q7 q8 q9; obtain ⟨p0, p1, p2, p3, p4, p5, p6, p7, p8, p9⟩ := ent_cells (R1 _ (bt HP4.out (bt HP6.out HP8.out))); obtain ⟨q0, q1, q2, q3, q4, q5, q6, q7, q8, q9⟩ := ent_cells (R2 _ (bt HP6.out HP8.out)); clear b8)
    | (go_at_call 23; refine (nkept_any w8 _ g cap _ bs (HM2.out _ (bt (bt HP3.out HP4.out) (bt HP6.out HP8.out))) (HV.out.later HB8.out) (by omega)).mono ?_; rintro r w9 ⟨rfl, nq, hw⟩; have b9 : Below w8.heap.size w8 w9 := by { rw [hw]; exact drb (Below.refl _ _) nq }; have HP9 := mkHid (bt HP8.out b9); have HB9 := mkHid (bt HB8.out b9); clear p0 p1 p2 p3 p4 p5 p6 p7 p8 p9; clear q0 q1 q2 q3 q4 q5 q6 q7 q8 q9; obtain ⟨p0, p1, p2, p3, p4, p5, p6, p7, p8, p9⟩ := ent_cells (R1 _ (bt HP4.out (bt HP6.out HP9.out))); obtain ⟨q0, q1, q2, q3, q4, q5, q6, q7, q8, q9⟩ := ent_cells (R2 _ (bt HP6.out HP9.out)); have ce := kc HE0.out.1 HB9.out; have ceq := HE0.out.same; clear b9 hw))
  go_ret
  exact ⟨rfl, HB9.out⟩
theorem gets_any (w : World) (v : Value) (bs : List Int) (eb es : Addr) (ss : List UInt8) (E : Err w 1 ss eb) (hes : w.cell? ⟨0, 0, none⟩ = some (vErr es)) (h : Rd w v bs) (hl : (bs.length : Int) ≤ 140737488351232) :
    Calls Tryd.prog 4 #[v] w fun r w' => r = .returned (.bool true) ∧ Below w.heap.size w w' := by
  have hl' : (bs.length : Int) ≤ 140737488355328 := by omega
  have G : (∃ e0, (inF e0 ∧ bs = bytesE e0) ∧ (∀ W V, Rd W V bs → Below w.heap.size w W → Calls Tryd.prog 15 #[V] W (GU W e0 .nilIface)) ∧ ∀ W V, Rd W V bs → Below w.heap.size w W → Calls Tryd.prog 19 #[V] W (GU W e0 (.bool true))) ∨ ((∀ W V, Rd W V bs → Below w.heap.size w W → Calls Tryd.prog 15 #[V] W (GU W zE0 (vErr eb))) ∧ ∀ W V, Rd W V bs → Below w.heap.size w W → Calls Tryd.prog 19 #[V] W (GU W zE0 (.bool false))) := by
    by_cases hp : ∃ e0, inF e0 ∧ bs = bytesE e0
    · obtain ⟨e0, hf, hb⟩ := hp
      have h8 : (e0.ts.length : Int) ≤ 9223372036854775807 := by have := hf.2.1.1; omega
      refine .inl ⟨e0, ⟨hf, hb⟩, fun W V hV hW => (get_yes W V bs eb e0 hV hl' (kc E.1 hW) hb hf).mono ?_, fun W V hV hW => (rget_yes W V bs e0 hV hl' hf hb).mono ?_⟩
      · rintro r w' ⟨ta, tc, rfl, ho, hB⟩
        exact ⟨ta, tc, rfl, enw_of h8 ho, hB⟩
      · rintro r w' ⟨ta, tc, rfl, ho, hB⟩
        exact ⟨ta, tc, rfl, enw_of h8 ho, hB⟩
    · have hno : ∀ e, inF e → bs ≠ bytesE e := fun e hf hb => hp ⟨e, hf, hb⟩
      refine .inr ⟨fun W V hV hW => (get_err W V bs eb es hV hl' (kc E.1 hW) (kc hes hW) hno).mono ?_, fun W V hV hW => (rget_no W V bs hV hl' hno).mono ?_⟩
      · rintro r w' ⟨rfl, hB⟩
        exact ⟨none, 0, rfl, enw_zero w', hB⟩
      · rintro r w' ⟨rfl, hB⟩
        exact ⟨none, 0, rfl, enw_zero w', hB⟩
  have L : (∃ l0, ((∀ e ∈ l0, inF e) ∧ l0.length ≤ 64 ∧ bs = bytesL l0) ∧ (∀ W V, Rd W V bs → Below w.heap.size w W → Calls Tryd.prog 20 #[V] W (LU W l0 .nilIface)) ∧ ∀ W V, Rd W V bs → Below w.heap.size w W → Calls Tryd.prog 21 #[V] W (LU W l0 (.bool true))) ∨ ((∀ W V, Rd W V bs → Below w.heap.size w W → Calls Tryd.prog 20 #[V] W (LU W [] (vErr eb))) ∧ ∀ W V, Rd W V bs → Below w.heap.size w W → Calls Tryd.prog 21 #[V] W (LU W [] (.bool false))) := by
    by_cases hp : ∃ l0 : List En, (∀ e ∈ l0, inF e) ∧ l0.length ≤ 64 ∧ bs = bytesL l0
    · obtain ⟨l0, hf, h64, hb⟩ := hp
      refine .inl ⟨l0, ⟨hf, h64, hb⟩, fun W V hV hW => (read_any W V bs eb es hV hl' (kc E.1 hW) (kc hes hW)).mono ?_, fun W V hV hW => (rread_any W V bs hV hl').mono ?_⟩
      · rintro r w' ⟨hB, ⟨v', qs, hq, hq64, he, rfl, hL⟩ | ⟨hno, _⟩⟩
        · obtain ⟨a, c, rfl, hE⟩ := led_ens hL hq64 hq
          exact ⟨a, c, qs, rfl, hE, bytesL_inj (all_fs hq) hf (he.symm.trans hb), hB⟩
        · exact absurd hb (hno l0 h64 hf)
      · rintro r w' ⟨hB, ⟨v', qs, hq, hq64, he, rfl, hL⟩ | ⟨hno, _⟩⟩
        · obtain ⟨a, c, rfl, hE⟩ := led_ens hL hq64 hq
          exact ⟨a, c, qs, rfl, hE, bytesL_inj (all_fs hq) hf (he.symm.trans hb), hB⟩
        · exact absurd hb (hno l0 h64 hf)
    · refine .inr ⟨fun W V hV hW => (read_any W V bs eb es hV hl' (kc E.1 hW) (kc hes hW)).mono ?_, fun W V hV hW => (rread_any W V bs hV hl').mono ?_⟩
      · rintro r w' ⟨hB, ⟨v', qs, hq, hq64, he, rfl, hL⟩ | ⟨hno, rfl⟩⟩
        · exact absurd ⟨fs1 qs, all_fs hq, by rw [fs_len]; exact hq64, he⟩ hp
        · exact ⟨none, 0, [], rfl, ens_nil w', rfl, hB⟩
      · rintro r w' ⟨hB, ⟨v', qs, hq, hq64, he, rfl, hL⟩ | ⟨hno, rfl⟩⟩
        · exact absurd ⟨fs1 qs, all_fs hq, by rw [fs_len]; exact hq64, he⟩ hp
        · exact ⟨none, 0, [], rfl, ens_nil w', rfl, hB⟩
  rcases G with ⟨e0, hf, g1, g2⟩ | ⟨g1, g2⟩
  · rcases L with ⟨l0, hq, g3, g4⟩ | ⟨g3, g4⟩
    · exact gets_yy w v bs e0 l0 eb es ss E hes h hl g1 g2 g3 g4 hf hq
    · exact gets_yn w v bs e0 [] eb es ss E hes h hl g1 g2 g3 g4 hf
  · rcases L with ⟨l0, hq, g3, g4⟩ | ⟨g3, g4⟩
    · exact gets_ny w v bs zE0 l0 eb es ss E hes h hl g1 g2 g3 g4 hq
    · exact gets_nn w v bs zE0 [] eb es ss E hes h hl g1 g2 g3 g4
end Go.Proofs.YtehnimafjgodeaaDoor
