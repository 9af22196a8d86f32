/- The law NetUnlike. -/
import Derived.Test.YtaiklaipdocdmaaDoorNp13
namespace Go.Proofs.YtaiklaipdocdmaaDoor
open Go.ChangeShapes Go.WideShapes Go.ChangeAt Go.RowKit
set_option maxRecDepth 100000
attribute [local go_sem] World.cell?_alloc_some frozen_alloc_some

theorem getM_sum (w : World) (b off cap N : Nat) (xs ys : List Int) (ea eu : Addr) (hN : xs.length + 4 = N) (hy : ys.length = 4) (h : Rd w (.slice (some ⟨b, off, none⟩) N cap) (xs ++ ys)) (hl : (N : Int) ≤ 140737488355320) (hne : ys ≠ sumb (fnv xs)) (he : w.cell? ⟨1, 0, none⟩ = some (vErr eu)) : Calls Tryd.prog 26 #[.slice (some ⟨b, off, none⟩) N cap] w fun r w' => r = .returned (.tuple #[vM zM (.slice none 0 0), vErr eu]) ∧ Below w.heap.size w w' := by
  subst hN
  refine (getM_bad w b off cap xs.length xs ys ea eu rfl hy h (by omega) hne he).mono ?_
  rintro r w' ⟨hb, ⟨m, lv, qs, _, _, hs, _⟩ | ⟨⟨xs', hx, _⟩, _⟩ | ⟨hlt, _⟩ | ⟨_, rfl⟩⟩
  · unfold sealM at hs
    have hl := congrArg List.length hs
    rw [sealed_len, List.length_append, hy] at hl
    obtain ⟨e1, e2⟩ := List.append_inj hs (by omega)
    exact absurd (by rw [e2, e1]) hne
  · have hl := congrArg List.length hx
    rw [sealed_len, List.length_append, hy] at hl
    obtain ⟨e1, e2⟩ := List.append_inj hx (by omega)
    exact absurd (by rw [e2, e1]) hne
  · rw [List.length_append] at hlt
    omega
  · exact ⟨rfl, hb⟩
theorem getD_seal {m : Mg} {I : Nat} : (bytesM m ++ sumb (fnv (bytesM m))).getD I 0 = (sealM m).getD I 0 := rfl
set_option maxHeartbeats 51200000 in
theorem unlike_same (w : World) (a b : Mg) (v u : Value) (ps qs : List Ep) (i t : Int) (es eu : Addr) (hv : Ens w v ps) (hu : Ens w u qs) (hla : fs1 ps = a.ls) (hlb : fs1 qs = b.ls) (E : Err w 0 text0 es) (hfa : inM a) (hfb : inM b) (heu : Err w 1 text1 eu) (ht : 0 ≤ t ∧ t ≤ 255) (hsb : true = true ↔ a = b) : Calls Tryd.prog 8 #[vPr a b v u i t] w fun r w' => r = .returned (.bool true) ∧ Below w.heap.size w w' := by
  have HFA := mkHid hfa
  have HFB := mkHid hfb
  have HSB := mkHid hsb
  clear hfa hfb hsb
  have HEU := mkHid heu
  have HT := mkHid ht
  clear heu ht
  obtain ⟨xa, xc, rfl⟩ : ∃ a c, v = .slice a ps.length c := by obtain ⟨a, cap, e, _⟩ := hv; exact ⟨a, cap, e⟩
  obtain ⟨ya, yc, rfl⟩ : ∃ a c, u = .slice a qs.length c := by obtain ⟨a, cap, e, _⟩ := hu; exact ⟨a, cap, e⟩
  obtain ⟨a0, a1, a2, a3, a4, a5, a6, a7, al⟩ := a
  obtain ⟨b0, b1, b2, b3, b4, b5, b6, b7, bl⟩ := b
  have HV := mkHid hv
  have HU := mkHid hu
  have HLA := mkHid hla
  have HLB := mkHid hlb
  have HE := mkHid E
  clear hv hu hla hlb E
  simp only [vPr]
  obtain ⟨n2, hn2⟩ : ∃ n2, n2 = (sealM ⟨a0, a1, a2, a3, a4, a5, a6, a7, al⟩).length := ⟨_, rfl⟩
  have HN2 := mkHid hn2
  obtain ⟨n3, hn3⟩ : ∃ n3, n3 = (sealM ⟨b0, b1, b2, b3, b4, b5, b6, b7, bl⟩).length := ⟨_, rfl⟩
  have HN3 := mkHid hn3
  have HL2 : Hid ((12 : Int) ≤ n2 ∧ (n2 : Int) ≤ 100000) := mkHid (by rw [hn2, sealM_len]; have := bytesM_pos ⟨a0, a1, a2, a3, a4, a5, a6, a7, al⟩; have := bytesM_len HFA.out; omega)
  have hl12 : ((n2 : Int) == 0) = false := by have := HL2.out; simp; omega
  clear hn2 hn3
  obtain ⟨SX, hSX⟩ : ∃ SX, SX = strOfNums (sealM ⟨a0, a1, a2, a3, a4, a5, a6, a7, al⟩) := ⟨_, rfl⟩
  have HSX := mkHid hSX
  have HSY : Hid (SX = strOfNums (sealM ⟨b0, b1, b2, b3, b4, b5, b6, b7, bl⟩)) := mkHid (by rw [hSX, HSB.out.mp rfl])
  clear hSX
  go_enter Tryd.func8, Tryd.ntmps8
  go_wp2
  have hp0 : (w.alloc (.cells #[.int .i64 a0, .int .i64 a1, .int .i64 a2, .int .i64 a3, .int .i64 a4, .int .i64 a5, .int .i64 a6, .int .i64 a7, .slice xa ps.length xc, .int .i64 b0, .int .i64 b1, .int .i64 b2, .int .i64 b3, .int .i64 b4, .int .i64 b5, .int .i64 b6, .int .i64 b7, .slice ya qs.length yc, .int .i64 i, .int .u8 t] 77)).heap[w.heap.size]? = some (.cells #[.int .i64 a0, .int .i64 a1, .int .i64 a2, .int .i64 a3, .int .i64 a4, .int .i64 a5, .int .i64 a6, .int .i64 a7, .slice xa ps.length xc, .int .i64 b0, .int .i64 b1, .int .i64 b2, .int .i64 b3, .int .i64 b4, .int .i64 b5, .int .i64 b6, .int .i64 b7, .slice ya qs.length yc, .int .i64 i, .int .u8 t] 77 (0, 0)) := heap_alloc_new w _
  have HP0 := mkHid hp0
  clear hp0
  refine wp_region_held_drew (S := fun w' => w'.cell? ⟨w.heap.size, 0, none⟩ = some (.int .i64 a0) ∧ w'.cell? ⟨w.heap.size, 1, none⟩ = some (.int .i64 a1) ∧ w'.cell? ⟨w.heap.size, 2, none⟩ = some (.int .i64 a2) ∧ w'.cell? ⟨w.heap.size, 3, none⟩ = some (.int .i64 a3) ∧ w'.cell? ⟨w.heap.size, 4, none⟩ = some (.int .i64 a4) ∧ w'.cell? ⟨w.heap.size, 5, none⟩ = some (.int .i64 a5) ∧ w'.cell? ⟨w.heap.size, 6, none⟩ = some (.int .i64 a6) ∧ w'.cell? ⟨w.heap.size, 7, none⟩ = some (.int .i64 a7) ∧ w'.cell? ⟨w.heap.size, 8, none⟩ = some (.slice xa ps.length xc) ∧ w'.cell? ⟨w.heap.size, 9, none⟩ = some (.int .i64 b0) ∧ w'.cell? ⟨w.heap.size, 10, none⟩ = some (.int .i64 b1) ∧ w'.cell? ⟨w.heap.size, 11, none⟩ = some (.int .i64 b2) ∧ w'.cell? ⟨w.heap.size, 12, none⟩ = some (.int .i64 b3) ∧ w'.cell? ⟨w.heap.size, 13, none⟩ = some (.int .i64 b4) ∧ w'.cell? ⟨w.heap.size, 14, none⟩ = some (.int .i64 b5) ∧ w'.cell? ⟨w.heap.size, 15, none⟩ = some (.int .i64 b6) ∧ w'.cell? ⟨w.heap.size, 16, none⟩ = some (.int .i64 b7) ∧ w'.cell? ⟨w.heap.size, 17, none⟩ = some (.slice ya qs.length yc) ∧ w'.cell? ⟨w.heap.size, 18, none⟩ = some (.int .i64 i) ∧ w'.cell? ⟨w.heap.size, 19, none⟩ = some (.int .u8 t)) (by kernel_rfl) (pair_cells (W := (w.alloc (.cells #[.int .i64 a0, .int .i64 a1, .int .i64 a2, .int .i64 a3, .int .i64 a4, .int .i64 a5, .int .i64 a6, .int .i64 a7, .slice xa ps.length xc, .int .i64 b0, .int .i64 b1, .int .i64 b2, .int .i64 b3, .int .i64 b4, .int .i64 b5, .int .i64 b6, .int .i64 b7, .slice ya qs.length yc, .int .i64 i, .int .u8 t] 77)).drew) HP0.out) (fun hHeld => ?_)
  refine takeD 0 13 (.pointer (some ⟨w.heap.size, 0, none⟩)) rfl rfl (by kernel_rfl) (by kernel_rfl) (by kernel_rfl) (fun _ _ _ h => h) (Or.inl ⟨by kernel_rfl, by intro w hSw; (try dsimp only at hSw); go_simp⟩) hHeld ?_
  simp only [List.set_cons_zero, List.set_cons_succ]
  refine takeD 1 14 (.agg #[.int .i64 a0, .int .i64 a1, .int .i64 a2, .int .i64 a3, .int .i64 a4, .int .i64 a5, .int .i64 a6, .int .i64 a7, .slice xa ps.length xc]) rfl rfl (by kernel_rfl) (by kernel_rfl) (by kernel_rfl) (fun _ _ _ h => h) (Or.inl ⟨by kernel_rfl, by intro w hSw; (try dsimp only at hSw); go_simp⟩) hHeld ?_
  simp only [List.set_cons_zero, List.set_cons_succ]
  refine takeD 2 15 (.pointer (some ⟨w.heap.size, 9, none⟩)) rfl rfl (by kernel_rfl) (by kernel_rfl) (by kernel_rfl) (fun _ _ _ h => h) (Or.inl ⟨by kernel_rfl, by intro w hSw; (try dsimp only at hSw); go_simp⟩) hHeld ?_
  simp only [List.set_cons_zero, List.set_cons_succ]
  refine takeD 3 16 (.agg #[.int .i64 b0, .int .i64 b1, .int .i64 b2, .int .i64 b3, .int .i64 b4, .int .i64 b5, .int .i64 b6, .int .i64 b7, .slice ya qs.length yc]) rfl rfl (by kernel_rfl) (by kernel_rfl) (by kernel_rfl) (fun _ _ _ h => h) (Or.inl ⟨by kernel_rfl, by intro w hSw; (try dsimp only at hSw); go_simp⟩) hHeld ?_
  simp only [List.set_cons_zero, List.set_cons_succ]
  refine takeD 4 17 (.pointer (some ⟨w.heap.size, 18, none⟩)) rfl rfl (by kernel_rfl) (by kernel_rfl) (by kernel_rfl) (fun _ _ _ h => h) (Or.inl ⟨by kernel_rfl, by intro w hSw; (try dsimp only at hSw); go_simp⟩) hHeld ?_
  simp only [List.set_cons_zero, List.set_cons_succ]
  refine takeD 5 18 (.int .i64 i) rfl rfl (by kernel_rfl) (by kernel_rfl) (by kernel_rfl) (fun _ _ _ h => h) (Or.inl ⟨by kernel_rfl, by intro w hSw; (try dsimp only at hSw); go_simp⟩) hHeld ?_
  simp only [List.set_cons_zero, List.set_cons_succ]
  refine takeD 6 19 (.pointer (some ⟨w.heap.size, 19, none⟩)) rfl rfl (by kernel_rfl) (by kernel_rfl) (by kernel_rfl) (fun _ _ _ h => h) (Or.inl ⟨by kernel_rfl, by intro w hSw; (try dsimp only at hSw); go_simp⟩) hHeld ?_
  simp only [List.set_cons_zero, List.set_cons_succ]
  refine takeD 7 20 (.int .u8 t) rfl rfl (by kernel_rfl) (by kernel_rfl) (by kernel_rfl) (fun _ _ _ h => h) (Or.inl ⟨by kernel_rfl, by intro w hSw; (try dsimp only at hSw); go_simp⟩) hHeld ?_
  simp only [List.set_cons_zero, List.set_cons_succ]
  clear hHeld
  refine wpAnyH_ready (rs := [8, 9]) (by kernel_rfl) (by simp) (AllReadyH.cons rfl (fun K hK => ?_) (AllReadyH.cons rfl (fun K hK => ?_) AllReadyH.nil))
  all_goals go_simp
  case' refine_1 =>
    skip
    refine hK.out _ _ (pair_cells ((heap_alloc_old _ _ (by simp)).trans HP0.out)) (fun hHeld => ?_)
    clear hK K hHeld
    (try simp only [Act.put])
    refine wpAnyH_ready (rs := [9]) (by kernel_rfl) (by simp) (AllReadyH.cons rfl (fun K hK => ?_) AllReadyH.nil)
    go_simp
    refine hK.out _ _ (pair_cells ((heap_alloc_old _ _ (by simp; omega)).trans ((heap_alloc_old _ _ (by simp)).trans HP0.out))) (fun hHeld => ?_)
    clear hK K hHeld
    (try simp only [Act.put])
    refine wpAnyH_ready (rs := [10]) (by kernel_rfl) (by simp) (AllReadyH.cons rfl (fun K hK => ?_) AllReadyH.nil)
    go_simp
    refine hK.out _ _ (pair_cells ((heap_alloc_old _ _ (by simp; omega)).trans ((heap_alloc_old _ _ (by simp)).trans HP0.out))) (fun hHeld => ?_)
    clear hK K hHeld
    (try simp only [Act.put])
    refine wpAnyH_ready (rs := [11]) (by kernel_rfl) (by simp) (AllReadyH.cons rfl (fun K hK => ?_) AllReadyH.nil)
    go_simp
    refine hK.out _ _ (pair_cells ((heap_alloc_old _ _ (by simp; omega)).trans ((heap_alloc_old _ _ (by simp)).trans HP0.out))) (fun hHeld => ?_)
    clear hK K
    (try simp only [Act.put])
    refine takeD 12 5 (.int .i64 i) rfl rfl (by kernel_rfl) (by kernel_rfl) (by kernel_rfl) (fun _ _ _ h => h) (Or.inl ⟨by kernel_rfl, by intro w hSw; (try dsimp only at hSw); go_simp⟩) hHeld ?_
    simp only [List.set_cons_zero, List.set_cons_succ]
    refine takeD 13 6 (.int .u8 t) rfl rfl (by kernel_rfl) (by kernel_rfl) (by kernel_rfl) (fun _ _ _ h => h) (Or.inl ⟨by kernel_rfl, by intro w hSw; (try dsimp only at hSw); go_simp⟩) hHeld ?_
    simp only [List.set_cons_zero, List.set_cons_succ]
    refine wpAnyH_done (by kernel_rfl) ?_ _
    clear hHeld
    have HW : Hid (FU w (((w.alloc (.cells #[.int .i64 a0, .int .i64 a1, .int .i64 a2, .int .i64 a3, .int .i64 a4, .int .i64 a5, .int .i64 a6, .int .i64 a7, .slice xa ps.length xc, .int .i64 b0, .int .i64 b1, .int .i64 b2, .int .i64 b3, .int .i64 b4, .int .i64 b5, .int .i64 b6, .int .i64 b7, .slice ya qs.length yc, .int .i64 i, .int .u8 t] 77)).alloc (cM ⟨a0, a1, a2, a3, a4, a5, a6, a7, al⟩ (.slice xa ps.length xc))).alloc (cM ⟨b0, b1, b2, b3, b4, b5, b6, b7, bl⟩ (.slice ya qs.length yc))).drew (w.heap.size + 1) (w.heap.size + 1 + 1) ⟨a0, a1, a2, a3, a4, a5, a6, a7, al⟩ ⟨b0, b1, b2, b3, b4, b5, b6, b7, bl⟩ (.slice xa ps.length xc) (.slice ya qs.length yc)) := mkHid (fu_one w _ _ _ _ _)
    revert HW
    generalize (((w.alloc (.cells #[.int .i64 a0, .int .i64 a1, .int .i64 a2, .int .i64 a3, .int .i64 a4, .int .i64 a5, .int .i64 a6, .int .i64 a7, .slice xa ps.length xc, .int .i64 b0, .int .i64 b1, .int .i64 b2, .int .i64 b3, .int .i64 b4, .int .i64 b5, .int .i64 b6, .int .i64 b7, .slice ya qs.length yc, .int .i64 i, .int .u8 t] 77)).alloc (cM ⟨a0, a1, a2, a3, a4, a5, a6, a7, al⟩ (.slice xa ps.length xc))).alloc (cM ⟨b0, b1, b2, b3, b4, b5, b6, b7, bl⟩ (.slice ya qs.length yc))).drew = W1
    generalize w.heap.size + 1 + 1 = B
    generalize w.heap.size + 1 = A
    intro HW
  case' refine_2 =>
    skip
    refine hK.out _ _ (pair_cells ((heap_alloc_old _ _ (by simp)).trans HP0.out)) (fun hHeld => ?_)
    clear hK K hHeld
    (try simp only [Act.put])
    refine wpAnyH_ready (rs := [8]) (by kernel_rfl) (by simp) (AllReadyH.cons rfl (fun K hK => ?_) AllReadyH.nil)
    go_simp
    refine hK.out _ _ (pair_cells ((heap_alloc_old _ _ (by simp; omega)).trans ((heap_alloc_old _ _ (by simp)).trans HP0.out))) (fun hHeld => ?_)
    clear hK K hHeld
    (try simp only [Act.put])
    refine wpAnyH_ready (rs := [10]) (by kernel_rfl) (by simp) (AllReadyH.cons rfl (fun K hK => ?_) AllReadyH.nil)
    go_simp
    refine hK.out _ _ (pair_cells ((heap_alloc_old _ _ (by simp; omega)).trans ((heap_alloc_old _ _ (by simp)).trans HP0.out))) (fun hHeld => ?_)
    clear hK K hHeld
    (try simp only [Act.put])
    refine wpAnyH_ready (rs := [11]) (by kernel_rfl) (by simp) (AllReadyH.cons rfl (fun K hK => ?_) AllReadyH.nil)
    go_simp
    refine hK.out _ _ (pair_cells ((heap_alloc_old _ _ (by simp; omega)).trans ((heap_alloc_old _ _ (by simp)).trans HP0.out))) (fun hHeld => ?_)
    clear hK K
    (try simp only [Act.put])
    refine takeD 12 5 (.int .i64 i) rfl rfl (by kernel_rfl) (by kernel_rfl) (by kernel_rfl) (fun _ _ _ h => h) (Or.inl ⟨by kernel_rfl, by intro w hSw; (try dsimp only at hSw); go_simp⟩) hHeld ?_
    simp only [List.set_cons_zero, List.set_cons_succ]
    refine takeD 13 6 (.int .u8 t) rfl rfl (by kernel_rfl) (by kernel_rfl) (by kernel_rfl) (fun _ _ _ h => h) (Or.inl ⟨by kernel_rfl, by intro w hSw; (try dsimp only at hSw); go_simp⟩) hHeld ?_
    simp only [List.set_cons_zero, List.set_cons_succ]
    refine wpAnyH_done (by kernel_rfl) ?_ _
    clear hHeld
    have HW : Hid (FU w (((w.alloc (.cells #[.int .i64 a0, .int .i64 a1, .int .i64 a2, .int .i64 a3, .int .i64 a4, .int .i64 a5, .int .i64 a6, .int .i64 a7, .slice xa ps.length xc, .int .i64 b0, .int .i64 b1, .int .i64 b2, .int .i64 b3, .int .i64 b4, .int .i64 b5, .int .i64 b6, .int .i64 b7, .slice ya qs.length yc, .int .i64 i, .int .u8 t] 77)).alloc (cM ⟨b0, b1, b2, b3, b4, b5, b6, b7, bl⟩ (.slice ya qs.length yc))).alloc (cM ⟨a0, a1, a2, a3, a4, a5, a6, a7, al⟩ (.slice xa ps.length xc))).drew (w.heap.size + 1 + 1) (w.heap.size + 1) ⟨a0, a1, a2, a3, a4, a5, a6, a7, al⟩ ⟨b0, b1, b2, b3, b4, b5, b6, b7, bl⟩ (.slice xa ps.length xc) (.slice ya qs.length yc)) := mkHid (fu_two w _ _ _ _ _)
    revert HW
    generalize (((w.alloc (.cells #[.int .i64 a0, .int .i64 a1, .int .i64 a2, .int .i64 a3, .int .i64 a4, .int .i64 a5, .int .i64 a6, .int .i64 a7, .slice xa ps.length xc, .int .i64 b0, .int .i64 b1, .int .i64 b2, .int .i64 b3, .int .i64 b4, .int .i64 b5, .int .i64 b6, .int .i64 b7, .slice ya qs.length yc, .int .i64 i, .int .u8 t] 77)).alloc (cM ⟨b0, b1, b2, b3, b4, b5, b6, b7, bl⟩ (.slice ya qs.length yc))).alloc (cM ⟨a0, a1, a2, a3, a4, a5, a6, a7, al⟩ (.slice xa ps.length xc))).drew = W1
    generalize w.heap.size + 1 + 1 = A
    generalize w.heap.size + 1 = B
    intro HW
  all_goals go_wp2_with (first
    | (go_at_call 20; refine (speaks_any W1 es (HE.out.late HW.out.bel)).mono ?_; rintro r w1 ⟨rfl, b1⟩; have HB1 : Hid (Below W1.heap.size W1 w1) := mkHid b1; clear b1; obtain ⟨p0, p1, p2, p3, p4, p5, p6, p7, p8⟩ := msg_cells (HW.out.oa _ HB1.out); obtain ⟨q0, q1, q2, q3, q4, q5, q6, q7, q8⟩ := msg_cells (HW.out.ob _ HB1.out))
    | (go_at_call 23; (with_reducible refine (putM_yes w1 ⟨a0, a1, a2, a3, a4, a5, a6, a7, al⟩ _ ps es (HV.out.below (HW.out.low HB1.out)) HLA.out (err_at (HE.out.late (HW.out.low HB1.out))) HFA.out).mono ?_); rintro r w2 ⟨v2, rfl, ho2, b2⟩; have ho2' := ho2; rw [← HN2.out] at ho2'; obtain ⟨g, xc2, rfl, hg1, hg2, hcap⟩ := own_spot ho2' (by have := HL2.out; omega); have HO2 := mkHid ho2'; have HGL := mkHid (And.intro hg1 hg2); have HB2 := mkHid (bt HB1.out b2); clear p0 p1 p2 p3 p4 p5 p6 p7 p8; clear q0 q1 q2 q3 q4 q5 q6 q7 q8; obtain ⟨p0, p1, p2, p3, p4, p5, p6, p7, p8⟩ := msg_cells (HW.out.oa _ HB2.out); obtain ⟨q0, q1, q2, q3, q4, q5, q6, q7, q8⟩ := msg_cells (HW.out.ob _ HB2.out); clear b2 ho2 ho2' hg1 hg2 hcap)
    | (go_at_call 23; refine (putM_yes w2 ⟨b0, b1, b2, b3, b4, b5, b6, b7, bl⟩ _ qs es (HU.out.below (HW.out.low HB2.out)) HLB.out (err_at (HE.out.late (HW.out.low HB2.out))) HFB.out).mono ?_; rintro r w3 ⟨v3, rfl, ho3, b3⟩; have ho3' := ho3; rw [← HN3.out] at ho3'; obtain ⟨ya2, yc2, rfl⟩ := own_shape ho3'; have HO3 := mkHid ho3'; have HP3 := mkHid b3; have HB3 := mkHid (bt HB2.out b3); clear p0 p1 p2 p3 p4 p5 p6 p7 p8; clear q0 q1 q2 q3 q4 q5 q6 q7 q8; obtain ⟨p0, p1, p2, p3, p4, p5, p6, p7, p8⟩ := msg_cells (HW.out.oa _ HB3.out.drew); obtain ⟨q0, q1, q2, q3, q4, q5, q6, q7, q8⟩ := msg_cells (HW.out.ob _ HB3.out.drew); clear b3 ho3 ho3'))
  all_goals
    have HCX : Hid (∀ W, Below w3.heap.size w3 W → (convert 32 9 (.slice (some ⟨g, 0, none⟩) n2 xc2)).run Tryd.prog W = .ok (.string SX) W) := mkHid (fun W hW => by
      have := ((Rd.of_owns (bs := sealM ⟨a0, a1, a2, a3, a4, a5, a6, a7, al⟩) (sealM_byts _) (by rw [← HN2.out]; exact HO2.out)).later (bt HP3.out hW)).conv
      rw [HSX.out]
      exact this)
    have HCY : Hid (∀ W, Below w3.heap.size w3 W → (convert 32 9 (.slice ya2 n3 yc2)).run Tryd.prog W = .ok (.string SX) W) := mkHid (fun W hW => by
      have := ((Rd.of_owns (bs := sealM ⟨b0, b1, b2, b3, b4, b5, b6, b7, bl⟩) (sealM_byts _) (by rw [← HN3.out]; exact HO3.out)).later hW).conv
      rw [HSY.out]
      exact this)
    have cvx := HCX.out _ (Below.refl _ w3).drew
    have cvy := HCY.out _ (Below.refl _ w3).drew
    refine wp_region_held_drew (S := fun w' => w'.cell? ⟨A, 0, none⟩ = some (.int .i64 a0) ∧ w'.cell? ⟨A, 1, none⟩ = some (.int .i64 a1) ∧ w'.cell? ⟨A, 2, none⟩ = some (.int .i64 a2) ∧ w'.cell? ⟨A, 3, none⟩ = some (.int .i64 a3) ∧ w'.cell? ⟨A, 4, none⟩ = some (.int .i64 a4) ∧ w'.cell? ⟨A, 5, none⟩ = some (.int .i64 a5) ∧ w'.cell? ⟨A, 6, none⟩ = some (.int .i64 a6) ∧ w'.cell? ⟨A, 7, none⟩ = some (.int .i64 a7) ∧ w'.cell? ⟨A, 8, none⟩ = some (.slice xa ps.length xc) ∧ w'.cell? ⟨B, 0, none⟩ = some (.int .i64 b0) ∧ w'.cell? ⟨B, 1, none⟩ = some (.int .i64 b1) ∧ w'.cell? ⟨B, 2, none⟩ = some (.int .i64 b2) ∧ w'.cell? ⟨B, 3, none⟩ = some (.int .i64 b3) ∧ w'.cell? ⟨B, 4, none⟩ = some (.int .i64 b4) ∧ w'.cell? ⟨B, 5, none⟩ = some (.int .i64 b5) ∧ w'.cell? ⟨B, 6, none⟩ = some (.int .i64 b6) ∧ w'.cell? ⟨B, 7, none⟩ = some (.int .i64 b7) ∧ w'.cell? ⟨B, 8, none⟩ = some (.slice ya qs.length yc) ∧ (convert 32 9 (.slice (some ⟨g, 0, none⟩) n2 xc2)).run Tryd.prog w' = .ok (.string SX) w' ∧ (convert 32 9 (.slice ya2 n3 yc2)).run Tryd.prog w' = .ok (.string SX) w') (by kernel_rfl) ⟨p0, p1, p2, p3, p4, p5, p6, p7, p8, q0, q1, q2, q3, q4, q5, q6, q7, q8, cvx, cvy⟩ (fun hHeld => ?_)
    refine takeD 0 47 (.slice (some ⟨g, 0, none⟩) n2 xc2) rfl rfl (by kernel_rfl) (by kernel_rfl) (by kernel_rfl) (fun _ _ _ h => h) (Or.inl ⟨by kernel_rfl, by intro w hSw; (try dsimp only at hSw); go_simp⟩) hHeld ?_
    simp only [List.set_cons_zero, List.set_cons_succ]
    refine takeD 1 48 (.string SX) rfl rfl (by kernel_rfl) (by kernel_rfl) (by kernel_rfl) (fun _ _ _ h => h) (Or.inl ⟨by kernel_rfl, by intro w hSw; (try dsimp only at hSw); go_simp⟩) hHeld ?_
    simp only [List.set_cons_zero, List.set_cons_succ]
    refine takeD 2 49 (.slice ya2 n3 yc2) rfl rfl (by kernel_rfl) (by kernel_rfl) (by kernel_rfl) (fun _ _ _ h => h) (Or.inl ⟨by kernel_rfl, by intro w hSw; (try dsimp only at hSw); go_simp⟩) hHeld ?_
    simp only [List.set_cons_zero, List.set_cons_succ]
    refine takeD 3 50 (.string SX) rfl rfl (by kernel_rfl) (by kernel_rfl) (by kernel_rfl) (fun _ _ _ h => h) (Or.inl ⟨by kernel_rfl, by intro w hSw; (try dsimp only at hSw); go_simp⟩) hHeld ?_
    simp only [List.set_cons_zero, List.set_cons_succ]
    refine takeD 4 51 (.bool true) rfl rfl (by kernel_rfl) (by kernel_rfl) (by kernel_rfl) (fun _ _ _ h => h) (Or.inl ⟨by kernel_rfl, by intro w hSw; (try dsimp only at hSw); go_simp⟩) hHeld ?_
    simp only [List.set_cons_zero, List.set_cons_succ]
    refine takeD 5 52 (.agg #[.int .i64 a0, .int .i64 a1, .int .i64 a2, .int .i64 a3, .int .i64 a4, .int .i64 a5, .int .i64 a6, .int .i64 a7, .slice xa ps.length xc]) rfl rfl (by kernel_rfl) (by kernel_rfl) (by kernel_rfl) (fun _ _ _ h => h) (Or.inl ⟨by kernel_rfl, by intro w hSw; (try dsimp only at hSw); go_simp⟩) hHeld ?_
    simp only [List.set_cons_zero, List.set_cons_succ]
    refine takeD 6 53 (.agg #[.int .i64 b0, .int .i64 b1, .int .i64 b2, .int .i64 b3, .int .i64 b4, .int .i64 b5, .int .i64 b6, .int .i64 b7, .slice ya qs.length yc]) rfl rfl (by kernel_rfl) (by kernel_rfl) (by kernel_rfl) (fun _ _ _ h => h) (Or.inl ⟨by kernel_rfl, by intro w hSw; (try dsimp only at hSw); go_simp⟩) hHeld ?_
    simp only [List.set_cons_zero, List.set_cons_succ]
    refine wpAnyH_ready (rs := [7]) (by kernel_rfl) (by simp) (AllReadyH.cons rfl (fun K hK => ?_) AllReadyH.nil)
    go_simp
    refine (sameM_any _ ⟨a0, a1, a2, a3, a4, a5, a6, a7, al⟩ ⟨b0, b1, b2, b3, b4, b5, b6, b7, bl⟩ _ _ ps qs (HV.out.below (HW.out.low HB3.out.drew)) (HU.out.below (HW.out.low HB3.out.drew)) HLA.out HLB.out true (by have := HSB.out; simpa using this)).mono ?_
    rintro r w4 ⟨rfl, hb6⟩
    have HB4 := mkHid (bt HB3.out.drew hb6)
    have HP4 : Hid (Below w3.heap.size w3 w4) := mkHid ((Below.refl _ w3).drew.trans hb6)
    clear hb6 hHeld
    clear p0 p1 p2 p3 p4 p5 p6 p7 p8 q0 q1 q2 q3 q4 q5 q6 q7 q8 cvx cvy
    obtain ⟨p0, p1, p2, p3, p4, p5, p6, p7, p8⟩ := msg_cells (HW.out.oa _ HB4.out)
    obtain ⟨q0, q1, q2, q3, q4, q5, q6, q7, q8⟩ := msg_cells (HW.out.ob _ HB4.out)
    have cvx := HCX.out _ HP4.out
    have cvy := HCY.out _ HP4.out
    refine hK.out _ _ ⟨p0, p1, p2, p3, p4, p5, p6, p7, p8, q0, q1, q2, q3, q4, q5, q6, q7, q8, cvx, cvy⟩ (fun hHeld => ?_)
    clear hK K
    refine takeD 8 55 (.bool false) rfl rfl (by kernel_rfl) (by kernel_rfl) (by kernel_rfl) (fun _ _ _ h => h) (Or.inl ⟨by kernel_rfl, by intro w hSw; (try dsimp only at hSw); go_simp⟩) hHeld ?_
    simp only [List.set_cons_zero, List.set_cons_succ]
    refine takeD 9 56 (.bool false) rfl rfl (by kernel_rfl) (by kernel_rfl) (by kernel_rfl) (fun _ _ _ h => h) (Or.inl ⟨by kernel_rfl, by intro w hSw; (try dsimp only at hSw); go_simp⟩) hHeld ?_
    simp only [List.set_cons_zero, List.set_cons_succ]
    refine takeD 10 57 (.slice (some ⟨g, 0, none⟩) n2 xc2) rfl rfl (by kernel_rfl) (by kernel_rfl) (by kernel_rfl) (fun _ _ _ h => h) (Or.inl ⟨by kernel_rfl, by intro w hSw; (try dsimp only at hSw); go_simp⟩) hHeld ?_
    simp only [List.set_cons_zero, List.set_cons_succ]
    refine takeD 11 58 (.int .i64 (n2 : Int)) rfl rfl (by kernel_rfl) (by kernel_rfl) (by kernel_rfl) (fun _ _ _ h => h) (Or.inl ⟨by kernel_rfl, by intro w hSw; (try dsimp only at hSw); go_simp⟩) hHeld ?_
    simp only [List.set_cons_zero, List.set_cons_succ]
    refine takeD 12 59 (.bool false) rfl rfl (by kernel_rfl) (by kernel_rfl) (by kernel_rfl) (fun _ _ _ h => h) (Or.inl ⟨by kernel_rfl, by intro w hSw; (try dsimp only at hSw); go_simp⟩) hHeld ?_
    simp only [List.set_cons_zero, List.set_cons_succ]
    refine takeD 13 60 (.bool false) rfl rfl (by kernel_rfl) (by kernel_rfl) (by kernel_rfl) (fun _ _ _ h => h) (Or.inl ⟨by kernel_rfl, by intro w hSw; (try dsimp only at hSw); go_simp⟩) hHeld ?_
    simp only [List.set_cons_zero, List.set_cons_succ]
    refine wpAnyH_done (by kernel_rfl) ?_ _
    clear p0 p1 p2 p3 p4 p5 p6 p7 p8 q0 q1 q2 q3 q4 q5 q6 q7 q8 cvx cvy
    obtain ⟨I, eI, hI⟩ := rem_ex i n2 (by have := HL2.out; omega)
    have hs1 := Int.lt_tmod_of_pos i (show (0 : Int) < (n2 : Int) by have := HL2.out; omega)
    have hs2 := Int.tmod_lt_of_pos i (show (0 : Int) < (n2 : Int) by have := HL2.out; omega)
    have hw : wrap64 (i.tmod (n2 : Int) + (n2 : Int)) = i.tmod (n2 : Int) + (n2 : Int) := by have := HL2.out; unfold wrap64; omega
    have hIn : I < n2 := by omega
    have HIN := mkHid hIn
    have ho4 : w4.ownsRow w1.heap.size 5 1 (.slice (some ⟨g, 0, none⟩) n2 xc2) n2 ((sealM ⟨a0, a1, a2, a3, a4, a5, a6, a7, al⟩).map (Value.int .u8)) := ownN_kept HO2.out (kept_of_below (bt HP3.out HP4.out)) (fun k e hge => by have := (HO2.out.lt k e).2; omega)
    obtain ⟨o1, o2, o3⟩ := own_set t ho4 hIn
    obtain ⟨y, hy⟩ : ∃ y, y = (sealM ⟨a0, a1, a2, a3, a4, a5, a6, a7, al⟩).getD I 0 := ⟨_, rfl⟩
    rw [← hy] at o2
    have HY := mkHid hy
    have HO5 := mkHid o1
    clear hy o1 ho4
    by_cases hyt : y = t
    · have hyb : (y == t) = true := by simpa using hyt
      have HYT := mkHid hyt
      clear hyt
      go_wp2
      go_ret
      exact ⟨rfl, HW.out.low HB4.out⟩
    · have hyb : (y == t) = false := by simpa using hyt
      have HYT := mkHid hyt
      clear hyt
      have HB5 : Hid (Below W1.heap.size W1 (w4.setCell ⟨g, I, none⟩ (.int .u8 t))) := mkHid (HB4.out.trans (set_below w4 (Nat.le_trans HB1.out.size HGL.out.1) _ HB4.out.size))
      have heq := HEU.out.eq
      obtain ⟨xs, ys, e1, e2, e3, e4⟩ := slip_parts (bytesM ⟨a0, a1, a2, a3, a4, a5, a6, a7, al⟩) I t (bytesM_byts _) HT.out (by have := HIN.out; have := HN2.out; rw [sealM_len] at this; omega) (fun e => HYT.out (HY.out.trans e))
      have HG0 := mkHid (getM_sum (w4.setCell ⟨g, I, none⟩ (.int .u8 t)) g 0 xc2 n2 xs ys eu eu (by have := HN2.out; rw [sealM_len] at this; omega) e3 (slip_rd (sealM_byts ⟨a0, a1, a2, a3, a4, a5, a6, a7, al⟩) HT.out HN2.out.symm HO5.out e1) (by have := HL2.out; omega) e4 (HEU.out.late (HW.out.low HB5.out)).1)
      clear e1 e2 e3 e4
      go_wp2_with (go_at_call 26; refine HG0.out.mono ?_; rintro r w6 ⟨rfl, b6⟩; have ce := (HEU.out.late (HW.out.low (bt HB5.out b6))).1; have HB6 := mkHid (bt HB5.out b6); clear b6)
      go_ret
      first | exact ⟨rfl, HW.out.low HB6.out⟩ | exact ⟨rfl, HW.out.low (ba HB6.out _)⟩
end Go.Proofs.YtaiklaipdocdmaaDoor
