/- The law NetUnlike. -/
import Derived.Test.YtaiklaipdocdmaaDoorNp12
import Derived.Test.YtaiklaipdocdmaaDoorOpenMg
namespace Go.Proofs.YtaiklaipdocdmaaDoor
open Go.ChangeShapes Go.WideShapes Go.ChangeAt Go.RowKit
set_option maxRecDepth 100000
attribute [local go_sem] World.cell?_alloc_some frozen_alloc_some

/-- Two messages in boxes of their own. -/
structure FU (w W1 : World) (A B : Nat) (a b : Mg) (va vb : Value) : Prop where
  oa : ∀ W, Below W1.heap.size W1 W → W.heap[A]? = some (.cells #[.int .i64 a.kd, .int .i64 a.fr, .int .i64 a.to, .int .i64 a.jb, .int .i64 a.br, .int .i64 a.bn, .int .i64 a.ar, .int .i64 a.an, va] 60 (0, 0))
  ob : ∀ W, Below W1.heap.size W1 W → W.heap[B]? = some (.cells #[.int .i64 b.kd, .int .i64 b.fr, .int .i64 b.to, .int .i64 b.jb, .int .i64 b.br, .int .i64 b.bn, .int .i64 b.ar, .int .i64 b.an, vb] 60 (0, 0))
  bel : Below w.heap.size w W1
theorem FU.low {w W1 : World} {A B : Nat} {a b : Mg} {va vb : Value} (h : FU w W1 A B a b va vb) {W : World} (hb : Below W1.heap.size W1 W) : Below w.heap.size w W := bt h.bel hb
theorem fu_one (w : World) (o : Obj) (a b : Mg) (va vb : Value) : FU w (((w.alloc o).alloc (cM a va)).alloc (cM b vb)).drew (w.heap.size + 1) (w.heap.size + 1 + 1) a b va vb := by
  have e1 : (w.alloc o).heap.size = w.heap.size + 1 := by simp
  have e2 : ((w.alloc o).alloc (cM a va)).heap.size = w.heap.size + 1 + 1 := by simp
  have h1 : (((w.alloc o).alloc (cM a va)).alloc (cM b vb)).drew.heap[w.heap.size + 1]? = some (.cells #[.int .i64 a.kd, .int .i64 a.fr, .int .i64 a.to, .int .i64 a.jb, .int .i64 a.br, .int .i64 a.bn, .int .i64 a.ar, .int .i64 a.an, va] 60 (0, 0)) := by
    show (((w.alloc o).alloc (cM a va)).alloc (cM b vb)).heap[w.heap.size + 1]? = _
    rw [heap_alloc_old _ _ (by simp)]
    exact two_of_two w _ _
  have h2 : (((w.alloc o).alloc (cM a va)).alloc (cM b vb)).drew.heap[w.heap.size + 1 + 1]? = some (.cells #[.int .i64 b.kd, .int .i64 b.fr, .int .i64 b.to, .int .i64 b.jb, .int .i64 b.br, .int .i64 b.bn, .int .i64 b.ar, .int .i64 b.an, vb] 60 (0, 0)) := by
    show (((w.alloc o).alloc (cM a va)).alloc (cM b vb)).heap[w.heap.size + 1 + 1]? = _
    have := heap_alloc_new ((w.alloc o).alloc (cM a va)) (cM b vb)
    rw [e2] at this
    exact this
  exact ⟨fun W hW => (hW.block _ (lt_of_heap h1)).trans h1, fun W hW => (hW.block _ (lt_of_heap h2)).trans h2, (ba (ba (ba (Below.refl _ w) _) _) _).drew⟩
theorem fu_two (w : World) (o : Obj) (a b : Mg) (va vb : Value) : FU w (((w.alloc o).alloc (cM b vb)).alloc (cM a va)).drew (w.heap.size + 1 + 1) (w.heap.size + 1) a b va vb := by
  obtain ⟨h1, h2, h3⟩ := fu_one w o b a vb va
  exact ⟨h2, h1, h3⟩
theorem err_at {w : World} {s : List UInt8} {a : Addr} (h : Err w 0 s a) : w.cell? ⟨0, 0, none⟩ = some (vErr a) := h.1
theorem putM_some (w : World) (m : Mg) (v : Value) (ps : List Ep) (ea : Addr) (h : Ens w v ps) (hls : fs1 ps = m.ls) (he : w.cell? ⟨0, 0, none⟩ = some (vErr ea)) :
    Calls Tryd.prog 23 #[vM m v] w fun r w' => ∃ (a : Option Addr) (n c : Nat) (e : Value), r = .returned (.tuple #[.slice a n c, e]) ∧ Below w.heap.size w w' := by
  by_cases hf : inM m
  · refine (putM_yes w m v ps ea h hls he hf).mono ?_
    rintro r w' ⟨v', rfl, ho, hb⟩
    obtain ⟨a, c, rfl⟩ := own_shape ho
    exact ⟨a, _, c, _, rfl, hb⟩
  · refine (putM_no w m v ps ea h hls he hf).mono ?_
    rintro r w' ⟨rfl, hb⟩
    exact ⟨none, 0, 0, _, rfl, hb⟩
theorem pair_cells {W : World} {b : Nat} {c0 c1 c2 c3 c4 c5 c6 c7 c8 c9 c10 c11 c12 c13 c14 c15 c16 c17 c18 c19 : Value} (h : W.heap[b]? = some (.cells #[c0, c1, c2, c3, c4, c5, c6, c7, c8, c9, c10, c11, c12, c13, c14, c15, c16, c17, c18, c19] 77 (0, 0))) : W.cell? ⟨b, 0, none⟩ = some c0 ∧ W.cell? ⟨b, 1, none⟩ = some c1 ∧ W.cell? ⟨b, 2, none⟩ = some c2 ∧ W.cell? ⟨b, 3, none⟩ = some c3 ∧ W.cell? ⟨b, 4, none⟩ = some c4 ∧ W.cell? ⟨b, 5, none⟩ = some c5 ∧ W.cell? ⟨b, 6, none⟩ = some c6 ∧ W.cell? ⟨b, 7, none⟩ = some c7 ∧ W.cell? ⟨b, 8, none⟩ = some c8 ∧ W.cell? ⟨b, 9, none⟩ = some c9 ∧ W.cell? ⟨b, 10, none⟩ = some c10 ∧ W.cell? ⟨b, 11, none⟩ = some c11 ∧ W.cell? ⟨b, 12, none⟩ = some c12 ∧ W.cell? ⟨b, 13, none⟩ = some c13 ∧ W.cell? ⟨b, 14, none⟩ = some c14 ∧ W.cell? ⟨b, 15, none⟩ = some c15 ∧ W.cell? ⟨b, 16, none⟩ = some c16 ∧ W.cell? ⟨b, 17, none⟩ = some c17 ∧ W.cell? ⟨b, 18, none⟩ = some c18 ∧ W.cell? ⟨b, 19, none⟩ = some c19 :=
  ⟨cell_of_block h rfl, cell_of_block h rfl, cell_of_block h rfl, cell_of_block h rfl, cell_of_block h rfl, cell_of_block h rfl, cell_of_block h rfl, cell_of_block h rfl, cell_of_block h rfl, cell_of_block h rfl, cell_of_block h rfl, cell_of_block h rfl, cell_of_block h rfl, cell_of_block h rfl, cell_of_block h rfl, cell_of_block h rfl, cell_of_block h rfl, cell_of_block h rfl, cell_of_block h rfl, cell_of_block h rfl⟩
set_option maxHeartbeats 51200000 in
theorem unlike_noa (w : World) (a b : Mg) (v u : Value) (ps qs : List Ep) (i t : Int) (es : Addr) (hv : Ens w v ps) (hu : Ens w u qs) (hla : fs1 ps = a.ls) (hlb : fs1 qs = b.ls) (E : Err w 0 text0 es) (hfa : ¬ inM a) : Calls Tryd.prog 8 #[vPr a b v u i t] w fun r w' => r = .returned (.bool true) ∧ Below w.heap.size w w' := by
  have HFA := mkHid hfa
  clear hfa
  obtain ⟨xa, xc, rfl⟩ : ∃ a c, v = .slice a ps.length c := by obtain ⟨a, cap, e, _⟩ := hv; exact ⟨a, cap, e⟩
  obtain ⟨ya, yc, rfl⟩ : ∃ a c, u = .slice a qs.length c := by obtain ⟨a, cap, e, _⟩ := hu; exact ⟨a, cap, e⟩
  obtain ⟨a0, a1, a2, a3, a4, a5, a6, a7, al⟩ := a
  obtain ⟨b0, b1, b2, b3, b4, b5, b6, b7, bl⟩ := b
  have HV := mkHid hv
  have HU := mkHid hu
  have HLA := mkHid hla
  have HLB := mkHid hlb
  have HE := mkHid E
  clear hv hu hla hlb E
  simp only [vPr]
  go_enter Tryd.func8, Tryd.ntmps8
  go_wp2
  have hp0 : (w.alloc (.cells #[.int .i64 a0, .int .i64 a1, .int .i64 a2, .int .i64 a3, .int .i64 a4, .int .i64 a5, .int .i64 a6, .int .i64 a7, .slice xa ps.length xc, .int .i64 b0, .int .i64 b1, .int .i64 b2, .int .i64 b3, .int .i64 b4, .int .i64 b5, .int .i64 b6, .int .i64 b7, .slice ya qs.length yc, .int .i64 i, .int .u8 t] 77)).heap[w.heap.size]? = some (.cells #[.int .i64 a0, .int .i64 a1, .int .i64 a2, .int .i64 a3, .int .i64 a4, .int .i64 a5, .int .i64 a6, .int .i64 a7, .slice xa ps.length xc, .int .i64 b0, .int .i64 b1, .int .i64 b2, .int .i64 b3, .int .i64 b4, .int .i64 b5, .int .i64 b6, .int .i64 b7, .slice ya qs.length yc, .int .i64 i, .int .u8 t] 77 (0, 0)) := heap_alloc_new w _
  have HP0 := mkHid hp0
  clear hp0
  refine wp_region_held_drew (S := fun w' => w'.cell? ⟨w.heap.size, 0, none⟩ = some (.int .i64 a0) ∧ w'.cell? ⟨w.heap.size, 1, none⟩ = some (.int .i64 a1) ∧ w'.cell? ⟨w.heap.size, 2, none⟩ = some (.int .i64 a2) ∧ w'.cell? ⟨w.heap.size, 3, none⟩ = some (.int .i64 a3) ∧ w'.cell? ⟨w.heap.size, 4, none⟩ = some (.int .i64 a4) ∧ w'.cell? ⟨w.heap.size, 5, none⟩ = some (.int .i64 a5) ∧ w'.cell? ⟨w.heap.size, 6, none⟩ = some (.int .i64 a6) ∧ w'.cell? ⟨w.heap.size, 7, none⟩ = some (.int .i64 a7) ∧ w'.cell? ⟨w.heap.size, 8, none⟩ = some (.slice xa ps.length xc) ∧ w'.cell? ⟨w.heap.size, 9, none⟩ = some (.int .i64 b0) ∧ w'.cell? ⟨w.heap.size, 10, none⟩ = some (.int .i64 b1) ∧ w'.cell? ⟨w.heap.size, 11, none⟩ = some (.int .i64 b2) ∧ w'.cell? ⟨w.heap.size, 12, none⟩ = some (.int .i64 b3) ∧ w'.cell? ⟨w.heap.size, 13, none⟩ = some (.int .i64 b4) ∧ w'.cell? ⟨w.heap.size, 14, none⟩ = some (.int .i64 b5) ∧ w'.cell? ⟨w.heap.size, 15, none⟩ = some (.int .i64 b6) ∧ w'.cell? ⟨w.heap.size, 16, none⟩ = some (.int .i64 b7) ∧ w'.cell? ⟨w.heap.size, 17, none⟩ = some (.slice ya qs.length yc) ∧ w'.cell? ⟨w.heap.size, 18, none⟩ = some (.int .i64 i) ∧ w'.cell? ⟨w.heap.size, 19, none⟩ = some (.int .u8 t)) (by kernel_rfl) (pair_cells (W := (w.alloc (.cells #[.int .i64 a0, .int .i64 a1, .int .i64 a2, .int .i64 a3, .int .i64 a4, .int .i64 a5, .int .i64 a6, .int .i64 a7, .slice xa ps.length xc, .int .i64 b0, .int .i64 b1, .int .i64 b2, .int .i64 b3, .int .i64 b4, .int .i64 b5, .int .i64 b6, .int .i64 b7, .slice ya qs.length yc, .int .i64 i, .int .u8 t] 77)).drew) HP0.out) (fun hHeld => ?_)
  refine takeD 0 13 (.pointer (some ⟨w.heap.size, 0, none⟩)) rfl rfl (by kernel_rfl) (by kernel_rfl) (by kernel_rfl) (fun _ _ _ h => h) (Or.inl ⟨by kernel_rfl, by intro w hSw; (try dsimp only at hSw); go_simp⟩) hHeld ?_
  simp only [List.set_cons_zero, List.set_cons_succ]
  refine takeD 1 14 (.agg #[.int .i64 a0, .int .i64 a1, .int .i64 a2, .int .i64 a3, .int .i64 a4, .int .i64 a5, .int .i64 a6, .int .i64 a7, .slice xa ps.length xc]) rfl rfl (by kernel_rfl) (by kernel_rfl) (by kernel_rfl) (fun _ _ _ h => h) (Or.inl ⟨by kernel_rfl, by intro w hSw; (try dsimp only at hSw); go_simp⟩) hHeld ?_
  simp only [List.set_cons_zero, List.set_cons_succ]
  refine takeD 2 15 (.pointer (some ⟨w.heap.size, 9, none⟩)) rfl rfl (by kernel_rfl) (by kernel_rfl) (by kernel_rfl) (fun _ _ _ h => h) (Or.inl ⟨by kernel_rfl, by intro w hSw; (try dsimp only at hSw); go_simp⟩) hHeld ?_
  simp only [List.set_cons_zero, List.set_cons_succ]
  refine takeD 3 16 (.agg #[.int .i64 b0, .int .i64 b1, .int .i64 b2, .int .i64 b3, .int .i64 b4, .int .i64 b5, .int .i64 b6, .int .i64 b7, .slice ya qs.length yc]) rfl rfl (by kernel_rfl) (by kernel_rfl) (by kernel_rfl) (fun _ _ _ h => h) (Or.inl ⟨by kernel_rfl, by intro w hSw; (try dsimp only at hSw); go_simp⟩) hHeld ?_
  simp only [List.set_cons_zero, List.set_cons_succ]
  refine takeD 4 17 (.pointer (some ⟨w.heap.size, 18, none⟩)) rfl rfl (by kernel_rfl) (by kernel_rfl) (by kernel_rfl) (fun _ _ _ h => h) (Or.inl ⟨by kernel_rfl, by intro w hSw; (try dsimp only at hSw); go_simp⟩) hHeld ?_
  simp only [List.set_cons_zero, List.set_cons_succ]
  refine takeD 5 18 (.int .i64 i) rfl rfl (by kernel_rfl) (by kernel_rfl) (by kernel_rfl) (fun _ _ _ h => h) (Or.inl ⟨by kernel_rfl, by intro w hSw; (try dsimp only at hSw); go_simp⟩) hHeld ?_
  simp only [List.set_cons_zero, List.set_cons_succ]
  refine takeD 6 19 (.pointer (some ⟨w.heap.size, 19, none⟩)) rfl rfl (by kernel_rfl) (by kernel_rfl) (by kernel_rfl) (fun _ _ _ h => h) (Or.inl ⟨by kernel_rfl, by intro w hSw; (try dsimp only at hSw); go_simp⟩) hHeld ?_
  simp only [List.set_cons_zero, List.set_cons_succ]
  refine takeD 7 20 (.int .u8 t) rfl rfl (by kernel_rfl) (by kernel_rfl) (by kernel_rfl) (fun _ _ _ h => h) (Or.inl ⟨by kernel_rfl, by intro w hSw; (try dsimp only at hSw); go_simp⟩) hHeld ?_
  simp only [List.set_cons_zero, List.set_cons_succ]
  clear hHeld
  refine wpAnyH_ready (rs := [8, 9]) (by kernel_rfl) (by simp) (AllReadyH.cons rfl (fun K hK => ?_) (AllReadyH.cons rfl (fun K hK => ?_) AllReadyH.nil))
  all_goals go_simp
  case' refine_1 =>
    skip
    refine hK.out _ _ (pair_cells ((heap_alloc_old _ _ (by simp)).trans HP0.out)) (fun hHeld => ?_)
    clear hK K hHeld
    (try simp only [Act.put])
    refine wpAnyH_ready (rs := [9]) (by kernel_rfl) (by simp) (AllReadyH.cons rfl (fun K hK => ?_) AllReadyH.nil)
    go_simp
    refine hK.out _ _ (pair_cells ((heap_alloc_old _ _ (by simp; omega)).trans ((heap_alloc_old _ _ (by simp)).trans HP0.out))) (fun hHeld => ?_)
    clear hK K hHeld
    (try simp only [Act.put])
    refine wpAnyH_ready (rs := [10]) (by kernel_rfl) (by simp) (AllReadyH.cons rfl (fun K hK => ?_) AllReadyH.nil)
    go_simp
    refine hK.out _ _ (pair_cells ((heap_alloc_old _ _ (by simp; omega)).trans ((heap_alloc_old _ _ (by simp)).trans HP0.out))) (fun hHeld => ?_)
    clear hK K hHeld
    (try simp only [Act.put])
    refine wpAnyH_ready (rs := [11]) (by kernel_rfl) (by simp) (AllReadyH.cons rfl (fun K hK => ?_) AllReadyH.nil)
    go_simp
    refine hK.out _ _ (pair_cells ((heap_alloc_old _ _ (by simp; omega)).trans ((heap_alloc_old _ _ (by simp)).trans HP0.out))) (fun hHeld => ?_)
    clear hK K
    (try simp only [Act.put])
    refine takeD 12 5 (.int .i64 i) rfl rfl (by kernel_rfl) (by kernel_rfl) (by kernel_rfl) (fun _ _ _ h => h) (Or.inl ⟨by kernel_rfl, by intro w hSw; (try dsimp only at hSw); go_simp⟩) hHeld ?_
    simp only [List.set_cons_zero, List.set_cons_succ]
    refine takeD 13 6 (.int .u8 t) rfl rfl (by kernel_rfl) (by kernel_rfl) (by kernel_rfl) (fun _ _ _ h => h) (Or.inl ⟨by kernel_rfl, by intro w hSw; (try dsimp only at hSw); go_simp⟩) hHeld ?_
    simp only [List.set_cons_zero, List.set_cons_succ]
    refine wpAnyH_done (by kernel_rfl) ?_ _
    clear hHeld
    have HW : Hid (FU w (((w.alloc (.cells #[.int .i64 a0, .int .i64 a1, .int .i64 a2, .int .i64 a3, .int .i64 a4, .int .i64 a5, .int .i64 a6, .int .i64 a7, .slice xa ps.length xc, .int .i64 b0, .int .i64 b1, .int .i64 b2, .int .i64 b3, .int .i64 b4, .int .i64 b5, .int .i64 b6, .int .i64 b7, .slice ya qs.length yc, .int .i64 i, .int .u8 t] 77)).alloc (cM ⟨a0, a1, a2, a3, a4, a5, a6, a7, al⟩ (.slice xa ps.length xc))).alloc (cM ⟨b0, b1, b2, b3, b4, b5, b6, b7, bl⟩ (.slice ya qs.length yc))).drew (w.heap.size + 1) (w.heap.size + 1 + 1) ⟨a0, a1, a2, a3, a4, a5, a6, a7, al⟩ ⟨b0, b1, b2, b3, b4, b5, b6, b7, bl⟩ (.slice xa ps.length xc) (.slice ya qs.length yc)) := mkHid (fu_one w _ _ _ _ _)
    revert HW
    generalize (((w.alloc (.cells #[.int .i64 a0, .int .i64 a1, .int .i64 a2, .int .i64 a3, .int .i64 a4, .int .i64 a5, .int .i64 a6, .int .i64 a7, .slice xa ps.length xc, .int .i64 b0, .int .i64 b1, .int .i64 b2, .int .i64 b3, .int .i64 b4, .int .i64 b5, .int .i64 b6, .int .i64 b7, .slice ya qs.length yc, .int .i64 i, .int .u8 t] 77)).alloc (cM ⟨a0, a1, a2, a3, a4, a5, a6, a7, al⟩ (.slice xa ps.length xc))).alloc (cM ⟨b0, b1, b2, b3, b4, b5, b6, b7, bl⟩ (.slice ya qs.length yc))).drew = W1
    generalize w.heap.size + 1 + 1 = B
    generalize w.heap.size + 1 = A
    intro HW
  case' refine_2 =>
    skip
    refine hK.out _ _ (pair_cells ((heap_alloc_old _ _ (by simp)).trans HP0.out)) (fun hHeld => ?_)
    clear hK K hHeld
    (try simp only [Act.put])
    refine wpAnyH_ready (rs := [8]) (by kernel_rfl) (by simp) (AllReadyH.cons rfl (fun K hK => ?_) AllReadyH.nil)
    go_simp
    refine hK.out _ _ (pair_cells ((heap_alloc_old _ _ (by simp; omega)).trans ((heap_alloc_old _ _ (by simp)).trans HP0.out))) (fun hHeld => ?_)
    clear hK K hHeld
    (try simp only [Act.put])
    refine wpAnyH_ready (rs := [10]) (by kernel_rfl) (by simp) (AllReadyH.cons rfl (fun K hK => ?_) AllReadyH.nil)
    go_simp
    refine hK.out _ _ (pair_cells ((heap_alloc_old _ _ (by simp; omega)).trans ((heap_alloc_old _ _ (by simp)).trans HP0.out))) (fun hHeld => ?_)
    clear hK K hHeld
    (try simp only [Act.put])
    refine wpAnyH_ready (rs := [11]) (by kernel_rfl) (by simp) (AllReadyH.cons rfl (fun K hK => ?_) AllReadyH.nil)
    go_simp
    refine hK.out _ _ (pair_cells ((heap_alloc_old _ _ (by simp; omega)).trans ((heap_alloc_old _ _ (by simp)).trans HP0.out))) (fun hHeld => ?_)
    clear hK K
    (try simp only [Act.put])
    refine takeD 12 5 (.int .i64 i) rfl rfl (by kernel_rfl) (by kernel_rfl) (by kernel_rfl) (fun _ _ _ h => h) (Or.inl ⟨by kernel_rfl, by intro w hSw; (try dsimp only at hSw); go_simp⟩) hHeld ?_
    simp only [List.set_cons_zero, List.set_cons_succ]
    refine takeD 13 6 (.int .u8 t) rfl rfl (by kernel_rfl) (by kernel_rfl) (by kernel_rfl) (fun _ _ _ h => h) (Or.inl ⟨by kernel_rfl, by intro w hSw; (try dsimp only at hSw); go_simp⟩) hHeld ?_
    simp only [List.set_cons_zero, List.set_cons_succ]
    refine wpAnyH_done (by kernel_rfl) ?_ _
    clear hHeld
    have HW : Hid (FU w (((w.alloc (.cells #[.int .i64 a0, .int .i64 a1, .int .i64 a2, .int .i64 a3, .int .i64 a4, .int .i64 a5, .int .i64 a6, .int .i64 a7, .slice xa ps.length xc, .int .i64 b0, .int .i64 b1, .int .i64 b2, .int .i64 b3, .int .i64 b4, .int .i64 b5, .int .i64 b6, .int .i64 b7, .slice ya qs.length yc, .int .i64 i, .int .u8 t] 77)).alloc (cM ⟨b0, b1, b2, b3, b4, b5, b6, b7, bl⟩ (.slice ya qs.length yc))).alloc (cM ⟨a0, a1, a2, a3, a4, a5, a6, a7, al⟩ (.slice xa ps.length xc))).drew (w.heap.size + 1 + 1) (w.heap.size + 1) ⟨a0, a1, a2, a3, a4, a5, a6, a7, al⟩ ⟨b0, b1, b2, b3, b4, b5, b6, b7, bl⟩ (.slice xa ps.length xc) (.slice ya qs.length yc)) := mkHid (fu_two w _ _ _ _ _)
    revert HW
    generalize (((w.alloc (.cells #[.int .i64 a0, .int .i64 a1, .int .i64 a2, .int .i64 a3, .int .i64 a4, .int .i64 a5, .int .i64 a6, .int .i64 a7, .slice xa ps.length xc, .int .i64 b0, .int .i64 b1, .int .i64 b2, .int .i64 b3, .int .i64 b4, .int .i64 b5, .int .i64 b6, .int .i64 b7, .slice ya qs.length yc, .int .i64 i, .int .u8 t] 77)).alloc (cM ⟨b0, b1, b2, b3, b4, b5, b6, b7, bl⟩ (.slice ya qs.length yc))).alloc (cM ⟨a0, a1, a2, a3, a4, a5, a6, a7, al⟩ (.slice xa ps.length xc))).drew = W1
    generalize w.heap.size + 1 + 1 = A
    generalize w.heap.size + 1 = B
    intro HW
  all_goals go_wp2_with (first
    | (go_at_call 20; refine (speaks_any W1 es (HE.out.late HW.out.bel)).mono ?_; rintro r w1 ⟨rfl, b1⟩; have HB1 : Hid (Below W1.heap.size W1 w1) := mkHid b1; clear b1; obtain ⟨p0, p1, p2, p3, p4, p5, p6, p7, p8⟩ := msg_cells (HW.out.oa _ HB1.out); obtain ⟨q0, q1, q2, q3, q4, q5, q6, q7, q8⟩ := msg_cells (HW.out.ob _ HB1.out))
    | (go_at_call 23; (with_reducible refine (putM_no w1 ⟨a0, a1, a2, a3, a4, a5, a6, a7, al⟩ _ ps es (HV.out.below (HW.out.low HB1.out)) HLA.out (err_at (HE.out.late (HW.out.low HB1.out))) HFA.out).mono ?_); rintro r w2 ⟨rfl, b2⟩; have HB2 := mkHid (bt HB1.out b2); clear p0 p1 p2 p3 p4 p5 p6 p7 p8; clear q0 q1 q2 q3 q4 q5 q6 q7 q8; obtain ⟨p0, p1, p2, p3, p4, p5, p6, p7, p8⟩ := msg_cells (HW.out.oa _ HB2.out); obtain ⟨q0, q1, q2, q3, q4, q5, q6, q7, q8⟩ := msg_cells (HW.out.ob _ HB2.out); clear b2)
    | (go_at_call 23; refine (putM_some w2 ⟨b0, b1, b2, b3, b4, b5, b6, b7, bl⟩ _ qs es (HU.out.below (HW.out.low HB2.out)) HLB.out (err_at (HE.out.late (HW.out.low HB2.out)))).mono ?_; rintro r w3 ⟨sa3, sn3, sc3, ev3, rfl, b3⟩; have HB3 := mkHid (bt HB2.out b3); clear p0 p1 p2 p3 p4 p5 p6 p7 p8; clear q0 q1 q2 q3 q4 q5 q6 q7 q8; obtain ⟨p0, p1, p2, p3, p4, p5, p6, p7, p8⟩ := msg_cells (HW.out.oa _ HB3.out); obtain ⟨q0, q1, q2, q3, q4, q5, q6, q7, q8⟩ := msg_cells (HW.out.ob _ HB3.out); clear b3)
    | (go_at_call 25; refine (inFM_no w3 ⟨a0, a1, a2, a3, a4, a5, a6, a7, al⟩ _ ps (HV.out.below (HW.out.low HB3.out)) HLA.out HFA.out).mono ?_; rintro r w4 ⟨rfl, b4⟩; have HB4 := mkHid (bt HB3.out b4); clear b4))
  all_goals go_ret
  all_goals exact ⟨rfl, HW.out.low HB4.out⟩
set_option maxHeartbeats 51200000 in
theorem unlike_nob (w : World) (a b : Mg) (v u : Value) (ps qs : List Ep) (i t : Int) (es : Addr) (hv : Ens w v ps) (hu : Ens w u qs) (hla : fs1 ps = a.ls) (hlb : fs1 qs = b.ls) (E : Err w 0 text0 es) (hfa : inM a) (hfb : ¬ inM b) : Calls Tryd.prog 8 #[vPr a b v u i t] w fun r w' => r = .returned (.bool true) ∧ Below w.heap.size w w' := by
  have HFA := mkHid hfa
  have HFB := mkHid hfb
  clear hfa hfb
  obtain ⟨xa, xc, rfl⟩ : ∃ a c, v = .slice a ps.length c := by obtain ⟨a, cap, e, _⟩ := hv; exact ⟨a, cap, e⟩
  obtain ⟨ya, yc, rfl⟩ : ∃ a c, u = .slice a qs.length c := by obtain ⟨a, cap, e, _⟩ := hu; exact ⟨a, cap, e⟩
  obtain ⟨a0, a1, a2, a3, a4, a5, a6, a7, al⟩ := a
  obtain ⟨b0, b1, b2, b3, b4, b5, b6, b7, bl⟩ := b
  have HV := mkHid hv
  have HU := mkHid hu
  have HLA := mkHid hla
  have HLB := mkHid hlb
  have HE := mkHid E
  clear hv hu hla hlb E
  simp only [vPr]
  go_enter Tryd.func8, Tryd.ntmps8
  go_wp2
  have hp0 : (w.alloc (.cells #[.int .i64 a0, .int .i64 a1, .int .i64 a2, .int .i64 a3, .int .i64 a4, .int .i64 a5, .int .i64 a6, .int .i64 a7, .slice xa ps.length xc, .int .i64 b0, .int .i64 b1, .int .i64 b2, .int .i64 b3, .int .i64 b4, .int .i64 b5, .int .i64 b6, .int .i64 b7, .slice ya qs.length yc, .int .i64 i, .int .u8 t] 77)).heap[w.heap.size]? = some (.cells #[.int .i64 a0, .int .i64 a1, .int .i64 a2, .int .i64 a3, .int .i64 a4, .int .i64 a5, .int .i64 a6, .int .i64 a7, .slice xa ps.length xc, .int .i64 b0, .int .i64 b1, .int .i64 b2, .int .i64 b3, .int .i64 b4, .int .i64 b5, .int .i64 b6, .int .i64 b7, .slice ya qs.length yc, .int .i64 i, .int .u8 t] 77 (0, 0)) := heap_alloc_new w _
  have HP0 := mkHid hp0
  clear hp0
  refine wp_region_held_drew (S := fun w' => w'.cell? ⟨w.heap.size, 0, none⟩ = some (.int .i64 a0) ∧ w'.cell? ⟨w.heap.size, 1, none⟩ = some (.int .i64 a1) ∧ w'.cell? ⟨w.heap.size, 2, none⟩ = some (.int .i64 a2) ∧ w'.cell? ⟨w.heap.size, 3, none⟩ = some (.int .i64 a3) ∧ w'.cell? ⟨w.heap.size, 4, none⟩ = some (.int .i64 a4) ∧ w'.cell? ⟨w.heap.size, 5, none⟩ = some (.int .i64 a5) ∧ w'.cell? ⟨w.heap.size, 6, none⟩ = some (.int .i64 a6) ∧ w'.cell? ⟨w.heap.size, 7, none⟩ = some (.int .i64 a7) ∧ w'.cell? ⟨w.heap.size, 8, none⟩ = some (.slice xa ps.length xc) ∧ w'.cell? ⟨w.heap.size, 9, none⟩ = some (.int .i64 b0) ∧ w'.cell? ⟨w.heap.size, 10, none⟩ = some (.int .i64 b1) ∧ w'.cell? ⟨w.heap.size, 11, none⟩ = some (.int .i64 b2) ∧ w'.cell? ⟨w.heap.size, 12, none⟩ = some (.int .i64 b3) ∧ w'.cell? ⟨w.heap.size, 13, none⟩ = some (.int .i64 b4) ∧ w'.cell? ⟨w.heap.size, 14, none⟩ = some (.int .i64 b5) ∧ w'.cell? ⟨w.heap.size, 15, none⟩ = some (.int .i64 b6) ∧ w'.cell? ⟨w.heap.size, 16, none⟩ = some (.int .i64 b7) ∧ w'.cell? ⟨w.heap.size, 17, none⟩ = some (.slice ya qs.length yc) ∧ w'.cell? ⟨w.heap.size, 18, none⟩ = some (.int .i64 i) ∧ w'.cell? ⟨w.heap.size, 19, none⟩ = some (.int .u8 t)) (by kernel_rfl) (pair_cells (W := (w.alloc (.cells #[.int .i64 a0, .int .i64 a1, .int .i64 a2, .int .i64 a3, .int .i64 a4, .int .i64 a5, .int .i64 a6, .int .i64 a7, .slice xa ps.length xc, .int .i64 b0, .int .i64 b1, .int .i64 b2, .int .i64 b3, .int .i64 b4, .int .i64 b5, .int .i64 b6, .int .i64 b7, .slice ya qs.length yc, .int .i64 i, .int .u8 t] 77)).drew) HP0.out) (fun hHeld => ?_)
  refine takeD 0 13 (.pointer (some ⟨w.heap.size, 0, none⟩)) rfl rfl (by kernel_rfl) (by kernel_rfl) (by kernel_rfl) (fun _ _ _ h => h) (Or.inl ⟨by kernel_rfl, by intro w hSw; (try dsimp only at hSw); go_simp⟩) hHeld ?_
  simp only [List.set_cons_zero, List.set_cons_succ]
  refine takeD 1 14 (.agg #[.int .i64 a0, .int .i64 a1, .int .i64 a2, .int .i64 a3, .int .i64 a4, .int .i64 a5, .int .i64 a6, .int .i64 a7, .slice xa ps.length xc]) rfl rfl (by kernel_rfl) (by kernel_rfl) (by kernel_rfl) (fun _ _ _ h => h) (Or.inl ⟨by kernel_rfl, by intro w hSw; (try dsimp only at hSw); go_simp⟩) hHeld ?_
  simp only [List.set_cons_zero, List.set_cons_succ]
  refine takeD 2 15 (.pointer (some ⟨w.heap.size, 9, none⟩)) rfl rfl (by kernel_rfl) (by kernel_rfl) (by kernel_rfl) (fun _ _ _ h => h) (Or.inl ⟨by kernel_rfl, by intro w hSw; (try dsimp only at hSw); go_simp⟩) hHeld ?_
  simp only [List.set_cons_zero, List.set_cons_succ]
  refine takeD 3 16 (.agg #[.int .i64 b0, .int .i64 b1, .int .i64 b2, .int .i64 b3, .int .i64 b4, .int .i64 b5, .int .i64 b6, .int .i64 b7, .slice ya qs.length yc]) rfl rfl (by kernel_rfl) (by kernel_rfl) (by kernel_rfl) (fun _ _ _ h => h) (Or.inl ⟨by kernel_rfl, by intro w hSw; (try dsimp only at hSw); go_simp⟩) hHeld ?_
  simp only [List.set_cons_zero, List.set_cons_succ]
  refine takeD 4 17 (.pointer (some ⟨w.heap.size, 18, none⟩)) rfl rfl (by kernel_rfl) (by kernel_rfl) (by kernel_rfl) (fun _ _ _ h => h) (Or.inl ⟨by kernel_rfl, by intro w hSw; (try dsimp only at hSw); go_simp⟩) hHeld ?_
  simp only [List.set_cons_zero, List.set_cons_succ]
  refine takeD 5 18 (.int .i64 i) rfl rfl (by kernel_rfl) (by kernel_rfl) (by kernel_rfl) (fun _ _ _ h => h) (Or.inl ⟨by kernel_rfl, by intro w hSw; (try dsimp only at hSw); go_simp⟩) hHeld ?_
  simp only [List.set_cons_zero, List.set_cons_succ]
  refine takeD 6 19 (.pointer (some ⟨w.heap.size, 19, none⟩)) rfl rfl (by kernel_rfl) (by kernel_rfl) (by kernel_rfl) (fun _ _ _ h => h) (Or.inl ⟨by kernel_rfl, by intro w hSw; (try dsimp only at hSw); go_simp⟩) hHeld ?_
  simp only [List.set_cons_zero, List.set_cons_succ]
  refine takeD 7 20 (.int .u8 t) rfl rfl (by kernel_rfl) (by kernel_rfl) (by kernel_rfl) (fun _ _ _ h => h) (Or.inl ⟨by kernel_rfl, by intro w hSw; (try dsimp only at hSw); go_simp⟩) hHeld ?_
  simp only [List.set_cons_zero, List.set_cons_succ]
  clear hHeld
  refine wpAnyH_ready (rs := [8, 9]) (by kernel_rfl) (by simp) (AllReadyH.cons rfl (fun K hK => ?_) (AllReadyH.cons rfl (fun K hK => ?_) AllReadyH.nil))
  all_goals go_simp
  case' refine_1 =>
    skip
    refine hK.out _ _ (pair_cells ((heap_alloc_old _ _ (by simp)).trans HP0.out)) (fun hHeld => ?_)
    clear hK K hHeld
    (try simp only [Act.put])
    refine wpAnyH_ready (rs := [9]) (by kernel_rfl) (by simp) (AllReadyH.cons rfl (fun K hK => ?_) AllReadyH.nil)
    go_simp
    refine hK.out _ _ (pair_cells ((heap_alloc_old _ _ (by simp; omega)).trans ((heap_alloc_old _ _ (by simp)).trans HP0.out))) (fun hHeld => ?_)
    clear hK K hHeld
    (try simp only [Act.put])
    refine wpAnyH_ready (rs := [10]) (by kernel_rfl) (by simp) (AllReadyH.cons rfl (fun K hK => ?_) AllReadyH.nil)
    go_simp
    refine hK.out _ _ (pair_cells ((heap_alloc_old _ _ (by simp; omega)).trans ((heap_alloc_old _ _ (by simp)).trans HP0.out))) (fun hHeld => ?_)
    clear hK K hHeld
    (try simp only [Act.put])
    refine wpAnyH_ready (rs := [11]) (by kernel_rfl) (by simp) (AllReadyH.cons rfl (fun K hK => ?_) AllReadyH.nil)
    go_simp
    refine hK.out _ _ (pair_cells ((heap_alloc_old _ _ (by simp; omega)).trans ((heap_alloc_old _ _ (by simp)).trans HP0.out))) (fun hHeld => ?_)
    clear hK K
    (try simp only [Act.put])
    refine takeD 12 5 (.int .i64 i) rfl rfl (by kernel_rfl) (by kernel_rfl) (by kernel_rfl) (fun _ _ _ h => h) (Or.inl ⟨by kernel_rfl, by intro w hSw; (try dsimp only at hSw); go_simp⟩) hHeld ?_
    simp only [List.set_cons_zero, List.set_cons_succ]
    refine takeD 13 6 (.int .u8 t) rfl rfl (by kernel_rfl) (by kernel_rfl) (by kernel_rfl) (fun _ _ _ h => h) (Or.inl ⟨by kernel_rfl, by intro w hSw; (try dsimp only at hSw); go_simp⟩) hHeld ?_
    simp only [List.set_cons_zero, List.set_cons_succ]
    refine wpAnyH_done (by kernel_rfl) ?_ _
    clear hHeld
    have HW : Hid (FU w (((w.alloc (.cells #[.int .i64 a0, .int .i64 a1, .int .i64 a2, .int .i64 a3, .int .i64 a4, .int .i64 a5, .int .i64 a6, .int .i64 a7, .slice xa ps.length xc, .int .i64 b0, .int .i64 b1, .int .i64 b2, .int .i64 b3, .int .i64 b4, .int .i64 b5, .int .i64 b6, .int .i64 b7, .slice ya qs.length yc, .int .i64 i, .int .u8 t] 77)).alloc (cM ⟨a0, a1, a2, a3, a4, a5, a6, a7, al⟩ (.slice xa ps.length xc))).alloc (cM ⟨b0, b1, b2, b3, b4, b5, b6, b7, bl⟩ (.slice ya qs.length yc))).drew (w.heap.size + 1) (w.heap.size + 1 + 1) ⟨a0, a1, a2, a3, a4, a5, a6, a7, al⟩ ⟨b0, b1, b2, b3, b4, b5, b6, b7, bl⟩ (.slice xa ps.length xc) (.slice ya qs.length yc)) := mkHid (fu_one w _ _ _ _ _)
    revert HW
    generalize (((w.alloc (.cells #[.int .i64 a0, .int .i64 a1, .int .i64 a2, .int .i64 a3, .int .i64 a4, .int .i64 a5, .int .i64 a6, .int .i64 a7, .slice xa ps.length xc, .int .i64 b0, .int .i64 b1, .int .i64 b2, .int .i64 b3, .int .i64 b4, .int .i64 b5, .int .i64 b6, .int .i64 b7, .slice ya qs.length yc, .int .i64 i, .int .u8 t] 77)).alloc (cM ⟨a0, a1, a2, a3, a4, a5, a6, a7, al⟩ (.slice xa ps.length xc))).alloc (cM ⟨b0, b1, b2, b3, b4, b5, b6, b7, bl⟩ (.slice ya qs.length yc))).drew = W1
    generalize w.heap.size + 1 + 1 = B
    generalize w.heap.size + 1 = A
    intro HW
  case' refine_2 =>
    skip
    refine hK.out _ _ (pair_cells ((heap_alloc_old _ _ (by simp)).trans HP0.out)) (fun hHeld => ?_)
    clear hK K hHeld
    (try simp only [Act.put])
    refine wpAnyH_ready (rs := [8]) (by kernel_rfl) (by simp) (AllReadyH.cons rfl (fun K hK => ?_) AllReadyH.nil)
    go_simp
    refine hK.out _ _ (pair_cells ((heap_alloc_old _ _ (by simp; omega)).trans ((heap_alloc_old _ _ (by simp)).trans HP0.out))) (fun hHeld => ?_)
    clear hK K hHeld
    (try simp only [Act.put])
    refine wpAnyH_ready (rs := [10]) (by kernel_rfl) (by simp) (AllReadyH.cons rfl (fun K hK => ?_) AllReadyH.nil)
    go_simp
    refine hK.out _ _ (pair_cells ((heap_alloc_old _ _ (by simp; omega)).trans ((heap_alloc_old _ _ (by simp)).trans HP0.out))) (fun hHeld => ?_)
    clear hK K hHeld
    (try simp only [Act.put])
    refine wpAnyH_ready (rs := [11]) (by kernel_rfl) (by simp) (AllReadyH.cons rfl (fun K hK => ?_) AllReadyH.nil)
    go_simp
    refine hK.out _ _ (pair_cells ((heap_alloc_old _ _ (by simp; omega)).trans ((heap_alloc_old _ _ (by simp)).trans HP0.out))) (fun hHeld => ?_)
    clear hK K
    (try simp only [Act.put])
    refine takeD 12 5 (.int .i64 i) rfl rfl (by kernel_rfl) (by kernel_rfl) (by kernel_rfl) (fun _ _ _ h => h) (Or.inl ⟨by kernel_rfl, by intro w hSw; (try dsimp only at hSw); go_simp⟩) hHeld ?_
    simp only [List.set_cons_zero, List.set_cons_succ]
    refine takeD 13 6 (.int .u8 t) rfl rfl (by kernel_rfl) (by kernel_rfl) (by kernel_rfl) (fun _ _ _ h => h) (Or.inl ⟨by kernel_rfl, by intro w hSw; (try dsimp only at hSw); go_simp⟩) hHeld ?_
    simp only [List.set_cons_zero, List.set_cons_succ]
    refine wpAnyH_done (by kernel_rfl) ?_ _
    clear hHeld
    have HW : Hid (FU w (((w.alloc (.cells #[.int .i64 a0, .int .i64 a1, .int .i64 a2, .int .i64 a3, .int .i64 a4, .int .i64 a5, .int .i64 a6, .int .i64 a7, .slice xa ps.length xc, .int .i64 b0, .int .i64 b1, .int .i64 b2, .int .i64 b3, .int .i64 b4, .int .i64 b5, .int .i64 b6, .int .i64 b7, .slice ya qs.length yc, .int .i64 i, .int .u8 t] 77)).alloc (cM ⟨b0, b1, b2, b3, b4, b5, b6, b7, bl⟩ (.slice ya qs.length yc))).alloc (cM ⟨a0, a1, a2, a3, a4, a5, a6, a7, al⟩ (.slice xa ps.length xc))).drew (w.heap.size + 1 + 1) (w.heap.size + 1) ⟨a0, a1, a2, a3, a4, a5, a6, a7, al⟩ ⟨b0, b1, b2, b3, b4, b5, b6, b7, bl⟩ (.slice xa ps.length xc) (.slice ya qs.length yc)) := mkHid (fu_two w _ _ _ _ _)
    revert HW
    generalize (((w.alloc (.cells #[.int .i64 a0, .int .i64 a1, .int .i64 a2, .int .i64 a3, .int .i64 a4, .int .i64 a5, .int .i64 a6, .int .i64 a7, .slice xa ps.length xc, .int .i64 b0, .int .i64 b1, .int .i64 b2, .int .i64 b3, .int .i64 b4, .int .i64 b5, .int .i64 b6, .int .i64 b7, .slice ya qs.length yc, .int .i64 i, .int .u8 t] 77)).alloc (cM ⟨b0, b1, b2, b3, b4, b5, b6, b7, bl⟩ (.slice ya qs.length yc))).alloc (cM ⟨a0, a1, a2, a3, a4, a5, a6, a7, al⟩ (.slice xa ps.length xc))).drew = W1
    generalize w.heap.size + 1 + 1 = A
    generalize w.heap.size + 1 = B
    intro HW
  all_goals go_wp2_with (first
    | (go_at_call 20; refine (speaks_any W1 es (HE.out.late HW.out.bel)).mono ?_; rintro r w1 ⟨rfl, b1⟩; have HB1 : Hid (Below W1.heap.size W1 w1) := mkHid b1; clear b1; obtain ⟨p0, p1, p2, p3, p4, p5, p6, p7, p8⟩ := msg_cells (HW.out.oa _ HB1.out); obtain ⟨q0, q1, q2, q3, q4, q5, q6, q7, q8⟩ := msg_cells (HW.out.ob _ HB1.out))
    | (go_at_call 23; (with_reducible refine (putM_yes w1 ⟨a0, a1, a2, a3, a4, a5, a6, a7, al⟩ _ ps es (HV.out.below (HW.out.low HB1.out)) HLA.out (err_at (HE.out.late (HW.out.low HB1.out))) HFA.out).mono ?_); rintro r w2 ⟨v2, rfl, ho2, b2⟩; obtain ⟨n1, hn1⟩ : ∃ n1, n1 = (sealM ⟨a0, a1, a2, a3, a4, a5, a6, a7, al⟩).length := ⟨_, rfl⟩; rw [← hn1] at ho2; obtain ⟨xa2, xc2, rfl⟩ := own_shape ho2; clear ho2 hn1; have HB2 := mkHid (bt HB1.out b2); clear p0 p1 p2 p3 p4 p5 p6 p7 p8; clear q0 q1 q2 q3 q4 q5 q6 q7 q8; obtain ⟨p0, p1, p2, p3, p4, p5, p6, p7, p8⟩ := msg_cells (HW.out.oa _ HB2.out); obtain ⟨q0, q1, q2, q3, q4, q5, q6, q7, q8⟩ := msg_cells (HW.out.ob _ HB2.out); clear b2)
    | (go_at_call 23; refine (putM_no w2 ⟨b0, b1, b2, b3, b4, b5, b6, b7, bl⟩ _ qs es (HU.out.below (HW.out.low HB2.out)) HLB.out (err_at (HE.out.late (HW.out.low HB2.out))) HFB.out).mono ?_; rintro r w3 ⟨rfl, b3⟩; have HB3 := mkHid (bt HB2.out b3); clear p0 p1 p2 p3 p4 p5 p6 p7 p8; clear q0 q1 q2 q3 q4 q5 q6 q7 q8; obtain ⟨p0, p1, p2, p3, p4, p5, p6, p7, p8⟩ := msg_cells (HW.out.oa _ HB3.out); obtain ⟨q0, q1, q2, q3, q4, q5, q6, q7, q8⟩ := msg_cells (HW.out.ob _ HB3.out); clear b3)
    | (go_at_call 25; (with_reducible refine (inFM_yes w3 ⟨a0, a1, a2, a3, a4, a5, a6, a7, al⟩ _ ps (HV.out.below (HW.out.low HB3.out)) HLA.out HFA.out).mono ?_); rintro r w4 ⟨rfl, b4⟩; have HB4 := mkHid (bt HB3.out b4); clear p0 p1 p2 p3 p4 p5 p6 p7 p8; clear q0 q1 q2 q3 q4 q5 q6 q7 q8; obtain ⟨q0, q1, q2, q3, q4, q5, q6, q7, q8⟩ := msg_cells (HW.out.ob _ HB4.out); clear b4)
    | (go_at_call 25; refine (inFM_no w4 ⟨b0, b1, b2, b3, b4, b5, b6, b7, bl⟩ _ qs (HU.out.below (HW.out.low HB4.out)) HLB.out HFB.out).mono ?_; rintro r w5 ⟨rfl, b5⟩; have HB5 := mkHid (bt HB4.out b5); clear b5))
  all_goals go_ret
  all_goals exact ⟨rfl, HW.out.low HB5.out⟩
end Go.Proofs.YtaiklaipdocdmaaDoor
