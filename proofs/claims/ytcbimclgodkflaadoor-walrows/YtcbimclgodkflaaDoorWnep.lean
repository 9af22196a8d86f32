/- The epoch that a claim takes. -/
import Derived.Test.YtcbimclgodkflaaDoorWnew2
import Derived.Laws.Cover1
namespace Go.Proofs.YtcbimclgodkflaaDoor
open Go.ChangeShapes Go.WideShapes Go.ChangeAt Go.RowKit
set_option maxRecDepth 100000

theorem field_ep (a b c : Int) (d : Option Addr) (n m : Nat) (w : World) : (Instr.field 92 (.agg #[.int .i64 a, .int .i64 b, .int .i64 c, .slice d n m]) 1).run Tryd.prog w = .ok (.int .i64 b) w := by kernel_rfl
theorem cellN_le (s : List Int) : cellN s ≤ 1099511627776 := by
  unfold cellN
  split
  · rename_i h
    exact h.2.choose_spec.2
  · omega
theorem Recs.lep_le {F : Nat → Prop} {w : World} {v : Value} {ts : List Rp} (h : Recs F w v ts) : lep (ts.map (·.1)) ≤ 1099511627776 := by
  rcases List.eq_nil_or_concat ts with rfl | ⟨ts, t, rfl⟩
  · simp [lep]
  · rw [List.concat_eq_append] at *
    simpa [lep] using (h.ok t (by simp)).e
/-- The greatest epoch that a disk tells of. -/
noncomputable def topEp (g : Int → List Int) (n : Int) (rs : List Rc) : Nat := max (max (cellN (g (n - 2))) (cellN (g (n - 1)))) (lep rs)
set_option maxHeartbeats 12800000 in
theorem nextEpoch_any (F F1 : Nat → Prop) (w : World) (p n : Nat) (f : Int → List Int) (c : List (Int × List Int)) (nw : Int) (x y z v ef : Value) (ts : List Rp) (t1 t2 t3 : TypeId) (d1 d2 d3 : Value) (h : Dk F w p n f c nw false) (hn4 : 4 ≤ n) (hn2 : (n : Int) ≤ 1024) (hcl : c.length ≤ 1000000000000)
    (hr : Recs F1 w v ts) (hts : ts.length ≤ 1024) (h1 : w.cell? ⟨5, 0, none⟩ = some (.iface t1 d1)) (h2 : w.cell? ⟨3, 0, none⟩ = some (.iface t2 d2)) (h3 : w.cell? ⟨6, 0, none⟩ = some (.iface t3 d3)) (he : w.cell? ⟨4, 0, none⟩ = some ef) :
    Calls Tryd.prog 28 #[.pointer (some ⟨p, 0, none⟩), .agg #[x, y, v, z]] w fun e w' => e = .returned (if topEp (seenOf f c) n (ts.map (·.1)) + 1 ≤ 1099511627776 then .tuple #[.int .i64 (1 + (topEp (seenOf f c) n (ts.map (·.1)) : Int)), .nilIface] else .tuple #[.int .i64 0, ef]) ∧ Below w.heap.size w w' := by
  obtain ⟨va, vc, rfl⟩ := hr.shape
  obtain ⟨M, hM⟩ : ∃ M, M = topEp (seenOf f c) n (ts.map (·.1)) := ⟨_, rfl⟩
  have hMb : M ≤ 1099511627776 := by
    have a1 := cellN_le (seenOf f c ((n : Int) - 2))
    have a2 := cellN_le (seenOf f c ((n : Int) - 1))
    have a3 := hr.lep_le
    rw [hM]; unfold topEp; omega
  rw [← hM]
  unfold topEp at hM
  obtain ⟨ov, hov⟩ : ∃ ov : Value, ov = if M + 1 ≤ 1099511627776 then .tuple #[.int .i64 (1 + (M : Int)), .nilIface] else .tuple #[.int .i64 0, ef] := ⟨_, rfl⟩
  rw [← hov]
  have HOV := mkHid hov
  clear hov
  obtain ⟨W, hW⟩ : ∃ W, W = w.alloc (.cells #[x, y, .slice va ts.length vc, z] 69) := ⟨_, rfl⟩
  have hb1 : Below w.heap.size w W := by rw [hW]; exact (Below.refl _ w).alloc (Nat.le_refl _) _
  have hx1 : W.heap[w.heap.size]? = some (.cells #[x, y, .slice va ts.length vc, z] 69 (0, 0)) := by rw [hW]; exact heap_alloc_new w _
  have HX : Hid (∀ W', Below W.heap.size W W' → W'.heap[w.heap.size]? = some (.cells #[x, y, .slice va ts.length vc, z] 69 (0, 0))) := mkHid (fun W' hb => by rw [hb.block _ (lt_of_heap hx1)]; exact hx1)
  have cellA : ∀ (W' : World) (i : Int), Below W.heap.size W W' → 0 ≤ i → i < (n : Int) → Calls Tryd.prog 52 #[.pointer (some ⟨p, 0, none⟩), .int .i64 i] W' fun e w' => e = .returned (.int .i64 (cellN (seenOf f c i) : Int)) ∧ Below W'.heap.size W' w' := fun W' i hb h0 hi => by
    have hb' := hb1.trans (hb.mono hb1.size)
    exact cell_any F W' p n f c nw i t1 t2 t3 d1 d2 d3 (h.below hb') hcl h0 hi ((hb'.cell (World.block_lt_of_cell? w _ h1)).trans h1) ((hb'.cell (World.block_lt_of_cell? w _ h2)).trans h2) ((hb'.cell (World.block_lt_of_cell? w _ h3)).trans h3)
  have HC1 := mkHid (fun (W' : World) (hb : Below W.heap.size W W') => cellA W' ((n : Int) - 2) hb (by omega) (by omega))
  have HC2 := mkHid (fun (W' : World) (hb : Below W.heap.size W W') => cellA W' ((n : Int) - 1) hb (by omega) (by omega))
  have HSC := mkHid (sectors_is F W p n f c nw false (h.below hb1))
  have HR := mkHid (hr.below hb1)
  have HT := mkHid hts
  have HB := mkHid hb1
  have HEF := mkHid he
  have hn8 : IntKind.i64.wrap ((n : Int) - 2) = (n : Int) - 2 := by rw [IntKind.wrap_i64]; omega
  have hn9 : IntKind.i64.wrap ((n : Int) - 1) = (n : Int) - 1 := by rw [IntKind.wrap_i64]; omega
  have hw1 : IntKind.i64.wrap (1 + (M : Int)) = 1 + (M : Int) := by rw [IntKind.wrap_i64]; omega
  obtain ⟨q0, q1, q2, q3, _, _, _, _⟩ := four_facts hx1
  generalize cellN (seenOf f c ((n : Int) - 2)) = A at *
  generalize cellN (seenOf f c ((n : Int) - 1)) = B at *
  have HM := mkHid hM
  clear h h1 h2 h3 he hr hx1 hb1 cellA hM
  go_enter Tryd.func28, Tryd.ntmps28
  go_wp2_with (go_at_call 49; rw [← hW]; refine HSC.out.mono ?_; rintro e w1 ⟨rfl, hw1'⟩; rw [hw1']; clear hw1' hW)
  refine wp_region_held_drew (S := fun w' => w'.cell? ⟨w.heap.size, 0, none⟩ = some (x) ∧ w'.cell? ⟨w.heap.size, 1, none⟩ = some (y) ∧ w'.cell? ⟨w.heap.size, 2, none⟩ = some (.slice va ts.length vc) ∧ w'.cell? ⟨w.heap.size, 3, none⟩ = some (z)) (by kernel_rfl) ⟨q0, q1, q2, q3⟩ (fun hHeld => ?_)
  refine takeD 0 10 (.pointer (some ⟨p, 0, none⟩)) rfl rfl (by kernel_rfl) (by kernel_rfl) (by kernel_rfl) (fun _ _ _ h => h) (Or.inl ⟨by kernel_rfl, by intro w hSw; (try dsimp only at hSw); go_simp⟩) hHeld ?_
  simp only [List.set_cons_zero, List.set_cons_succ]
  refine takeD 1 11 (.int .i64 (n : Int)) rfl rfl (by kernel_rfl) (by kernel_rfl) (by kernel_rfl) (fun _ _ _ h => h) (Or.inl ⟨by kernel_rfl, by intro w hSw; (try dsimp only at hSw); go_simp⟩) hHeld ?_
  simp only [List.set_cons_zero, List.set_cons_succ]
  refine takeD 2 12 (.int .i64 ((n : Int) - 2)) rfl rfl (by kernel_rfl) (by kernel_rfl) (by kernel_rfl) (fun _ _ _ h => h) (Or.inl ⟨by kernel_rfl, by intro w hSw; (try dsimp only at hSw); go_simp⟩) hHeld ?_
  simp only [List.set_cons_zero, List.set_cons_succ]
  refine takeD 4 14 (.pointer (some ⟨p, 0, none⟩)) rfl rfl (by kernel_rfl) (by kernel_rfl) (by kernel_rfl) (fun _ _ _ h => h) (Or.inl ⟨by kernel_rfl, by intro w hSw; (try dsimp only at hSw); go_simp⟩) hHeld ?_
  simp only [List.set_cons_zero, List.set_cons_succ]
  refine takeD 5 15 (.int .i64 (n : Int)) rfl rfl (by kernel_rfl) (by kernel_rfl) (by kernel_rfl) (fun _ _ _ h => h) (Or.inl ⟨by kernel_rfl, by intro w hSw; (try dsimp only at hSw); go_simp⟩) hHeld ?_
  simp only [List.set_cons_zero, List.set_cons_succ]
  refine takeD 6 16 (.int .i64 ((n : Int) - 1)) rfl rfl (by kernel_rfl) (by kernel_rfl) (by kernel_rfl) (fun _ _ _ h => h) (Or.inl ⟨by kernel_rfl, by intro w hSw; (try dsimp only at hSw); go_simp⟩) hHeld ?_
  simp only [List.set_cons_zero, List.set_cons_succ]
  refine takeD 8 18 (.agg #[x, y, .slice va ts.length vc, z]) rfl rfl (by kernel_rfl) (by kernel_rfl) (by kernel_rfl) (fun _ _ _ h => h) (Or.inl ⟨by kernel_rfl, by intro w hSw; (try dsimp only at hSw); go_simp⟩) hHeld ?_
  simp only [List.set_cons_zero, List.set_cons_succ]
  have HB1 := mkHid ((Kept.drew (fun _ => False) W).below (B := W.heap.size) (fun _ h => h.elim) (Nat.le_refl _))
  refine wpAnyH_ready (rs := [3]) (by kernel_rfl) (by simp) (AllReadyH.cons rfl (fun K hK => ?_) AllReadyH.nil)
  go_simp
  refine (HC1.out W.drew HB1.out).mono ?_
  rintro e w2 ⟨rfl, hb6⟩
  have HB2 := mkHid (HB1.out.trans (hb6.mono HB1.out.size))
  clear hb6 hHeld q0 q1 q2 q3
  obtain ⟨q0, q1, q2, q3, _, _, _, _⟩ := four_facts (HX.out w2 HB2.out)
  refine hK.out _ _ ⟨q0, q1, q2, q3⟩ (fun hHeld => ?_)
  clear hK K
  refine wpAnyH_ready (rs := [7]) (by kernel_rfl) (by simp) (AllReadyH.cons rfl (fun K hK => ?_) AllReadyH.nil)
  go_simp
  refine (HC2.out w2 HB2.out).mono ?_
  rintro e w3 ⟨rfl, hb6⟩
  have HB3 := mkHid (HB2.out.trans (hb6.mono HB2.out.size))
  clear hb6 hHeld q0 q1 q2 q3
  obtain ⟨q0, q1, q2, q3, _, _, _, _⟩ := four_facts (HX.out w3 HB3.out)
  refine hK.out _ _ ⟨q0, q1, q2, q3⟩ (fun hHeld => ?_)
  clear hK K
  refine wpAnyH_ready (rs := [9]) (by kernel_rfl) (by simp) (AllReadyH.cons rfl (fun K hK => ?_) AllReadyH.nil)
  go_simp
  refine (last_any w3 _ _ _ _ ts (HR.out.below HB3.out) (by have := HT.out; omega)).mono ?_
  rintro e w4 ⟨⟨da, dn, dc, rfl⟩, hb6⟩
  have HB4 := mkHid (HB3.out.trans (hb6.mono HB3.out.size))
  clear hb6 hHeld q0 q1 q2 q3
  obtain ⟨q0, q1, q2, q3, _, _, _, _⟩ := four_facts (HX.out w4 HB4.out)
  refine hK.out _ _ ⟨q0, q1, q2, q3⟩ (fun hHeld => ?_)
  clear hK K
  refine takeD 10 20 (.int .i64 (lep (ts.map (·.1)) : Int)) rfl rfl (by kernel_rfl) (by kernel_rfl) (by kernel_rfl) (fun _ _ _ h => h) (Or.inl ⟨by kernel_rfl, by intro w hSw; (try dsimp only at hSw); go_simp; simp [field_ep]⟩) hHeld ?_
  simp only [List.set_cons_zero, List.set_cons_succ]
  refine takeD 11 21 (.int .i64 (M : Int)) rfl rfl (by kernel_rfl) (by kernel_rfl) (by kernel_rfl) (fun _ _ _ h => h) (Or.inl ⟨by kernel_rfl, by intro w hSw; (try dsimp only at hSw); go_simp; (have hM := HM.out; repeat (first | omega | split))⟩) hHeld ?_
  simp only [List.set_cons_zero, List.set_cons_succ]
  refine takeD 12 22 (.int .i64 (1 + (M : Int))) rfl rfl (by kernel_rfl) (by kernel_rfl) (by kernel_rfl) (fun _ _ _ h => h) (Or.inl ⟨by kernel_rfl, by intro w hSw; (try dsimp only at hSw); go_simp⟩) hHeld ?_
  simp only [List.set_cons_zero, List.set_cons_succ]
  refine takeD 13 7 (.int .i64 (1 + (M : Int))) rfl rfl (by kernel_rfl) (by kernel_rfl) (by kernel_rfl) (fun _ _ _ h => h) (Or.inl ⟨by kernel_rfl, by intro w hSw; (try dsimp only at hSw); go_simp⟩) hHeld ?_
  simp only [List.set_cons_zero, List.set_cons_succ]
  refine wpAnyH_done (by kernel_rfl) ?_ _
  have HE4 := mkHid ((HB.out.trans (HB4.out.mono HB.out.size)))
  have e4 : w4.cell? ⟨4, 0, none⟩ = some ef := (HE4.out.cell (World.block_lt_of_cell? w _ HEF.out)).trans HEF.out
  by_cases hle : M + 1 ≤ 1099511627776
  · have hgt : ¬ (1099511627776 : Int) < 1 + (M : Int) := by omega
    go_wp2
    go_ret2
    exact ⟨by rw [HOV.out, if_pos hle]; rfl, HE4.out⟩
  · have hgt : (1099511627776 : Int) < 1 + (M : Int) := by omega
    go_wp2
    go_region
    all_goals go_wp2
    all_goals go_ret2
    all_goals first | exact ⟨by rw [HOV.out, if_neg hle]; rfl, HE4.out⟩ | exact ⟨by rw [HOV.out, if_neg hle]; rfl, HE4.out.drew⟩
end Go.Proofs.YtcbimclgodkflaaDoor
