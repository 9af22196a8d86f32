/- A log's small calls; the other area where there is no room. -/
import Derived.Test.YtcbimclgodkflaaDoorWmove
namespace Go.Proofs.YtcbimclgodkflaaDoor
open Go.ChangeShapes Go.WideShapes Go.ChangeAt Go.RowKit
set_option maxRecDepth 100000

theorem left_is (w : World) (l p fr en nx ep : Nat) (v : Value) (h : Lg w l p fr en v nx ep) (hn : nx ≤ en) (he : en ≤ 1000000) :
    Calls Tryd.prog 22 #[.pointer (some ⟨l, 0, none⟩)] w fun e w' => e = .returned (.int .i64 (63 * ((en : Int) - (nx : Int)))) ∧ ∃ k, w' = w.drewN k := by
  obtain ⟨l0, l1, l2, l3, l4, l5, _, _, _, _⟩ := h.facts
  have w1 : IntKind.i64.wrap ((en : Int) - (nx : Int)) = (en : Int) - (nx : Int) := by rw [IntKind.wrap_i64]; omega
  have w2 : IntKind.i64.wrap (63 * ((en : Int) - (nx : Int))) = 63 * ((en : Int) - (nx : Int)) := by rw [IntKind.wrap_i64]; omega
  clear h
  go_enter Tryd.func22, Tryd.ntmps22
  go_wp2
  go_quiet (fail)
  go_wp2
  go_ret
  exact ⟨rfl, _, rfl⟩
theorem epoch_is (w : World) (l p fr en nx ep : Nat) (v : Value) (h : Lg w l p fr en v nx ep) :
    Calls Tryd.prog 24 #[.pointer (some ⟨l, 0, none⟩)] w fun e w' => e = .returned (.int .i64 (ep : Int)) ∧ w' = w := by
  obtain ⟨l0, l1, l2, l3, l4, l5, _, _, _, _⟩ := h.facts
  clear h
  go_enter Tryd.func24, Tryd.ntmps24
  go_wp2
  go_ret
  exact ⟨rfl, rfl⟩
theorem sync_ok (F : Nat → Prop) (w : World) (l p n fr en nx ep : Nat) (v : Value) (f : Int → List Int) (c : List (Int × List Int)) (nw : Int) (h : Lg w l p fr en v nx ep) (hD : Dk F w p n f c nw false) (hcl : c.length ≤ 1000000000000) :
    Calls Tryd.prog 14 #[.pointer (some ⟨l, 0, none⟩)] w fun e w' => e = .returned .nilIface ∧ Dk F w' p n (flushed f c) [] nw false ∧ Kept F w w' := by
  obtain ⟨l0, l1, l2, l3, l4, l5, _, _, _, _⟩ := h.facts
  have HF := mkHid (flush_ok F w p n f c nw hD hcl)
  clear h hD
  go_enter Tryd.func14, Tryd.ntmps14
  go_wp2_with (go_at_call 44; refine HF.out.mono ?_; rintro e w2 ⟨rfl, hd2, hk2⟩; have HD2 := mkHid (And.intro hd2 hk2); clear hd2 hk2)
  go_ret
  exact ⟨rfl, HD2.out.1, HD2.out.2⟩
set_option maxHeartbeats 25600000 in
theorem anew_full {F : Nat → Prop} (w : World) (fr en nx fr2 en2 gn g1 ep : Nat) (va da : Option Addr) (vc dc : Nat) (ts : List Rp) (data : List Int) (ef : Addr) (h : Recs F w (.slice va ts.length vc) ts) (hg : (gn : Int) ≤ 1099511627775) (hg1 : g1 = gn + 1) (hep : ep ≤ 1099511627776) (hd : data.length ≤ 32000) (hrd : Rd w (.slice da data.length dc) data) (hfit : en2 < fr2 + npc (frm (⟨g1, ep, 0, data⟩ : Rc)).length) (hen : fr2 ≤ 1000000) (hef : w.cell? ⟨4, 0, none⟩ = some (.iface 162 (.pointer (some ef))))
    (hot : ∀ W, Calls Tryd.prog 53 #[.agg #[.int .i64 (fr : Int), .int .i64 (en : Int), .slice va ts.length vc, .int .i64 (nx : Int)]] W fun e w' => e = .returned (.agg #[.int .i64 (fr2 : Int), .int .i64 (en2 : Int), .slice none 0 0, .int .i64 (fr2 : Int)]) ∧ Below W.heap.size W w')
    (hla : ∀ W, Below w.heap.size w W → Calls Tryd.prog 41 #[.agg #[.int .i64 (fr : Int), .int .i64 (en : Int), .slice va ts.length vc, .int .i64 (nx : Int)]] W fun e w' => ∃ (ge gi : Int) (gd : Option Addr) (gl gc : Nat), e = .returned (.agg #[.int .i64 (gn : Int), .int .i64 ge, .int .i64 gi, .slice gd gl gc]) ∧ Below W.heap.size W w') :
    Calls Tryd.prog 29 #[.agg #[.int .i64 (fr : Int), .int .i64 (en : Int), .slice va ts.length vc, .int .i64 (nx : Int)], .int .i64 (ep : Int), .slice da data.length dc] w fun e w' => e = .returned (.tuple #[.agg #[.int .i64 0, .int .i64 0, .slice none 0 0, .int .i64 0], .slice none 0 0, .iface 162 (.pointer (some ef))]) ∧ Below w.heap.size w w' := by
  have HOT := mkHid hot
  have HLA := mkHid hla
  have HR := mkHid h
  have hw1 : IntKind.i64.wrap ((gn : Int) + 1) = (g1 : Int) := by rw [IntKind.wrap_i64]; omega
  have HOK : Hid ((⟨g1, ep, 0, data⟩ : Rc).ok) := mkHid ⟨by simp only; omega, hep, by simp, by simp only; omega, hrd.1⟩
  have HDL : Hid (data.length ≤ 32000) := mkHid hd
  have HRD := mkHid hrd
  have HFIT := mkHid (And.intro hfit hen)
  have HEF := mkHid hef
  clear hot hla h hd hrd hfit hen hep hg1 hg hef
  go_enter Tryd.func29, Tryd.ntmps29
  go_wp2
  obtain ⟨b0, hb0⟩ : ∃ b0, b0 = w.heap.size := ⟨_, rfl⟩
  obtain ⟨W0, hW0⟩ : ∃ W0, W0 = (w.alloc (oA (.int .i64 (fr : Int)) (.int .i64 (en : Int)) (.slice va ts.length vc) (.int .i64 (nx : Int)))).alloc oAZ := ⟨_, rfl⟩
  have HB0 : Hid (Below w.heap.size w W0.drew) := mkHid (by rw [hW0]; exact (((Below.refl _ w).alloc (Nat.le_refl _) _).alloc (by simp) _).drew)
  have HX0 : Hid (W0.drew.heap[b0]? = some (oA (.int .i64 (fr : Int)) (.int .i64 (en : Int)) (.slice va ts.length vc) (.int .i64 (nx : Int))) ∧ W0.drew.heap[b0 + 1]? = some oAZ) := mkHid (by rw [hW0, hb0]; exact ⟨by show ((w.alloc _).alloc _).heap[w.heap.size]? = _; rw [heap_alloc_old _ _ (by simp)]; exact heap_alloc_new w _, atwo_new w _ _⟩)
  have HS0 : Hid (b0 + 2 ≤ W0.drew.heap.size ∧ b0 = w.heap.size) := mkHid ⟨by show b0 + 2 ≤ W0.heap.size; rw [hW0, hb0]; simp, hb0⟩
  rw [← hW0, ← hb0]
  clear hW0 hb0
  obtain ⟨a0, a1, a2, a3, _, _, _, _⟩ := four_facts HX0.out.1
  refine wp_region_held_drew (S := fun w' => w'.cell? ⟨b0, 0, none⟩ = some (.int .i64 (fr : Int)) ∧ w'.cell? ⟨b0, 1, none⟩ = some (.int .i64 (en : Int)) ∧ w'.cell? ⟨b0, 2, none⟩ = some (.slice va ts.length vc) ∧ w'.cell? ⟨b0, 3, none⟩ = some (.int .i64 (nx : Int))) (by kernel_rfl) ⟨a0, a1, a2, a3⟩ (fun hHeld => ?_)
  clear a0 a1 a2 a3
  refine takeD 0 9 (.agg #[.int .i64 (fr : Int), .int .i64 (en : Int), .slice va ts.length vc, .int .i64 (nx : Int)]) rfl rfl (by kernel_rfl) (by kernel_rfl) (by kernel_rfl) (fun _ _ _ h => h) (Or.inl ⟨by kernel_rfl, by intro w hSw; (try dsimp only at hSw); go_simp⟩) hHeld ?_
  simp only [List.set_cons_zero, List.set_cons_succ]
  refine takeD 2 11 (.agg #[.int .i64 (fr : Int), .int .i64 (en : Int), .slice va ts.length vc, .int .i64 (nx : Int)]) rfl rfl (by kernel_rfl) (by kernel_rfl) (by kernel_rfl) (fun _ _ _ h => h) (Or.inl ⟨by kernel_rfl, by intro w hSw; (try dsimp only at hSw); go_simp⟩) hHeld ?_
  simp only [List.set_cons_zero, List.set_cons_succ]
  refine takeD 6 15 (.int .i64 (ep : Int)) rfl rfl (by kernel_rfl) (by kernel_rfl) (by kernel_rfl) (fun _ _ _ h => h) (Or.inl ⟨by kernel_rfl, by intro w hSw; (try dsimp only at hSw); go_simp⟩) hHeld ?_
  simp only [List.set_cons_zero, List.set_cons_succ]
  refine takeD 7 16 (.slice da data.length dc) rfl rfl (by kernel_rfl) (by kernel_rfl) (by kernel_rfl) (fun _ _ _ h => h) (Or.inl ⟨by kernel_rfl, by intro w hSw; (try dsimp only at hSw); go_simp⟩) hHeld ?_
  simp only [List.set_cons_zero, List.set_cons_succ]
  refine wpAnyH_ready (rs := [1]) (by kernel_rfl) (by simp) (AllReadyH.cons rfl (fun K hK => ?_) AllReadyH.nil)
  go_simp
  refine (HOT.out W0.drew).mono ?_
  rintro e w2 ⟨rfl, b2⟩
  have HB2 := mkHid b2
  refine hK.out _ _ ⟨cell_lat b2 hHeld.1, cell_lat b2 hHeld.2.1, cell_lat b2 hHeld.2.2.1, cell_lat b2 hHeld.2.2.2⟩ (fun hHeld => ?_)
  clear hK K b2
  refine wpAnyH_ready (rs := [3]) (by kernel_rfl) (by simp) (AllReadyH.cons rfl (fun K hK => ?_) AllReadyH.nil)
  go_simp
  refine (HLA.out w2 ((HB0.out.trans (HB2.out.mono HB0.out.size)))).mono ?_
  rintro e w3 ⟨ge, gi, gd, gl, gc, rfl, b3⟩
  have HB3 := mkHid b3
  refine hK.out _ _ ⟨cell_lat b3 hHeld.1, cell_lat b3 hHeld.2.1, cell_lat b3 hHeld.2.2.1, cell_lat b3 hHeld.2.2.2⟩ (fun hHeld => ?_)
  clear hK K b3
  have hfg : ∀ W, (Instr.field 92 (.agg #[.int .i64 (gn : Int), .int .i64 ge, .int .i64 gi, .slice gd gl gc]) 0).run Tryd.prog W = .ok (.int .i64 (gn : Int)) W := fun W => field_gen _ _ _ _ _ _ W
  refine takeD 4 13 (.int .i64 (gn : Int)) rfl rfl (by kernel_rfl) (by kernel_rfl) (by kernel_rfl) (fun _ _ _ h => h) (Or.inl ⟨by kernel_rfl, by intro w hSw; (try dsimp only at hSw); go_simp⟩) hHeld ?_
  simp only [List.set_cons_zero, List.set_cons_succ]
  refine takeD 5 14 (.int .i64 (g1 : Int)) rfl rfl (by kernel_rfl) (by kernel_rfl) (by kernel_rfl) (fun _ _ _ h => h) (Or.inl ⟨by kernel_rfl, by intro w hSw; (try dsimp only at hSw); go_simp⟩) hHeld ?_
  simp only [List.set_cons_zero, List.set_cons_succ]
  refine takeD 8 17 (  .agg #[.int .i64 (g1 : Int), .int .i64 (ep : Int), .int .i64 0, .slice da data.length dc]) rfl rfl (by kernel_rfl) (by kernel_rfl) (by kernel_rfl) (fun _ _ _ h => h) (Or.inl ⟨by kernel_rfl, by intro w hSw; (try dsimp only at hSw); go_simp⟩) hHeld ?_
  simp only [List.set_cons_zero, List.set_cons_succ]
  have HB3b : Hid (Below w.heap.size w w3) := mkHid ((HB0.out.trans (HB2.out.mono HB0.out.size)).trans (HB3.out.mono (Nat.le_trans HB0.out.size HB2.out.size)))
  have HX3 : Hid (w3.heap[b0 + 1]? = some oAZ ∧ b0 + 2 ≤ w3.heap.size) := mkHid ⟨by rw [HB3.out.block _ (by have := HS0.out.1; have := HB2.out.size; omega), HB2.out.block _ (by have := HS0.out.1; omega)]; exact HX0.out.2, by have := HS0.out.1; have := HB2.out.size; have := HB3.out.size; omega⟩
  refine wpAnyH_ready (rs := [9]) (by kernel_rfl) (by simp) (AllReadyH.cons rfl (fun K hK => ?_) AllReadyH.nil)
  go_simp
  refine (with_full w3 fr2 en2 fr2 none 0 0 ((⟨g1, ep, 0, data⟩ : Rc), da, dc) (.iface 162 (.pointer (some ef))) HOK.out HDL.out (HRD.out.later HB3b.out) HFIT.out.1 HFIT.out.2 (cell_lat HB3b.out HEF.out)).mono ?_
  rintro e w4 ⟨rfl, hb4⟩
  have HB4 := mkHid hb4
  have HX4 : Hid (w4.heap[b0 + 1]? = some oAZ) := mkHid ((hb4.block _ (lt_of_heap HX3.out.1)).trans HX3.out.1)
  refine hK.out _ _ ⟨cell_lat hb4 hHeld.1, cell_lat hb4 hHeld.2.1, cell_lat hb4 hHeld.2.2.1, cell_lat hb4 hHeld.2.2.2⟩ (fun hHeld => ?_)
  clear hK K hb4
  (try simp only [Act.put])
  refine takeD 10 19 (.agg #[.int .i64 0, .int .i64 0, .slice none 0 0, .int .i64 0]) rfl rfl (by kernel_rfl) (by kernel_rfl) (by kernel_rfl) (fun _ _ _ h => h) (Or.inl ⟨by kernel_rfl, by intro w hSw; (try dsimp only at hSw); go_simp⟩) hHeld ?_
  simp only [List.set_cons_zero, List.set_cons_succ]
  refine takeD 11 20 (.slice none 0 0) rfl rfl (by kernel_rfl) (by kernel_rfl) (by kernel_rfl) (fun _ _ _ h => h) (Or.inl ⟨by kernel_rfl, by intro w hSw; (try dsimp only at hSw); go_simp⟩) hHeld ?_
  simp only [List.set_cons_zero, List.set_cons_succ]
  refine takeD 12 21 (.iface 162 (.pointer (some ef))) rfl rfl (by kernel_rfl) (by kernel_rfl) (by kernel_rfl) (fun _ _ _ h => h) (Or.inl ⟨by kernel_rfl, by intro w hSw; (try dsimp only at hSw); go_simp⟩) hHeld ?_
  simp only [List.set_cons_zero, List.set_cons_succ]
  obtain ⟨c0, c1, c2, c3, fc0, fc1, fc2, fc3⟩ := azero_facts HX4.out
  refine wpAnyH_ready (rs := [13]) (by kernel_rfl) (by simp) (AllReadyH.cons rfl (fun K hK => ?_) AllReadyH.nil)
  go_simp
  have HK7 := mkHid (kept_four (F := fun k => k = b0 + 1) (R := b0 + 1) (Kept.refl _ w4) rfl (.int .i64 0) (.int .i64 0) (.slice none 0 0) (.int .i64 0))
  have hnb : ¬ (b0 : Nat) = b0 + 1 := by omega
  refine hK.out _ _ ⟨HK7.out.cell hHeld.1 hnb, HK7.out.cell hHeld.2.1 hnb, HK7.out.cell hHeld.2.2.1 hnb, HK7.out.cell hHeld.2.2.2 hnb⟩ (fun hHeld => ?_)
  clear hK K
  (try simp only [Act.put])
  refine takeD 14 7 (.slice none 0 0) rfl rfl (by kernel_rfl) (by kernel_rfl) (by kernel_rfl) (fun _ _ _ h => h) (Or.inl ⟨by kernel_rfl, by intro w hSw; (try dsimp only at hSw); go_simp⟩) hHeld ?_
  simp only [List.set_cons_zero, List.set_cons_succ]
  refine takeD 15 8 (.iface 162 (.pointer (some ef))) rfl rfl (by kernel_rfl) (by kernel_rfl) (by kernel_rfl) (fun _ _ _ h => h) (Or.inl ⟨by kernel_rfl, by intro w hSw; (try dsimp only at hSw); go_simp⟩) hHeld ?_
  simp only [List.set_cons_zero, List.set_cons_succ]
  refine wpAnyH_done (by kernel_rfl) ?_ _
  clear hHeld c0 c1 c2 c3 fc0 fc1 fc2 fc3
  go_wp2
  have hs0 := HS0.out
  have hb34 : Below w.heap.size w w4 := HB3b.out.trans (HB4.out.mono HB3b.out.size)
  exact bodyPost_ret (area3_leaves rfl (afour_leaves HX4.out _ _ _ _) _ rfl) rfl ⟨rfl, hb34.trans (HK7.out.below (fun k e => by omega) hb34.size)⟩
end Go.Proofs.YtcbimclgodkflaaDoor
