/- The other area with a snapshot that begins the log anew. -/
import Derived.Test.YtcbimclgodkflaaDoorWwith
namespace Go.Proofs.YtcbimclgodkflaaDoor
open Go.ChangeShapes Go.WideShapes Go.ChangeAt Go.RowKit
set_option maxRecDepth 100000

/-- What anew answers, where there is room. -/
def AnewPost (w : World) (fr2 en2 : Nat) (t : Rp) (e : Ending) (w' : World) : Prop :=
  ∃ (v' z : Value) (F' : Nat → Prop), e = .returned (.tuple #[.agg #[.int .i64 (fr2 : Int), .int .i64 (en2 : Int), v', .int .i64 ((fr2 : Int) + (npc (frm t.1).length : Int))], z, .nilIface]) ∧ Recs F' w' v' [t] ∧ (∀ k, F' k → (dv t).ownBlock = some k ∨ w.heap.size ≤ k) ∧ Rd w' z (frm t.1) ∧ (∀ k, z.ownBlock = some k → w.heap.size ≤ k ∧ k < w'.heap.size ∧ ¬ F' k) ∧ Below w.heap.size w w'
set_option maxHeartbeats 25600000 in
theorem anew_ok {F : Nat → Prop} (w : World) (fr en nx fr2 en2 gn g1 ep : Nat) (va da : Option Addr) (vc dc : Nat) (ts : List Rp) (data : List Int) (h : Recs F w (.slice va ts.length vc) ts) (hg : (gn : Int) ≤ 1099511627775) (hg1 : g1 = gn + 1) (hep : ep ≤ 1099511627776) (hd : data.length ≤ 32000) (hrd : Rd w (.slice da data.length dc) data) (hdb : ∀ k, (Value.slice da data.length dc).ownBlock = some k → k < w.heap.size) (hfit : fr2 + npc (frm (⟨g1, ep, 0, data⟩ : Rc)).length ≤ en2) (hen : en2 ≤ 1000000)
    (hot : ∀ W, Calls Tryd.prog 53 #[.agg #[.int .i64 (fr : Int), .int .i64 (en : Int), .slice va ts.length vc, .int .i64 (nx : Int)]] W fun e w' => e = .returned (.agg #[.int .i64 (fr2 : Int), .int .i64 (en2 : Int), .slice none 0 0, .int .i64 (fr2 : Int)]) ∧ Below W.heap.size W w')
    (hla : ∀ W, Below w.heap.size w W → Calls Tryd.prog 41 #[.agg #[.int .i64 (fr : Int), .int .i64 (en : Int), .slice va ts.length vc, .int .i64 (nx : Int)]] W fun e w' => ∃ (ge gi : Int) (gd : Option Addr) (gl gc : Nat), e = .returned (.agg #[.int .i64 (gn : Int), .int .i64 ge, .int .i64 gi, .slice gd gl gc]) ∧ Below W.heap.size W w') :
    Calls Tryd.prog 29 #[.agg #[.int .i64 (fr : Int), .int .i64 (en : Int), .slice va ts.length vc, .int .i64 (nx : Int)], .int .i64 (ep : Int), .slice da data.length dc] w (AnewPost w fr2 en2 ((⟨g1, ep, 0, data⟩ : Rc), da, dc)) := by
  have HOT := mkHid hot
  have HLA := mkHid hla
  have HR := mkHid h
  have hw1 : IntKind.i64.wrap ((gn : Int) + 1) = (g1 : Int) := by rw [IntKind.wrap_i64]; omega
  have HOK : Hid ((⟨g1, ep, 0, data⟩ : Rc).ok) := mkHid ⟨by simp only; omega, hep, by simp, by simp only; omega, hrd.1⟩
  have HDL : Hid (data.length ≤ 32000) := mkHid hd
  have HRD := mkHid hrd
  have HDB := mkHid hdb
  have HFIT := mkHid (And.intro hfit hen)
  clear hot hla h hd hrd hdb hfit hen hep hg1 hg
  go_enter Tryd.func29, Tryd.ntmps29
  go_wp2
  obtain ⟨b0, hb0⟩ : ∃ b0, b0 = w.heap.size := ⟨_, rfl⟩
  obtain ⟨W0, hW0⟩ : ∃ W0, W0 = (w.alloc (oA (.int .i64 (fr : Int)) (.int .i64 (en : Int)) (.slice va ts.length vc) (.int .i64 (nx : Int)))).alloc oAZ := ⟨_, rfl⟩
  have HB0 : Hid (Below w.heap.size w W0.drew) := mkHid (by rw [hW0]; exact (((Below.refl _ w).alloc (Nat.le_refl _) _).alloc (by simp) _).drew)
  have HX0 : Hid (W0.drew.heap[b0]? = some (oA (.int .i64 (fr : Int)) (.int .i64 (en : Int)) (.slice va ts.length vc) (.int .i64 (nx : Int))) ∧ W0.drew.heap[b0 + 1]? = some oAZ) := mkHid (by rw [hW0, hb0]; exact ⟨by show ((w.alloc _).alloc _).heap[w.heap.size]? = _; rw [heap_alloc_old _ _ (by simp)]; exact heap_alloc_new w _, atwo_new w _ _⟩)
  have HS0 : Hid (b0 + 2 ≤ W0.drew.heap.size ∧ b0 = w.heap.size) := mkHid ⟨by show b0 + 2 ≤ W0.heap.size; rw [hW0, hb0]; simp, hb0⟩
  rw [← hW0, ← hb0]
  clear hW0 hb0
  obtain ⟨a0, a1, a2, a3, _, _, _, _⟩ := four_facts HX0.out.1
  refine wp_region_held_drew (S := fun w' => w'.cell? ⟨b0, 0, none⟩ = some (.int .i64 (fr : Int)) ∧ w'.cell? ⟨b0, 1, none⟩ = some (.int .i64 (en : Int)) ∧ w'.cell? ⟨b0, 2, none⟩ = some (.slice va ts.length vc) ∧ w'.cell? ⟨b0, 3, none⟩ = some (.int .i64 (nx : Int))) (by kernel_rfl) ⟨a0, a1, a2, a3⟩ (fun hHeld => ?_)
  clear a0 a1 a2 a3
  refine takeD 0 9 (.agg #[.int .i64 (fr : Int), .int .i64 (en : Int), .slice va ts.length vc, .int .i64 (nx : Int)]) rfl rfl (by kernel_rfl) (by kernel_rfl) (by kernel_rfl) (fun _ _ _ h => h) (Or.inl ⟨by kernel_rfl, by intro w hSw; (try dsimp only at hSw); go_simp⟩) hHeld ?_
  simp only [List.set_cons_zero, List.set_cons_succ]
  refine takeD 2 11 (.agg #[.int .i64 (fr : Int), .int .i64 (en : Int), .slice va ts.length vc, .int .i64 (nx : Int)]) rfl rfl (by kernel_rfl) (by kernel_rfl) (by kernel_rfl) (fun _ _ _ h => h) (Or.inl ⟨by kernel_rfl, by intro w hSw; (try dsimp only at hSw); go_simp⟩) hHeld ?_
  simp only [List.set_cons_zero, List.set_cons_succ]
  refine takeD 6 15 (.int .i64 (ep : Int)) rfl rfl (by kernel_rfl) (by kernel_rfl) (by kernel_rfl) (fun _ _ _ h => h) (Or.inl ⟨by kernel_rfl, by intro w hSw; (try dsimp only at hSw); go_simp⟩) hHeld ?_
  simp only [List.set_cons_zero, List.set_cons_succ]
  refine takeD 7 16 (.slice da data.length dc) rfl rfl (by kernel_rfl) (by kernel_rfl) (by kernel_rfl) (fun _ _ _ h => h) (Or.inl ⟨by kernel_rfl, by intro w hSw; (try dsimp only at hSw); go_simp⟩) hHeld ?_
  simp only [List.set_cons_zero, List.set_cons_succ]
  refine wpAnyH_ready (rs := [1]) (by kernel_rfl) (by simp) (AllReadyH.cons rfl (fun K hK => ?_) AllReadyH.nil)
  go_simp
  refine (HOT.out W0.drew).mono ?_
  rintro e w2 ⟨rfl, b2⟩
  have HB2 := mkHid b2
  refine hK.out _ _ ⟨cell_lat b2 hHeld.1, cell_lat b2 hHeld.2.1, cell_lat b2 hHeld.2.2.1, cell_lat b2 hHeld.2.2.2⟩ (fun hHeld => ?_)
  clear hK K b2
  refine wpAnyH_ready (rs := [3]) (by kernel_rfl) (by simp) (AllReadyH.cons rfl (fun K hK => ?_) AllReadyH.nil)
  go_simp
  refine (HLA.out w2 ((HB0.out.trans (HB2.out.mono HB0.out.size)))).mono ?_
  rintro e w3 ⟨ge, gi, gd, gl, gc, rfl, b3⟩
  have HB3 := mkHid b3
  refine hK.out _ _ ⟨cell_lat b3 hHeld.1, cell_lat b3 hHeld.2.1, cell_lat b3 hHeld.2.2.1, cell_lat b3 hHeld.2.2.2⟩ (fun hHeld => ?_)
  clear hK K b3
  have hfg : ∀ W, (Instr.field 92 (.agg #[.int .i64 (gn : Int), .int .i64 ge, .int .i64 gi, .slice gd gl gc]) 0).run Tryd.prog W = .ok (.int .i64 (gn : Int)) W := fun W => field_gen _ _ _ _ _ _ W
  refine takeD 4 13 (.int .i64 (gn : Int)) rfl rfl (by kernel_rfl) (by kernel_rfl) (by kernel_rfl) (fun _ _ _ h => h) (Or.inl ⟨by kernel_rfl, by intro w hSw; (try dsimp only at hSw); go_simp⟩) hHeld ?_
  simp only [List.set_cons_zero, List.set_cons_succ]
  refine takeD 5 14 (.int .i64 (g1 : Int)) rfl rfl (by kernel_rfl) (by kernel_rfl) (by kernel_rfl) (fun _ _ _ h => h) (Or.inl ⟨by kernel_rfl, by intro w hSw; (try dsimp only at hSw); go_simp⟩) hHeld ?_
  simp only [List.set_cons_zero, List.set_cons_succ]
  refine takeD 8 17 (  .agg #[.int .i64 (g1 : Int), .int .i64 (ep : Int), .int .i64 0, .slice da data.length dc]) rfl rfl (by kernel_rfl) (by kernel_rfl) (by kernel_rfl) (fun _ _ _ h => h) (Or.inl ⟨by kernel_rfl, by intro w hSw; (try dsimp only at hSw); go_simp⟩) hHeld ?_
  simp only [List.set_cons_zero, List.set_cons_succ]
  have HB3b : Hid (Below w.heap.size w w3) := mkHid ((HB0.out.trans (HB2.out.mono HB0.out.size)).trans (HB3.out.mono (Nat.le_trans HB0.out.size HB2.out.size)))
  have HX3 : Hid (w3.heap[b0 + 1]? = some oAZ ∧ b0 + 2 ≤ w3.heap.size) := mkHid ⟨by rw [HB3.out.block _ (by have := HS0.out.1; have := HB2.out.size; omega), HB2.out.block _ (by have := HS0.out.1; omega)]; exact HX0.out.2, by have := HS0.out.1; have := HB2.out.size; have := HB3.out.size; omega⟩
  refine wpAnyH_ready (rs := [9]) (by kernel_rfl) (by simp) (AllReadyH.cons rfl (fun K hK => ?_) AllReadyH.nil)
  go_simp
  refine (with_ok w3 fr2 en2 fr2 (.slice none 0 0) [] ((⟨g1, ep, 0, data⟩ : Rc), da, dc) (Recs.nil w3) HOK.out HDL.out (HRD.out.later HB3b.out) (fun k e => ⟨Nat.lt_of_lt_of_le (HDB.out k e) HB3b.out.size, by simp [Value.ownBlock]⟩) (by simp) HFIT.out.1 HFIT.out.2).mono ?_
  rintro e w4 ⟨v4, z4, F4, rfl, hR4, hF4, hz4, hzo, hk4⟩
  obtain ⟨xa, xc, rfl⟩ := hR4.shape
  obtain ⟨za, zc, rfl⟩ : ∃ a c, z4 = .slice a (frm (⟨g1, ep, 0, data⟩ : Rc)).length c := hz4.2.imp fun a h => h.imp fun c h => h.1
  have hb4 : Below w3.heap.size w3 w4 := hk4.below (fun k e => by simp [Value.ownBlock] at e) (Nat.le_refl _)
  have HB4 := mkHid hb4
  have HX4 : Hid (w4.heap[b0 + 1]? = some oAZ) := mkHid ((hb4.block _ (lt_of_heap HX3.out.1)).trans HX3.out.1)
  have HP4 := mkHid (And.intro hR4 (And.intro hF4 (And.intro hz4 hzo)))
  obtain ⟨KK, hKK⟩ : ∃ KK : Int, KK = (npc (frm (⟨g1, ep, 0, data⟩ : Rc)).length : Int) := ⟨_, rfl⟩
  obtain ⟨L, hL⟩ : ∃ L, L = (frm (⟨g1, ep, 0, data⟩ : Rc)).length := ⟨_, rfl⟩
  have HKL := mkHid (And.intro hKK hL)
  simp only [List.nil_append, List.length_singleton]
  rw [← hKK]
  rw [← hL]
  refine hK.out _ _ ⟨cell_lat hb4 hHeld.1, cell_lat hb4 hHeld.2.1, cell_lat hb4 hHeld.2.2.1, cell_lat hb4 hHeld.2.2.2⟩ (fun hHeld => ?_)
  clear hK K hR4 hF4 hz4 hzo hk4 hb4 hKK hL
  (try simp only [Act.put])
  refine takeD 10 19 (.agg #[.int .i64 (fr2 : Int), .int .i64 (en2 : Int), .slice xa 1 xc, .int .i64 ((fr2 : Int) + KK)]) rfl rfl (by kernel_rfl) (by kernel_rfl) (by kernel_rfl) (fun _ _ _ h => h) (Or.inl ⟨by kernel_rfl, by intro w hSw; (try dsimp only at hSw); go_simp⟩) hHeld ?_
  simp only [List.set_cons_zero, List.set_cons_succ]
  refine takeD 11 20 (.slice za L zc) rfl rfl (by kernel_rfl) (by kernel_rfl) (by kernel_rfl) (fun _ _ _ h => h) (Or.inl ⟨by kernel_rfl, by intro w hSw; (try dsimp only at hSw); go_simp⟩) hHeld ?_
  simp only [List.set_cons_zero, List.set_cons_succ]
  refine takeD 12 21 (.nilIface) rfl rfl (by kernel_rfl) (by kernel_rfl) (by kernel_rfl) (fun _ _ _ h => h) (Or.inl ⟨by kernel_rfl, by intro w hSw; (try dsimp only at hSw); go_simp⟩) hHeld ?_
  simp only [List.set_cons_zero, List.set_cons_succ]
  obtain ⟨c0, c1, c2, c3, fc0, fc1, fc2, fc3⟩ := azero_facts HX4.out
  refine wpAnyH_ready (rs := [13]) (by kernel_rfl) (by simp) (AllReadyH.cons rfl (fun K hK => ?_) AllReadyH.nil)
  go_simp
  have HK7 := mkHid (kept_four (F := fun k => k = b0 + 1) (R := b0 + 1) (Kept.refl _ w4) rfl (.int .i64 (fr2 : Int)) (.int .i64 (en2 : Int)) (.slice xa 1 xc) (.int .i64 ((fr2 : Int) + KK)))
  have hnb : ¬ (b0 : Nat) = b0 + 1 := by omega
  refine hK.out _ _ ⟨HK7.out.cell hHeld.1 hnb, HK7.out.cell hHeld.2.1 hnb, HK7.out.cell hHeld.2.2.1 hnb, HK7.out.cell hHeld.2.2.2 hnb⟩ (fun hHeld => ?_)
  clear hK K
  (try simp only [Act.put])
  refine takeD 14 7 (.slice za L zc) rfl rfl (by kernel_rfl) (by kernel_rfl) (by kernel_rfl) (fun _ _ _ h => h) (Or.inl ⟨by kernel_rfl, by intro w hSw; (try dsimp only at hSw); go_simp⟩) hHeld ?_
  simp only [List.set_cons_zero, List.set_cons_succ]
  refine takeD 15 8 (.nilIface) rfl rfl (by kernel_rfl) (by kernel_rfl) (by kernel_rfl) (fun _ _ _ h => h) (Or.inl ⟨by kernel_rfl, by intro w hSw; (try dsimp only at hSw); go_simp⟩) hHeld ?_
  simp only [List.set_cons_zero, List.set_cons_succ]
  refine wpAnyH_done (by kernel_rfl) ?_ _
  clear hHeld c0 c1 c2 c3 fc0 fc1 fc2 fc3
  go_wp2
  have hs0 := HS0.out
  have hb34 : Below w.heap.size w w4 := HB3b.out.trans (HB4.out.mono HB3b.out.size)
  have hx3 := HX3.out.2
  have hs4 := HB4.out.size
  have hF4 : ∀ k, F4 k → (dv ((⟨g1, ep, 0, data⟩ : Rc), da, dc)).ownBlock = some k ∨ w3.heap.size ≤ k := fun k hk => by
    rcases HP4.out.2.1 k hk with a | a
    · exact a.elim
    · exact a
  have hne : ∀ k, F4 k → ¬ k = b0 + 1 := fun k hk e => by
    rcases hF4 k hk with a | a
    · have := HDB.out k a; omega
    · omega
  refine bodyPost_ret (area3_leaves rfl (afour_leaves HX4.out _ _ _ _) _ rfl) rfl ⟨.slice xa 1 xc, .slice za L zc, F4, ?_, HP4.out.1.kept HK7.out hne, fun k hk => ?_, ?_, fun k e => ?_, hb34.trans (HK7.out.below (fun k e => by omega) hb34.size)⟩
  · rw [HKL.out.1]
    rfl
  · rcases hF4 k hk with a | a
    · exact .inl a
    · exact .inr (by have := HB3b.out.size; omega)
  · have hz := HP4.out.2.2.1
    rw [← HKL.out.2] at hz
    refine hz.kept HK7.out (fun k e e2 => ?_)
    have := HP4.out.2.2.2 k (by rw [← HKL.out.2]; exact e)
    omega
  · have := HP4.out.2.2.2 k (by rw [← HKL.out.2]; exact e)
    exact ⟨by have := HB3b.out.size; omega, Nat.lt_of_lt_of_le this.2.1 HK7.out.size, this.2.2⟩
end Go.Proofs.YtcbimclgodkflaaDoor
