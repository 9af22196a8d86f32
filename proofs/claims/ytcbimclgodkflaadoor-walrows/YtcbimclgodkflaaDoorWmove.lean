/- A log goes on in a fresh area: moveTo. -/
import Derived.Test.YtcbimclgodkflaaDoorWclaim
namespace Go.Proofs.YtcbimclgodkflaaDoor
open Go.ChangeShapes Go.WideShapes Go.ChangeAt Go.RowKit
set_option maxRecDepth 100000

/-- A log in the block l: its disk, its area, its epoch. -/
def Lg (w : World) (l p : Nat) (fr en : Nat) (v : Value) (nx ep : Nat) : Prop := w.heap[l]? = some (.cells #[.pointer (some ⟨p, 0, none⟩), .int .i64 (fr : Int), .int .i64 (en : Int), v, .int .i64 (nx : Int), .int .i64 (ep : Int)] 78 (0, 0))
theorem Lg.facts {w : World} {l p fr en nx ep : Nat} {v : Value} (h : Lg w l p fr en v nx ep) : w.cell? ⟨l, 0, none⟩ = some (.pointer (some ⟨p, 0, none⟩)) ∧ w.cell? ⟨l, 1, none⟩ = some (.int .i64 (fr : Int)) ∧ w.cell? ⟨l, 2, none⟩ = some (.int .i64 (en : Int)) ∧ w.cell? ⟨l, 3, none⟩ = some v ∧ w.cell? ⟨l, 4, none⟩ = some (.int .i64 (nx : Int)) ∧ w.cell? ⟨l, 5, none⟩ = some (.int .i64 (ep : Int)) ∧ w.frozen? ⟨l, 1, none⟩ = false ∧ w.frozen? ⟨l, 2, none⟩ = false ∧ w.frozen? ⟨l, 3, none⟩ = false ∧ w.frozen? ⟨l, 4, none⟩ = false :=
  ⟨cell_of_block h rfl, cell_of_block h rfl, cell_of_block h rfl, cell_of_block h rfl, cell_of_block h rfl, cell_of_block h rfl, frozen_of_block h, frozen_of_block h, frozen_of_block h, frozen_of_block h⟩
theorem Lg.set {w : World} {l p fr en nx ep : Nat} {v : Value} (h : Lg w l p fr en v nx ep) (fr2 en2 nx2 : Nat) (v2 : Value) : Lg ((((w.setCell ⟨l, 1, none⟩ (.int .i64 (fr2 : Int))).setCell ⟨l, 2, none⟩ (.int .i64 (en2 : Int))).setCell ⟨l, 3, none⟩ v2).setCell ⟨l, 4, none⟩ (.int .i64 (nx2 : Int))) l p fr2 en2 v2 nx2 ep := by
  unfold Lg
  rw [heap_set (heap_set (heap_set (heap_set h)))]
  kernel_rfl
set_option maxHeartbeats 12800000 in
theorem moveTo_ok (F : Nat → Prop) (w : World) (l p n : Nat) (f : Int → List Int) (c : List (Int × List Int)) (nw : Int) (fr en nx ep fr2 en2 nx2 : Nat) (v : Value) (xa : Option Addr) (xn xc : Nat) (z : Value) (fm : List Int) (h : Dk F w p n f c nw false) (hL : Lg w l p fr en v nx ep) (hlF : ¬ F l) (hz : Rd w z fm) (hzF : ∀ k, z.ownBlock = some k → ¬ F k) (hzl : ∀ k, z.ownBlock = some k → k < w.heap.size) (hn : fr2 + npc fm.length ≤ n) (hl : (fm.length : Int) ≤ 1000000) (hn2 : (n : Int) ≤ 1024) (hcl : c.length ≤ 100000000) (hnw : 0 ≤ nw ∧ nw ≤ 100000000) :
    Calls Tryd.prog 32 #[.pointer (some ⟨l, 0, none⟩), .agg #[.int .i64 (fr2 : Int), .int .i64 (en2 : Int), .slice xa xn xc, .int .i64 (nx2 : Int)], z] w fun e w' => e = .returned .nilIface ∧ ∃ F', Dk F' w' p n (flushed f (c ++ writesOf fm (fr2 : Int) (npc fm.length))) [] (nw + (npc fm.length : Int)) false ∧ Lg w' l p fr2 en2 (.slice xa xn xc) nx2 ep ∧ (∀ k, F' k → F k ∨ w.heap.size ≤ k) ∧ Kept (fun k => F k ∨ k = l) w w' := by
  obtain ⟨za, zc, rfl⟩ : ∃ a c, z = .slice a fm.length c := hz.2.imp fun a h => h.imp fun c h => h.1
  have hll : l < w.heap.size := lt_of_heap hL
  have HLL : Hid (l < w.heap.size ∧ ¬ F l) := mkHid ⟨hll, hlF⟩
  have HD := mkHid h
  have HLG := mkHid hL
  have HZ := mkHid (And.intro hz (And.intro hzF hzl))
  have hnl : ¬ l = w.heap.size := by omega
  clear h hL hz hzF hzl hlF hll
  go_enter Tryd.func32, Tryd.ntmps32
  go_wp2
  obtain ⟨b0, hb0⟩ : ∃ b0, b0 = w.heap.size := ⟨_, rfl⟩
  obtain ⟨W0, hW0⟩ : ∃ W0, W0 = w.alloc (oA (.int .i64 (fr2 : Int)) (.int .i64 (en2 : Int)) (.slice xa xn xc) (.int .i64 (nx2 : Int))) := ⟨_, rfl⟩
  have HB0 : Hid (Below w.heap.size w W0.drew) := mkHid (by rw [hW0]; exact ((Below.refl _ w).alloc (Nat.le_refl _) _).drew)
  have HX0 : Hid (W0.drew.heap[b0]? = some (oA (.int .i64 (fr2 : Int)) (.int .i64 (en2 : Int)) (.slice xa xn xc) (.int .i64 (nx2 : Int)))) := mkHid (by rw [hW0, hb0]; exact heap_alloc_new w _)
  have HN : Hid (b0 = w.heap.size) := mkHid hb0
  have HLG0 : Hid (Lg W0.drew l p fr en v nx ep) := mkHid ((HB0.out.block l HLL.out.1).trans HLG.out)
  rw [← hW0, ← hb0]
  rw [← hb0] at hnl
  clear hW0 hb0
  refine wp_region_held_drew (S := fun w' => w'.cell? ⟨l, 0, none⟩ = some (.pointer (some ⟨p, 0, none⟩)) ∧ w'.cell? ⟨b0, 0, none⟩ = some (.int .i64 (fr2 : Int))) (by kernel_rfl) ⟨HLG0.out.facts.1, (four_facts HX0.out).1⟩ (fun hHeld => ?_)
  have HD0 := mkHid (HD.out.below HB0.out)
  generalize W0.drew = W1 at *
  refine takeD 0 9 (.pointer (some ⟨l, 0, none⟩)) rfl rfl (by kernel_rfl) (by kernel_rfl) (by kernel_rfl) (fun _ _ _ h => h) (Or.inl ⟨by kernel_rfl, by intro w hSw; (try dsimp only at hSw); go_simp⟩) hHeld ?_
  simp only [List.set_cons_zero, List.set_cons_succ]
  refine takeD 1 10 (.pointer (some ⟨l, 0, none⟩)) rfl rfl (by kernel_rfl) (by kernel_rfl) (by kernel_rfl) (fun _ _ _ h => h) (Or.inl ⟨by kernel_rfl, by intro w hSw; (try dsimp only at hSw); go_simp⟩) hHeld ?_
  simp only [List.set_cons_zero, List.set_cons_succ]
  refine takeD 2 11 (.pointer (some ⟨l, 0, none⟩)) rfl rfl (by kernel_rfl) (by kernel_rfl) (by kernel_rfl) (fun _ _ _ h => h) (Or.inl ⟨by kernel_rfl, by intro w hSw; (try dsimp only at hSw); go_simp⟩) hHeld ?_
  simp only [List.set_cons_zero, List.set_cons_succ]
  refine takeD 3 12 (.pointer (some ⟨p, 0, none⟩)) rfl rfl (by kernel_rfl) (by kernel_rfl) (by kernel_rfl) (fun _ _ _ h => h) (Or.inl ⟨by kernel_rfl, by intro w hSw; (try dsimp only at hSw); go_simp⟩) hHeld ?_
  simp only [List.set_cons_zero, List.set_cons_succ]
  refine takeD 4 13 (.pointer (some ⟨b0, 0, none⟩)) rfl rfl (by kernel_rfl) (by kernel_rfl) (by kernel_rfl) (fun _ _ _ h => h) (Or.inl ⟨by kernel_rfl, by intro w hSw; (try dsimp only at hSw); go_simp⟩) hHeld ?_
  simp only [List.set_cons_zero, List.set_cons_succ]
  refine takeD 5 14 (.int .i64 (fr2 : Int)) rfl rfl (by kernel_rfl) (by kernel_rfl) (by kernel_rfl) (fun _ _ _ h => h) (Or.inl ⟨by kernel_rfl, by intro w hSw; (try dsimp only at hSw); go_simp⟩) hHeld ?_
  simp only [List.set_cons_zero, List.set_cons_succ]
  refine takeD 6 15 (.slice za fm.length zc) rfl rfl (by kernel_rfl) (by kernel_rfl) (by kernel_rfl) (fun _ _ _ h => h) (Or.inl ⟨by kernel_rfl, by intro w hSw; (try dsimp only at hSw); go_simp⟩) hHeld ?_
  simp only [List.set_cons_zero, List.set_cons_succ]
  refine wpAnyH_ready (rs := [7]) (by kernel_rfl) (by simp) (AllReadyH.cons rfl (fun K hK => ?_) AllReadyH.nil)
  go_simp
  refine (wwrite_ok F W1 p n f c nw fr2 _ fm HD0.out (HZ.out.1.later HB0.out) HZ.out.2.1 (fun k e => Nat.lt_of_lt_of_le (HZ.out.2.2 k e) HB0.out.size) hn hl hn2 hcl hnw).mono ?_
  rintro e w2 ⟨rfl, F2, hD2, hF2, hk2⟩
  have HD2 := mkHid (And.intro hD2 (And.intro hF2 hk2))
  have hbF : ¬ F b0 := fun e => by have := HD.out.1 b0 e; have := HN.out; omega
  have HLG2 : Hid (Lg w2 l p fr en v nx ep) := mkHid ((hk2.block l (Nat.lt_of_lt_of_le HLL.out.1 HB0.out.size) HLL.out.2).trans HLG0.out)
  have HX2 : Hid (w2.heap[b0]? = some (oA (.int .i64 (fr2 : Int)) (.int .i64 (en2 : Int)) (.slice xa xn xc) (.int .i64 (nx2 : Int)))) := mkHid ((hk2.block b0 (lt_of_heap HX0.out) hbF).trans HX0.out)
  clear hD2 hF2 hk2
  refine hK.out _ _ ⟨HLG2.out.facts.1, (four_facts HX2.out).1⟩ (fun hHeld => ?_)
  clear hK K
  (try simp only [Act.put])
  refine takeD 8 7 (.nilIface) rfl rfl (by kernel_rfl) (by kernel_rfl) (by kernel_rfl) (fun _ _ _ h => h) (Or.inl ⟨by kernel_rfl, by intro w hSw; (try dsimp only at hSw); go_simp⟩) hHeld ?_
  simp only [List.set_cons_zero, List.set_cons_succ]
  refine wpAnyH_done (by kernel_rfl) ?_ _
  clear hHeld
  have l0 := HLG2.out.facts.1
  go_wp2_with (go_at_call 44; refine (flush_ok F2 w2 p n f _ _ HD2.out.1 (by rw [List.length_append, writesOf_len]; omega)).mono ?_; rintro e w3 ⟨rfl, hD3, hk3⟩; have HF2 : Hid (∀ k, F2 k → F k ∨ w.heap.size + 1 ≤ k) := mkHid (fun k hk => by rcases HD2.out.2.1 k hk with a | a; exact .inl a; (have := lt_of_heap HX0.out; have := HN.out; exact .inr (by omega))); have hlF2 : ¬ F2 l := (fun e => by rcases HF2.out l e with a | a; exact HLL.out.2 a; (have := HLL.out.1; omega)); have hbF2 : ¬ F2 b0 := (fun e => by rcases HF2.out b0 e with a | a; exact hbF a; (have := HN.out; omega)); have HLG3 : Hid (Lg w3 l p fr en v nx ep) := mkHid ((hk3.block l (lt_of_heap HLG2.out) hlF2).trans HLG2.out); have HX3 : Hid (w3.heap[b0]? = some (oA (.int .i64 (fr2 : Int)) (.int .i64 (en2 : Int)) (.slice xa xn xc) (.int .i64 (nx2 : Int)))) := mkHid ((hk3.block b0 (lt_of_heap HX2.out) hbF2).trans HX2.out); have HD3 := mkHid (And.intro hD3 hk3); have HNF := mkHid hlF2; obtain ⟨g0, g1, g2, g3, g4, g5, y1, y2, y3, y4⟩ := HLG3.out.facts; obtain ⟨x0, x1, x2, x3, _, _, _, _⟩ := four_facts HX3.out; clear hD3 hk3 hlF2 hbF2)
  go_ret
  have k7 : Kept (fun k => k = l) w3 ((((w3.setCell ⟨l, 1, none⟩ (.int .i64 (fr2 : Int))).setCell ⟨l, 2, none⟩ (.int .i64 (en2 : Int))).setCell ⟨l, 3, none⟩ (.slice xa xn xc)).setCell ⟨l, 4, none⟩ (.int .i64 (nx2 : Int))) := kept_setc (F := fun k => k = l) (kept_setc (F := fun k => k = l) (kept_setc (F := fun k => k = l) (kept_setc (F := fun k => k = l) (Kept.refl _ w3) (p := ⟨l, 1, none⟩) rfl _) (p := ⟨l, 2, none⟩) rfl _) (p := ⟨l, 3, none⟩) rfl _) (p := ⟨l, 4, none⟩) rfl _
  have hb : Kept (fun k => F k ∨ k = l) w W1 := ⟨HB0.out.os, HB0.out.tape, HB0.out.output, HB0.out.size, fun k hk _ => HB0.out.block k hk⟩
  have hF2 : ∀ k, F2 k → F k ∨ w.heap.size ≤ k := fun k hk => by
    rcases HF2.out k hk with a | a
    · exact .inl a
    · exact .inr (by omega)
  refine ⟨rfl, F2, HD3.out.1.kept k7 (fun k e e2 => HNF.out (e2 ▸ e)), HLG3.out.set fr2 en2 nx2 _, hF2, ((hb.trans HD2.out.2.2 (fun k e => .inl (.inl e))).trans HD3.out.2 (fun k e => ?_)).trans k7 (fun k e => .inl (.inr e))⟩
  rcases hF2 k e with a | a
  · exact .inl (.inl a)
  · exact .inr a
end Go.Proofs.YtcbimclgodkflaaDoor
