/- Pop. -/
import Derived.Test.YtjlmkmhggkcbhaaDoorQcalls
namespace Go.Proofs.YtjlmkmhggkcbhaaDoor
open Go.ChangeShapes Go.WideShapes Go.ChangeAt Go.RowKit
set_option maxRecDepth 100000

theorem frozen_of_heap {w w' : World} {a : Addr} (h : w'.heap[a.block]? = w.heap[a.block]?) (hf : w.frozen? a = false) : w'.frozen? a = false := by
  simp only [World.frozen?, h] at hf ⊢
  exact hf
theorem bfrozen {w w' : World} (hb : Below w.heap.size w w') {a : Addr} (hl : a.block < w.heap.size) (h : w.frozen? a = false) : w'.frozen? a = false :=
  frozen_of_heap (hb.block _ hl) h
theorem Kept.frozen {F : Nat → Prop} {w w' : World} (h : Kept F w w') {a : Addr} (hf : w.frozen? a = false) (hn : ¬ F a.block) (hl : a.block < w.heap.size) : w'.frozen? a = false :=
  frozen_of_heap (h.block _ hl hn) hf
theorem pop_ok (F : Nat → Prop) (w : World) (p : Nat) (V : List Th) (h : Qu F w p V) (hl : 0 < V.length) (hl2 : V.length ≤ 4096) :
    Calls Tryd.prog 21 #[.pointer (some ⟨p, 0, none⟩)] w fun e w' => e = .returned (.tuple #[.agg #[.int .i64 (gt V 0).1, .int .i64 (gt V 0).2], .nilIface]) ∧ Hid (∃ V', Qu F w' p V' ∧ (∀ y, y ∈ V' ↔ y ∈ V ∧ y.1 ≠ (gt V 0).1) ∧ V'.length + 1 = V.length ∧ Kept F w w') := by
  have HQ := mkHid h
  have HLT := mkHid h.lt
  have HL := mkHid (And.intro hl hl2)
  obtain ⟨x, hx⟩ : ∃ x, x = gt V 0 := ⟨_, rfl⟩
  have HX := mkHid hx
  rw [← hx]
  clear h hl hl2 hx
  go_enter Tryd.func21, Tryd.ntmps21
  go_wp2_with (first
    | (go_at_call 25; have hbw : Below w.heap.size w (w.alloc (.cells #[.int .i64 0, .int .i64 0] 52)) := (Below.refl _ w).alloc (Nat.le_refl _) _; refine (peek_ok F _ p V (HQ.out.below hbw) HL.out.1).mono ?_; rw [← HX.out]; rintro e w1 ⟨rfl, hb1⟩; have HB1 := mkHid (hbw.trans (hb1.mono hbw.size)); have HR : Hid (w1.cell? ⟨w.heap.size, 0, none⟩ = some (.int .i64 0) ∧ w1.cell? ⟨w.heap.size, 1, none⟩ = some (.int .i64 0) ∧ w1.frozen? ⟨w.heap.size, 0, none⟩ = false ∧ w1.frozen? ⟨w.heap.size, 1, none⟩ = false) := mkHid ⟨bcell hb1 (by simp), bcell hb1 (by simp), bfrozen hb1 (by simp) (by simp), bfrozen hb1 (by simp) (by simp)⟩; have HRL : Hid (w.heap.size < w1.heap.size) := mkHid (Nat.lt_of_lt_of_le (by simp) hb1.size); clear hb1 hbw)
    | (go_at_call 39
       have hb2 : Below w1.heap.size w1 (w1.alloc (.cells #[.int .i64 x.1, .int .i64 x.2] 52)) := (Below.refl _ w1).alloc (Nat.le_refl _) _
       have ht := take_is F _ p _ V 0 ((HQ.out.below HB1.out).below (hb2)) HL.out.1 (by have := HL.out.2; omega)
       rw [← HX.out] at ht
       refine ht.mono ?_
       clear ht
       rintro e w3 ⟨rfl, V', h1, h2, h3, h4⟩
       have n1 : ¬ F w1.heap.size := fun f => by (have a1 := HLT.out _ f; have a2 := HRL.out; omega)
       have n2 : ¬ F w.heap.size := fun f => by (have a1 := HLT.out _ f; omega)
       have s0 : w3.cell? ⟨w1.heap.size, 0, none⟩ = some (.int .i64 x.1) := h4.cell (by simp) n1
       have s1 : w3.cell? ⟨w1.heap.size, 1, none⟩ = some (.int .i64 x.2) := h4.cell (by simp) n1
       have s2 : w3.cell? ⟨w.heap.size, 0, none⟩ = some (.int .i64 0) := h4.cell (bcell hb2 HR.out.1) n2
       have s3 : w3.cell? ⟨w.heap.size, 1, none⟩ = some (.int .i64 0) := h4.cell (bcell hb2 HR.out.2.1) n2
       have s4 : w3.frozen? ⟨w.heap.size, 0, none⟩ = false := h4.frozen (bfrozen hb2 HRL.out HR.out.2.2.1) n2 (by (have a2 := HRL.out; simp; omega))
       have s5 : w3.frozen? ⟨w.heap.size, 1, none⟩ = false := h4.frozen (bfrozen hb2 HRL.out HR.out.2.2.2) n2 (by (have a2 := HRL.out; simp; omega))
       have HQ3 := mkHid (And.intro h1 (And.intro h2 (And.intro h3 (((kept_below F HB1.out).trans (kept_below F hb2) (fun _ h => .inl h)).trans h4 (fun _ h => .inl h)))))
       clear h1 h2 h3 h4 hb2 n1 n2))
  have hk : Kept (fun k => k = w.heap.size) w3 ((w3.setCell ⟨w.heap.size, 0, none⟩ (.int .i64 x.1)).setCell ⟨w.heap.size, 1, none⟩ (.int .i64 x.2)) :=
    (Kept.setCell (F := fun k => k = w.heap.size) w3 (p := ⟨w.heap.size, 0, none⟩) rfl _).trans (Kept.setCell (F := fun k => k = w.heap.size) _ (p := ⟨w.heap.size, 1, none⟩) rfl _) (fun _ h => .inl h)
  obtain ⟨h1, h2, h3, h4⟩ := HQ3.out
  refine bodyPost_ret (v := .tuple #[.agg #[.int .i64 x.1, .int .i64 x.2], .nilIface]) (by simp [results, Tryd.results21, go_sem, s2, s3]) rfl ⟨rfl, V', h1.kept hk (fun k f e => by have := HLT.out k f; omega), h2, h3, h4.trans hk (fun k e => .inr (by omega))⟩
theorem pop_gone (F : Nat → Prop) (w : World) (p : Nat) (a : Addr) (h : Qu F w p []) (he : w.cell? ⟨0, 0, none⟩ = some (.iface 111 (.pointer (some a)))) :
    Calls Tryd.prog 21 #[.pointer (some ⟨p, 0, none⟩)] w fun e w' => e = .returned (.tuple #[.agg #[.int .i64 0, .int .i64 0], .iface 111 (.pointer (some a))]) ∧ Below w.heap.size w w' := by
  have HQ := mkHid h
  have HE := mkHid he
  clear h he
  go_enter Tryd.func21, Tryd.ntmps21
  go_wp2_with (first
    | (go_at_call 25; have hbw : Below w.heap.size w (w.alloc (.cells #[.int .i64 0, .int .i64 0] 52)) := (Below.refl _ w).alloc (Nat.le_refl _) _; refine (peek_gone F _ p a (HQ.out.below hbw) (bcell hbw HE.out)).mono ?_; rintro e w1 ⟨rfl, hb1⟩; have HB1 := mkHid (hbw.trans (hb1.mono hbw.size)); have r0 : w1.cell? ⟨w.heap.size, 0, none⟩ = some (.int .i64 0) := bcell hb1 (by simp); have r1 : w1.cell? ⟨w.heap.size, 1, none⟩ = some (.int .i64 0) := bcell hb1 (by simp); have r2 : w1.frozen? ⟨w.heap.size, 0, none⟩ = false := bfrozen hb1 (by simp) (by simp); have r3 : w1.frozen? ⟨w.heap.size, 1, none⟩ = false := bfrozen hb1 (by simp) (by simp); have t0 := World.cell?_alloc_some w1 ⟨w.heap.size, 0, none⟩ (.cells #[.int .i64 0, .int .i64 0] 52) (by rw [r0]; rfl); have t1 := World.cell?_alloc_some w1 ⟨w.heap.size, 1, none⟩ (.cells #[.int .i64 0, .int .i64 0] 52) (by rw [r1]; rfl); have hb2 : Below w1.heap.size w1 (w1.alloc (.cells #[.int .i64 0, .int .i64 0] 52)) := (Below.refl _ w1).alloc (Nat.le_refl _) _; have hl : w.heap.size < w1.heap.size := Nat.lt_of_lt_of_le (by simp) hb1.size; have t2 := bfrozen hb2 hl r2; have t3 := bfrozen hb2 hl r3; have HB2 := mkHid (HB1.out.trans (hb2.mono HB1.out.size)); clear hb1 hbw hb2 hl))
  refine bodyPost_ret (v := .tuple #[.agg #[.int .i64 0, .int .i64 0], .iface 111 (.pointer (some a))]) (by simp [results, Tryd.results21, go_sem, t0, t1, r0, r1]) rfl ⟨rfl, ?_⟩
  exact (HB2.out.setCell (by simp) _).setCell (by simp) _
end Go.Proofs.YtjlmkmhggkcbhaaDoor
