/- A ledger in new memory that is written over. -/
import Derived.Test.YtehnimafjgodeaaDoorOclone
namespace Go.Proofs.YtehnimafjgodeaaDoor
open Go.ChangeShapes Go.WideShapes Go.ChangeAt Go.RowKit
set_option maxRecDepth 100000

structure Mut (B : Nat) (W wr : World) (g : Nat) (rs : List Ep) : Prop where
  blk : ∃ cur, wr.heap[g]? = some (.cells cur 28 (0, 0)) ∧ rs.length * 10 ≤ cur.size ∧ ∀ (i : Nat) (t : Ep), rs[i]? = some t → cur[i * 10 + 8]? = some (tv t)
  tks : ∀ t ∈ rs, 0 < t.1.ts.length → ∃ b cap c2, t.2 = (some ⟨b, 0, none⟩, cap) ∧ b ≠ g ∧ B ≤ b ∧ wr.heap[b]? = some (.cells c2 68 (0, 0)) ∧ t.1.ts.length * 4 ≤ c2.size
  hg : B ≤ g
  bel : Below B W wr
theorem Mut.start {B : Nat} {W : World} {g cap : Nat} {rs : List Ep} (h : Led B W (.slice (some ⟨g, 0, none⟩) rs.length cap) rs) : Mut B W W g rs := by
  refine ⟨?_, fun t ht hp => ?_, (h.own.lt g rfl).1, Below.refl _ _⟩
  · rcases h.own.2 with ⟨e, _⟩ | ⟨g', cap', cur, e1, hb, hg, h1, h2, h3, h4⟩
    · simp at e
    · simp only [Value.slice.injEq, Option.some.injEq, Addr.mk.injEq] at e1
      obtain ⟨⟨rfl, _⟩, _, rfl⟩ := e1
      refine ⟨cur, hg, by rw [h3]; exact Nat.mul_le_mul_right 10 h1, fun i t hi => ?_⟩
      have := fl_get c10 10 c10_len rs i 8 t hi (by omega)
      rw [← h4, List.getElem?_take] at this
      split at this
      · simpa [c10] using this
      · simp [c10] at this
  · rcases (h.tk t ht).2 with ⟨_, e⟩ | ⟨b, cap', cur, e1, hb, hg, h1, h2, h3, h4⟩
    · omega
    · simp only [tv, Value.slice.injEq] at e1
      have hne := h.ne t ht b (by rw [tv, e1.1]; rfl)
      exact ⟨b, cap', cur, Prod.ext e1.1 e1.2.2, fun e => hne (by rw [e]; rfl), hb, hg, by rw [h3]; exact Nat.mul_le_mul_right 4 h1⟩
theorem set_at {α : Type} (c : Array α) (i k : Nat) (v : α) : (c.set! i v).size = c.size ∧ (i ≠ k → (c.set! i v)[k]? = c[k]?) := by
  refine ⟨by simp, fun h => ?_⟩
  simp [Array.set!_eq_setIfInBounds, h]
theorem Mut.client {B : Nat} {W wr : World} {g : Nat} {rs : List Ep} (h : Mut B W wr g rs) (i : Nat) (v : Value) : Mut B W (wr.setCell ⟨g, i * 10, none⟩ v) g rs := by
  obtain ⟨cur, hc, hs, h8⟩ := h.blk
  have hk := Kept.setCell (F := fun k => k = g) wr (p := ⟨g, i * 10, none⟩) rfl v
  refine ⟨⟨cur.set! (i * 10) v, heap_set hc, by rw [(set_at cur (i * 10) 0 v).1]; exact hs, fun j t hj => ?_⟩, fun t ht hp => ?_, h.hg, h.bel.trans (hk.below (fun k e => by have := h.hg; omega) (by have := h.hg; have := (Array.getElem?_eq_some_iff.1 hc).1; omega))⟩
  · rw [(set_at cur (i * 10) (j * 10 + 8) v).2 (by omega)]; exact h8 j t hj
  · obtain ⟨b, cap, c2, e1, e2, e3, e4, e5⟩ := h.tks t ht hp
    exact ⟨b, cap, c2, e1, e2, e3, by rw [hk.block b (Array.getElem?_eq_some_iff.1 e4).1 e2]; exact e4, e5⟩
theorem Mut.task {B : Nat} {W wr : World} {g b : Nat} {rs : List Ep} (h : Mut B W wr g rs) (hbg : b ≠ g) (hB : B ≤ b) (o : Nat) (v : Value) : Mut B W (wr.setCell ⟨b, o, none⟩ v) g rs := by
  obtain ⟨cur, hc, hs, h8⟩ := h.blk
  have hk := Kept.setCell (F := fun k => k = b) wr (p := ⟨b, o, none⟩) rfl v
  refine ⟨⟨cur, by rw [hk.block g (Array.getElem?_eq_some_iff.1 hc).1 (fun e => hbg e.symm)]; exact hc, hs, h8⟩, fun t ht hp => ?_, h.hg, h.bel.trans (hk.below (fun k e => by omega) (by have := h.hg; have := (Array.getElem?_eq_some_iff.1 hc).1; omega))⟩
  obtain ⟨b2, cap, c2, e1, e2, e3, e4, e5⟩ := h.tks t ht hp
  by_cases hb : b2 = b
  · subst hb
    exact ⟨b2, cap, c2.set! o v, e1, e2, e3, heap_set e4, by rw [(set_at c2 o 0 v).1]; exact e5⟩
  · exact ⟨b2, cap, c2, e1, e2, e3, by rw [hk.block b2 (Array.getElem?_eq_some_iff.1 e4).1 hb]; exact e4, e5⟩
/-- The cells that the law writes. -/
theorem Mut.at {B : Nat} {W wr : World} {g : Nat} {rs : List Ep} (h : Mut B W wr g rs) {i : Nat} {t : Ep} (hi : rs[i]? = some t) : wr.cell? ⟨g, i * 10 + 8, none⟩ = some (tv t) ∧ (∃ u, wr.cell? ⟨g, i * 10, none⟩ = some u) ∧ wr.frozen? ⟨g, i * 10, none⟩ = false := by
  obtain ⟨cur, hc, hs, h8⟩ := h.blk
  have hl := (List.getElem?_eq_some_iff.mp hi).1
  have h0 : i * 10 < cur.size := by omega
  exact ⟨cell_of_block hc (h8 i t hi), ⟨_, cell_of_block hc (Array.getElem?_eq_getElem h0)⟩, frozen_of_block hc⟩
theorem Mut.at2 {B : Nat} {W wr : World} {g : Nat} {rs : List Ep} (h : Mut B W wr g rs) {i j : Nat} {t : Ep} (hi : rs[i]? = some t) (hj : j < t.1.ts.length) : ∃ b cap, t.2 = (some ⟨b, 0, none⟩, cap) ∧ b ≠ g ∧ B ≤ b ∧ (∃ u, wr.cell? ⟨b, j * 4, none⟩ = some u) ∧ wr.frozen? ⟨b, j * 4, none⟩ = false := by
  obtain ⟨b, cap, c2, e1, e2, e3, e4, e5⟩ := h.tks t (List.mem_of_getElem? hi) (by omega)
  have h0 : j * 4 < c2.size := by omega
  exact ⟨b, cap, e1, e2, e3, ⟨_, cell_of_block e4 (Array.getElem?_eq_getElem h0)⟩, frozen_of_block e4⟩
end Go.Proofs.YtehnimafjgodeaaDoor
