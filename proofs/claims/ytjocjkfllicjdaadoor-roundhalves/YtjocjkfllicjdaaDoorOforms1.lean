/- Put of entries that aren't in form; the chapter's example; answers that are known. -/
import Derived.Test.YtjocjkfllicjdaaDoorOrput
import Derived.Test.YtjocjkfllicjdaaDoorOinf2
namespace Go.Proofs.YtjocjkfllicjdaaDoor
open Go.ChangeShapes Go.WideShapes Go.ChangeAt Go.RowKit
set_option maxRecDepth 100000
attribute [local go_sem] World.cell?_alloc_some frozen_alloc_some

theorem Err.late {w w' : World} {g : Nat} {s : List UInt8} {a : Addr} (h : Err w g s a) (hb : Below w.heap.size w w') : Err w' g s a := by
  obtain ⟨h1, ⟨t, h2, h3⟩, c, ty, h4⟩ := h
  exact ⟨(hb.cell (World.block_lt_of_cell? w _ h1)).trans h1, ⟨t, (hb.cell (World.block_lt_of_cell? w _ h2)).trans h2, h3⟩, c, ty, (hb.block _ (Array.getElem?_eq_some_iff.1 h4).1).trans h4⟩
theorem refSame_yes (w : World) (t u : Ep) (ht : EnW w t) (hu : EnW w u) (h : t.1 = u.1) : Calls Tryd.prog 26 #[vP t, vP u] w fun r w' => r = .returned (.bool true) ∧ Below w.heap.size w w' := by
  obtain ⟨b, hb, hc⟩ := refSame_any w t u ht hu
  rwa [hb.mpr h] at hc
theorem refSame_no (w : World) (t u : Ep) (ht : EnW w t) (hu : EnW w u) (h : ¬ t.1 = u.1) : Calls Tryd.prog 26 #[vP t, vP u] w fun r w' => r = .returned (.bool false) ∧ Below w.heap.size w w' := by
  obtain ⟨b, hb, hc⟩ := refSame_any w t u ht hu
  rwa [show b = false by rw [← Bool.not_eq_true, hb]; exact h] at hc
theorem inForm_yes (w : World) (t : Ep) (ht : EnW w t) (h : inF t.1) : Calls Tryd.prog 24 #[vP t] w fun r w' => r = .returned (.bool true) ∧ Below w.heap.size w w' := by
  obtain ⟨b, hb, hc⟩ := inForm_any w t ht
  rwa [hb.mpr h] at hc
theorem inForm_no (w : World) (t : Ep) (ht : EnW w t) (h : ¬ inF t.1) : Calls Tryd.prog 24 #[vP t] w fun r w' => r = .returned (.bool false) ∧ Below w.heap.size w w' := by
  obtain ⟨b, hb, hc⟩ := inForm_any w t ht
  rwa [show b = false by rw [← Bool.not_eq_true, hb]; exact h] at hc
def exE : En := ⟨1, 2, 3, 5, 0, 0, 0, 0, [], 7⟩
theorem exE_in : inF exE := by
  refine ⟨⟨by decide, by decide⟩, ⟨by decide, fun n hn => ?_, fun t ht => by simp [exE] at ht⟩, .inr (.inl ⟨rfl, ⟨rfl, rfl, rfl⟩, rfl, rfl⟩)⟩
  simp only [hnum, exE, List.mem_cons, List.not_mem_nil, or_false] at hn
  rcases hn with rfl | rfl | rfl | rfl | rfl | rfl | rfl | rfl | rfl <;> exact ⟨by decide, by decide⟩
theorem exE_bytes : bytesE exE = [1, 2, 3, 7, 5, 0, 0, 0, 0, 0] := by
  simp only [bytesE, nums, hnum, exE, List.cons_append, List.nil_append, List.flatMap_nil, List.length_nil, encL_cons, encL_nil]
  have : ∀ n : Nat, n < 128 → enc n = [(n : Int)] := fun n h => enc_lt h
  simp [this]
theorem ex_str : strOfNums [1, 2, 3, 7, 5, 0, 0, 0, 0, 0] = ⟨#[1, 2, 3, 7, 5, 0, 0, 0, 0, 0]⟩ := by decide +kernel
theorem ens_one (w : World) (t : Ep) (h : EnW w t) : Ens (w.alloc (oE t.1 (tv t))) (.slice (some ⟨w.heap.size, 0, none⟩) 1 1) [t] := by
  refine ⟨_, _, rfl, by simp, fun _ => ⟨w.heap.size, 0, rfl, fun i x hx => ?_⟩, fun u hu => ?_⟩
  · have hi : i = 0 := by have := (List.getElem?_eq_some_iff.mp hx).1; simp at this; exact this
    subst hi
    simp at hx
    subst hx
    have hn := heap_alloc_new w (oE t.1 (tv t))
    exact ⟨cell_of_block hn rfl, cell_of_block hn rfl, cell_of_block hn rfl, cell_of_block hn rfl, cell_of_block hn rfl, cell_of_block hn rfl, cell_of_block hn rfl, cell_of_block hn rfl, cell_of_block hn rfl, cell_of_block hn rfl⟩
  · simp at hu
    subst hu
    exact h.below ((Below.refl _ _).alloc (Nat.le_refl _) _)
/-- A ledger of one entry, in new memory. -/
theorem led_one {base : Nat} {w : World} {v : Value} {qs : List Ep} {e : En} (h : Led base w v qs) (hq : qs.map (·.1) = [e]) (hs : (e.ts.length : Int) ≤ 9223372036854775807) : ∃ g cap a c, v = .slice (some ⟨g, 0, none⟩) 1 cap ∧ EnAt w g 0 (e, a, c) ∧ EnW w (e, a, c) := by
  match qs, hq with
  | [(e', a, c)], hq =>
    simp at hq
    subst hq
    have hen := h.ens (by simp) (fun t ht => by simp at ht; subst ht; exact hs)
    obtain ⟨a0, cap, rfl, _, hr, hw⟩ := hen
    obtain ⟨g, off, rfl, hc⟩ := hr (by simp)
    have hz : off = 0 := by
      rcases h.own.2 with ⟨e1, _⟩ | ⟨g1, cap1, cur, e1, _⟩
      · simp at e1
      · simp at e1; exact e1.1.2
    subst hz
    exact ⟨g, cap, a, c, rfl, by simpa using hc 0 _ rfl, hw _ (by simp)⟩
end Go.Proofs.YtjocjkfllicjdaaDoor
