/- Within; alive. -/
import Derived.Test.YtilnchlnlnpkfaaDoorPlan4
import Derived.Deep.RegionHeld3
namespace Go.Proofs.YtilnchlnlnpkfaaDoor
open Go.ChangeShapes Go.WideShapes Go.ChangeAt Go.RowKit
set_option maxRecDepth 100000
attribute [local go_sem] World.cell?_alloc_some frozen_alloc_some

theorem okS.i64 {s : Sv} (h : okS s) : I64 s.2.1 ∧ I64 s.2.2 := by
  obtain ⟨_, _, h1, h2, h3⟩ := h
  exact ⟨⟨by omega, by omega⟩, ⟨by omega, by omega⟩⟩
theorem svs_two (w : World) (s t : Sv) : Svs (w.alloc (.cells #[.int .i64 s.1, .int .i64 s.2.1, .int .i64 s.2.2, .int .i64 t.1, .int .i64 t.2.1, .int .i64 t.2.2] 24)) (.slice (some ⟨w.heap.size, 0, none⟩) 2 2) [s, t] := by
  refine ⟨_, 2, rfl, by simp, fun _ => ⟨_, _, rfl, fun i x hi => ?_⟩⟩
  have hl : i < 2 := by have := (List.getElem?_eq_some_iff.mp hi).1; simpa using this
  have h2 : i = 0 ∨ i = 1 := by omega
  rcases h2 with rfl | rfl
  · simp at hi
    subst hi
    refine ⟨?_, ?_, ?_⟩ <;> simp [go_sem]
  · simp at hi
    subst hi
    refine ⟨?_, ?_, ?_⟩ <;> simp [go_sem]
theorem svs_one (w : World) (s : Sv) : Svs (w.alloc (.cells #[.int .i64 s.1, .int .i64 s.2.1, .int .i64 s.2.2] 24)) (.slice (some ⟨w.heap.size, 0, none⟩) 1 1) [s] := by
  refine ⟨_, 1, rfl, by simp, fun _ => ⟨_, _, rfl, fun i x hi => ?_⟩⟩
  have hl : i < 1 := by have := (List.getElem?_eq_some_iff.mp hi).1; simpa using this
  obtain rfl : i = 0 := by omega
  simp at hi
  subst hi
  refine ⟨?_, ?_, ?_⟩ <;> simp [go_sem]
theorem pt56 : Pt (sh ([(1, 1, 2), (2, 1, 3)].map qt)) 0 5 0 6 := ⟨word0, ⟨by decide, by decide⟩, word0, ⟨by decide, by decide⟩, by decide, by decide⟩
end Go.Proofs.YtilnchlnlnpkfaaDoor
