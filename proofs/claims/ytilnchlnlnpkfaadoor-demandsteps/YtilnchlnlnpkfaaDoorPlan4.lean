/- Servers: all are legal. -/
import Derived.Test.YtilnchlnlnpkfaaDoorPlan3
namespace Go.Proofs.YtilnchlnlnpkfaaDoor
open Go.ChangeShapes Go.WideShapes Go.ChangeAt Go.RowKit
set_option maxRecDepth 100000
attribute [local go_sem] World.cell?_alloc_some frozen_alloc_some

theorem ok_at {xs : List Sv} (h : ∀ x ∈ xs, okS x) {j : Nat} {x : Sv} (hx : xs[j]? = some x) : okS x := h x (List.mem_of_getElem? hx)
theorem take_qt {xs : List Sv} {j : Nat} {x : Sv} (hx : xs[j]? = some x) : (xs.map qt).take (j + 1) = (xs.map qt).take j ++ [qt x] := by
  rw [List.take_add_one]
  simp [hx]
theorem okq_take {xs : List Sv} (h : ∀ x ∈ xs, okS x) (j : Nat) : ∀ y ∈ (xs.map qt).take j, okq y := by
  intro y hy
  obtain ⟨x, hx, rfl⟩ := List.mem_map.mp (List.mem_of_mem_take hy)
  exact (h x hx).q
end Go.Proofs.YtilnchlnlnpkfaaDoor
