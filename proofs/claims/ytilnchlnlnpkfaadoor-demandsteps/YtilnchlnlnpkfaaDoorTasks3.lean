/- Tasks: the share of all. -/
import Derived.Test.YtilnchlnlnpkfaaDoorTasks2
namespace Go.Proofs.YtilnchlnlnpkfaaDoor
open Go.ChangeShapes Go.WideShapes Go.ChangeAt Go.RowKit
set_option maxRecDepth 100000
attribute [local go_sem] World.cell?_alloc_some frozen_alloc_some

theorem take_cp {xs : List Tk} {j : Nat} {x : Tk} (hx : xs[j]? = some x) : (xs.map cp).take (j + 1) = (xs.map cp).take j ++ [cp x] := by
  rw [List.take_add_one]
  simp [hx]
theorem okq_takeT {xs : List Tk} (h : ∀ x ∈ xs, okT x) (j : Nat) : ∀ y ∈ (xs.map cp).take j, okq y := by
  intro y hy
  obtain ⟨x, hx, rfl⟩ := List.mem_map.mp (List.mem_of_mem_take hy)
  exact (h x hx).q
end Go.Proofs.YtilnchlnlnpkfaaDoor
