/- The law OrderLedgers. -/
import Derived.Test.YtjocjkfllicjdaaDoorOsamel
import Derived.Test.YtjocjkfllicjdaaDoorOunlike
import Derived.Test.YtjocjkfllicjdaaDoorErrNum9
namespace Go.Proofs.YtjocjkfllicjdaaDoor
open Go.ChangeShapes Go.WideShapes Go.ChangeAt Go.RowKit
set_option maxRecDepth 100000
attribute [local go_sem] World.cell?_alloc_some frozen_alloc_some

theorem fs_all {qs ps : List Ep} (h : fs1 qs = fs1 ps) (hp : ∀ t ∈ ps, inF t.1) : ∀ t ∈ qs, inF t.1 := by
  intro t ht
  have : t.1 ∈ fs1 ps := by rw [← h]; exact List.mem_map.mpr ⟨t, ht, rfl⟩
  obtain ⟨u, hu, e⟩ := List.mem_map.mp this
  rw [← e]
  exact hp u hu
theorem fs_small {qs ps : List Ep} (h : fs1 qs = fs1 ps) (hp : ∀ t ∈ ps, small t) : ∀ t ∈ qs, (t.1.ts.length : Int) ≤ 9223372036854775807 := by
  intro t ht
  have : t.1 ∈ fs1 ps := by rw [← h]; exact List.mem_map.mpr ⟨t, ht, rfl⟩
  obtain ⟨u, hu, e⟩ := List.mem_map.mp this
  have := hp u hu
  unfold small at this
  rw [← e]
  omega
end Go.Proofs.YtjocjkfllicjdaaDoor
