/- Parts of what Least answers. -/
import Derived.Test.YtjlmkmhggkcbhaaDoorQleast
import Derived.Test.YtjlmkmhggkcbhaaDoorQsame
namespace Go.Proofs.YtjlmkmhggkcbhaaDoor
open Go.ChangeShapes Go.WideShapes Go.ChangeAt Go.RowKit
set_option maxRecDepth 100000

theorem lcount_all (l : Nat) : lcount (l : Int) l = l := by unfold lcount; split <;> omega
theorem lcount_min (n : Int) (l : Nat) : min (max n 0) (l : Int) = (lcount n l : Int) := by unfold lcount; split <;> omega
theorem lcount_le (n : Int) (l : Nat) : lcount n l ≤ l := by unfold lcount; split <;> omega
theorem leastL_take (rs : List Int) (n : Int) : leastL rs n = (leastL rs (rs.length : Int)).take (lcount n rs.length) := by
  unfold leastL
  rw [lcount_all, List.take_take]
  congr 1
  have := lcount_le n rs.length
  omega
theorem IR.sl {w : World} {xs : List Int} {a : Option Addr} {c : Nat} (h : 0 < xs.length → ∃ g, a = some ⟨g, 0, none⟩ ∧ IR w g xs) : Sl w (.slice a xs.length c) xs := by
  refine ⟨a, c, rfl, fun hp => ?_⟩
  obtain ⟨g, rfl, hr⟩ := h hp
  exact ⟨g, 0, rfl, fun i hi => by rw [Nat.zero_add]; exact (hr i hi).1⟩
theorem some_sl {w : World} {rs : List Int} {n : Int} {k c : Nat} {a : Option Addr} {B C : Nat} (hk : k = lcount n rs.length) (h : 0 < k → ∃ g, a = some ⟨g, 0, none⟩ ∧ IR w g (leastL rs n) ∧ B ≤ g ∧ g < C) : Sl w (.slice a k c) (leastL rs n) := by
  have hl : (leastL rs n).length = k := by rw [leastL_len, hk]
  refine ⟨a, c, by rw [hl], fun hp => ?_⟩
  obtain ⟨g, rfl, hr, _⟩ := h (by omega)
  exact ⟨g, 0, rfl, fun i hi => by rw [Nat.zero_add]; exact (hr i hi).1⟩
theorem cut_sl {w w' : World} {rs : List Int} {n : Int} {k c : Nat} {a : Option Addr} {B C : Nat} (hk : k = lcount n rs.length) (h : 0 < rs.length → ∃ g, a = some ⟨g, 0, none⟩ ∧ IR w g (leastL rs (rs.length : Int)) ∧ B ≤ g ∧ g < C) (hb : Below w.heap.size w w') : Sl w' (.slice a k c) (leastL rs n) := by
  have hl : (leastL rs n).length = k := by rw [leastL_len, hk]
  have hle := lcount_le n rs.length
  refine ⟨a, c, by rw [hl], fun hp => ?_⟩
  obtain ⟨g, rfl, hr, _⟩ := h (by omega)
  refine ⟨g, 0, rfl, fun i hi => ?_⟩
  rw [Nat.zero_add]
  have hi' : i < lcount n rs.length := by omega
  have h1 := (hr i (by rw [leastL_len, lcount_all]; omega)).1
  rw [leastL_at (by rw [lcount_all]; omega)] at h1
  rw [leastL_at hi']
  exact bcell hb h1
end Go.Proofs.YtjlmkmhggkcbhaaDoor
