/- What common, Plus and Against of package wide answer. -/
import Derived.Test.YtilnchlnlnpkfaaDoorRef2
import Derived.Test.YtilnchlnlnpkfaaDoorCross
namespace Go.Proofs.YtilnchlnlnpkfaaDoor
open Go.ChangeShapes Go.WideShapes Go.ChangeAt Go.RowKit
set_option maxRecDepth 100000
attribute [local go_sem] World.cell?_alloc_some

/-- A legal fraction and a quotient. -/
structure Lg (D q t : Int) : Prop where
  d : D ≠ 0
  q : 0 ≤ q
  t : 1 ≤ t
theorem dz {dh dl : Int} (h : wv dh dl ≠ 0) : (dh = 0 ∧ ¬ dl = 0) ∨ ¬ dh = 0 := by
  by_cases e : dh = 0
  · left; refine ⟨e, fun e2 => h ?_⟩; rw [e, e2]; rfl
  · exact .inr e
theorem zd {dh dl : Int} (a : Word dh) (b : Word dl) (h : wv dh dl = 0) : dh = 0 ∧ dl = 0 := wv_inj a b word0 word0 (by rw [h]; rfl)
theorem gw {W : World} {G : World → Prop} (S : World → Prop) (hS : S W) (h : ∀ x, S x → G x) : G W := h W hS
theorem ff {w : World} {a : Addr} {v : Value} (h : w.cell? a = some v) (f : w.frozen? a = false) (o : Obj) : (w.alloc o).frozen? a = false := by
  rw [World.frozen?_alloc_old]
  · exact f
  · exact Nat.ne_of_lt (cell_lt h)
/-- The answer of Against. -/
structure AgIs (N D q t x : Int) (ok : Bool) : Prop where
  yes : ok = true → Lg D q t ∧ N * t < 340282366920938463463374607431768211456 ∧ D * q < 340282366920938463463374607431768211456 ∧ x = cmpI (N * t) (D * q)
  no : ok = false → ¬ (Lg D q t ∧ N * t < 340282366920938463463374607431768211456 ∧ D * q < 340282366920938463463374607431768211456) ∧ x = 0
theorem ag_ex (N D q t : Int) : ∃ x ok, AgIs N D q t x ok := by
  by_cases h : Lg D q t ∧ N * t < 340282366920938463463374607431768211456 ∧ D * q < 340282366920938463463374607431768211456
  · exact ⟨_, true, fun _ => ⟨h.1, h.2.1, h.2.2, rfl⟩, fun h => (by cases h)⟩
  · exact ⟨0, false, fun h => (by cases h), fun _ => ⟨h, rfl⟩⟩
theorem is_lt {n H L : Int} {ok : Bool} (h : Is n H L ok) (n0 : 0 ≤ n) : ok = true ↔ n < 340282366920938463463374607431768211456 := by
  cases ok
  · obtain ⟨_, _, hn⟩ := h.no rfl
    simp; omega
  · have := h.yes rfl; have := wv_hi h.h h.l
    simp; omega
end Go.Proofs.YtilnchlnlnpkfaaDoor
