/- Errors stay where they lie. -/
import Derived.Test.YthncfkeoephipaaDoorGs1
namespace Go.Proofs.YthncfkeoephipaaDoor
open Go.ChangeShapes Go.WideShapes Go.ChangeAt Go.RowKit

theorem Err.lt {w : World} {g : Nat} {s : List UInt8} {a : Addr} (h : Err w g s a) : a.block < w.heap.size := by
  obtain ⟨_, ⟨t, h2, _⟩, _⟩ := h
  exact World.block_lt_of_cell? w _ h2
theorem Err.late {w w' : World} {g : Nat} {s : List UInt8} {a : Addr} (h : Err w g s a) (hb : Below w.heap.size w w') : Err w' g s a := by
  obtain ⟨h1, ⟨t, h2, h3⟩, c, ty, h4⟩ := h
  exact ⟨(hb.cell (World.block_lt_of_cell? w _ h1)).trans h1, ⟨t, (hb.cell (World.block_lt_of_cell? w _ h2)).trans h2, h3⟩, c, ty, (hb.block _ (Array.getElem?_eq_some_iff.1 h4).1).trans h4⟩
end Go.Proofs.YthncfkeoephipaaDoor
