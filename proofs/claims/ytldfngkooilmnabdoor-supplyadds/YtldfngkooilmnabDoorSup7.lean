/- The law SupplyBounds. -/
import Derived.Test.YtldfngkooilmnabDoorSup6
namespace Go.Proofs.YtldfngkooilmnabDoor
open Go.ChangeShapes Go.WideShapes Go.ChangeAt Go.RowKit

theorem hold {w w' : World} {b : Nat} {o : Obj} (h : w.heap[b]? = some o) (hb : Below w.heap.size w w') : w'.heap[b]? = some o := by
  rw [hb.block _ (Array.getElem?_eq_some_iff.1 h).1]; exact h
/-- What a call answers in every memory above w: v, and only new memory is made. -/
def Ans (w : World) (f : FuncId) (args : Array Value) (v : Value) : Prop := ∀ W, Below w.heap.size w W → Calls Tryd.prog f args W fun e w' => e = .returned v ∧ Below W.heap.size W w'
theorem at_before {g d q i : Int} (_hd : 0 ≤ d) (hq : 1 ≤ q) (h : i < g + d) : sbAt g d q i = false := by
  refine decide_eq_false (fun ⟨h1, h2⟩ => ?_)
  rw [(dm (T := d + q) (a := 0) (r := i - g) (by omega) (by omega) (by omega)).2] at h2
  omega
theorem at_first {g d q : Int} (hd : 0 ≤ d) (hq : 1 ≤ q) : sbAt g d q (g + d) = true := by
  refine decide_eq_true ⟨by omega, ?_⟩
  rw [(dm (T := d + q) (a := 0) (r := d) (by omega) (by omega) (by omega)).2]
  omega
end Go.Proofs.YtldfngkooilmnabDoor
