/- How a task that comes in is opened. -/
import Derived.Test.YtilnchlnlnpkfaaDoorOpenPl
namespace Go.Proofs.YtilnchlnlnpkfaaDoor
open Go.ChangeShapes Go.WideShapes Go.ChangeAt Go.RowKit Go.Joins
set_option maxRecDepth 100000

theorem array4 {cs : Array Value} (h : cs.size = 4) : ∃ c0 c1 c2 c3, cs = #[c0, c1, c2, c3] := by
  obtain ⟨l⟩ := cs
  match l, h with
  | [c0, c1, c2, c3], _ => exact ⟨_, _, _, _, rfl⟩
theorem open_task {H : Type} {enc : TypeId × Value → H} {w : World} {base : Nat} {sp : Nat → Bool} {held : Bool} {r : Reach} {b0 : Nat} {v : Value} {d : DataW H} {ps : List MemPlace} (hval : Value.okWide Tryd.prog w r b0 52 v) (hd : DataW.Trod enc Tryd.prog w base sp held 52 v d ps) :
    ∃ s : Tk, v = vT s := by
  obtain ⟨cs, rfl, hsz⟩ := okWide_struct Tryd.underlying52 hval
  rw [cellsTask] at hsz
  obtain ⟨c0, c1, c2, c3, rfl⟩ := array4 hsz
  obtain ⟨fuel, hf⟩ := hd
  obtain ⟨k, q, t, s, rfl, rfl, rfl, rfl, _⟩ := trod_task (by simpa [Value.cells] using hf)
  exact ⟨(k, q, t, s), rfl⟩
end Go.Proofs.YtilnchlnlnpkfaaDoor
