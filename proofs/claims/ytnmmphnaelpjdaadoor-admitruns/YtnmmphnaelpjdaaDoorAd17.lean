/- Rows of numbers in blocks of their own, that are written over; a list of numbers that is read. -/
import Derived.Test.YtnmmphnaelpjdaaDoorAd6
import Derived.Test.YtnmmphnaelpjdaaDoorRunMath
namespace Go.Proofs.YtnmmphnaelpjdaaDoor
open Go.ChangeShapes Go.WideShapes Go.ChangeAt Go.RowKit
set_option maxRecDepth 100000

def ib (f : Nat → Int) (n : Nat) : Array Value := ((List.range n).map (fun i => Value.int .i64 (f i))).toArray
/-- The numbers f 0 .. f (n - 1) lie in block g. -/
def IB (w : World) (g : Nat) (f : Nat → Int) (n : Nat) : Prop := w.heap[g]? = some (.cells (ib f n) 3 (0, 0))
theorem ib_size (f : Nat → Int) (n : Nat) : (ib f n).size = n := by simp [ib]
theorem ib_get (f : Nat → Int) {n i : Nat} (h : i < n) : (ib f n)[i]? = some (.int .i64 (f i)) := by simp [ib, h]
theorem IB.cell {w : World} {g : Nat} {f : Nat → Int} {n i : Nat} (h : IB w g f n) (hi : i < n) : w.cell? ⟨g, i, none⟩ = some (.int .i64 (f i)) := cell_of_block h (ib_get f hi)
theorem IB.frozen {w : World} {g : Nat} {f : Nat → Int} {n i : Nat} (h : IB w g f n) : w.frozen? ⟨g, i, none⟩ = false := frozen_of_block h
theorem IB.set {w : World} {g : Nat} {f : Nat → Int} {n i : Nat} (h : IB w g f n) (hi : i < n) (v : Int) : IB (w.setCell ⟨g, i, none⟩ (.int .i64 v)) g (upd f i v) n := by
  unfold IB
  rw [heap_set h]
  congr 2
  refine Array.ext_getElem? fun k => ?_
  simp only [Array.set!_eq_setIfInBounds, Array.getElem?_setIfInBounds, ib_size]
  by_cases e : i = k
  · subst e; rw [if_pos rfl, if_pos hi, ib_get _ hi, upd_at]
  · rw [if_neg e]
    by_cases hk : k < n
    · rw [ib_get _ hk, ib_get _ hk, upd_ne _ _ (Ne.symm e)]
    · rw [Array.getElem?_eq_none (by rw [ib_size]; omega), Array.getElem?_eq_none (by rw [ib_size]; omega)]
theorem IB.other {w : World} {g g' : Nat} {f : Nat → Int} {n : Nat} (h : IB w g f n) (hn : g' ≠ g) (o : Nat) (v : Value) : IB (w.setCell ⟨g', o, none⟩ v) g f n := by
  unfold IB at *
  simp [World.setCell, Array.getElem?_modify, hn, h]
theorem IB.alloc {w : World} {g : Nat} {f : Nat → Int} {n : Nat} (h : IB w g f n) (o : Obj) : IB (w.alloc o) g f n := (heap_alloc_old w o (Array.getElem?_eq_some_iff.mp h).1).trans h
theorem IB.drew {w : World} {g : Nat} {f : Nat → Int} {n : Nat} (h : IB w g f n) : IB w.drew g f n := h
theorem IB.lt {w : World} {g : Nat} {f : Nat → Int} {n : Nat} (h : IB w g f n) : g < w.heap.size := (Array.getElem?_eq_some_iff.mp h).1
theorem made_ib (n : Nat) : madeCells #[Value.int .i64 0] n = ib (fun _ => 0) n := by
  have h : (madeCells #[Value.int .i64 0] n).toList = (ib (fun _ => 0) n).toList := by
    rw [toList_madeCells_one]
    simp [ib, List.map_const']
  exact Array.toList_inj.mp h
theorem infoInt12 : (Tryd.prog.info? 3).map (fun i => (i.zero, i.size, i.bytes)) = some (some (.int .i64 0), 1, 8) := by kernel_rfl
theorem make_ib (n : Nat) (h : n ≤ 8) (W : World) : (Instr.makeSlice 59 (.int .i64 (n : Int)) (.int .i64 (n : Int))).run Tryd.prog W = .ok (.slice (some ⟨W.heap.size, 0, none⟩) n n) (W.alloc (.cells (ib (fun _ => 0) n) 3)) := by
  obtain ⟨i, h1, h2, h3, h4⟩ := info_parts infoInt12
  have := run_makeSlice (P := Tryd.prog) W 59 3 i (.int .i64 0) Tryd.underlying59 h1 h2 .i64 .i64 (n : Int) (n : Int) (by omega) (by omega) (by rw [h3]; simp; omega) (by rw [h4]; omega) (by omega)
  rw [this, h3]
  simp [Value.cells, made_ib n]
/-- A list of numbers that is read. -/
def Iw (w : World) (v : Value) (ws : List Int) : Prop := ∃ a cap, v = .slice a ws.length cap ∧ (0 < ws.length → ∃ b off, a = some ⟨b, off, none⟩ ∧ ∀ i x, ws[i]? = some x → w.cell? ⟨b, off + i, none⟩ = some (.int .i64 x))
theorem Iw.below {w w' : World} {v : Value} {ws : List Int} (h : Iw w v ws) (hb : Below w.heap.size w w') : Iw w' v ws := by
  obtain ⟨a, cap, rfl, hr⟩ := h
  refine ⟨a, cap, rfl, fun hp => ?_⟩
  obtain ⟨b, off, rfl, hc⟩ := hr hp
  exact ⟨b, off, rfl, fun i x hi => kc (hc i x hi) hb⟩
theorem Iw.at {w w' : World} {a : Option Addr} {n cap : Nat} {ws : List Int} (h : Iw w (.slice a n cap) ws) (hb : Below w.heap.size w w') (i : Nat) (hi : i < ws.length) : ∃ b off x, a = some ⟨b, off, none⟩ ∧ ws[i]? = some x ∧ w'.cell? ⟨b, off + i, none⟩ = some (.int .i64 x) := by
  obtain ⟨a', cap', e, hr⟩ := h.below hb
  simp at e
  obtain ⟨rfl, rfl, rfl⟩ := e
  obtain ⟨b, off, rfl, hc⟩ := hr (by omega)
  obtain ⟨x, hx⟩ : ∃ x, ws[i]? = some x := ⟨_, List.getElem?_eq_getElem hi⟩
  exact ⟨b, off, x, rfl, hx, hc i x hx⟩
end Go.Proofs.YtnmmphnaelpjdaaDoor
