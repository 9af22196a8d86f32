/- What the document's Add, Sub, Mul, Compare for numbers of 128 bits answer. -/
import Derived.Test.YtjhekemgcmhjoabDoorRef
namespace Go.Proofs.YtjhekemgcmhjoabDoor
open Go.ChangeShapes Go.WideShapes Go.ChangeAt Go.RowKit
set_option maxRecDepth 100000

theorem keep4 {W w1 : World} {a0 a1 a2 a3 : Addr} {v0 v1 v2 v3 : Value} (hb : Below W.heap.size W w1) (h : W.cell? a0 = some v0 ∧ W.cell? a1 = some v1 ∧ W.cell? a2 = some v2 ∧ W.cell? a3 = some v3) :
    w1.cell? a0 = some v0 ∧ w1.cell? a1 = some v1 ∧ w1.cell? a2 = some v2 ∧ w1.cell? a3 = some v3 :=
  ⟨kc h.1 hb, kc h.2.1 hb, kc h.2.2.1 hb, kc h.2.2.2 hb⟩
theorem kf {w w1 : World} {a : Addr} {v : Value} (h : w.cell? a = some v) (hb : Below w.heap.size w w1) (f : w.frozen? a = false) : w1.frozen? a = false := by
  rw [hb.frozen (cell_lt h)]; exact f
theorem keep4s {w : World} {a0 a1 a2 a3 p q : Addr} {v0 v1 v2 v3 x y : Value} (h : w.cell? a0 = some v0 ∧ w.cell? a1 = some v1 ∧ w.cell? a2 = some v2 ∧ w.cell? a3 = some v3) (h0 : a0.block ≠ p.block ∧ a1.block ≠ p.block ∧ a2.block ≠ p.block ∧ a3.block ≠ p.block) (h1 : p.block = q.block) :
    ((w.setCell p x).setCell q y).cell? a0 = some v0 ∧ ((w.setCell p x).setCell q y).cell? a1 = some v1 ∧ ((w.setCell p x).setCell q y).cell? a2 = some v2 ∧ ((w.setCell p x).setCell q y).cell? a3 = some v3 := by
  obtain ⟨c0, c1, c2, c3⟩ := h0
  have f : ∀ (a : Addr) (v : Value), a.block ≠ p.block → w.cell? a = some v → ((w.setCell p x).setCell q y).cell? a = some v := by
    intro a v hn hv
    rw [World.cell?_of_block (w := w.setCell p x) (Below.heap_setCell _ q y a.block (by omega)), World.cell?_of_block (w := w) (Below.heap_setCell _ p x a.block hn)]
    exact hv
  exact ⟨f _ _ c0 h.1, f _ _ c1 h.2.1, f _ _ c2 h.2.2.1, f _ _ c3 h.2.2.2⟩
theorem sum_eq {p q r a b : Int} (h : r = p + q) (h1 : Hid (p = a)) (h2 : Hid (q = b)) : r = a + b := by rw [h, h1.out, h2.out]
theorem diff_eq {p q r a b : Int} (h : r = p - q) (h1 : Hid (p = a)) (h2 : Hid (q = b)) : r = a - b := by rw [h, h1.out, h2.out]
end Go.Proofs.YtjhekemgcmhjoabDoor
