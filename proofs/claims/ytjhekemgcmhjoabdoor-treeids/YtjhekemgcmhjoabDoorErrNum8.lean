/- almonernum.Num: the number of an error. -/
import Derived.Test.YtjhekemgcmhjoabDoorPlErr
namespace Go.Proofs.YtjhekemgcmhjoabDoor
open Go.ChangeShapes Go.WideShapes Go.ChangeAt Go.RowKit
set_option maxRecDepth 100000

/-- All errors lie as laid. -/
def Errs (w : World) (a : Nat → Addr) : Prop := Err w 0 text0 (a 0) ∧ Err w 1 text1 (a 1) ∧ Err w 2 text2 (a 2) ∧ Err w 3 text3 (a 3) ∧ Err w 4 text4 (a 4) ∧ Err w 5 text5 (a 5)
theorem Errs.late {w w' : World} {a : Nat → Addr} (h : Errs w a) (hb : Below w.heap.size w w') : Errs w' a := by
  obtain ⟨e0, e1, e2, e3, e4, e5⟩ := h
  exact ⟨e0.late hb, e1.late hb, e2.late hb, e3.late hb, e4.late hb, e5.late hb⟩
theorem Errs.cell_server {w : World} {a : Nat → Addr} (h : Errs w a) : w.cell? ⟨0, 0, none⟩ = some (.iface 150 (.pointer (some (a 0)))) := h.1.1
theorem Errs.cell_task {w : World} {a : Nat → Addr} (h : Errs w a) : w.cell? ⟨1, 0, none⟩ = some (.iface 150 (.pointer (some (a 1)))) := h.2.1.1
theorem Errs.cell_tight {w : World} {a : Nat → Addr} (h : Errs w a) : w.cell? ⟨2, 0, none⟩ = some (.iface 150 (.pointer (some (a 2)))) := h.2.2.1.1
theorem Errs.cell_full {w : World} {a : Nat → Addr} (h : Errs w a) : w.cell? ⟨3, 0, none⟩ = some (.iface 150 (.pointer (some (a 3)))) := h.2.2.2.1.1
theorem Errs.cell_number {w : World} {a : Nat → Addr} (h : Errs w a) : w.cell? ⟨4, 0, none⟩ = some (.iface 150 (.pointer (some (a 4)))) := h.2.2.2.2.1.1
theorem Errs.cell_over {w : World} {a : Nat → Addr} (h : Errs w a) : w.cell? ⟨5, 0, none⟩ = some (.iface 150 (.pointer (some (a 5)))) := h.2.2.2.2.2.1
end Go.Proofs.YtjhekemgcmhjoabDoor
