/- What a reader of package wire does. -/
import Derived.Test.YtjocjkfllicjdaaDoorNumber
namespace Go.Proofs.YtjocjkfllicjdaaDoor
open Go.ChangeShapes Go.WideShapes Go.ChangeAt Go.RowKit
set_option maxRecDepth 100000

theorem size1r (W : World) : (Go.sizeOf 5).run Tryd.prog W = .ok 1 W := by
  obtain ⟨i0, hi, hz0, hz1, hz2⟩ := info_parts Tryd.info5
  simp [Go.sizeOf, typeInfo, hi, hz1]
theorem Rd.sliced {w : World} {a : Option Addr} {cap f t : Nat} {bs : List Int} (h : Rd w (.slice a bs.length cap) bs) (h1 : f ≤ t) (h2 : t ≤ bs.length) : Rd w (Go.sliced a f t cap 1) ((bs.drop f).take (t - f)) := by
  obtain ⟨hB, a', cap', e, hc, h0, hr⟩ := h
  simp at e
  obtain ⟨rfl, rfl⟩ := e
  have hl : ((bs.drop f).take (t - f)).length = t - f := by rw [List.length_take, List.length_drop]; omega
  refine ⟨(hB.drop f).take _, _, cap - f, by unfold Go.sliced; rw [hl], by omega, ?_, fun hp => ?_⟩
  · intro e
    split at e
    · have := h0 e; omega
    · have := h0 (by simpa using e); omega
  · obtain ⟨b, off, rfl, hlt, hcell⟩ := hr (by omega)
    refine ⟨b, off + f, ?_, hlt, fun k hk => ?_⟩
    · rw [if_neg (by omega)]
      simp [add_none]
    · rw [Nat.add_assoc, hcell (f + k) (by omega)]
      have : k < t - f := by omega
      simp [List.getD, List.getElem?_drop, this]
theorem cell_lat {w w' : World} {a : Addr} {v : Value} (hb : Below w.heap.size w w') (h : w.cell? a = some v) : w'.cell? a = some v :=
  (kept_of_below hb).cell h (by have := World.block_lt_of_cell? w _ h; omega)
theorem Rd.dr {w : World} {v : Value} {bs : List Int} (h : Rd w v bs) : Rd w.drew v bs := h.later ⟨rfl, rfl, rfl, Nat.le_refl _, fun _ _ => rfl⟩
end Go.Proofs.YtjocjkfllicjdaaDoor
