/- Bytes in memory: what a slice of bytes reads as, and a writer behind its pointer. -/
import Derived.Test.YtjocjkfllicjdaaDoorSrc
import Derived.Test.YtjocjkfllicjdaaDoorEnc
import Derived.WalkKit
import Derived.WalkSmall
import Derived.ProofKit
namespace Go.Proofs.YtjocjkfllicjdaaDoor
open Go.ChangeShapes Go.WideShapes Go.ChangeAt Go.RowKit
set_option maxRecDepth 100000

theorem Tryd.info5 : (Tryd.prog.info? 5).map (fun i => (i.zero, i.size, i.bytes)) = some (some (.int .u8 0), 1, 1) := by kernel_rfl
theorem mkHid {p : Prop} (h : p) : Hid p := h
theorem add_none (b off k : Nat) : (⟨b, off, none⟩ : Addr).add k = ⟨b, off + k, none⟩ := by cases k <;> simp [Addr.add]
/-- A slice of bytes that reads as the list bs. -/
def Rd (w : World) (v : Value) (bs : List Int) : Prop :=
  Byts bs ∧ ∃ a cap, v = .slice a bs.length cap ∧ bs.length ≤ cap ∧ (a = none → cap = 0) ∧
    (0 < bs.length → ∃ b off, a = some ⟨b, off, none⟩ ∧ b < w.heap.size ∧ ∀ k, k < bs.length → w.cell? ⟨b, off + k, none⟩ = some (.int .u8 (bs.getD k 0)))
theorem Rd.kept {F : Nat → Prop} {w w' : World} {v : Value} {bs : List Int} (h : Rd w v bs) (hk : Kept F w w') (hn : ∀ k, v.ownBlock = some k → ¬ F k) : Rd w' v bs := by
  obtain ⟨hB, a, cap, rfl, hc, h0, hr⟩ := h
  refine ⟨hB, a, cap, rfl, hc, h0, fun hp => ?_⟩
  obtain ⟨b, off, rfl, hlt, hcell⟩ := hr hp
  exact ⟨b, off, rfl, Nat.lt_of_lt_of_le hlt hk.size, fun k hk' => hk.cell (hcell k hk') (hn b rfl)⟩
theorem Rd.later {w w' : World} {v : Value} {bs : List Int} (h : Rd w v bs) (hb : Below w.heap.size w w') : Rd w' v bs := by
  obtain ⟨hB, a, cap, rfl, hc, h0, hr⟩ := h
  refine ⟨hB, a, cap, rfl, hc, h0, fun hp => ?_⟩
  obtain ⟨b, off, rfl, hlt, hcell⟩ := hr hp
  exact ⟨b, off, rfl, Nat.lt_of_lt_of_le hlt hb.size, fun k hk' => (hb.cell (p := ⟨b, off + k, none⟩) hlt).trans (hcell k hk')⟩
theorem Rd.alloc {w : World} {v : Value} {bs : List Int} (h : Rd w v bs) (o : Obj) : Rd (w.alloc o) v bs := h.later ((Below.refl _ _).alloc (Nat.le_refl _) _)
theorem Rd.of_owns {w : World} {base : Nat} {v : Value} {bs : List Int} (hB : Byts bs) (h : w.ownsRow base 5 1 v bs.length (bs.map (Value.int .u8))) : Rd w v bs := by
  rcases h.2 with ⟨rfl, h0⟩ | ⟨g, cap, cur, rfl, hg, hh, hcap, hm, hs, ht⟩
  · exact ⟨hB, none, 0, by rw [h0], by omega, fun _ => rfl, fun hp => by omega⟩
  · refine ⟨hB, some ⟨g, 0, none⟩, cap, rfl, hcap, fun e => by simp at e, fun hp => ⟨g, 0, rfl, (h.lt g rfl).2, fun k hk => ?_⟩⟩
    have := h.cells (g := g) rfl k (.int .u8 (bs.getD k 0)) (by simp [List.getD, hk])
    rwa [add_none] at this
theorem own_shape {w : World} {base : Nat} {e : TypeId} {size : Nat} {v : Value} {n : Nat} {xs : List Value} (h : w.ownsRow base e size v n xs) : ∃ a c, v = .slice a n c := by
  rcases h.2 with ⟨rfl, h0⟩ | ⟨g, cap, cur, rfl, _⟩
  · exact ⟨none, 0, by rw [h0]⟩
  · exact ⟨_, _, rfl⟩
theorem bytes_oneCell (ys : List Int) : ∀ u ∈ ys.map (Value.int .u8), u.oneCell' = true := by
  intro u hu
  obtain ⟨y, _, rfl⟩ := List.mem_map.mp hu
  rfl
theorem cell_of_block {w : World} {p i : Nat} {c : Array Value} {t : TypeId} {v : Value} (h : w.heap[p]? = some (.cells c t (0, 0))) (hi : c[i]? = some v) : w.cell? ⟨p, i, none⟩ = some v := by
  rw [cell_of_row w p i c t (0, 0) h]; exact hi
theorem frozen_of_block {w : World} {p i : Nat} {c : Array Value} {t : TypeId} (h : w.heap[p]? = some (.cells c t (0, 0))) : w.frozen? ⟨p, i, none⟩ = false := by
  simp [World.frozen?, h]
theorem heap_set {w : World} {p i : Nat} {c : Array Value} {t : TypeId} {v : Value} (h : w.heap[p]? = some (.cells c t (0, 0))) : (w.setCell ⟨p, i, none⟩ v).heap[p]? = some (.cells (c.set! i v) t (0, 0)) := by
  simp [World.setCell, Array.getElem?_modify, h]
theorem str_neL {xs ys : List Int} (hx : Byts xs) (hy : Byts ys) (h : xs ≠ ys) : ¬ (strOfNums xs).toList = (strOfNums ys).toList := by
  rw [ByteArray.toList_eq, ByteArray.toList_eq]
  intro e
  exact str_ne hx hy h (by have := Array.toList_inj.mp e; cases hs : strOfNums xs; cases ht : strOfNums ys; simp_all)
theorem Rd.take {w : World} {a : Option Addr} {n cap : Nat} {bs : List Int} (h : Rd w (.slice a bs.length cap) bs) (hn : n ≤ bs.length) : Rd w (.slice a n cap) (bs.take n) := by
  obtain ⟨hB, a', cap', e, hc, h0, hr⟩ := h
  simp at e
  obtain ⟨rfl, rfl⟩ := e
  have hl : (bs.take n).length = n := by rw [List.length_take]; omega
  refine ⟨hB.take n, a, cap, by rw [hl], by omega, h0, fun hp => ?_⟩
  obtain ⟨b, off, rfl, hlt, hcell⟩ := hr (by omega)
  refine ⟨b, off, rfl, hlt, fun k hk => ?_⟩
  rw [hcell k (by omega)]
  have : k < n := by omega
  simp [List.getD, this]
theorem Rd.spot {w : World} {a : Option Addr} {n cap : Nat} {bs : List Int} (h : Rd w (.slice a n cap) bs) (hp : 1 ≤ n) : ∃ b off, a = some ⟨b, off, none⟩ ∧ n ≤ cap ∧ n = bs.length := by
  obtain ⟨hB, a', cap', e, hc, h0, hr⟩ := h
  simp at e
  obtain ⟨rfl, rfl, rfl⟩ := e
  obtain ⟨b, off, rfl, _, _⟩ := hr (by omega)
  exact ⟨b, off, rfl, hc, rfl⟩
theorem ret_bool {x y : Bool} (h : x = y) : Ending.returned (.bool x) = .returned (.bool y) := by rw [h]
end Go.Proofs.YtjocjkfllicjdaaDoor
