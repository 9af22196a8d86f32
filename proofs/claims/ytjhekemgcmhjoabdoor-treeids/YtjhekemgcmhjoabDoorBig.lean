/- What the document's numbers (lists of digits) do: Of, Plus, at, Less, Minus, Fits, Times, Whole. -/
import Derived.Test.YtjhekemgcmhjoabDoorDigits
import Derived.Test.YtjhekemgcmhjoabDoorTick
import Derived.OwnWalk
import Derived.WalkSmall
namespace Go.Proofs.YtjhekemgcmhjoabDoor
open Go.ChangeShapes Go.WideShapes Go.ChangeAt Go.RowKit
set_option maxRecDepth 100000

theorem Tryd.info157 : (Tryd.prog.info? 157).map (fun i => (i.zero, i.size, i.bytes)) = some (some (.int .u32 0), 1, 4) := by kernel_rfl
/-- A slice of digits that lies in memory and reads as the list ds. -/
def Num (w : World) (v : Value) (ds : List Int) : Prop :=
  Digs ds ∧ ∃ a cap, v = .slice a ds.length (ds.length + cap) ∧
    (0 < ds.length → ∃ b off, a = some ⟨b, off, none⟩ ∧ b < w.heap.size ∧ ∀ k, k < ds.length → w.cell? ⟨b, off + k, none⟩ = some (.int .u32 (ds.getD k 0)))
theorem Num.later {w w' : World} {v : Value} {ds : List Int} (h : Num w v ds) (hb : Below w.heap.size w w') : Num w' v ds := by
  obtain ⟨hd, a, cap, rfl, hr⟩ := h
  refine ⟨hd, a, cap, rfl, fun h0 => ?_⟩
  obtain ⟨b, off, rfl, hlt, hc⟩ := hr h0
  refine ⟨b, off, rfl, Nat.lt_of_lt_of_le hlt hb.size, fun k hk => ?_⟩
  rw [hb.cell (p := ⟨b, off + k, none⟩) hlt]
  exact hc k hk
theorem Num.of_owns {w : World} {base : Nat} {e : TypeId} {v : Value} {ds : List Int} (hd : Digs ds) (h : w.ownsRow base e 1 v ds.length (ds.map (Value.int .u32))) : Num w v ds := by
  refine ⟨hd, ?_⟩
  have hc := @World.ownsRow.cells
  rcases h.2 with ⟨rfl, h0⟩ | ⟨g, cap, cur, rfl, hg, hh, hcap, hm, hs, ht⟩
  · exact ⟨none, 0, by rw [h0], fun hp => by omega⟩
  · refine ⟨some ⟨g, 0, none⟩, cap - ds.length, by rw [Nat.add_sub_cancel' hcap], fun hp => ⟨g, 0, rfl, ?_, fun k hk => ?_⟩⟩
    · exact (h.lt g rfl).2
    · have := h.cells (g := g) rfl k (.int .u32 (ds.getD k 0)) (by simp [List.getD, hk])
      have e : (⟨g, 0, none⟩ : Addr).add k = ⟨g, 0 + k, none⟩ := by cases k <;> simp [Addr.add]
      rwa [e] at this
theorem num_empty (w : World) (a : Option Addr) (cap : Nat) : Num w (.slice a 0 cap) [] := ⟨by simp [Digs], a, cap, by simp, fun h => by simp at h⟩
theorem plus_rel {ps qs xs : List Int} {i : Nat} {c s : Int} {w wr w1 : World} {o : Obj} {ov v' : Value} (hs : s = c + ps.getD i 0 + qs.getD i 0) (dp : Digs ps) (dq : Digs qs) (hc0 : 0 ≤ c) (hc1 : c ≤ 1) (hlen : xs.length = i) (hdx : Digs xs)
    (hown : wr.ownsRow w.heap.size 157 1 ov i (xs.map (Value.int .u32))) (HV : Hid (val xs + c * pw i = val (ps.take i) + val (qs.take i))) (hbel : Below w.heap.size w wr)
    (hown' : w1.ownsRow w.heap.size 157 1 v' (i + 1) (xs.map (Value.int .u32) ++ [.int .u32 (s % 65536)])) (hgrow : (wr.alloc o).grownBy w1 ov.ownBlock) :
    (0 ≤ s / 65536 ∧ s / 65536 ≤ 1) ∧ (xs ++ [s % 65536]).length = i + 1 ∧ Digs (xs ++ [s % 65536]) ∧ w1.ownsRow w.heap.size 157 1 v' (i + 1) ((xs ++ [s % 65536]).map (Value.int .u32)) ∧
      Hid (val (xs ++ [s % 65536]) + s / 65536 * pw (i + 1) = val (ps.take (i + 1)) + val (qs.take (i + 1))) ∧ Below w.heap.size w w1 := by
  have h1 := dp.at i
  have h2 := dq.at i
  have hsz := hbel.size
  refine ⟨by omega, by simp [hlen], hdx.snoc (by omega) (by omega), by simpa using hown', ?_, ?_⟩
  · have := plus_round xs ps qs i c hlen HV.out
    rw [← hs] at this
    exact this
  · exact (hbel.alloc hsz _).grown hgrow (by simp; omega) (fun k hk => (hown.lt k hk).1)
end Go.Proofs.YtjhekemgcmhjoabDoor
