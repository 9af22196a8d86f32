/- Bytes in memory: what a slice of bytes reads as, and a writer behind its pointer. -/
import Derived.Test.YtcglonefifldnaaDoorSrc
import Derived.Test.YtcglonefifldnaaDoorEnc
import Derived.WalkKit
import Derived.WalkSmall
import Derived.ProofKit
namespace Go.Proofs.YtcglonefifldnaaDoor
open Go.ChangeShapes Go.WideShapes Go.ChangeAt Go.RowKit

theorem Tryd.info5 : (Tryd.prog.info? 5).map (fun i => (i.zero, i.size, i.bytes)) = some (some (.int .u8 0), 1, 1) := by kernel_rfl
theorem mkHid {p : Prop} (h : p) : Hid p := h
theorem add_none (b off k : Nat) : (⟨b, off, none⟩ : Addr).add k = ⟨b, off + k, none⟩ := by cases k <;> simp [Addr.add]
/-- A slice of bytes that reads as the list bs. -/
def Rd (w : World) (v : Value) (bs : List Int) : Prop :=
  Byts bs ∧ ∃ a cap, v = .slice a bs.length cap ∧ bs.length ≤ cap ∧ (a = none → cap = 0) ∧
    (0 < bs.length → ∃ b off, a = some ⟨b, off, none⟩ ∧ b < w.heap.size ∧ ∀ k, k < bs.length → w.cell? ⟨b, off + k, none⟩ = some (.int .u8 (bs.getD k 0)))
theorem Rd.kept {F : Nat → Prop} {w w' : World} {v : Value} {bs : List Int} (h : Rd w v bs) (hk : Kept F w w') (hn : ∀ k, v.ownBlock = some k → ¬ F k) : Rd w' v bs := by
  obtain ⟨hB, a, cap, rfl, hc, h0, hr⟩ := h
  refine ⟨hB, a, cap, rfl, hc, h0, fun hp => ?_⟩
  obtain ⟨b, off, rfl, hlt, hcell⟩ := hr hp
  exact ⟨b, off, rfl, Nat.lt_of_lt_of_le hlt hk.size, fun k hk' => hk.cell (hcell k hk') (hn b rfl)⟩
theorem Rd.later {w w' : World} {v : Value} {bs : List Int} (h : Rd w v bs) (hb : Below w.heap.size w w') : Rd w' v bs := by
  obtain ⟨hB, a, cap, rfl, hc, h0, hr⟩ := h
  refine ⟨hB, a, cap, rfl, hc, h0, fun hp => ?_⟩
  obtain ⟨b, off, rfl, hlt, hcell⟩ := hr hp
  exact ⟨b, off, rfl, Nat.lt_of_lt_of_le hlt hb.size, fun k hk' => (hb.cell (p := ⟨b, off + k, none⟩) hlt).trans (hcell k hk')⟩
theorem Rd.alloc {w : World} {v : Value} {bs : List Int} (h : Rd w v bs) (o : Obj) : Rd (w.alloc o) v bs := h.later ((Below.refl _ _).alloc (Nat.le_refl _) _)
theorem Rd.of_owns {w : World} {base : Nat} {v : Value} {bs : List Int} (hB : Byts bs) (h : w.ownsRow base 5 1 v bs.length (bs.map (Value.int .u8))) : Rd w v bs := by
  rcases h.2 with ⟨rfl, h0⟩ | ⟨g, cap, cur, rfl, hg, hh, hcap, hm, hs, ht⟩
  · exact ⟨hB, none, 0, by rw [h0], by omega, fun _ => rfl, fun hp => by omega⟩
  · refine ⟨hB, some ⟨g, 0, none⟩, cap, rfl, hcap, fun e => by simp at e, fun hp => ⟨g, 0, rfl, (h.lt g rfl).2, fun k hk => ?_⟩⟩
    have := h.cells (g := g) rfl k (.int .u8 (bs.getD k 0)) (by simp [List.getD, hk])
    rwa [add_none] at this
theorem own_shape {w : World} {base : Nat} {e : TypeId} {size : Nat} {v : Value} {n : Nat} {xs : List Value} (h : w.ownsRow base e size v n xs) : ∃ a c, v = .slice a n c := by
  rcases h.2 with ⟨rfl, h0⟩ | ⟨g, cap, cur, rfl, _⟩
  · exact ⟨none, 0, by rw [h0]⟩
  · exact ⟨_, _, rfl⟩
theorem bytes_oneCell (ys : List Int) : ∀ u ∈ ys.map (Value.int .u8), u.oneCell' = true := by
  intro u hu
  obtain ⟨y, _, rfl⟩ := List.mem_map.mp hu
  rfl
theorem Rd.src {w : World} {v : Value} {bs : List Int} (h : Rd w v bs) : Src Tryd.prog 1 33 v bs.length (bs.map (Value.int .u8)) w := by
  obtain ⟨hB, a, cap, rfl, hc, h0, hr⟩ := h
  cases a with
  | none =>
    have hl : bs = [] := by
      by_cases hp : 0 < bs.length
      · obtain ⟨b, off, e, _⟩ := hr hp
        simp at e
      · exact List.length_eq_zero_iff.mp (by omega)
    subst hl
    exact Src.ofNil w Tryd.underlying33 cap
  | some ad =>
    refine Src.ofSlice w Tryd.underlying33 ad _ cap _ (by simp) (fun j u hj => ?_) (bytes_oneCell bs)
    have hjl : j < bs.length := by
      have := (List.getElem?_eq_some_iff.mp hj).1
      simpa using this
    obtain ⟨b, off, e, hlt, hcell⟩ := hr (by omega)
    simp at e
    subst e
    rw [add_none, hcell j hjl]
    simp [hjl] at hj
    simp [List.getD, hjl, hj]
theorem src_one (w : World) (x : Int) : Src Tryd.prog 1 33 (.slice (some ⟨w.heap.size, 0, none⟩) 1 1) 1 [.int .u8 x] (w.alloc (.cells #[.int .u8 x] 5)) := by
  refine Src.ofSlice _ Tryd.underlying33 _ 1 1 _ rfl (fun j u hj => ?_) (fun u hu => by simp at hu; subst hu; rfl)
  match j, hj with
  | 0, hj => simp at hj; subst hj; simp [Addr.add]
theorem Rd.conv {w : World} {v : Value} {bs : List Int} (h : Rd w v bs) : (convert 33 9 v).run Tryd.prog w = .ok (.string (strOfNums bs)) w := by
  obtain ⟨hB, a, cap, rfl, hc, h0, hr⟩ := h
  by_cases hp : 0 < bs.length
  · obtain ⟨b, off, rfl, hlt, hcell⟩ := hr hp
    exact run_convert_bytes_arg w 33 5 Tryd.underlying33 Tryd.underlying5 b off bs.length cap bs rfl hcell 9 Tryd.underlying9
  · have hl : bs = [] := List.length_eq_zero_iff.mp (by omega)
    subst hl
    cases a with
    | none => exact run_convert_bytes_nil w 33 5 Tryd.underlying33 Tryd.underlying5 _ _ 9 Tryd.underlying9
    | some ad =>
      have hl : (loadCells ad 0).run Tryd.prog w = .ok (([] : List Int).map (Value.int .u8)).toArray w := by simpa using run_loadCells_list (P := Tryd.prog) w ad [] (fun j v hj => by simp at hj)
      rw [List.length_nil, run_convert_bytes_string w 33 9 5 _ 0 cap Tryd.underlying33 Tryd.underlying5 Tryd.underlying9, run_bytesToString w _ 0 cap [] hl]
      rfl
theorem cell_of_block {w : World} {p i : Nat} {c : Array Value} {t : TypeId} {v : Value} (h : w.heap[p]? = some (.cells c t (0, 0))) (hi : c[i]? = some v) : w.cell? ⟨p, i, none⟩ = some v := by
  rw [cell_of_row w p i c t (0, 0) h]; exact hi
theorem frozen_of_block {w : World} {p i : Nat} {c : Array Value} {t : TypeId} (h : w.heap[p]? = some (.cells c t (0, 0))) : w.frozen? ⟨p, i, none⟩ = false := by
  simp [World.frozen?, h]
theorem heap_set {w : World} {p i : Nat} {c : Array Value} {t : TypeId} {v : Value} (h : w.heap[p]? = some (.cells c t (0, 0))) : (w.setCell ⟨p, i, none⟩ v).heap[p]? = some (.cells (c.set! i v) t (0, 0)) := by
  simp [World.setCell, Array.getElem?_modify, h]
theorem str_neL {xs ys : List Int} (hx : Byts xs) (hy : Byts ys) (h : xs ≠ ys) : ¬ (strOfNums xs).toList = (strOfNums ys).toList := by
  rw [ByteArray.toList_eq, ByteArray.toList_eq]
  intro e
  exact str_ne hx hy h (by have := Array.toList_inj.mp e; cases hs : strOfNums xs; cases ht : strOfNums ys; simp_all)
theorem Rd.take {w : World} {a : Option Addr} {n cap : Nat} {bs : List Int} (h : Rd w (.slice a bs.length cap) bs) (hn : n ≤ bs.length) : Rd w (.slice a n cap) (bs.take n) := by
  obtain ⟨hB, a', cap', e, hc, h0, hr⟩ := h
  simp at e
  obtain ⟨rfl, rfl⟩ := e
  have hl : (bs.take n).length = n := by rw [List.length_take]; omega
  refine ⟨hB.take n, a, cap, by rw [hl], by omega, h0, fun hp => ?_⟩
  obtain ⟨b, off, rfl, hlt, hcell⟩ := hr (by omega)
  refine ⟨b, off, rfl, hlt, fun k hk => ?_⟩
  rw [hcell k (by omega)]
  have : k < n := by omega
  simp [List.getD, this]
theorem Rd.spot {w : World} {a : Option Addr} {n cap : Nat} {bs : List Int} (h : Rd w (.slice a n cap) bs) (hp : 1 ≤ n) : ∃ b off, a = some ⟨b, off, none⟩ ∧ n ≤ cap ∧ n = bs.length := by
  obtain ⟨hB, a', cap', e, hc, h0, hr⟩ := h
  simp at e
  obtain ⟨rfl, rfl, rfl⟩ := e
  obtain ⟨b, off, rfl, _, _⟩ := hr (by omega)
  exact ⟨b, off, rfl, hc, rfl⟩
theorem Rd.convs {w : World} {v : Value} {bs : List Int} (h : Rd w v bs) : ∀ k, (convert 33 9 v).run Tryd.prog (w.drewN k) = .ok (.string (strOfNums bs)) (w.drewN k) := fun k =>
  (h.later (show Below w.heap.size w (w.drewN k) from ⟨rfl, rfl, rfl, Nat.le_refl _, fun _ _ => rfl⟩)).conv
theorem ret_bool {x y : Bool} (h : x = y) : Ending.returned (.bool x) = .returned (.bool y) := by rw [h]
end Go.Proofs.YtcglonefifldnaaDoor
