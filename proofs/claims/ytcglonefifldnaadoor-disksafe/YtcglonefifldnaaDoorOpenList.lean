/- How arguments of lists of bytes and of integers are opened. -/
import Derived.Test.YtcglonefifldnaaDoorOpen3
import Derived.Test.YtcglonefifldnaaDoorLists
import Derived.Deep.Slices
namespace Go.Proofs.YtcglonefifldnaaDoor
open Go.ChangeShapes Go.WideShapes Go.ChangeAt Go.RowKit

/-- A list of lists of bytes that came in. -/
def LRd (w : World) (v : Value) (ps : List (List Int)) : Prop :=
  ∃ a cap, v = .slice a ps.length cap ∧ (0 < ps.length → ∃ b off, a = some ⟨b, off, none⟩ ∧ b < w.heap.size ∧ ∀ i, i < ps.length → ∃ u, w.cell? ⟨b, off + i, none⟩ = some u ∧ Rd w u (ps.getD i []))
theorem cellsB : Tryd.prog.cellsOf 33 = 1 := by kernel_rfl
theorem open_list {H : Type} {enc : TypeId × Value → H} {W : World} {base : Nat} {v : Value} {d : DataW H} {p : List MemPlace}
    (hv : Value.okWide Tryd.prog W .any base 39 v) (h : DataW.Trod enc Tryd.prog W 0 (fun _ => true) true 39 v d p) : ∃ ps, LRd W v ps ∧ (ps.length : Int) ≤ 9223372036854775807 := by
  obtain ⟨a, len, cap, rfl⟩ := okWide_slice Tryd.underlying39 hv
  obtain ⟨fuel, hf⟩ := h
  rcases Go.Deep.open_slice1 Tryd.underlying39 cellsB (by simpa [Value.cells] using hf) with ⟨hcs, hx⟩ | ⟨x, l, c, m, n, V, D, Pl, hcs, _, hl, hm, hme, hx, hall⟩
  · simp at hcs
    obtain ⟨rfl, rfl, rfl⟩ := hcs
    exact ⟨[], ⟨none, 0, rfl, fun hp => by simp at hp⟩, by simp⟩
  · simp at hcs
    obtain ⟨rfl, rfl, rfl⟩ := hcs
    have hlm : len ≤ m := by rw [hme]; simp; omega
    have each : ∀ i, i < len → ∃ bs : List Int, W.cell? (x.add i) = some (V i) ∧ Rd W (V i) bs := by
      intro i hi
      obtain ⟨hc, ht⟩ := hall i (by omega)
      obtain ⟨a', l', c', e3⟩ : ∃ a l c, V i = .slice a l c := by
        rcases open_ints Tryd.underlying33 Tryd.underlying5 (by kernel_rfl) ht with ⟨hcs, _⟩ | ⟨x, l, c, zs, hcs, _⟩
        · simp at hcs; exact ⟨_, _, _, hcs⟩
        · simp at hcs; exact ⟨_, _, _, hcs⟩
      rw [e3] at ht hc ⊢
      obtain ⟨bs, hr, _⟩ := open_cells ht
      exact ⟨bs, hc, hr⟩
    haveI : Inhabited (List Int) := ⟨[]⟩
    obtain ⟨f, hf'⟩ := Go.Deep.choose_lt each
    have hlen : ((List.range len).map f).length = len := by simp
    refine ⟨(List.range len).map f, ⟨some x, cap, by rw [hlen], fun hp => ?_⟩, by rw [hlen]; unfold maxLen at hm; omega⟩
    rw [hlen] at hp
    obtain ⟨hc, _⟩ := hf' 0 hp
    obtain ⟨xb, xo, xs⟩ := x
    have hb : xs = none := by simpa [Addr.add] using World.cell?_spot hc
    subst hb
    refine ⟨xb, xo, rfl, World.block_lt_of_cell? W _ hc, fun i hi => ?_⟩
    rw [hlen] at hi
    obtain ⟨hc, hr⟩ := hf' i hi
    rw [add_none] at hc
    refine ⟨V i, hc, ?_⟩
    have : ((List.range len).map f).getD i [] = f i := by simp [List.getD, hi]
    rw [this]
    exact hr
/-- A list of integers that came in. -/
def IRd (w : World) (v : Value) (cs : List Int) : Prop :=
  ∃ a cap, v = .slice a cs.length cap ∧ (∀ c ∈ cs, -9223372036854775808 ≤ c ∧ c ≤ 9223372036854775807) ∧ (0 < cs.length → ∃ b off, a = some ⟨b, off, none⟩ ∧ b < w.heap.size ∧ ∀ i, i < cs.length → w.cell? ⟨b, off + i, none⟩ = some (.int .i64 (cs.getD i 0)))
theorem open_intlist {H : Type} {enc : TypeId × Value → H} {W : World} {base : Nat} {v : Value} {d : DataW H} {p : List MemPlace}
    (hv : Value.okWide Tryd.prog W .any base 38 v) (h : DataW.Trod enc Tryd.prog W 0 (fun _ => true) true 38 v d p) : ∃ cs, IRd W v cs := by
  obtain ⟨a, len, cap, rfl⟩ := okWide_slice Tryd.underlying38 hv
  obtain ⟨fuel, hf⟩ := h
  rcases open_ints Tryd.underlying38 Tryd.underlying3 (by kernel_rfl) hf with ⟨hcs, hd⟩ | ⟨x, l, c, zs, hcs, _, hl, hm, hz, hx, hcell, hwz⟩
  · simp [Value.cells] at hcs
    obtain ⟨rfl, rfl, rfl⟩ := hcs
    exact ⟨[], none, 0, rfl, by simp, fun hp => by simp at hp⟩
  · simp [Value.cells] at hcs
    obtain ⟨rfl, rfl, rfl⟩ := hcs
    have hzl : len ≤ zs.length := by rw [hz]; split <;> omega
    have hlen : (zs.take len).length = len := by rw [List.length_take]; omega
    refine ⟨zs.take len, some x, cap, by rw [hlen], fun n hn => bounds_i64 (hwz n (List.mem_of_mem_take hn)), fun hp => ?_⟩
    obtain ⟨b, off, rfl, hc⟩ := ints_at hcell (by omega)
    refine ⟨b, off, rfl, World.block_lt_of_cell? W _ (hc 0 (by omega)), fun k hk => ?_⟩
    rw [hc k (by omega)]
    have : k < len := by omega
    simp [List.getD, this]
theorem LRd.at {w w' : World} {a : Option Addr} {n cap : Nat} {ps : List (List Int)} (h : LRd w (.slice a n cap) ps) (hb : Below w.heap.size w w') (i : Nat) (hi : i < ps.length) : ∃ b off a1 c1, a = some ⟨b, off, none⟩ ∧ w'.cell? ⟨b, off + i, none⟩ = some (.slice a1 (ps.getD i []).length c1) ∧ Rd w' (.slice a1 (ps.getD i []).length c1) (ps.getD i []) ∧ (0 < (ps.getD i []).length → ∀ k, (Value.slice a1 (ps.getD i []).length c1).ownBlock = some k → k < w.heap.size) := by
  obtain ⟨a', cap', e, hr⟩ := h
  simp at e
  obtain ⟨rfl, rfl, rfl⟩ := e
  obtain ⟨b, off, rfl, hlt, hc⟩ := hr (by omega)
  obtain ⟨u, hu, ru⟩ := hc i hi
  obtain ⟨hB, a1, c1, rfl, hcc, h0, hrr⟩ := id ru
  refine ⟨b, off, a1, c1, rfl, (hb.cell (p := ⟨b, off + i, none⟩) hlt).trans hu, ru.later hb, fun hp k hk => ?_⟩
  obtain ⟨b1, o1, rfl, hl1, _⟩ := hrr hp
  simp [Value.ownBlock] at hk
  omega
theorem IRd.at {w w' : World} {a : Option Addr} {n cap : Nat} {cs : List Int} (h : IRd w (.slice a n cap) cs) (hb : Below w.heap.size w w') (i : Nat) (hi : i < cs.length) : ∃ b off, a = some ⟨b, off, none⟩ ∧ w'.cell? ⟨b, off + i, none⟩ = some (.int .i64 (cs.getD i 0)) := by
  obtain ⟨a', cap', e, _, hr⟩ := h
  simp at e
  obtain ⟨rfl, rfl, rfl⟩ := e
  obtain ⟨b, off, rfl, hlt, hc⟩ := hr (by omega)
  exact ⟨b, off, rfl, (hb.cell (p := ⟨b, off + i, none⟩) hlt).trans (hc i hi)⟩
end Go.Proofs.YtcglonefifldnaaDoor
