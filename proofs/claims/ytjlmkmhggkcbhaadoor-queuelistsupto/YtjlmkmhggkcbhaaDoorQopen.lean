/- How lists of integers and of pairs are opened. -/
import Derived.Test.YtjlmkmhggkcbhaaDoorQalive
import Derived.Test.YtjlmkmhggkcbhaaDoorSrcV
import Derived.OpenShut
import Derived.SizedLaws
import Derived.Below
import Derived.Deep.Slices
namespace Go.Proofs.YtjlmkmhggkcbhaaDoor
open Go.ChangeShapes Go.WideShapes Go.ChangeAt Go.RowKit
set_option maxRecDepth 100000

/-- A list of integers that came in. -/
def IRd (w : World) (v : Value) (cs : List Int) : Prop :=
  ∃ a cap, v = .slice a cs.length cap ∧ (cs.length : Int) ≤ 9223372036854775807 ∧ (∀ c ∈ cs, -9223372036854775808 ≤ c ∧ c ≤ 9223372036854775807) ∧ (0 < cs.length → ∃ b off, a = some ⟨b, off, none⟩ ∧ b < w.heap.size ∧ ∀ i, i < cs.length → w.cell? ⟨b, off + i, none⟩ = some (.int .i64 (cs.getD i 0)))
theorem open_intlist {H : Type} {enc : TypeId × Value → H} {W : World} {base : Nat} {v : Value} {d : DataW H} {p : List MemPlace}
    (hv : Value.okWide Tryd.prog W .any base 36 v) (h : DataW.Trod enc Tryd.prog W 0 (fun _ => true) true 36 v d p) : ∃ cs, IRd W v cs := by
  obtain ⟨a, len, cap, rfl⟩ := okWide_slice Tryd.underlying36 hv
  obtain ⟨fuel, hf⟩ := h
  rcases open_ints Tryd.underlying36 Tryd.underlying3 (by kernel_rfl) hf with ⟨hcs, hd⟩ | ⟨x, l, c, zs, hcs, _, hl, hm, hz, hx, hcell, hwz⟩
  · simp [Value.cells] at hcs
    obtain ⟨rfl, rfl, rfl⟩ := hcs
    exact ⟨[], none, 0, rfl, by simp, by simp, fun hp => by simp at hp⟩
  · simp [Value.cells] at hcs
    obtain ⟨rfl, rfl, rfl⟩ := hcs
    have hzl : len ≤ zs.length := by rw [hz]; split <;> omega
    have hlen : (zs.take len).length = len := by rw [List.length_take]; omega
    refine ⟨zs.take len, some x, cap, by rw [hlen], by rw [hlen]; unfold maxLen at hm; omega, fun n hn => bounds_i64 (hwz n (List.mem_of_mem_take hn)), fun hp => ?_⟩
    obtain ⟨b, off, rfl, hc⟩ := ints_at hcell (by omega)
    refine ⟨b, off, rfl, World.block_lt_of_cell? W _ (hc 0 (by omega)), fun k hk => ?_⟩
    rw [hc k (by omega)]
    have : k < len := by omega
    simp [List.getD, this]
theorem IRd.later {w w' : World} {v : Value} {cs : List Int} (h : IRd w v cs) (hb : Below w.heap.size w w') : IRd w' v cs := by
  obtain ⟨a, cap, rfl, h0, h1, hr⟩ := h
  refine ⟨a, cap, rfl, h0, h1, fun hp => ?_⟩
  obtain ⟨b, off, rfl, hlt, hc⟩ := hr hp
  exact ⟨b, off, rfl, Nat.lt_of_lt_of_le hlt hb.size, fun i hi => (hb.cell (p := ⟨b, off + i, none⟩) hlt).trans (hc i hi)⟩
theorem IRd.at {w w' : World} {a : Option Addr} {n cap : Nat} {cs : List Int} (h : IRd w (.slice a n cap) cs) (hb : Below w.heap.size w w') (i : Nat) (hi : i < cs.length) : ∃ b off, a = some ⟨b, off, none⟩ ∧ w'.cell? ⟨b, off + i, none⟩ = some (.int .i64 (cs.getD i 0)) := by
  obtain ⟨a', cap', e, _, _, hr⟩ := h
  simp at e
  obtain ⟨rfl, rfl, rfl⟩ := e
  obtain ⟨b, off, rfl, hlt, hc⟩ := hr (by omega)
  exact ⟨b, off, rfl, (hb.cell (p := ⟨b, off + i, none⟩) hlt).trans (hc i hi)⟩
theorem ints_one (ys : List Int) : ∀ u ∈ ys.map (Value.int .i64), u.oneCell' = true := by
  intro u hu
  obtain ⟨y, _, rfl⟩ := List.mem_map.mp hu
  rfl
theorem IRd.src {w : World} {v : Value} {cs : List Int} (h : IRd w v cs) : Src Tryd.prog 1 36 v cs.length (cs.map (Value.int .i64)) w := by
  obtain ⟨a, cap, rfl, h0, h1, hr⟩ := h
  cases a with
  | none =>
    have hl : cs = [] := by
      by_cases hp : 0 < cs.length
      · obtain ⟨b, off, e, _⟩ := hr hp
        simp at e
      · exact List.length_eq_zero_iff.mp (by omega)
    subst hl
    exact Src.ofNil w Tryd.underlying36 cap
  | some ad =>
    refine Src.ofSlice w Tryd.underlying36 ad _ cap _ (by simp) (fun j u hj => ?_) (ints_one cs)
    have hjl : j < cs.length := by
      have := (List.getElem?_eq_some_iff.mp hj).1
      simpa using this
    obtain ⟨b, off, e, hlt, hcell⟩ := hr (by omega)
    simp at e
    subst e
    rw [add_none, hcell j hjl]
    simp [hjl] at hj
    simp [List.getD, hjl, hj]
/-- A list of pairs that came in. -/
def PRd (w : World) (v : Value) (ts : List (Int × Int)) : Prop :=
  ∃ a cap, v = .slice a ts.length cap ∧ (ts.length : Int) ≤ 9223372036854775807 ∧ (∀ t ∈ ts, (-9223372036854775808 ≤ t.1 ∧ t.1 ≤ 9223372036854775807) ∧ (-9223372036854775808 ≤ t.2 ∧ t.2 ≤ 9223372036854775807)) ∧
    (0 < ts.length → ∃ b off, a = some ⟨b, off, none⟩ ∧ b < w.heap.size ∧ ∀ i, i < ts.length → w.cell? ⟨b, off + i * 2, none⟩ = some (.int .i64 (ts.getD i (0, 0)).1) ∧ w.cell? ⟨b, off + i * 2 + 1, none⟩ = some (.int .i64 (ts.getD i (0, 0)).2))
theorem cellsPair : Tryd.prog.cellsOf 49 = 2 := by kernel_rfl
theorem cellsInt : Tryd.prog.cellsOf 3 = 1 := by kernel_rfl
theorem open_pairs {H : Type} {enc : TypeId × Value → H} {W : World} {base : Nat} {v : Value} {d : DataW H} {p : List MemPlace}
    (hv : Value.okWide Tryd.prog W .any base 44 v) (h : DataW.Trod enc Tryd.prog W 0 (fun _ => true) true 44 v d p) : ∃ ts, PRd W v ts := by
  obtain ⟨a, len, cap, rfl⟩ := okWide_slice Tryd.underlying44 hv
  obtain ⟨fuel, hf⟩ := h
  rcases Go.Deep.open_slice Tryd.underlying44 (by simpa [Value.cells] using hf) with ⟨hcs, hx⟩ | ⟨x, l, c, m, n, D, Pl, hcs, _, hl, hm, hme, hx, hall⟩
  · simp at hcs
    obtain ⟨rfl, rfl, rfl⟩ := hcs
    exact ⟨[], none, 0, rfl, by simp, by simp, fun hp => by simp at hp⟩
  · simp at hcs
    obtain ⟨rfl, rfl, rfl⟩ := hcs
    have hlm : len ≤ m := by rw [hme]; simp; omega
    have each : ∀ i, i < len → ∃ t : Int × Int, W.cell? (x.add (i * 2)) = some (.int .i64 t.1) ∧ W.cell? ((x.add (i * 2)).add 1) = some (.int .i64 t.2) ∧ (-9223372036854775808 ≤ t.1 ∧ t.1 ≤ 9223372036854775807) ∧ (-9223372036854775808 ≤ t.2 ∧ t.2 ≤ 9223372036854775807) := by
      intro i hi
      obtain ⟨cs', hc, ht⟩ := hall i (by omega)
      rw [cellsPair] at hc
      obtain ⟨xs, m1, _, hx1, hlen, hn3, hel⟩ := DataW.trod_array Tryd.underlying49 ht
      obtain ⟨_, hcl, hcell⟩ := World.cells?_some hc
      match cs', hcl, xs, hn3 with
      | [c0, c1], _, [y0, y1], _ =>
        have t0 := hel 0 (by omega)
        have t1 := hel 1 (by omega)
        simp [cellsInt] at t0 t1
        obtain ⟨n0, e0, x0, w0⟩ := DataW.trod_int Tryd.underlying3 t0
        obtain ⟨n1, e1, x1, w1⟩ := DataW.trod_int Tryd.underlying3 t1
        simp at e0 e1
        subst e0 e1
        have h0 := hcell 0 (by omega)
        have h1 := hcell 1 (by omega)
        refine ⟨(n0, n1), by simpa [cellsPair, Addr.add] using h0, by simpa [cellsPair] using h1, bounds_i64 w0, bounds_i64 w1⟩
    haveI : Inhabited (Int × Int) := ⟨(0, 0)⟩
    obtain ⟨f, hf'⟩ := Go.Deep.choose_lt each
    have hlen : ((List.range len).map f).length = len := by simp
    refine ⟨(List.range len).map f, some x, cap, by rw [hlen], by rw [hlen]; unfold maxLen at hm; omega, fun t ht => ?_, fun hp => ?_⟩
    · obtain ⟨i, hi, rfl⟩ := List.mem_map.mp ht
      obtain ⟨_, _, b1, b2⟩ := hf' i (by simpa using hi)
      exact ⟨b1, b2⟩
    · rw [hlen] at hp
      obtain ⟨hc, _⟩ := hf' 0 hp
      obtain ⟨xb, xo, xs⟩ := x
      have hs : xs = none := by simpa [Addr.add] using World.cell?_spot hc
      subst hs
      refine ⟨xb, xo, rfl, World.block_lt_of_cell? W _ hc, fun i hi => ?_⟩
      rw [hlen] at hi
      obtain ⟨c0, c1, _⟩ := hf' i hi
      rw [add_none] at c0 c1
      rw [add_none] at c1
      have e : ((List.range len).map f).getD i (0, 0) = f i := by simp [List.getD, hi]
      rw [e]
      exact ⟨c0, c1⟩
theorem PRd.at {w w' : World} {a : Option Addr} {n cap : Nat} {ts : List (Int × Int)} (h : PRd w (.slice a n cap) ts) (hb : Below w.heap.size w w') (i : Nat) (hi : i < ts.length) : ∃ b off, a = some ⟨b, off, none⟩ ∧ w'.cell? ⟨b, off + i * 2, none⟩ = some (.int .i64 (ts.getD i (0, 0)).1) ∧ w'.cell? ⟨b, off + i * 2 + 1, none⟩ = some (.int .i64 (ts.getD i (0, 0)).2) := by
  obtain ⟨a', cap', e, _, _, hr⟩ := h
  simp at e
  obtain ⟨rfl, rfl, rfl⟩ := e
  obtain ⟨b, off, rfl, hlt, hc⟩ := hr (by omega)
  exact ⟨b, off, rfl, (hb.cell (p := ⟨b, off + i * 2, none⟩) hlt).trans (hc i hi).1, (hb.cell (p := ⟨b, off + i * 2 + 1, none⟩) hlt).trans (hc i hi).2⟩
end Go.Proofs.YtjlmkmhggkcbhaaDoor
