/- Entries among data, with what their numbers are within. -/
import Derived.Test.YtehnimafjgodeaaDoorOpenEn
namespace Go.Proofs.YtehnimafjgodeaaDoor
open Go.ChangeShapes Go.WideShapes Go.ChangeAt Go.RowKit Go.Joins
set_option maxRecDepth 100000

def In64 (x : Int) : Prop := -9223372036854775808 ≤ x ∧ x ≤ 9223372036854775807
/-- An entry among data. -/
theorem trod_entry2 {H : Type} {enc : TypeId × Value → H} {W : World} {fuel : Nat} {cs : List Value} {x : DataW H × List MemPlace} (h : DataW.trod enc Tryd.prog W 0 (fun _ => true) true fuel 28 cs = some x) :
    ∃ t : Ep, cs = c10 t ∧ EnW W t ∧ (In64 t.1.cl ∧ In64 t.1.nu) ∧ ((∀ n ∈ x.1.weights Tryd.prog 28, n ≤ reachBytes) → small t) := by
  obtain ⟨xs, n, _, hx, hc, hlen, hfs⟩ := DataW.trod_struct Tryd.underlying28 h
  rw [cellsEntry] at hc
  obtain ⟨c0, c1, c2, c3, c4, c5, c6, c7, c8, c9, rfl⟩ := list10 hc
  obtain ⟨y0, y1, y2, rfl⟩ := list3 hlen
  have h0 := hfs 0 _ rfl
  have h1 := hfs 1 _ rfl
  have h2 := hfs 2 _ rfl
  simp [cellsInt, cellsOrder] at h0 h1 h2
  obtain ⟨cl, e0, _, wc⟩ := DataW.trod_int Tryd.underlying3 h0
  obtain ⟨nu, e1, _, wn⟩ := DataW.trod_int Tryd.underlying3 h1
  simp at e0 e1
  subst e0 e1
  obtain ⟨zs2, n2, _, hx2, _, hlen2, hfs2⟩ := DataW.trod_struct Tryd.underlying26 h2
  obtain ⟨z0, z1, z2, z3, z4, z5, rfl⟩ := list6 hlen2
  have g0 := hfs2 0 _ rfl
  have g1 := hfs2 1 _ rfl
  have g2 := hfs2 2 _ rfl
  have g3 := hfs2 3 _ rfl
  have g4 := hfs2 4 _ rfl
  have g5 := hfs2 5 _ rfl
  simp [cellsInt, cellsServer, cellsTasks] at g0 g1 g2 g3 g4 g5
  obtain ⟨ki, e0, _⟩ := DataW.trod_int Tryd.underlying3 g0
  obtain ⟨di, e1, _⟩ := DataW.trod_int Tryd.underlying3 g1
  obtain ⟨sk, sq, st, rfl, rfl, rfl⟩ := trod_server g2
  obtain ⟨po, e3, _⟩ := DataW.trod_int Tryd.underlying3 g3
  obtain ⟨tm, e5, _⟩ := DataW.trod_int Tryd.underlying3 g5
  obtain ⟨a, ts, cap, rfl, hw, hs⟩ := open_tasks_c g4
  simp at e0 e1 e3 e5
  subst e0 e1 e3 e5
  refine ⟨(⟨cl, nu, ki, di, sk, sq, st, po, ts, tm⟩, a, cap), rfl, hw, ⟨bounds_i64 wc, bounds_i64 wn⟩, fun hwt => hs fun k hk => hwt k ?_⟩
  rw [hx]
  show k ∈ DataW.weights Tryd.prog 28 (.agg [y0.1, y1.1, y2.1])
  simp only [DataW.weights, Tryd.underlying28]
  refine DataW.weights_mem_each (j := 2) rfl rfl k ?_
  rw [hx2]
  show k ∈ DataW.weights Tryd.prog 26 (.agg [z0.1, z1.1, z2.1, z3.1, z4.1, z5.1])
  simp only [DataW.weights, Tryd.underlying26]
  exact DataW.weights_mem_each (j := 4) rfl rfl k hk
theorem open_entries2 {H : Type} {enc : TypeId × Value → H} {W : World} {base : Nat} {v : Value} {d : DataW H} {p : List MemPlace} {ts : List TypeId} {ds : List (DataW H)} {j : Nat} (hv : Value.okWide Tryd.prog W .any base 30 v) (h : DataW.Trod enc Tryd.prog W 0 (fun _ => true) true 30 v d p)
    (hs : (DataW.weightsEach Tryd.prog ts ds).all (· ≤ reachBytes) = true) (ht : ts[j]? = some 30) (hd : ds[j]? = some d) : ∃ ps : List Ep, Ens W v ps ∧ (∀ t ∈ ps, small t ∧ In64 t.1.cl ∧ In64 t.1.nu) ∧ ps.length * 96 ≤ 140737488355328 ∧ ∃ a c, v = .slice a ps.length c ∧ ps.length ≤ c := by
  obtain ⟨a, len, cap, rfl⟩ := okWide_slice Tryd.underlying30 hv
  obtain ⟨fuel, hf⟩ := h
  rcases Go.Deep.open_slice Tryd.underlying30 (by simpa [Value.cells] using hf) with ⟨hcs, hx⟩ | ⟨x, l, c, m, n, D, Pl, hcs, _, hl, hm, hme, hx, hall⟩
  · simp at hcs
    obtain ⟨rfl, rfl, rfl⟩ := hcs
    exact ⟨[], ⟨none, 0, rfl, by simp, fun hp => by simp at hp, fun t ht => by simp at ht⟩, fun t ht => by simp at ht, by simp, none, 0, rfl, by simp⟩
  · simp at hcs
    obtain ⟨rfl, rfl, rfl⟩ := hcs
    have hlm : len ≤ m := by rw [hme]; simp; omega
    have hdx : d = .slice ((List.range len).map D) ((List.range (m - len)).map fun j => D (len + j)) := congrArg Prod.fst hx
    have hb := sized_slice hs ht (hdx ▸ hd) Tryd.underlying30
    rw [bytesEntry] at hb
    simp only [reachBytes, List.length_map, List.length_range] at hb
    have each : ∀ i, i < len → ∃ y : Ep, ∃ b o, x.add (i * 10) = ⟨b, o, none⟩ ∧ EnAt W b o y ∧ EnW W y ∧ small y ∧ In64 y.1.cl ∧ In64 y.1.nu := by
      intro i hi
      obtain ⟨cs, hc, htr⟩ := hall i (by omega)
      rw [cellsEntry] at hc
      obtain ⟨_, hlen, hcell⟩ := World.cells?_some hc
      obtain ⟨t, rfl, hw, hi64, hsm⟩ := trod_entry2 htr
      generalize x.add (i * 10) = z at hcell ⊢
      obtain ⟨b, o, spot⟩ := z
      have h0 := hcell 0 (by simp)
      have hspot : spot = none := by simpa [Addr.add] using World.cell?_spot h0
      subst hspot
      refine ⟨t, b, o, rfl, EnAt.of fun r u hr hu => ?_, hw, hsm fun k hk => all_le hs k (DataW.weights_mem_each ht (hdx ▸ hd) k ?_), hi64⟩
      · have := hcell r hr
        rw [add_none] at this
        rw [this]
        exact hu
      · simp only [DataW.weights, Tryd.underlying30]
        refine List.mem_cons_of_mem _ (List.mem_append_left _ (weights_all (d := D i) ?_ k hk))
        exact List.mem_map.mpr ⟨i, List.mem_range.mpr hi, rfl⟩
    haveI : Inhabited Ep := ⟨(⟨0, 0, 0, 0, 0, 0, 0, 0, [], 0⟩, none, 0)⟩
    obtain ⟨f, hf'⟩ := Go.Deep.choose_lt each
    have hlen : ((List.range len).map f).length = len := by simp
    refine ⟨(List.range len).map f, ⟨some x, cap, by rw [hlen], by rw [hlen]; unfold maxLen at hm; omega, fun hp => ?_, fun t ht => ?_⟩, fun t ht => ?_, by rw [hlen]; omega, some x, cap, by rw [hlen], by rw [hlen]; exact hl⟩
    · rw [hlen] at hp
      obtain ⟨b, o, he, hat, _⟩ := hf' 0 hp
      obtain ⟨xb, xo, xs⟩ := x
      simp [Addr.add] at he
      obtain ⟨rfl, rfl, rfl⟩ := he
      refine ⟨xb, xo, rfl, fun k y hk => ?_⟩
      have hkl : k < len := by
        have := (List.getElem?_eq_some_iff.mp hk).1
        simpa using this
      obtain ⟨b, o, he, hat', _⟩ := hf' k hkl
      rw [add_none] at he
      simp at he
      obtain ⟨rfl, rfl⟩ := he
      have : y = f k := by simpa [hkl] using hk.symm
      rw [this]
      exact hat'
    · obtain ⟨k, hk, rfl⟩ := List.mem_map.mp ht
      obtain ⟨b, o, _, _, hi, _⟩ := hf' k (by simpa using hk)
      exact hi
    · obtain ⟨k, hk, rfl⟩ := List.mem_map.mp ht
      obtain ⟨b, o, _, _, _, hi⟩ := hf' k (by simpa using hk)
      exact hi
end Go.Proofs.YtehnimafjgodeaaDoor
