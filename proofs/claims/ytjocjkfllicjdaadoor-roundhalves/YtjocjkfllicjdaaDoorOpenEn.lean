/- How entries and lists of entries that come in are opened. -/
import Derived.Test.YtjocjkfllicjdaaDoorOled
import Derived.OpenShut
import Derived.Deep.Slices
import Derived.SizedLaws
import Derived.Lib.SmallJoins
namespace Go.Proofs.YtjocjkfllicjdaaDoor
open Go.ChangeShapes Go.WideShapes Go.ChangeAt Go.RowKit Go.Joins
set_option maxRecDepth 100000

theorem cellsInt : Tryd.prog.cellsOf 3 = 1 := by kernel_rfl
theorem cellsServer : Tryd.prog.cellsOf 23 = 3 := by kernel_rfl
theorem cellsTask : Tryd.prog.cellsOf 45 = 4 := by kernel_rfl
theorem cellsTasks : Tryd.prog.cellsOf 24 = 1 := by kernel_rfl
theorem cellsOrder : Tryd.prog.cellsOf 26 = 8 := by kernel_rfl
theorem cellsEntry : Tryd.prog.cellsOf 28 = 10 := by kernel_rfl
theorem bytesTask : Tryd.prog.bytesOf 45 = 32 := by kernel_rfl
theorem bytesEntry : Tryd.prog.bytesOf 28 = 96 := by kernel_rfl
theorem list4 {α : Type} {l : List α} (h : l.length = 4) : ∃ y0 y1 y2 y3, l = [y0, y1, y2, y3] := by
  match l, h with
  | [y0, y1, y2, y3], _ => exact ⟨_, _, _, _, rfl⟩
theorem list3 {α : Type} {l : List α} (h : l.length = 3) : ∃ y0 y1 y2, l = [y0, y1, y2] := by
  match l, h with
  | [y0, y1, y2], _ => exact ⟨_, _, _, rfl⟩
theorem list6 {α : Type} {l : List α} (h : l.length = 6) : ∃ y0 y1 y2 y3 y4 y5, l = [y0, y1, y2, y3, y4, y5] := by
  match l, h with
  | [y0, y1, y2, y3, y4, y5], _ => exact ⟨_, _, _, _, _, _, rfl⟩
theorem list10 {α : Type} {l : List α} (h : l.length = 10) : ∃ y0 y1 y2 y3 y4 y5 y6 y7 y8 y9, l = [y0, y1, y2, y3, y4, y5, y6, y7, y8, y9] := by
  match l, h with
  | [y0, y1, y2, y3, y4, y5, y6, y7, y8, y9], _ => exact ⟨_, _, _, _, _, _, _, _, _, _, rfl⟩
theorem trod_task {H : Type} {enc : TypeId × Value → H} {w : World} {base : Nat} {sp : Nat → Bool} {held : Bool} {fuel : Nat} {c0 c1 c2 c3 : Value} {x : DataW H × List MemPlace} (h : DataW.trod enc Tryd.prog w base sp held fuel 45 [c0, c1, c2, c3] = some x) :
    ∃ k q t s : Int, c0 = .int .i64 k ∧ c1 = .int .i64 q ∧ c2 = .int .i64 t ∧ c3 = .int .i64 s := by
  obtain ⟨xs, n, _, hx, _, hlen, hfs⟩ := DataW.trod_struct Tryd.underlying45 h
  obtain ⟨y0, y1, y2, y3, rfl⟩ := list4 hlen
  have h0 := hfs 0 _ rfl
  have h1 := hfs 1 _ rfl
  have h2 := hfs 2 _ rfl
  have h3 := hfs 3 _ rfl
  simp [cellsInt] at h0 h1 h2 h3
  obtain ⟨k, e0, _⟩ := DataW.trod_int Tryd.underlying3 h0
  obtain ⟨q, e1, _⟩ := DataW.trod_int Tryd.underlying3 h1
  obtain ⟨t, e2, _⟩ := DataW.trod_int Tryd.underlying3 h2
  obtain ⟨s, e3, _⟩ := DataW.trod_int Tryd.underlying3 h3
  simp at e0 e1 e2 e3
  exact ⟨k, q, t, s, e0, e1, e2, e3⟩
theorem trod_server {H : Type} {enc : TypeId × Value → H} {w : World} {base : Nat} {sp : Nat → Bool} {held : Bool} {fuel : Nat} {c0 c1 c2 : Value} {x : DataW H × List MemPlace} (h : DataW.trod enc Tryd.prog w base sp held fuel 23 [c0, c1, c2] = some x) :
    ∃ k q t : Int, c0 = .int .i64 k ∧ c1 = .int .i64 q ∧ c2 = .int .i64 t := by
  obtain ⟨xs, n, _, hx, _, hlen, hfs⟩ := DataW.trod_struct Tryd.underlying23 h
  obtain ⟨y0, y1, y2, rfl⟩ := list3 hlen
  have h0 := hfs 0 _ rfl
  have h1 := hfs 1 _ rfl
  have h2 := hfs 2 _ rfl
  simp [cellsInt] at h0 h1 h2
  obtain ⟨k, e0, _⟩ := DataW.trod_int Tryd.underlying3 h0
  obtain ⟨q, e1, _⟩ := DataW.trod_int Tryd.underlying3 h1
  obtain ⟨t, e2, _⟩ := DataW.trod_int Tryd.underlying3 h2
  simp at e0 e1 e2
  exact ⟨k, q, t, e0, e1, e2⟩
theorem open_tasks_c {H : Type} {enc : TypeId × Value → H} {W : World} {fuel : Nat} {c : Value} {x : DataW H × List MemPlace} (hf : DataW.trod enc Tryd.prog W 0 (fun _ => true) true fuel 24 [c] = some x) :
    ∃ (a : Option Addr) (xs : List Tk) (cap : Nat), c = .slice a xs.length cap ∧ Tks W (.slice a xs.length cap) xs ∧ ((∀ n ∈ x.1.weights Tryd.prog 24, n ≤ reachBytes) → xs.length * 32 ≤ 140737488355328) := by
  rcases Go.Deep.open_slice Tryd.underlying24 hf with ⟨hcs, hx⟩ | ⟨x0, l, cp, m, n, D, Pl, hcs, _, hl, hm, hme, hx, hall⟩
  · simp at hcs
    subst hcs
    exact ⟨none, [], 0, rfl, ⟨none, 0, rfl, by simp, fun hp => by simp at hp⟩, fun _ => by simp⟩
  · simp at hcs
    subst hcs
    have hlm : l ≤ m := by rw [hme]; simp; omega
    have each : ∀ i, i < l → ∃ y : Tk, ∃ b o, x0.add (i * 4) = ⟨b, o, none⟩ ∧ TkAt W b o y := by
      intro i hi
      obtain ⟨cs, hc, ht⟩ := hall i (by omega)
      rw [cellsTask] at hc
      obtain ⟨_, hlen, hcell⟩ := World.cells?_some hc
      obtain ⟨c0, c1, c2, c3, rfl⟩ := list4 (l := cs) (by omega)
      obtain ⟨k, q, t, s, rfl, rfl, rfl, rfl⟩ := trod_task ht
      generalize x0.add (i * 4) = z at hcell ⊢
      obtain ⟨b, o, spot⟩ := z
      have h0 := hcell 0 (by omega)
      have hspot : spot = none := by simpa [Addr.add] using World.cell?_spot h0
      subst hspot
      exact ⟨(k, q, t, s), b, o, rfl, by simpa [add_none] using hcell 0 (by omega), by simpa [add_none] using hcell 1 (by omega), by simpa [add_none] using hcell 2 (by omega), by simpa [add_none] using hcell 3 (by omega)⟩
    obtain ⟨f, hf'⟩ := Go.Deep.choose_lt each
    have hlen : ((List.range l).map f).length = l := by simp
    refine ⟨some x0, (List.range l).map f, cp, by rw [hlen], ⟨some x0, cp, rfl, by rw [hlen]; unfold maxLen at hm; omega, fun hp => ?_⟩, fun hw => ?_⟩
    · rw [hlen] at hp
      obtain ⟨b, o, he, hat⟩ := hf' 0 hp
      obtain ⟨xb, xo, xs⟩ := x0
      simp [Addr.add] at he
      obtain ⟨rfl, rfl, rfl⟩ := he
      refine ⟨xb, xo, rfl, fun k y hk => ?_⟩
      have hkl : k < l := by
        have := (List.getElem?_eq_some_iff.mp hk).1
        simpa using this
      obtain ⟨b, o, he, hat'⟩ := hf' k hkl
      rw [add_none] at he
      simp at he
      obtain ⟨rfl, rfl⟩ := he
      have : y = f k := by simpa [hkl] using hk.symm
      rw [this]
      exact hat'
    · rw [hx] at hw
      have h1 := hw _ (show (((List.range l).map D).length + ((List.range (m - l)).map fun j => D (l + j)).length) * 32 ∈ _ by simp [DataW.weights, Tryd.underlying24, bytesTask])
      simp only [List.length_map, List.length_range, reachBytes] at h1
      rw [hlen]
      omega
/-- An entry among data. -/
theorem trod_entry {H : Type} {enc : TypeId × Value → H} {W : World} {fuel : Nat} {cs : List Value} {x : DataW H × List MemPlace} (h : DataW.trod enc Tryd.prog W 0 (fun _ => true) true fuel 28 cs = some x) :
    ∃ t : Ep, cs = c10 t ∧ EnW W t ∧ ((∀ n ∈ x.1.weights Tryd.prog 28, n ≤ reachBytes) → small t) := by
  obtain ⟨xs, n, _, hx, hc, hlen, hfs⟩ := DataW.trod_struct Tryd.underlying28 h
  rw [cellsEntry] at hc
  obtain ⟨c0, c1, c2, c3, c4, c5, c6, c7, c8, c9, rfl⟩ := list10 hc
  obtain ⟨y0, y1, y2, rfl⟩ := list3 hlen
  have h0 := hfs 0 _ rfl
  have h1 := hfs 1 _ rfl
  have h2 := hfs 2 _ rfl
  simp [cellsInt, cellsOrder] at h0 h1 h2
  obtain ⟨cl, e0, _⟩ := DataW.trod_int Tryd.underlying3 h0
  obtain ⟨nu, e1, _⟩ := DataW.trod_int Tryd.underlying3 h1
  simp at e0 e1
  subst e0 e1
  obtain ⟨zs2, n2, _, hx2, _, hlen2, hfs2⟩ := DataW.trod_struct Tryd.underlying26 h2
  obtain ⟨z0, z1, z2, z3, z4, z5, rfl⟩ := list6 hlen2
  have g0 := hfs2 0 _ rfl
  have g1 := hfs2 1 _ rfl
  have g2 := hfs2 2 _ rfl
  have g3 := hfs2 3 _ rfl
  have g4 := hfs2 4 _ rfl
  have g5 := hfs2 5 _ rfl
  simp [cellsInt, cellsServer, cellsTasks] at g0 g1 g2 g3 g4 g5
  obtain ⟨ki, e0, _⟩ := DataW.trod_int Tryd.underlying3 g0
  obtain ⟨di, e1, _⟩ := DataW.trod_int Tryd.underlying3 g1
  obtain ⟨sk, sq, st, rfl, rfl, rfl⟩ := trod_server g2
  obtain ⟨po, e3, _⟩ := DataW.trod_int Tryd.underlying3 g3
  obtain ⟨tm, e5, _⟩ := DataW.trod_int Tryd.underlying3 g5
  obtain ⟨a, ts, cap, rfl, hw, hs⟩ := open_tasks_c g4
  simp at e0 e1 e3 e5
  subst e0 e1 e3 e5
  refine ⟨(⟨cl, nu, ki, di, sk, sq, st, po, ts, tm⟩, a, cap), rfl, hw, fun hwt => hs fun k hk => hwt k ?_⟩
  rw [hx]
  show k ∈ DataW.weights Tryd.prog 28 (.agg [y0.1, y1.1, y2.1])
  simp only [DataW.weights, Tryd.underlying28]
  refine DataW.weights_mem_each (j := 2) rfl rfl k ?_
  rw [hx2]
  show k ∈ DataW.weights Tryd.prog 26 (.agg [z0.1, z1.1, z2.1, z3.1, z4.1, z5.1])
  simp only [DataW.weights, Tryd.underlying26]
  exact DataW.weights_mem_each (j := 4) rfl rfl k hk
theorem all_le {l : List Nat} (h : l.all (· ≤ reachBytes) = true) : ∀ n ∈ l, n ≤ reachBytes := fun n hn => by simpa using List.all_eq_true.1 h n hn
theorem open_entry {H : Type} {enc : TypeId × Value → H} {W : World} {base : Nat} {v : Value} {d : DataW H} {p : List MemPlace} {ts : List TypeId} {ds : List (DataW H)} {j : Nat} (hv : Value.okWide Tryd.prog W .any base 28 v) (h : DataW.Trod enc Tryd.prog W 0 (fun _ => true) true 28 v d p)
    (hs : (DataW.weightsEach Tryd.prog ts ds).all (· ≤ reachBytes) = true) (ht : ts[j]? = some 28) (hd : ds[j]? = some d) : ∃ t : Ep, v = vP t ∧ EnW W t ∧ small t := by
  obtain ⟨cs, rfl, hsz⟩ := okWide_struct Tryd.underlying28 hv
  obtain ⟨fuel, hf⟩ := h
  obtain ⟨t, hc, hw, hsm⟩ := trod_entry (by simpa [Value.cells] using hf)
  refine ⟨t, ?_, hw, hsm fun n hn => all_le hs n (DataW.weights_mem_each ht hd n hn)⟩
  have : cs = (c10 t).toArray := by rw [← hc]
  rw [this]
  rfl
theorem weights_all {H : Type} {P : Program} {e : TypeId} : ∀ {ds : List (DataW H)} {d : DataW H}, d ∈ ds → ∀ n ∈ d.weights P e, n ∈ DataW.weightsAll P e ds
  | d0 :: ds, d, hd, n, hn => by
    simp only [DataW.weightsAll, List.mem_append]
    rcases List.mem_cons.mp hd with rfl | hd
    · exact .inl hn
    · exact .inr (weights_all hd n hn)
  | [], d, hd, _, _ => by simp at hd
theorem open_entries {H : Type} {enc : TypeId × Value → H} {W : World} {base : Nat} {v : Value} {d : DataW H} {p : List MemPlace} {ts : List TypeId} {ds : List (DataW H)} {j : Nat} (hv : Value.okWide Tryd.prog W .any base 35 v) (h : DataW.Trod enc Tryd.prog W 0 (fun _ => true) true 35 v d p)
    (hs : (DataW.weightsEach Tryd.prog ts ds).all (· ≤ reachBytes) = true) (ht : ts[j]? = some 35) (hd : ds[j]? = some d) : ∃ ps : List Ep, Ens W v ps ∧ (∀ t ∈ ps, small t) ∧ ps.length * 96 ≤ 140737488355328 ∧ ∃ a c, v = .slice a ps.length c ∧ ps.length ≤ c := by
  obtain ⟨a, len, cap, rfl⟩ := okWide_slice Tryd.underlying35 hv
  obtain ⟨fuel, hf⟩ := h
  rcases Go.Deep.open_slice Tryd.underlying35 (by simpa [Value.cells] using hf) with ⟨hcs, hx⟩ | ⟨x, l, c, m, n, D, Pl, hcs, _, hl, hm, hme, hx, hall⟩
  · simp at hcs
    obtain ⟨rfl, rfl, rfl⟩ := hcs
    exact ⟨[], ⟨none, 0, rfl, by simp, fun hp => by simp at hp, fun t ht => by simp at ht⟩, fun t ht => by simp at ht, by simp, none, 0, rfl, by simp⟩
  · simp at hcs
    obtain ⟨rfl, rfl, rfl⟩ := hcs
    have hlm : len ≤ m := by rw [hme]; simp; omega
    have hdx : d = .slice ((List.range len).map D) ((List.range (m - len)).map fun j => D (len + j)) := congrArg Prod.fst hx
    have hb := sized_slice hs ht (hdx ▸ hd) Tryd.underlying35
    rw [bytesEntry] at hb
    simp only [reachBytes, List.length_map, List.length_range] at hb
    have each : ∀ i, i < len → ∃ y : Ep, ∃ b o, x.add (i * 10) = ⟨b, o, none⟩ ∧ EnAt W b o y ∧ EnW W y ∧ small y := by
      intro i hi
      obtain ⟨cs, hc, htr⟩ := hall i (by omega)
      rw [cellsEntry] at hc
      obtain ⟨_, hlen, hcell⟩ := World.cells?_some hc
      obtain ⟨t, rfl, hw, hsm⟩ := trod_entry htr
      generalize x.add (i * 10) = z at hcell ⊢
      obtain ⟨b, o, spot⟩ := z
      have h0 := hcell 0 (by simp)
      have hspot : spot = none := by simpa [Addr.add] using World.cell?_spot h0
      subst hspot
      refine ⟨t, b, o, rfl, EnAt.of fun r u hr hu => ?_, hw, hsm fun k hk => all_le hs k (DataW.weights_mem_each ht (hdx ▸ hd) k ?_)⟩
      · have := hcell r hr
        rw [add_none] at this
        rw [this]
        exact hu
      · simp only [DataW.weights, Tryd.underlying35]
        refine List.mem_cons_of_mem _ (List.mem_append_left _ (weights_all (d := D i) ?_ k hk))
        exact List.mem_map.mpr ⟨i, List.mem_range.mpr hi, rfl⟩
    haveI : Inhabited Ep := ⟨(⟨0, 0, 0, 0, 0, 0, 0, 0, [], 0⟩, none, 0)⟩
    obtain ⟨f, hf'⟩ := Go.Deep.choose_lt each
    have hlen : ((List.range len).map f).length = len := by simp
    refine ⟨(List.range len).map f, ⟨some x, cap, by rw [hlen], by rw [hlen]; unfold maxLen at hm; omega, fun hp => ?_, fun t ht => ?_⟩, fun t ht => ?_, by rw [hlen]; omega, some x, cap, by rw [hlen], by rw [hlen]; exact hl⟩
    · rw [hlen] at hp
      obtain ⟨b, o, he, hat, _⟩ := hf' 0 hp
      obtain ⟨xb, xo, xs⟩ := x
      simp [Addr.add] at he
      obtain ⟨rfl, rfl, rfl⟩ := he
      refine ⟨xb, xo, rfl, fun k y hk => ?_⟩
      have hkl : k < len := by
        have := (List.getElem?_eq_some_iff.mp hk).1
        simpa using this
      obtain ⟨b, o, he, hat', _⟩ := hf' k hkl
      rw [add_none] at he
      simp at he
      obtain ⟨rfl, rfl⟩ := he
      have : y = f k := by simpa [hkl] using hk.symm
      rw [this]
      exact hat'
    · obtain ⟨k, hk, rfl⟩ := List.mem_map.mp ht
      obtain ⟨b, o, _, _, hi, _⟩ := hf' k (by simpa using hk)
      exact hi
    · obtain ⟨k, hk, rfl⟩ := List.mem_map.mp ht
      obtain ⟨b, o, _, _, _, hi⟩ := hf' k (by simpa using hk)
      exact hi
end Go.Proofs.YtjocjkfllicjdaaDoor
