/- How a case that comes in is opened. -/
import Derived.Test.YthncfkeoephipaaDoorGs8
import Derived.OpenShut
import Derived.Deep.Slices
import Derived.SizedLaws
import Derived.Lib.SmallJoins
namespace Go.Proofs.YthncfkeoephipaaDoor
open Go.ChangeShapes Go.WideShapes Go.ChangeAt Go.RowKit Go.Joins

/-- A 64-bit integer. -/
structure I64 (x : Int) : Prop where
  lo : -9223372036854775808 ≤ x
  hi : x ≤ 9223372036854775807
theorem cellsInt : Tryd.prog.cellsOf 3 = 1 := by kernel_rfl
theorem i64_of_wf {x : Int} (h : (Lit.int .i64 x).wf = true) : I64 x := ⟨(bounds_i64 h).1, (bounds_i64 h).2⟩
theorem array3 {cs : Array Value} (h : cs.size = 3) : ∃ c0 c1 c2, cs = #[c0, c1, c2] := by
  obtain ⟨l⟩ := cs
  match l, h with
  | [c0, c1, c2], _ => exact ⟨_, _, _, rfl⟩
theorem list3 {α : Type} {l : List α} (h : l.length = 3) : ∃ y0 y1 y2, l = [y0, y1, y2] := by
  match l, h with
  | [y0, y1, y2], _ => exact ⟨_, _, _, rfl⟩
theorem cellsTask : Tryd.prog.cellsOf 37 = 4 := by kernel_rfl
theorem list4 {α : Type} {l : List α} (h : l.length = 4) : ∃ y0 y1 y2 y3, l = [y0, y1, y2, y3] := by
  match l, h with
  | [y0, y1, y2, y3], _ => exact ⟨_, _, _, _, rfl⟩
theorem trod_task {H : Type} {enc : TypeId × Value → H} {w : World} {base : Nat} {sp : Nat → Bool} {held : Bool} {fuel : Nat} {c0 c1 c2 c3 : Value} {x : DataW H × List MemPlace} (h : DataW.trod enc Tryd.prog w base sp held fuel 37 [c0, c1, c2, c3] = some x) :
    ∃ k q t s : Int, c0 = .int .i64 k ∧ c1 = .int .i64 q ∧ c2 = .int .i64 t ∧ c3 = .int .i64 s ∧ I64 k ∧ I64 q ∧ I64 t ∧ I64 s := by
  obtain ⟨xs, n, _, hx, _, hlen, hfs⟩ := DataW.trod_struct Tryd.underlying37 h
  obtain ⟨y0, y1, y2, y3, rfl⟩ := list4 hlen
  have h0 := hfs 0 _ rfl
  have h1 := hfs 1 _ rfl
  have h2 := hfs 2 _ rfl
  have h3 := hfs 3 _ rfl
  simp [cellsInt] at h0 h1 h2 h3
  obtain ⟨k, e0, _, wk⟩ := DataW.trod_int Tryd.underlying3 h0
  obtain ⟨q, e1, _, wq⟩ := DataW.trod_int Tryd.underlying3 h1
  obtain ⟨t, e2, _, wt⟩ := DataW.trod_int Tryd.underlying3 h2
  obtain ⟨s, e3, _, ws⟩ := DataW.trod_int Tryd.underlying3 h3
  simp at e0 e1 e2 e3
  exact ⟨k, q, t, s, e0, e1, e2, e3, i64_of_wf wk, i64_of_wf wq, i64_of_wf wt, i64_of_wf ws⟩
theorem bytesTask : Tryd.prog.bytesOf 37 = 32 := by kernel_rfl
theorem cellsTasks : Tryd.prog.cellsOf 22 = 1 := by kernel_rfl
theorem open_tasks_c {H : Type} {enc : TypeId × Value → H} {W : World} {fuel : Nat} {c : Value} {x : DataW H × List MemPlace} (hf : DataW.trod enc Tryd.prog W 0 (fun _ => true) true fuel 22 [c] = some x) :
    ∃ (a : Option Addr) (xs : List Tk) (cap : Nat), c = .slice a xs.length cap ∧ xs.length ≤ cap ∧ Tks W (.slice a xs.length cap) xs ∧ ((∀ n ∈ x.1.weights Tryd.prog 22, n ≤ reachBytes) → xs.length * 32 ≤ 140737488355328) := by
  rcases Go.Deep.open_slice Tryd.underlying22 hf with ⟨hcs, hx⟩ | ⟨x0, l, cp, m, n, D, Pl, hcs, _, hl, hm, hme, hx, hall⟩
  · simp at hcs
    subst hcs
    exact ⟨none, [], 0, rfl, by simp, ⟨none, 0, rfl, by simp, fun hp => by simp at hp⟩, fun _ => by simp⟩
  · simp at hcs
    subst hcs
    have hlm : l ≤ m := by rw [hme]; simp; omega
    have each : ∀ i, i < l → ∃ y : Tk, ∃ b o, x0.add (i * 4) = ⟨b, o, none⟩ ∧ TkAt W b o y := by
      intro i hi
      obtain ⟨cs, hc, ht⟩ := hall i (by omega)
      rw [cellsTask] at hc
      obtain ⟨_, hlen, hcell⟩ := World.cells?_some hc
      obtain ⟨c0, c1, c2, c3, rfl⟩ := list4 (l := cs) (by omega)
      obtain ⟨k, q, t, s, rfl, rfl, rfl, rfl, _⟩ := trod_task ht
      generalize x0.add (i * 4) = z at hcell ⊢
      obtain ⟨b, o, spot⟩ := z
      have h0 := hcell 0 (by omega)
      have hspot : spot = none := by simpa [Addr.add] using World.cell?_spot h0
      subst hspot
      exact ⟨(k, q, t, s), b, o, rfl, by simpa [add_none] using hcell 0 (by omega), by simpa [add_none] using hcell 1 (by omega), by simpa [add_none] using hcell 2 (by omega), by simpa [add_none] using hcell 3 (by omega)⟩
    obtain ⟨f, hf'⟩ := Go.Deep.choose_lt each
    have hlen : ((List.range l).map f).length = l := by simp
    refine ⟨some x0, (List.range l).map f, cp, by rw [hlen], by rw [hlen]; exact hl, ⟨some x0, cp, rfl, by rw [hlen]; unfold maxLen at hm; omega, fun hp => ?_⟩, fun hw => ?_⟩
    · rw [hlen] at hp
      obtain ⟨b, o, he, hat⟩ := hf' 0 hp
      obtain ⟨xb, xo, xs⟩ := x0
      simp [Addr.add] at he
      obtain ⟨rfl, rfl, rfl⟩ := he
      refine ⟨xb, xo, rfl, fun k y hk => ?_⟩
      have hkl : k < l := by
        have := (List.getElem?_eq_some_iff.mp hk).1
        simpa using this
      obtain ⟨b, o, he, hat'⟩ := hf' k hkl
      rw [add_none] at he
      simp at he
      obtain ⟨rfl, rfl⟩ := he
      have : y = f k := by simpa [hkl] using hk.symm
      rw [this]
      exact hat'
    · rw [hx] at hw
      have h1 := hw _ (show (((List.range l).map D).length + ((List.range (m - l)).map fun j => D (l + j)).length) * 32 ∈ _ by simp [DataW.weights, Tryd.underlying22, bytesTask])
      simp only [List.length_map, List.length_range, reachBytes] at h1
      rw [hlen]
      omega
theorem all_le {l : List Nat} (h : l.all (· ≤ reachBytes) = true) : ∀ n ∈ l, n ≤ reachBytes := fun n hn => by simpa using List.all_eq_true.1 h n hn
theorem list5 {α : Type} {l : List α} (h : l.length = 5) : ∃ y0 y1 y2 y3 y4, l = [y0, y1, y2, y3, y4] := by
  match l, h with
  | [y0, y1, y2, y3, y4], _ => exact ⟨_, _, _, _, _, rfl⟩
theorem cellsOp : Tryd.prog.cellsOf 40 = 5 := by kernel_rfl
theorem cellsOps : Tryd.prog.cellsOf 23 = 1 := by kernel_rfl
theorem bytesOp : Tryd.prog.bytesOf 40 = 40 := by kernel_rfl
theorem cellsCase : Tryd.prog.cellsOf 25 = 3 := by kernel_rfl
def OpI (o : Op5) : Prop := I64 o.kd ∧ I64 o.wh ∧ I64 o.tk ∧ I64 o.nw ∧ I64 o.tc
theorem trod_op {H : Type} {enc : TypeId × Value → H} {w : World} {base : Nat} {sp : Nat → Bool} {held : Bool} {fuel : Nat} {c0 c1 c2 c3 c4 : Value} {x : DataW H × List MemPlace} (h : DataW.trod enc Tryd.prog w base sp held fuel 40 [c0, c1, c2, c3, c4] = some x) :
    ∃ o : Op5, [c0, c1, c2, c3, c4] = co o ∧ OpI o := by
  obtain ⟨xs, n, _, hx, _, hlen, hfs⟩ := DataW.trod_struct Tryd.underlying40 h
  obtain ⟨y0, y1, y2, y3, y4, rfl⟩ := list5 hlen
  have h0 := hfs 0 _ rfl
  have h1 := hfs 1 _ rfl
  have h2 := hfs 2 _ rfl
  have h3 := hfs 3 _ rfl
  have h4 := hfs 4 _ rfl
  simp [cellsInt] at h0 h1 h2 h3 h4
  obtain ⟨k, e0, _, wk⟩ := DataW.trod_int Tryd.underlying3 h0
  obtain ⟨q, e1, _, wq⟩ := DataW.trod_int Tryd.underlying3 h1
  obtain ⟨t, e2, _, wt⟩ := DataW.trod_int Tryd.underlying3 h2
  obtain ⟨s, e3, _, ws⟩ := DataW.trod_int Tryd.underlying3 h3
  obtain ⟨u, e4, _, wu⟩ := DataW.trod_int Tryd.underlying3 h4
  simp at e0 e1 e2 e3 e4
  subst e0 e1 e2 e3 e4
  exact ⟨⟨k, q, t, s, u⟩, rfl, i64_of_wf wk, i64_of_wf wq, i64_of_wf wt, i64_of_wf ws, i64_of_wf wu⟩
theorem open_ops_c {H : Type} {enc : TypeId × Value → H} {W : World} {fuel : Nat} {c : Value} {x : DataW H × List MemPlace} (hf : DataW.trod enc Tryd.prog W 0 (fun _ => true) true fuel 23 [c] = some x) :
    ∃ (a : Option Addr) (xs : List Op5) (cap : Nat), c = .slice a xs.length cap ∧ xs.length ≤ cap ∧ Ops W (.slice a xs.length cap) xs ∧ (∀ o ∈ xs, OpI o) ∧ ((∀ n ∈ x.1.weights Tryd.prog 23, n ≤ reachBytes) → xs.length * 40 ≤ 140737488355328) ∧ ((x.1 = .nil ∧ xs = []) ∨ ∃ es ss, x.1 = .slice es ss ∧ es.length = xs.length) := by
  rcases Go.Deep.open_slice Tryd.underlying23 hf with ⟨hcs, hx⟩ | ⟨x0, l, cp, m, n, D, Pl, hcs, _, hl, hm, hme, hx, hall⟩
  · simp at hcs
    subst hcs
    exact ⟨none, [], 0, rfl, by simp, ⟨none, 0, rfl, by simp, by simp, fun hp => by simp at hp⟩, fun o ho => by simp at ho, fun _ => by simp, .inl ⟨congrArg Prod.fst hx, rfl⟩⟩
  · simp at hcs
    subst hcs
    have hlm : l ≤ m := by rw [hme]; simp; omega
    have each : ∀ i, i < l → ∃ y : Op5, ∃ b o, x0.add (i * 5) = ⟨b, o, none⟩ ∧ (∀ r u, r < 5 → (co y)[r]? = some u → W.cell? ⟨b, o + r, none⟩ = some u) ∧ OpI y := by
      intro i hi
      obtain ⟨cs, hc, ht⟩ := hall i (by omega)
      rw [cellsOp] at hc
      obtain ⟨_, hlen, hcell⟩ := World.cells?_some hc
      obtain ⟨c0, c1, c2, c3, c4, rfl⟩ := list5 (l := cs) (by omega)
      obtain ⟨y, hy, hi2⟩ := trod_op ht
      rw [hy] at hcell
      generalize x0.add (i * 5) = z at hcell ⊢
      obtain ⟨b, o, spot⟩ := z
      have h0 := hcell 0 (by omega)
      have hspot : spot = none := by simpa [Addr.add] using World.cell?_spot h0
      subst hspot
      refine ⟨y, b, o, rfl, fun r u hr hu => ?_, hi2⟩
      have := hcell r hr
      rw [add_none] at this
      rw [this]
      exact hu
    haveI : Inhabited Op5 := ⟨⟨0, 0, 0, 0, 0⟩⟩
    obtain ⟨f, hf'⟩ := Go.Deep.choose_lt each
    have hlen : ((List.range l).map f).length = l := by simp
    refine ⟨some x0, (List.range l).map f, cp, by rw [hlen], by rw [hlen]; exact hl, ⟨some x0, cp, rfl, by rw [hlen]; exact hl, by rw [hlen]; unfold maxLen at hm; omega, fun hp => ?_⟩, fun y hy => ?_, fun hw => ?_, .inr ⟨_, _, congrArg Prod.fst hx, by simp⟩⟩
    · rw [hlen] at hp
      obtain ⟨b, o, he, hat, _⟩ := hf' 0 hp
      obtain ⟨xb, xo, xs⟩ := x0
      simp [Addr.add] at he
      obtain ⟨rfl, rfl, rfl⟩ := he
      refine ⟨xb, xo, rfl, fun k y hk => ?_⟩
      have hkl : k < l := by
        have := (List.getElem?_eq_some_iff.mp hk).1
        simpa using this
      obtain ⟨b, o, he, hat', _⟩ := hf' k hkl
      rw [add_none] at he
      simp at he
      obtain ⟨rfl, rfl⟩ := he
      have : y = f k := by simpa [hkl] using hk.symm
      rw [this]
      exact hat'
    · obtain ⟨k, hk, rfl⟩ := List.mem_map.mp hy
      obtain ⟨b, o, _, _, hi⟩ := hf' k (by simpa using hk)
      exact hi
    · rw [hx] at hw
      have h1 := hw _ (show (((List.range l).map D).length + ((List.range (m - l)).map fun j => D (l + j)).length) * 40 ∈ _ by simp [DataW.weights, Tryd.underlying23, bytesOp])
      simp only [List.length_map, List.length_range, reachBytes] at h1
      rw [hlen]
      omega
theorem open_case {H : Type} {enc : TypeId × Value → H} {W : World} {base : Nat} {v : Value} {d : DataW H} {p : List MemPlace} {tl : List TypeId} {ds : List (DataW H)} {j : Nat} (hv : Value.okWide Tryd.prog W .any base 25 v) (h : DataW.Trod enc Tryd.prog W 0 (fun _ => true) true 25 v d p)
    (hs : (DataW.weightsEach Tryd.prog tl ds).all (· ≤ reachBytes) = true) (ht : tl[j]? = some 25) (hd : ds[j]? = some d) :
    ∃ (po : Int) (tv sv : Value) (ts : List Tk) (os : List Op5), v = vC po tv sv ∧ I64 po ∧ Tks W tv ts ∧ ts.length * 32 ≤ 140737488355328 ∧ Ops W sv os ∧ (∀ o ∈ os, OpI o) ∧ os.length * 40 ≤ 140737488355328 ∧ ∃ d0 d1 d2, d = .agg [d0, d1, d2] ∧ ((d2 = .nil ∧ os = []) ∨ ∃ es ss, d2 = .slice es ss ∧ es.length = os.length) := by
  obtain ⟨cs, rfl, hsz⟩ := okWide_struct Tryd.underlying25 hv
  obtain ⟨fuel, hf⟩ := h
  have hf2 : DataW.trod enc Tryd.prog W 0 (fun _ => true) true fuel 25 cs.toList = some (d, p) := by simpa [Value.cells] using hf
  obtain ⟨zs, n, _, hx, hc, hlen, hfs⟩ := DataW.trod_struct Tryd.underlying25 hf2
  rw [cellsCase] at hc
  obtain ⟨c0, c1, c2, hcs⟩ := list3 hc
  rw [hcs] at hfs
  obtain ⟨y0, y1, y2, rfl⟩ := list3 hlen
  have h0 := hfs 0 _ rfl
  have h1 := hfs 1 _ rfl
  have h2 := hfs 2 _ rfl
  simp [cellsInt, cellsTasks, cellsOps] at h0 h1 h2
  obtain ⟨m, e3, _, wm⟩ := DataW.trod_int Tryd.underlying3 h0
  simp at e3
  subst e3
  obtain ⟨a, ts, cap, rfl, _, ht1, hs1⟩ := open_tasks_c h1
  obtain ⟨a2, os, cap2, rfl, _, ho1, ho2, ho3, ho4⟩ := open_ops_c h2
  have hdx : d = .agg [y0.1, y1.1, y2.1] := congrArg Prod.fst hx
  have hw : ∀ k ∈ DataW.weights Tryd.prog 25 d, k ≤ reachBytes := fun k hk => all_le hs k (DataW.weights_mem_each ht hd k hk)
  rw [hdx] at hw
  simp only [DataW.weights, Tryd.underlying25] at hw
  refine ⟨m, _, _, ts, os, ?_, i64_of_wf wm, ht1, hs1 (fun k hk => hw k (DataW.weights_mem_each (j := 1) rfl rfl k hk)), ho1, ho2, ho3 (fun k hk => hw k (DataW.weights_mem_each (j := 2) rfl rfl k hk)), _, _, _, hdx, ho4⟩
  have : cs = #[.int .i64 m, .slice a ts.length cap, .slice a2 os.length cap2] := by
    have := congrArg List.toArray hcs
    simpa using this
  rw [this]
end Go.Proofs.YthncfkeoephipaaDoor
