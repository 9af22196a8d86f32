import Derived.Test.YtjocjkfllicjdaaDoorOpenEn
import Derived.Test.YtjocjkfllicjdaaDoorRnA
/- How ballots and rows of them, and rows of numbers, are opened. -/
namespace Go.Proofs.YtjocjkfllicjdaaDoor
open Go.ChangeShapes Go.WideShapes Go.ChangeAt Go.RowKit Go.Joins
set_option maxRecDepth 100000

/-- Values of n cells each, one behind the other. -/
def RowIn {α : Type} (n : Nat) (f : α → List Value) (w : World) (v : Value) (xs : List α) : Prop :=
  ∃ a cap, v = .slice a xs.length cap ∧ xs.length ≤ cap ∧ (xs.length : Int) ≤ 9223372036854775807 ∧ (0 < xs.length → ∃ b off, a = some ⟨b, off, none⟩ ∧ ∀ i x, xs[i]? = some x → ∀ r u, r < n → (f x)[r]? = some u → w.cell? ⟨b, off + i * n + r, none⟩ = some u)
theorem RowIn.below {α : Type} {n : Nat} {f : α → List Value} {w w' : World} {v : Value} {xs : List α} (h : RowIn n f w v xs) (hb : Below w.heap.size w w') : RowIn n f w' v xs := by
  obtain ⟨a, cap, rfl, hc, hl, hr⟩ := h
  refine ⟨a, cap, rfl, hc, hl, fun hp => ?_⟩
  obtain ⟨b, off, rfl, hx⟩ := hr hp
  exact ⟨b, off, rfl, fun i x hi r u hr hu => kc (hx i x hi r u hr hu) hb⟩
theorem RowIn.shape {α : Type} {n : Nat} {f : α → List Value} {w : World} {v : Value} {xs : List α} (h : RowIn n f w v xs) : ∃ a cap, v = .slice a xs.length cap ∧ xs.length ≤ cap := by
  obtain ⟨a, cap, rfl, hc, hl, hr⟩ := h
  exact ⟨a, cap, rfl, hc⟩
theorem RowIn.at {α : Type} {n : Nat} {f : α → List Value} {w w' : World} {a : Option Addr} {l cap : Nat} {xs : List α} (h : RowIn n f w (.slice a l cap) xs) (hb : Below w.heap.size w w') (i : Nat) (hi : i < xs.length) : ∃ b off x, a = some ⟨b, off, none⟩ ∧ xs[i]? = some x ∧ ∀ r u, r < n → (f x)[r]? = some u → w'.cell? ⟨b, off + i * n + r, none⟩ = some u := by
  obtain ⟨a', cap', e, _, _, hr⟩ := h.below hb
  simp at e
  obtain ⟨rfl, rfl, rfl⟩ := e
  obtain ⟨b, off, rfl, hc⟩ := hr (by omega)
  obtain ⟨x, hx⟩ : ∃ x, xs[i]? = some x := ⟨_, List.getElem?_eq_getElem hi⟩
  exact ⟨b, off, x, rfl, hx, hc i x hx⟩
theorem cellsBallot : Tryd.prog.cellsOf 47 = 2 := by kernel_rfl
theorem bytesBallot : Tryd.prog.bytesOf 47 = 16 := by kernel_rfl
theorem bytesInt : Tryd.prog.bytesOf 3 = 8 := by kernel_rfl
theorem list2 {α : Type} {l : List α} (h : l.length = 2) : ∃ y0 y1, l = [y0, y1] := by
  match l, h with
  | [y0, y1], _ => exact ⟨_, _, rfl⟩
theorem trod_ballot {H : Type} {enc : TypeId × Value → H} {w : World} {base : Nat} {sp : Nat → Bool} {held : Bool} {fuel : Nat} {c0 c1 : Value} {x : DataW H × List MemPlace} (h : DataW.trod enc Tryd.prog w base sp held fuel 47 [c0, c1] = some x) :
    ∃ k q : Int, c0 = .int .i64 k ∧ c1 = .int .i64 q := by
  obtain ⟨xs, n, _, hx, _, hlen, hfs⟩ := DataW.trod_struct Tryd.underlying47 h
  obtain ⟨y0, y1, rfl⟩ := list2 hlen
  have h0 := hfs 0 _ rfl
  have h1 := hfs 1 _ rfl
  simp [cellsInt] at h0 h1
  obtain ⟨k, e0, _⟩ := DataW.trod_int Tryd.underlying3 h0
  obtain ⟨q, e1, _⟩ := DataW.trod_int Tryd.underlying3 h1
  simp at e0 e1
  exact ⟨k, q, e0, e1⟩
theorem array2 {cs : Array Value} (h : cs.size = 2) : ∃ c0 c1, cs = #[c0, c1] := by
  obtain ⟨l⟩ := cs
  obtain ⟨c0, c1, rfl⟩ := list2 (l := l) (by simpa using h)
  exact ⟨_, _, rfl⟩
theorem open_ballot {H : Type} {enc : TypeId × Value → H} {w : World} {base : Nat} {sp : Nat → Bool} {held : Bool} {r : Reach} {b0 : Nat} {v : Value} {d : DataW H} {ps : List MemPlace} (hval : Value.okWide Tryd.prog w r b0 47 v) (hd : DataW.Trod enc Tryd.prog w base sp held 47 v d ps) :
    ∃ b : Bl, v = vB b := by
  obtain ⟨cs, rfl, hsz⟩ := okWide_struct Tryd.underlying47 hval
  rw [cellsBallot] at hsz
  obtain ⟨c0, c1, rfl⟩ := array2 hsz
  obtain ⟨fuel, hf⟩ := hd
  obtain ⟨k, q, rfl, rfl⟩ := trod_ballot (by simpa [Value.cells] using hf)
  exact ⟨(k, q), rfl⟩
def c2 (b : Bl) : List Value := [.int .i64 b.1, .int .i64 b.2]
def c1i (x : Int) : List Value := [.int .i64 x]
theorem open_ballots {H : Type} {enc : TypeId × Value → H} {W : World} {base : Nat} {v : Value} {d : DataW H} {p : List MemPlace} {ts : List TypeId} {ds : List (DataW H)} {j : Nat} (hv : Value.okWide Tryd.prog W .any base 53 v) (h : DataW.Trod enc Tryd.prog W 0 (fun _ => true) true 53 v d p)
    (hs : (DataW.weightsEach Tryd.prog ts ds).all (· ≤ reachBytes) = true) (ht : ts[j]? = some 53) (hd : ds[j]? = some d) : ∃ os : List Bl, RowIn 2 c2 W v os ∧ os.length * 16 ≤ 140737488355328 := by
  obtain ⟨a, len, cap, rfl⟩ := okWide_slice Tryd.underlying53 hv
  obtain ⟨fuel, hf⟩ := h
  rcases Go.Deep.open_slice Tryd.underlying53 (by simpa [Value.cells] using hf) with ⟨hcs, hx⟩ | ⟨x, l, c, m, n, D, Pl, hcs, _, hl, hm, hme, hx, hall⟩
  · simp at hcs
    obtain ⟨rfl, rfl, rfl⟩ := hcs
    exact ⟨[], ⟨none, 0, rfl, Nat.le_refl _, by simp, fun hp => by simp at hp⟩, by simp⟩
  · simp at hcs
    obtain ⟨rfl, rfl, rfl⟩ := hcs
    have hlm : len ≤ m := by rw [hme]; simp; omega
    have hdx : d = .slice ((List.range len).map D) ((List.range (m - len)).map fun j => D (len + j)) := congrArg Prod.fst hx
    have hb := sized_slice hs ht (hdx ▸ hd) Tryd.underlying53
    rw [bytesBallot] at hb
    simp only [reachBytes, List.length_map, List.length_range] at hb
    have each : ∀ i, i < len → ∃ y : Bl, ∃ b o, x.add (i * 2) = ⟨b, o, none⟩ ∧ (∀ r u, r < 2 → (c2 y)[r]? = some u → W.cell? ⟨b, o + r, none⟩ = some u) := by
      intro i hi
      obtain ⟨cs, hc, htr⟩ := hall i (by omega)
      rw [cellsBallot] at hc
      obtain ⟨_, hlen, hcell⟩ := World.cells?_some hc
      obtain ⟨u0, u1, rfl⟩ := list2 hlen
      obtain ⟨k, q, rfl, rfl⟩ := trod_ballot htr
      obtain ⟨y, hy⟩ : ∃ y : Bl, y = (k, q) := ⟨_, rfl⟩
      rw [show k = y.1 by rw [hy], show q = y.2 by rw [hy]] at hcell
      generalize x.add (i * 2) = z at hcell ⊢
      obtain ⟨b, o, spot⟩ := z
      have h0 := hcell 0 (by simp)
      have hspot : spot = none := by simpa [Addr.add] using World.cell?_spot h0
      subst hspot
      refine ⟨y, b, o, rfl, fun r u hr hu => ?_⟩
      have := hcell r hr
      rw [add_none] at this
      rw [this]
      exact hu
    haveI : Inhabited (Bl) := ⟨(0, 0)⟩
    obtain ⟨f, hf'⟩ := Go.Deep.choose_lt each
    have hlen : ((List.range len).map f).length = len := by simp
    refine ⟨(List.range len).map f, ⟨some x, cap, by rw [hlen], by rw [hlen]; exact hl, by rw [hlen]; unfold maxLen at hm; omega, fun hp => ?_⟩, by rw [hlen]; omega⟩
    rw [hlen] at hp
    obtain ⟨b, o, he, hat⟩ := hf' 0 hp
    obtain ⟨xb, xo, xs⟩ := x
    simp [Addr.add] at he
    obtain ⟨rfl, rfl, rfl⟩ := he
    refine ⟨xb, xo, rfl, fun k y hk r u hr hu => ?_⟩
    have hkl : k < len := by
      have := (List.getElem?_eq_some_iff.mp hk).1
      simpa using this
    obtain ⟨b, o, he, hat'⟩ := hf' k hkl
    rw [add_none] at he
    simp at he
    obtain ⟨rfl, rfl⟩ := he
    have hy : y = f k := by
      rw [List.getElem?_map, List.getElem?_range hkl] at hk
      simpa using hk.symm
    subst hy
    first | exact hat' r u hr hu | simpa using hat' r u hr hu
theorem open_ints {H : Type} {enc : TypeId × Value → H} {W : World} {base : Nat} {v : Value} {d : DataW H} {p : List MemPlace} {ts : List TypeId} {ds : List (DataW H)} {j : Nat} (hv : Value.okWide Tryd.prog W .any base 54 v) (h : DataW.Trod enc Tryd.prog W 0 (fun _ => true) true 54 v d p)
    (hs : (DataW.weightsEach Tryd.prog ts ds).all (· ≤ reachBytes) = true) (ht : ts[j]? = some 54) (hd : ds[j]? = some d) : ∃ os : List Int, RowIn 1 c1i W v os ∧ os.length * 8 ≤ 140737488355328 := by
  obtain ⟨a, len, cap, rfl⟩ := okWide_slice Tryd.underlying54 hv
  obtain ⟨fuel, hf⟩ := h
  rcases Go.Deep.open_slice Tryd.underlying54 (by simpa [Value.cells] using hf) with ⟨hcs, hx⟩ | ⟨x, l, c, m, n, D, Pl, hcs, _, hl, hm, hme, hx, hall⟩
  · simp at hcs
    obtain ⟨rfl, rfl, rfl⟩ := hcs
    exact ⟨[], ⟨none, 0, rfl, Nat.le_refl _, by simp, fun hp => by simp at hp⟩, by simp⟩
  · simp at hcs
    obtain ⟨rfl, rfl, rfl⟩ := hcs
    have hlm : len ≤ m := by rw [hme]; simp; omega
    have hdx : d = .slice ((List.range len).map D) ((List.range (m - len)).map fun j => D (len + j)) := congrArg Prod.fst hx
    have hb := sized_slice hs ht (hdx ▸ hd) Tryd.underlying54
    rw [bytesInt] at hb
    simp only [reachBytes, List.length_map, List.length_range] at hb
    have each : ∀ i, i < len → ∃ y : Int, ∃ b o, x.add (i * 1) = ⟨b, o, none⟩ ∧ (∀ r u, r < 1 → (c1i y)[r]? = some u → W.cell? ⟨b, o + r, none⟩ = some u) := by
      intro i hi
      obtain ⟨cs, hc, htr⟩ := hall i (by omega)
      rw [cellsInt] at hc
      obtain ⟨_, hlen, hcell⟩ := World.cells?_some hc
      obtain ⟨u0, rfl⟩ := List.length_eq_one_iff.mp hlen
      obtain ⟨y, e0, _⟩ := DataW.trod_int Tryd.underlying3 htr
      simp at e0
      subst e0
      generalize x.add (i * 1) = z at hcell ⊢
      obtain ⟨b, o, spot⟩ := z
      have h0 := hcell 0 (by simp)
      have hspot : spot = none := by simpa [Addr.add] using World.cell?_spot h0
      subst hspot
      refine ⟨y, b, o, rfl, fun r u hr hu => ?_⟩
      have := hcell r hr
      rw [add_none] at this
      rw [this]
      exact hu
    haveI : Inhabited (Int) := ⟨0⟩
    obtain ⟨f, hf'⟩ := Go.Deep.choose_lt each
    have hlen : ((List.range len).map f).length = len := by simp
    refine ⟨(List.range len).map f, ⟨some x, cap, by rw [hlen], by rw [hlen]; exact hl, by rw [hlen]; unfold maxLen at hm; omega, fun hp => ?_⟩, by rw [hlen]; omega⟩
    rw [hlen] at hp
    obtain ⟨b, o, he, hat⟩ := hf' 0 hp
    obtain ⟨xb, xo, xs⟩ := x
    simp [Addr.add] at he
    obtain ⟨rfl, rfl, rfl⟩ := he
    refine ⟨xb, xo, rfl, fun k y hk r u hr hu => ?_⟩
    have hkl : k < len := by
      have := (List.getElem?_eq_some_iff.mp hk).1
      simpa using this
    obtain ⟨b, o, he, hat'⟩ := hf' k hkl
    rw [add_none] at he
    simp at he
    obtain ⟨rfl, rfl⟩ := he
    have hy : y = f k := by
      rw [List.getElem?_map, List.getElem?_range hkl] at hk
      simpa using hk.symm
    subst hy
    first | exact hat' r u hr hu | simpa using hat' r u hr hu
end Go.Proofs.YtjocjkfllicjdaaDoor
