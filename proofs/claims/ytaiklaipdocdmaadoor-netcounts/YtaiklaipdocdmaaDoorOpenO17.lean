/- How a script of calls of nets is opened. -/
import Derived.Test.YtaiklaipdocdmaaDoorOpen3
import Derived.Test.YtaiklaipdocdmaaDoorNt1
import Derived.Deep.Slices
import Derived.SizedLaws
import Derived.Lib.SmallJoins
namespace Go.Proofs.YtaiklaipdocdmaaDoor
open Go.ChangeShapes Go.WideShapes Go.ChangeAt Go.RowKit Go.Joins
set_option maxRecDepth 100000

/-- A call: what it is, which net, from, to, a number, bytes. -/
structure O17 where
  kd : Int
  wh : Int
  fr : Int
  to : Int
  nn : Int
  v : Value
  bs : List Int
def c6 (y : O17) : List Value := [.int .i64 y.kd, .int .i64 y.wh, .int .i64 y.fr, .int .i64 y.to, .int .i64 y.nn, y.v]
structure O17.In (w : World) (y : O17) : Prop where
  rd : Rd w y.v y.bs
  sm : y.bs.length ≤ 140737488351232
  nb : -9223372036854775808 ≤ y.nn ∧ y.nn ≤ 9223372036854775807
  wb : -9223372036854775808 ≤ y.wh ∧ y.wh ≤ 9223372036854775807
theorem cellsInt : Tryd.prog.cellsOf 3 = 1 := by kernel_rfl
theorem cellsSl : Tryd.prog.cellsOf 32 = 1 := by kernel_rfl
theorem cellsOp : Tryd.prog.cellsOf 34 = 6 := by kernel_rfl
theorem bytesOp : Tryd.prog.bytesOf 34 = 64 := by kernel_rfl
theorem bytesU8 : Tryd.prog.bytesOf 5 = 1 := by kernel_rfl
theorem list6 {α : Type} {l : List α} (h : l.length = 6) : ∃ y0 y1 y2 y3 y4 y5, l = [y0, y1, y2, y3, y4, y5] := by
  match l, h with
  | [y0, y1, y2, y3, y4, y5], _ => exact ⟨_, _, _, _, _, _, rfl⟩
theorem trod_op {H : Type} {enc : TypeId × Value → H} {W : World} {fuel : Nat} {cs : List Value} {x : DataW H × List MemPlace} (h : DataW.trod enc Tryd.prog W 0 (fun _ => true) true fuel 34 cs = some x) :
    ∃ y : O17, cs = c6 y ∧ Rd W y.v y.bs ∧ (-9223372036854775808 ≤ y.nn ∧ y.nn ≤ 9223372036854775807) ∧ (-9223372036854775808 ≤ y.wh ∧ y.wh ≤ 9223372036854775807) ∧ ((∀ n ∈ x.1.weights Tryd.prog 34, n ≤ reachBytes) → y.bs.length ≤ 140737488351232) := by
  obtain ⟨xs, n, _, hx, hc, hlen, hfs⟩ := DataW.trod_struct Tryd.underlying34 h
  rw [cellsOp] at hc
  obtain ⟨c0, c1, c2, c3, c4, c5, rfl⟩ := list6 hc
  obtain ⟨y0, y1, y2, y3, y4, y5, rfl⟩ := list6 hlen
  have h0 := hfs 0 _ rfl
  have h1 := hfs 1 _ rfl
  have h2 := hfs 2 _ rfl
  have h3 := hfs 3 _ rfl
  have h4 := hfs 4 _ rfl
  have h5 := hfs 5 _ rfl
  simp [cellsInt, cellsSl] at h0 h1 h2 h3 h4 h5
  obtain ⟨x0, e0, _⟩ := DataW.trod_int Tryd.underlying3 h0
  obtain ⟨x1, e1, _, w1⟩ := DataW.trod_int Tryd.underlying3 h1
  obtain ⟨x2, e2, _⟩ := DataW.trod_int Tryd.underlying3 h2
  obtain ⟨x3, e3, _⟩ := DataW.trod_int Tryd.underlying3 h3
  obtain ⟨x4, e4, _, w4⟩ := DataW.trod_int Tryd.underlying3 h4
  simp at e0 e1 e2 e3 e4
  subst e0 e1 e2 e3 e4
  obtain ⟨a, len, cap, e5⟩ : ∃ a len cap, c5 = .slice a len cap := by
    rcases open_ints Tryd.underlying32 Tryd.underlying5 (by kernel_rfl) h5 with ⟨hcs, _⟩ | ⟨x, l, c, zs, hcs, _⟩
    · simp at hcs; exact ⟨_, _, _, hcs⟩
    · simp at hcs; exact ⟨_, _, _, hcs⟩
  subst e5
  obtain ⟨y50, y51⟩ := y5
  obtain ⟨bs, hr, hd⟩ := open_cells h5
  refine ⟨⟨x0, x1, x2, x3, x4, .slice a len cap, bs⟩, rfl, hr, bounds_i64 w4, bounds_i64 w1, fun hw => ?_⟩
  rcases hd with ⟨_, rfl⟩ | ⟨es, ss, rfl, hl⟩
  · simp
  · rw [hx] at hw
    have h6 := hw ((es.length + ss.length) * 1) (by
      show _ ∈ DataW.weights Tryd.prog 34 (.agg [y0.1, y1.1, y2.1, y3.1, y4.1, .slice es ss])
      simp only [DataW.weights, Tryd.underlying34]
      refine DataW.weights_mem_each (j := 5) rfl rfl _ ?_
      simp [DataW.weights, Tryd.underlying32, bytesU8])
    simp only [reachBytes] at h6
    show bs.length ≤ _
    omega
theorem c6_len (y : O17) : (c6 y).length = 6 := rfl
theorem all_le {l : List Nat} (h : l.all (· ≤ reachBytes) = true) : ∀ n ∈ l, n ≤ reachBytes := fun n hn => by simpa using List.all_eq_true.1 h n hn
theorem weights_all {H : Type} {P : Program} {e : TypeId} : ∀ {ds : List (DataW H)} {d : DataW H}, d ∈ ds → ∀ n ∈ d.weights P e, n ∈ DataW.weightsAll P e ds
  | d0 :: ds, d, hd, n, hn => by
    simp only [DataW.weightsAll, List.mem_append]
    rcases List.mem_cons.mp hd with rfl | hd
    · exact .inl hn
    · exact .inr (weights_all hd n hn)
  | [], d, hd, _, _ => by simp at hd
/-- A script in memory. -/
structure Scr (W : World) (v : Value) (os : List O17) : Prop where
  row : RowIn 6 c6 W v os
  ins : ∀ o ∈ os, o.In W
  sz : os.length * 64 ≤ 140737488355328
theorem open_script {H : Type} {enc : TypeId × Value → H} {W : World} {base : Nat} {v : Value} {d : DataW H} {p : List MemPlace} {ts : List TypeId} {ds : List (DataW H)} {j : Nat} (hv : Value.okWide Tryd.prog W .any base 22 v) (h : DataW.Trod enc Tryd.prog W 0 (fun _ => true) true 22 v d p)
    (hs : (DataW.weightsEach Tryd.prog ts ds).all (· ≤ reachBytes) = true) (ht : ts[j]? = some 22) (hd : ds[j]? = some d) : ∃ os : List O17, Scr W v os := by
  obtain ⟨a, len, cap, rfl⟩ := okWide_slice Tryd.underlying22 hv
  obtain ⟨fuel, hf⟩ := h
  rcases Go.Deep.open_slice Tryd.underlying22 (by simpa [Value.cells] using hf) with ⟨hcs, hx⟩ | ⟨x, l, c, m, n, D, Pl, hcs, _, hl, hm, hme, hx, hall⟩
  · simp at hcs
    obtain ⟨rfl, rfl, rfl⟩ := hcs
    exact ⟨[], ⟨none, 0, rfl, Nat.le_refl _, by simp, fun hp => by simp at hp⟩, fun o ho => by simp at ho, by simp⟩
  · simp at hcs
    obtain ⟨rfl, rfl, rfl⟩ := hcs
    have hlm : len ≤ m := by rw [hme]; simp; omega
    have hdx : d = .slice ((List.range len).map D) ((List.range (m - len)).map fun j => D (len + j)) := congrArg Prod.fst hx
    have hb := sized_slice hs ht (hdx ▸ hd) Tryd.underlying22
    rw [bytesOp] at hb
    simp only [reachBytes, List.length_map, List.length_range] at hb
    have each : ∀ i, i < len → ∃ y : O17, ∃ b o, x.add (i * 6) = ⟨b, o, none⟩ ∧ (∀ r u, r < 6 → (c6 y)[r]? = some u → W.cell? ⟨b, o + r, none⟩ = some u) ∧ y.In W := by
      intro i hi
      obtain ⟨cs, hc, htr⟩ := hall i (by omega)
      rw [cellsOp] at hc
      obtain ⟨_, hlen, hcell⟩ := World.cells?_some hc
      obtain ⟨y, rfl, hrd, hnb, hwb, hsm⟩ := trod_op htr
      generalize x.add (i * 6) = z at hcell ⊢
      obtain ⟨b, o, spot⟩ := z
      have h0 := hcell 0 (by simp)
      have hspot : spot = none := by simpa [Addr.add] using World.cell?_spot h0
      subst hspot
      refine ⟨y, b, o, rfl, fun r u hr hu => ?_, hrd, hsm fun k hk => all_le hs k (DataW.weights_mem_each ht (hdx ▸ hd) k ?_), hnb, hwb⟩
      · have := hcell r hr
        rw [add_none] at this
        rw [this]
        exact hu
      · simp only [DataW.weights, Tryd.underlying22]
        refine List.mem_cons_of_mem _ (List.mem_append_left _ (weights_all (d := D i) ?_ k hk))
        exact List.mem_map.mpr ⟨i, List.mem_range.mpr hi, rfl⟩
    haveI : Inhabited O17 := ⟨⟨0, 0, 0, 0, 0, .slice none 0 0, []⟩⟩
    obtain ⟨f, hf'⟩ := Go.Deep.choose_lt each
    have hlen : ((List.range len).map f).length = len := by simp
    refine ⟨(List.range len).map f, ⟨some x, cap, by rw [hlen], by rw [hlen]; exact hl, by rw [hlen]; unfold maxLen at hm; omega, fun hp => ?_⟩, fun t ht => ?_, by rw [hlen]; omega⟩
    · rw [hlen] at hp
      obtain ⟨b, o, he, hat, _⟩ := hf' 0 hp
      obtain ⟨xb, xo, xs⟩ := x
      simp [Addr.add] at he
      obtain ⟨rfl, rfl, rfl⟩ := he
      refine ⟨xb, xo, rfl, fun k y hk r u hr hu => ?_⟩
      have hkl : k < len := by
        have := (List.getElem?_eq_some_iff.mp hk).1
        simpa using this
      obtain ⟨b, o, he, hat', _⟩ := hf' k hkl
      rw [add_none] at he
      simp at he
      obtain ⟨rfl, rfl⟩ := he
      have : y = f k := by simpa [hkl] using hk.symm
      rw [this] at hu
      exact hat' r u hr hu
    · obtain ⟨k, hk, rfl⟩ := List.mem_map.mp ht
      obtain ⟨b, o, _, _, hi⟩ := hf' k (by simpa using hk)
      exact hi
end Go.Proofs.YtaiklaipdocdmaaDoor
