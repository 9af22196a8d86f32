import Derived.Test.YtaiklaipdocdmaaDoorOpenEn
import Derived.Test.YtaiklaipdocdmaaDoorNpA
/- How messages that come in are opened. -/
namespace Go.Proofs.YtaiklaipdocdmaaDoor
open Go.ChangeShapes Go.WideShapes Go.ChangeAt Go.RowKit Go.Joins
set_option maxRecDepth 100000

theorem cellsBallot : Tryd.prog.cellsOf 57 = 2 := by kernel_rfl
theorem cellsEntries : Tryd.prog.cellsOf 58 = 1 := by kernel_rfl
theorem cellsMessage : Tryd.prog.cellsOf 60 = 9 := by kernel_rfl
theorem cellsByte : Tryd.prog.cellsOf 5 = 1 := by kernel_rfl
theorem cellsPair : Tryd.prog.cellsOf 77 = 20 := by kernel_rfl
theorem list2 {α : Type} {l : List α} (h : l.length = 2) : ∃ y0 y1, l = [y0, y1] := by
  match l, h with
  | [y0, y1], _ => exact ⟨_, _, rfl⟩
theorem list7 {α : Type} {l : List α} (h : l.length = 7) : ∃ y0 y1 y2 y3 y4 y5 y6, l = [y0, y1, y2, y3, y4, y5, y6] := by
  match l, h with
  | [y0, y1, y2, y3, y4, y5, y6], _ => exact ⟨_, _, _, _, _, _, _, rfl⟩
theorem list9 {α : Type} {l : List α} (h : l.length = 9) : ∃ y0 y1 y2 y3 y4 y5 y6 y7 y8, l = [y0, y1, y2, y3, y4, y5, y6, y7, y8] := by
  match l, h with
  | [y0, y1, y2, y3, y4, y5, y6, y7, y8], _ => exact ⟨_, _, _, _, _, _, _, _, _, rfl⟩
theorem list20 {α : Type} {l : List α} (h : l.length = 20) : ∃ a0 a1 a2 a3 a4 a5 a6 a7 a8 b0 b1 b2 b3 b4 b5 b6 b7 b8 c d, l = [a0, a1, a2, a3, a4, a5, a6, a7, a8, b0, b1, b2, b3, b4, b5, b6, b7, b8, c, d] := by
  match l, h with
  | [a0, a1, a2, a3, a4, a5, a6, a7, a8, b0, b1, b2, b3, b4, b5, b6, b7, b8, c, d], _ => exact ⟨_, _, _, _, _, _, _, _, _, _, _, _, _, _, _, _, _, _, _, _, rfl⟩
theorem trod_ballot {H : Type} {enc : TypeId × Value → H} {w : World} {base : Nat} {sp : Nat → Bool} {held : Bool} {fuel : Nat} {c0 c1 : Value} {x : DataW H × List MemPlace} (h : DataW.trod enc Tryd.prog w base sp held fuel 57 [c0, c1] = some x) :
    ∃ k q : Int, c0 = .int .i64 k ∧ c1 = .int .i64 q := by
  obtain ⟨xs, n, _, hx, _, hlen, hfs⟩ := DataW.trod_struct Tryd.underlying57 h
  obtain ⟨y0, y1, rfl⟩ := list2 hlen
  have h0 := hfs 0 _ rfl
  have h1 := hfs 1 _ rfl
  simp [cellsInt] at h0 h1
  obtain ⟨k, e0, _⟩ := DataW.trod_int Tryd.underlying3 h0
  obtain ⟨q, e1, _⟩ := DataW.trod_int Tryd.underlying3 h1
  simp at e0 e1
  exact ⟨k, q, e0, e1⟩
def Lsm (ps : List Ep) : Prop := ps.length * 96 ≤ 140737488355328 ∧ ∀ t ∈ ps, small t
theorem open_entries_c {H : Type} {enc : TypeId × Value → H} {W : World} {fuel : Nat} {c : Value} {x : DataW H × List MemPlace} (hf : DataW.trod enc Tryd.prog W 0 (fun _ => true) true fuel 58 [c] = some x) :
    ∃ (a : Option Addr) (ps : List Ep) (cap : Nat), c = .slice a ps.length cap ∧ Ens W (.slice a ps.length cap) ps ∧ ((∀ n ∈ x.1.weights Tryd.prog 58, n ≤ reachBytes) → Lsm ps) := by
  rcases Go.Deep.open_slice Tryd.underlying58 hf with ⟨hcs, hx⟩ | ⟨x0, l, cp, m, n, D, Pl, hcs, _, hl, hm, hme, hx, hall⟩
  · simp at hcs
    subst hcs
    exact ⟨none, [], 0, rfl, ⟨none, 0, rfl, by simp, fun hp => by simp at hp, fun t ht => by simp at ht⟩, fun _ => ⟨by simp, fun t ht => by simp at ht⟩⟩
  · simp at hcs
    subst hcs
    have hlm : l ≤ m := by rw [hme]; simp; omega
    have each : ∀ i, i < l → ∃ y : Ep, ∃ b o, x0.add (i * 10) = ⟨b, o, none⟩ ∧ EnAt W b o y ∧ EnW W y ∧ ((∀ n ∈ (D i).weights Tryd.prog 96, n ≤ reachBytes) → small y) := by
      intro i hi
      obtain ⟨cs, hc, htr⟩ := hall i (by omega)
      rw [cellsEntry] at hc
      obtain ⟨_, hlen, hcell⟩ := World.cells?_some hc
      obtain ⟨t, rfl, hw, hsm⟩ := trod_entry htr
      generalize x0.add (i * 10) = z at hcell ⊢
      obtain ⟨b, o, spot⟩ := z
      have h0 := hcell 0 (by simp)
      have hspot : spot = none := by simpa [Addr.add] using World.cell?_spot h0
      subst hspot
      refine ⟨t, b, o, rfl, EnAt.of fun r u hr hu => ?_, hw, hsm⟩
      have := hcell r hr
      rw [add_none] at this
      rw [this]
      exact hu
    haveI : Inhabited Ep := ⟨(⟨0, 0, 0, 0, 0, 0, 0, 0, [], 0⟩, none, 0)⟩
    obtain ⟨f, hf'⟩ := Go.Deep.choose_lt each
    have hlen : ((List.range l).map f).length = l := by simp
    refine ⟨some x0, (List.range l).map f, cp, by rw [hlen], ⟨some x0, cp, rfl, by rw [hlen]; unfold maxLen at hm; omega, fun hp => ?_, fun t ht => ?_⟩, fun hw => ⟨?_, fun t ht => ?_⟩⟩
    · rw [hlen] at hp
      obtain ⟨b, o, he, hat, _⟩ := hf' 0 hp
      obtain ⟨xb, xo, xs⟩ := x0
      simp [Addr.add] at he
      obtain ⟨rfl, rfl, rfl⟩ := he
      refine ⟨xb, xo, rfl, fun k y hk => ?_⟩
      have hkl : k < l := by
        have := (List.getElem?_eq_some_iff.mp hk).1
        simpa using this
      obtain ⟨b, o, he, hat', _⟩ := hf' k hkl
      rw [add_none] at he
      simp at he
      obtain ⟨rfl, rfl⟩ := he
      have : y = f k := by simpa [hkl] using hk.symm
      rw [this]
      exact hat'
    · obtain ⟨k, hk, rfl⟩ := List.mem_map.mp ht
      obtain ⟨b, o, _, _, hi, _⟩ := hf' k (by simpa using hk)
      exact hi
    · rw [hx] at hw
      have h1 := hw _ (show (((List.range l).map D).length + ((List.range (m - l)).map fun j => D (l + j)).length) * 96 ∈ _ by simp [DataW.weights, Tryd.underlying58, bytesEntry])
      simp only [List.length_map, List.length_range, reachBytes] at h1
      rw [hlen]
      omega
    · obtain ⟨k, hk, rfl⟩ := List.mem_map.mp ht
      obtain ⟨b, o, _, _, _, hi⟩ := hf' k (by simpa using hk)
      refine hi fun n hn => hw n ?_
      rw [hx]
      simp only [DataW.weights, Tryd.underlying58]
      exact List.mem_cons_of_mem _ (List.mem_append_left _ (weights_all (d := D k) (List.mem_map.mpr ⟨k, hk, rfl⟩) n hn))
/-- A message's cells. -/
def c9 (m : Mg) (lv : Value) : List Value := [.int .i64 m.kd, .int .i64 m.fr, .int .i64 m.to, .int .i64 m.jb, .int .i64 m.br, .int .i64 m.bn, .int .i64 m.ar, .int .i64 m.an, lv]
theorem trod_msg {H : Type} {enc : TypeId × Value → H} {W : World} {fuel : Nat} {cs : List Value} {x : DataW H × List MemPlace} (h : DataW.trod enc Tryd.prog W 0 (fun _ => true) true fuel 60 cs = some x) :
    ∃ (m : Mg) (lv : Value) (ps : List Ep), cs = c9 m lv ∧ Ens W lv ps ∧ fs1 ps = m.ls ∧ ((∀ n ∈ x.1.weights Tryd.prog 60, n ≤ reachBytes) → Lsm ps) := by
  obtain ⟨xs, n, _, hx, hc, hlen, hfs⟩ := DataW.trod_struct Tryd.underlying60 h
  rw [cellsMessage] at hc
  obtain ⟨c0, c1, c2, c3, c4, c5, c6, c7, c8, rfl⟩ := list9 hc
  obtain ⟨y0, y1, y2, y3, y4, y5, y6, rfl⟩ := list7 hlen
  have h0 := hfs 0 _ rfl
  have h1 := hfs 1 _ rfl
  have h2 := hfs 2 _ rfl
  have h3 := hfs 3 _ rfl
  have h4 := hfs 4 _ rfl
  have h5 := hfs 5 _ rfl
  have h6 := hfs 6 _ rfl
  simp [cellsInt, cellsBallot, cellsEntries] at h0 h1 h2 h3 h4 h5 h6
  obtain ⟨x0, e0, _⟩ := DataW.trod_int Tryd.underlying3 h0
  obtain ⟨x1, e1, _⟩ := DataW.trod_int Tryd.underlying3 h1
  obtain ⟨x2, e2, _⟩ := DataW.trod_int Tryd.underlying3 h2
  obtain ⟨x3, e3, _⟩ := DataW.trod_int Tryd.underlying3 h3
  obtain ⟨x4, x5, rfl, rfl⟩ := trod_ballot h4
  obtain ⟨x6, x7, rfl, rfl⟩ := trod_ballot h5
  obtain ⟨a, ps, cap, rfl, hw, hs⟩ := open_entries_c h6
  simp at e0 e1 e2 e3
  subst e0 e1 e2 e3
  refine ⟨⟨x0, x1, x2, x3, x4, x5, x6, x7, fs1 ps⟩, .slice a ps.length cap, ps, rfl, hw, rfl, fun hwt => hs fun k hk => hwt k ?_⟩
  rw [hx]
  show k ∈ DataW.weights Tryd.prog 60 (.agg [y0.1, y1.1, y2.1, y3.1, y4.1, y5.1, y6.1])
  simp only [DataW.weights, Tryd.underlying60]
  exact DataW.weights_mem_each (j := 6) rfl rfl k hk
theorem open_message {H : Type} {enc : TypeId × Value → H} {W : World} {base : Nat} {v : Value} {d : DataW H} {p : List MemPlace} {ts : List TypeId} {ds : List (DataW H)} {j : Nat} (hv : Value.okWide Tryd.prog W .any base 60 v) (h : DataW.Trod enc Tryd.prog W 0 (fun _ => true) true 60 v d p)
    (hs : (DataW.weightsEach Tryd.prog ts ds).all (· ≤ reachBytes) = true) (ht : ts[j]? = some 60) (hd : ds[j]? = some d) : ∃ (m : Mg) (lv : Value) (ps : List Ep), v = vM m lv ∧ Ens W lv ps ∧ fs1 ps = m.ls ∧ Lsm ps := by
  obtain ⟨cs, rfl, hsz⟩ := okWide_struct Tryd.underlying60 hv
  obtain ⟨fuel, hf⟩ := h
  obtain ⟨m, lv, ps, hc, hw, hl, hsm⟩ := trod_msg (by simpa [Value.cells] using hf)
  refine ⟨m, lv, ps, ?_, hw, hl, hsm fun n hn => all_le hs n (DataW.weights_mem_each ht hd n hn)⟩
  have : cs = (c9 m lv).toArray := by rw [← hc]
  rw [this]
  rfl
abbrev vPr (a b : Mg) (la lb : Value) (i t : Int) : Value := .agg #[.int .i64 a.kd, .int .i64 a.fr, .int .i64 a.to, .int .i64 a.jb, .int .i64 a.br, .int .i64 a.bn, .int .i64 a.ar, .int .i64 a.an, la, .int .i64 b.kd, .int .i64 b.fr, .int .i64 b.to, .int .i64 b.jb, .int .i64 b.br, .int .i64 b.bn, .int .i64 b.ar, .int .i64 b.an, lb, .int .i64 i, .int .u8 t]
theorem open_mpair {H : Type} {enc : TypeId × Value → H} {W : World} {base : Nat} {v : Value} {d : DataW H} {p : List MemPlace} (hv : Value.okWide Tryd.prog W .any base 77 v) (h : DataW.Trod enc Tryd.prog W 0 (fun _ => true) true 77 v d p) : ∃ (a b : Mg) (la lb : Value) (ps qs : List Ep) (i t : Int), v = vPr a b la lb i t ∧ (Ens W la ps ∧ fs1 ps = a.ls) ∧ (Ens W lb qs ∧ fs1 qs = b.ls) ∧ (0 ≤ t ∧ t ≤ 255) := by
  obtain ⟨cs, rfl, hsz⟩ := okWide_struct Tryd.underlying77 hv
  obtain ⟨fuel, hf⟩ := h
  have hf2 : DataW.trod enc Tryd.prog W 0 (fun _ => true) true fuel 77 cs.toList = some (d, p) := by simpa [Value.cells] using hf
  obtain ⟨zs, n, _, hx, hc, hlen, hfs⟩ := DataW.trod_struct Tryd.underlying77 hf2
  rw [cellsPair] at hc
  obtain ⟨a0, a1, a2, a3, a4, a5, a6, a7, a8, b0, b1, b2, b3, b4, b5, b6, b7, b8, c, e, hcs⟩ := list20 hc
  rw [hcs] at hfs
  obtain ⟨y0, y1, y2, y3, rfl⟩ := list4 hlen
  have h0 := hfs 0 _ rfl
  have h1 := hfs 1 _ rfl
  have h2 := hfs 2 _ rfl
  have h3 := hfs 3 _ rfl
  simp [cellsInt, cellsMessage, cellsByte] at h0 h1 h2 h3
  obtain ⟨a, la, ps, ea, ha, hla, _⟩ := trod_msg h0
  obtain ⟨b, lb, qs, eb, hb, hlb, _⟩ := trod_msg h1
  obtain ⟨i, e2, _⟩ := DataW.trod_int Tryd.underlying3 h2
  obtain ⟨t, e3, _, wt⟩ := DataW.trod_int Tryd.underlying5 h3
  simp at e2 e3
  subst e2 e3
  simp only [c9, List.cons.injEq, and_true] at ea eb
  obtain ⟨rfl, rfl, rfl, rfl, rfl, rfl, rfl, rfl, rfl⟩ := ea
  obtain ⟨rfl, rfl, rfl, rfl, rfl, rfl, rfl, rfl, rfl⟩ := eb
  refine ⟨a, b, _, _, ps, qs, i, t, ?_, ⟨ha, hla⟩, ⟨hb, hlb⟩, bounds_u8 wt⟩
  have := congrArg List.toArray hcs
  simp only [Array.toArray_toList] at this
  rw [this]
end Go.Proofs.YtaiklaipdocdmaaDoor
