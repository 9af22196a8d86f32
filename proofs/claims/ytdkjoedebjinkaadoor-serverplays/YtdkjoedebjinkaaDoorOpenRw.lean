/- How a row of ticks that comes in is opened. -/
import Derived.Test.YtdkjoedebjinkaaDoorSrv5
import Derived.OpenShut
import Derived.Deep.Slices
import Derived.SizedLaws
import Derived.Lib.SmallJoins
namespace Go.Proofs.YtdkjoedebjinkaaDoor
open Go.ChangeShapes Go.WideShapes Go.ChangeAt Go.RowKit Go.Joins

theorem cellsServer : Tryd.prog.cellsOf 23 = 3 := by kernel_rfl
theorem cellsInt : Tryd.prog.cellsOf 3 = 1 := by kernel_rfl
theorem cellsInts : Tryd.prog.cellsOf 24 = 1 := by kernel_rfl
theorem cellsRow : Tryd.prog.cellsOf 26 = 5 := by kernel_rfl
theorem array3 {cs : Array Value} (h : cs.size = 3) : ∃ c0 c1 c2, cs = #[c0, c1, c2] := by
  obtain ⟨l⟩ := cs
  match l, h with
  | [c0, c1, c2], _ => exact ⟨_, _, _, rfl⟩
theorem list3 {α : Type} {l : List α} (h : l.length = 3) : ∃ y0 y1 y2, l = [y0, y1, y2] := by
  match l, h with
  | [y0, y1, y2], _ => exact ⟨_, _, _, rfl⟩
theorem list5 {α : Type} {l : List α} (h : l.length = 5) : ∃ y0 y1 y2 y3 y4, l = [y0, y1, y2, y3, y4] := by
  match l, h with
  | [y0, y1, y2, y3, y4], _ => exact ⟨_, _, _, _, _, rfl⟩
theorem trod_server {H : Type} {enc : TypeId × Value → H} {w : World} {base : Nat} {sp : Nat → Bool} {held : Bool} {fuel : Nat} {c0 c1 c2 : Value} {x : DataW H × List MemPlace} (h : DataW.trod enc Tryd.prog w base sp held fuel 23 [c0, c1, c2] = some x) :
    ∃ k q t : Int, c0 = .int .i64 k ∧ c1 = .int .i64 q ∧ c2 = .int .i64 t := by
  obtain ⟨xs, n, _, hx, _, hlen, hfs⟩ := DataW.trod_struct Tryd.underlying23 h
  obtain ⟨y0, y1, y2, rfl⟩ := list3 hlen
  have h0 := hfs 0 _ rfl
  have h1 := hfs 1 _ rfl
  have h2 := hfs 2 _ rfl
  simp [cellsInt] at h0 h1 h2
  obtain ⟨k, e0, _, wk⟩ := DataW.trod_int Tryd.underlying3 h0
  obtain ⟨q, e1, _, wq⟩ := DataW.trod_int Tryd.underlying3 h1
  obtain ⟨t, e2, _, wt⟩ := DataW.trod_int Tryd.underlying3 h2
  simp at e0 e1 e2
  exact ⟨k, q, t, e0, e1, e2⟩
theorem open_server {H : Type} {enc : TypeId × Value → H} {w : World} {base : Nat} {sp : Nat → Bool} {held : Bool} {r : Reach} {b0 : Nat} {v : Value} {d : DataW H} {ps : List MemPlace} (hval : Value.okWide Tryd.prog w r b0 23 v) (hd : DataW.Trod enc Tryd.prog w base sp held 23 v d ps) :
    ∃ s : Sv, v = vS s := by
  obtain ⟨cs, rfl, hsz⟩ := okWide_struct Tryd.underlying23 hval
  rw [cellsServer] at hsz
  obtain ⟨c0, c1, c2, rfl⟩ := array3 hsz
  obtain ⟨fuel, hf⟩ := hd
  obtain ⟨k, q, t, rfl, rfl, rfl⟩ := trod_server (by simpa [Value.cells] using hf)
  exact ⟨(k, q, t), rfl⟩
theorem open_ints_c {H : Type} {enc : TypeId × Value → H} {W : World} {fuel : Nat} {v : Value} {x : DataW H × List MemPlace} (hf : DataW.trod enc Tryd.prog W 0 (fun _ => true) true fuel 24 [v] = some x) : ∃ (a : Option Addr) (cs : List Int) (cap : Nat), v = .slice a cs.length cap ∧ Iw W v cs ∧ (cs.length : Int) ≤ 9223372036854775807 := by
  rcases open_ints Tryd.underlying24 Tryd.underlying3 (by kernel_rfl) hf with ⟨hcs, hd⟩ | ⟨x, l, c, zs, hcs, _, hl, hm, hz, hx, hcell, hwz⟩
  · simp at hcs
    subst hcs
    exact ⟨none, [], 0, rfl, ⟨none, 0, rfl, fun hp => by simp at hp⟩, by simp⟩
  · simp at hcs
    subst hcs
    have hzl : l ≤ zs.length := by rw [hz]; split <;> omega
    have hlen : (zs.take l).length = l := by rw [List.length_take]; omega
    refine ⟨some x, zs.take l, c, by rw [hlen], ⟨some x, c, by rw [hlen], fun hp => ?_⟩, by rw [hlen]; unfold maxLen at hm; omega⟩
    obtain ⟨b, off, rfl, hc⟩ := ints_at hcell (by omega)
    refine ⟨b, off, rfl, fun k y hk => ?_⟩
    have hkl : k < l := by have := (List.getElem?_eq_some_iff.mp hk).1; omega
    rw [hc k (by omega)]
    have : zs[k]? = some y := by rw [List.getElem?_take_of_lt hkl] at hk; exact hk
    simp [List.getD, this]
theorem open_row {H : Type} {enc : TypeId × Value → H} {W : World} {base : Nat} {v : Value} {d : DataW H} {p : List MemPlace} (hv : Value.okWide Tryd.prog W .any base 26 v) (h : DataW.Trod enc Tryd.prog W 0 (fun _ => true) true 26 v d p) :
    ∃ (s : Sv) (m : Int) (a : Option Addr) (ts : List Int) (cap : Nat), v = vR s m (.slice a ts.length cap) ∧ Iw W (.slice a ts.length cap) ts ∧ (ts.length : Int) ≤ 9223372036854775807 := by
  obtain ⟨cs, rfl, hsz⟩ := okWide_struct Tryd.underlying26 hv
  obtain ⟨fuel, hf⟩ := h
  have hf2 : DataW.trod enc Tryd.prog W 0 (fun _ => true) true fuel 26 cs.toList = some (d, p) := by simpa [Value.cells] using hf
  obtain ⟨zs, n, _, hx, hc, hlen, hfs⟩ := DataW.trod_struct Tryd.underlying26 hf2
  rw [cellsRow] at hc
  obtain ⟨c0, c1, c2, c3, c4, hcs⟩ := list5 hc
  rw [hcs] at hfs
  obtain ⟨y0, y1, y2, rfl⟩ := list3 hlen
  have h0 := hfs 0 _ rfl
  have h1 := hfs 1 _ rfl
  have h2 := hfs 2 _ rfl
  simp [cellsInt, cellsServer, cellsInts] at h0 h1 h2
  obtain ⟨k, q, t, rfl, rfl, rfl⟩ := trod_server h0
  obtain ⟨m, e3, _, wm⟩ := DataW.trod_int Tryd.underlying3 h1
  simp at e3
  subst e3
  obtain ⟨a, ts, cap, rfl, hx1, hx2⟩ := open_ints_c h2
  refine ⟨(k, q, t), m, a, ts, cap, ?_, hx1, hx2⟩
  have : cs = #[.int .i64 k, .int .i64 q, .int .i64 t, .int .i64 m, .slice a ts.length cap] := by
    have := congrArg List.toArray hcs
    simpa using this
  rw [this]
end Go.Proofs.YtdkjoedebjinkaaDoor
