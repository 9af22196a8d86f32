/- How a list of calls (Op) is opened: the calls' numbers and bytes, and how many they are together. -/
import Derived.Test.YtcbimclgodkflaaDoorOpen3
import Derived.Deep.Slices
import Derived.Lib.SmallJoins
namespace Go.Proofs.YtcbimclgodkflaaDoor
open Go.ChangeShapes Go.WideShapes Go.ChangeAt Go.RowKit
set_option maxRecDepth 100000

structure OpD where
  kind : Int
  n : Int
  keep : Int
  v : Value
  bs : List Int
def OpAt (w : World) (b o : Nat) (x : OpD) : Prop :=
  w.cell? ⟨b, o, none⟩ = some (.int .i64 x.kind) ∧ w.cell? ⟨b, o + 1, none⟩ = some (.int .i64 x.n) ∧ w.cell? ⟨b, o + 2, none⟩ = some (.int .u64 x.keep) ∧ w.cell? ⟨b, o + 3, none⟩ = some x.v ∧ Rd w x.v x.bs
def Ops (w : World) (v : Value) (xs : List OpD) : Prop :=
  ∃ a cap, v = .slice a xs.length cap ∧ xs.length ≤ cap ∧ (a = none → cap = 0) ∧ (0 < xs.length → ∃ b off, a = some ⟨b, off, none⟩ ∧ b < w.heap.size ∧ ∀ k x, xs[k]? = some x → OpAt w b (off + k * 4) x)
theorem cellsOp : Tryd.prog.cellsOf 41 = 4 := by kernel_rfl
theorem cells3 : Tryd.prog.cellsOf 3 = 1 := by kernel_rfl
theorem cells64 : Tryd.prog.cellsOf 39 = 1 := by kernel_rfl
theorem cells27 : Tryd.prog.cellsOf 32 = 1 := by kernel_rfl
/-- One call. -/
theorem open_op {H : Type} {enc : TypeId × Value → H} {W : World} {sp : Nat → Bool} {fuel : Nat} {x : Addr} {cs : List Value} {d : DataW H} {p : List MemPlace}
    (hc : W.cells? 0 x 4 = some cs) (h : DataW.trod enc Tryd.prog W 0 sp true fuel 41 cs = some (d, p)) :
    ∃ b o y, x = ⟨b, o, none⟩ ∧ OpAt W b o y ∧ ∃ e0 e1 e2 e3, d = .agg [e0, e1, e2, e3] ∧ ((e3 = .nil ∧ y.bs = []) ∨ ∃ es ss, e3 = .slice es ss ∧ es.length = y.bs.length) := by
  obtain ⟨y0, y1, y2, y3, n, hx, hl, t0, t1, t2, t3⟩ := Joins.trod_struct4 Tryd.underlying41 h
  rw [cellsOp] at hl
  match cs, hl with
  | [c0, c1, c2, c3], _ =>
    simp [cells3, cells64, cells27] at t0 t1 t2 t3
    obtain ⟨n0, e0, x0, w0⟩ := DataW.trod_int Tryd.underlying3 t0
    obtain ⟨n1, e1, x1, w1⟩ := DataW.trod_int Tryd.underlying3 t1
    obtain ⟨n2, e2, x2, w2⟩ := DataW.trod_int Tryd.underlying39 t2
    simp at e0 e1 e2
    subst e0 e1 e2
    obtain ⟨a, len, cap, e3⟩ : ∃ a len cap, c3 = .slice a len cap := by
      rcases open_ints Tryd.underlying32 Tryd.underlying5 (by kernel_rfl) t3 with ⟨hcs, _⟩ | ⟨x, l, c, zs, hcs, _⟩
      · simp at hcs; exact ⟨_, _, _, hcs⟩
      · simp at hcs; exact ⟨_, _, _, hcs⟩
    subst e3
    obtain ⟨y30, y31⟩ := y3
    obtain ⟨bs, hr, hd⟩ := open_cells t3
    obtain ⟨_, hlen, hcell⟩ := World.cells?_some hc
    obtain ⟨b, o, spot⟩ := x
    have h0 := hcell 0 (by omega)
    have hspot : spot = none := by simpa [Addr.add] using World.cell?_spot h0
    subst hspot
    refine ⟨b, o, ⟨n0, n1, n2, .slice a len cap, bs⟩, rfl, ⟨?_, ?_, ?_, ?_, hr⟩, _, _, _, _, congrArg Prod.fst hx, hd⟩
    · simpa [add_plain] using hcell 0 (by omega)
    · simpa [add_plain] using hcell 1 (by omega)
    · simpa [add_plain] using hcell 2 (by omega)
    · simpa [add_plain] using hcell 3 (by omega)
theorem open_ops {H : Type} {enc : TypeId × Value → H} {W : World} {base : Nat} {v : Value} {d : DataW H} {p : List MemPlace}
    (hv : Value.okWide Tryd.prog W .any base 22 v) (h : DataW.Trod enc Tryd.prog W 0 (fun _ => true) true 22 v d p) :
    ∃ xs, Ops W v xs := by
  obtain ⟨a, len, cap, rfl⟩ := okWide_slice Tryd.underlying22 hv
  obtain ⟨fuel, hf⟩ := h
  rcases Go.Deep.open_slice Tryd.underlying22 (by simpa [Value.cells] using hf) with ⟨hcs, hx⟩ | ⟨x, l, c, m, n, D, Pl, hcs, _, hl, hm, hme, hx, hall⟩
  · simp at hcs
    obtain ⟨rfl, rfl, rfl⟩ := hcs
    exact ⟨[], ⟨none, 0, rfl, by simp, fun _ => rfl, fun hp => by simp at hp⟩⟩
  · simp at hcs
    obtain ⟨rfl, rfl, rfl⟩ := hcs
    have hlm : len ≤ m := by rw [hme]; simp; omega
    have each : ∀ i, i < len → ∃ y : OpD, (∃ b o, x.add (i * 4) = ⟨b, o, none⟩ ∧ OpAt W b o y) := by
      intro i hi
      obtain ⟨cs, hc, ht⟩ := hall i (by omega)
      rw [cellsOp] at hc
      obtain ⟨b, o, y, hx', hat, e0, e1, e2, e3, hd, hb⟩ := open_op hc ht
      exact ⟨y, ⟨b, o, hx', hat⟩⟩
    haveI : Inhabited OpD := ⟨⟨0, 0, 0, .slice none 0 0, []⟩⟩
    obtain ⟨f, hf'⟩ := Go.Deep.choose_lt each
    have hlen : ((List.range len).map f).length = len := by simp
    refine ⟨(List.range len).map f, ⟨some x, cap, by rw [hlen], by omega, fun e => by simp at e, fun hp => ?_⟩⟩
    · rw [hlen] at hp
      obtain ⟨b, o, he, hat⟩ := hf' 0 hp
      obtain ⟨xb, xo, xs⟩ := x
      simp [Addr.add] at he
      obtain ⟨rfl, rfl, rfl⟩ := he
      refine ⟨xb, xo, rfl, World.block_lt_of_cell? W _ hat.1, fun k y hk => ?_⟩
      have hkl : k < len := by
        have := (List.getElem?_eq_some_iff.mp hk).1
        simpa using this
      obtain ⟨b, o, he, hat'⟩ := hf' k hkl
      rw [add_plain] at he
      simp at he
      obtain ⟨rfl, rfl⟩ := he
      have : y = f k := by simpa [hkl] using hk.symm
      rw [this]
      exact hat'
end Go.Proofs.YtcbimclgodkflaaDoor
