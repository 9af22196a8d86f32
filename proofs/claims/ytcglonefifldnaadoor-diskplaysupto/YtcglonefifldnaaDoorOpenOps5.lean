/- How a list of calls of a disk (Op) is opened. -/
import Derived.Test.YtcglonefifldnaaDoorOpen3
import Derived.Deep.Slices
import Derived.Lib.SmallJoins
namespace Go.Proofs.YtcglonefifldnaaDoor
open Go.ChangeShapes Go.WideShapes Go.ChangeAt Go.RowKit

structure OpD where
  kind : Int
  at_ : Int
  torn : Int
  keep : Int
  v : Value
  bs : List Int
def OpAt (w : World) (b o : Nat) (x : OpD) : Prop :=
  w.cell? ⟨b, o, none⟩ = some (.int .i64 x.kind) ∧ w.cell? ⟨b, o + 1, none⟩ = some (.int .i64 x.at_) ∧ w.cell? ⟨b, o + 2, none⟩ = some (.int .i64 x.torn) ∧ w.cell? ⟨b, o + 3, none⟩ = some (.int .u64 x.keep) ∧ w.cell? ⟨b, o + 4, none⟩ = some x.v ∧ Rd w x.v x.bs ∧ (x.bs.length : Int) ≤ 9223372036854775807 ∧
    (-9223372036854775808 ≤ x.at_ ∧ x.at_ ≤ 9223372036854775807) ∧ (-9223372036854775808 ≤ x.torn ∧ x.torn ≤ 9223372036854775807) ∧ (0 ≤ x.keep ∧ x.keep ≤ 18446744073709551615)
def Ops (w : World) (v : Value) (xs : List OpD) : Prop :=
  ∃ a cap, v = .slice a xs.length cap ∧ (xs.length : Int) ≤ 9223372036854775807 ∧ (0 < xs.length → ∃ b off, a = some ⟨b, off, none⟩ ∧ b < w.heap.size ∧ ∀ k x, xs[k]? = some x → OpAt w b (off + k * 5) x)
theorem cellsOp : Tryd.prog.cellsOf 35 = 5 := by kernel_rfl
theorem cellsInt : Tryd.prog.cellsOf 3 = 1 := by kernel_rfl
theorem cellsU64 : Tryd.prog.cellsOf 32 = 1 := by kernel_rfl
theorem cellsSl : Tryd.prog.cellsOf 33 = 1 := by kernel_rfl
theorem trod_struct5 {H : Type} {enc : TypeId × Value → H} {P : Program} {w : World} {base : Nat} {spare : Nat → Bool} {held : Bool} {t : TypeId} {f0 f1 f2 f3 f4 : Field} {fuel : Nat} {cs : List Value} {x : DataW H × List MemPlace} (ht : P.underlying t = some (.struct #[f0, f1, f2, f3, f4])) (h : DataW.trod enc P w base spare held fuel t cs = some x) :
    ∃ y0 y1 y2 y3 y4 n, x = (.agg [y0.1, y1.1, y2.1, y3.1, y4.1], y0.2 ++ (y1.2 ++ (y2.2 ++ (y3.2 ++ y4.2)))) ∧ cs.length = P.cellsOf t ∧ DataW.trod enc P w base spare held n f0.type ((cs.drop f0.offset).take (P.cellsOf f0.type)) = some y0 ∧
      DataW.trod enc P w base spare held n f1.type ((cs.drop f1.offset).take (P.cellsOf f1.type)) = some y1 ∧ DataW.trod enc P w base spare held n f2.type ((cs.drop f2.offset).take (P.cellsOf f2.type)) = some y2 ∧
      DataW.trod enc P w base spare held n f3.type ((cs.drop f3.offset).take (P.cellsOf f3.type)) = some y3 ∧ DataW.trod enc P w base spare held n f4.type ((cs.drop f4.offset).take (P.cellsOf f4.type)) = some y4 := by
  obtain ⟨xs, n, _, rfl, hl, hlen, hf⟩ := DataW.trod_struct ht h
  match xs, hlen with
  | [y0, y1, y2, y3, y4], _ => exact ⟨y0, y1, y2, y3, y4, n, by simp, hl, by simpa using hf 0 f0 rfl, by simpa using hf 1 f1 rfl, by simpa using hf 2 f2 rfl, by simpa using hf 3 f3 rfl, by simpa using hf 4 f4 rfl⟩
theorem open_cells_max {H : Type} {enc : TypeId × Value → H} {W : World} {base : Nat} {sp : Nat → Bool} {held : Bool} {fuel : Nat} {a : Option Addr} {len cap : Nat} {d : DataW H} {p : List MemPlace}
    (h : DataW.trod enc Tryd.prog W base sp held fuel 33 [.slice a len cap] = some (d, p)) : (len : Int) ≤ 9223372036854775807 := by
  rcases open_ints Tryd.underlying33 Tryd.underlying5 (by kernel_rfl) h with ⟨hcs, hd⟩ | ⟨x, l, c, zs, hcs, _, hl, hm, hz, hx, hcell, hwz⟩
  · simp at hcs
    obtain ⟨rfl, rfl, rfl⟩ := hcs
    simp
  · simp at hcs
    obtain ⟨rfl, rfl, rfl⟩ := hcs
    unfold maxLen at hm
    omega
/-- One call. -/
theorem open_op {H : Type} {enc : TypeId × Value → H} {W : World} {sp : Nat → Bool} {fuel : Nat} {x : Addr} {cs : List Value} {d : DataW H} {p : List MemPlace}
    (hc : W.cells? 0 x 5 = some cs) (h : DataW.trod enc Tryd.prog W 0 sp true fuel 35 cs = some (d, p)) :
    ∃ b o y, x = ⟨b, o, none⟩ ∧ OpAt W b o y ∧ ∃ e0 e1 e2 e3 e4, d = .agg [e0, e1, e2, e3, e4] ∧ ((e4 = .nil ∧ y.bs = []) ∨ ∃ es ss, e4 = .slice es ss ∧ es.length = y.bs.length) := by
  obtain ⟨y0, y1, y2, y3, y4, n, hx, hl, t0, t1, t2, t3, t4⟩ := trod_struct5 Tryd.underlying35 h
  rw [cellsOp] at hl
  match cs, hl with
  | [c0, c1, c2, c3, c4], _ =>
    simp [cellsInt, cellsU64, cellsSl] at t0 t1 t2 t3 t4
    obtain ⟨n0, e0, x0, w0⟩ := DataW.trod_int Tryd.underlying3 t0
    obtain ⟨n1, e1, x1, w1⟩ := DataW.trod_int Tryd.underlying3 t1
    obtain ⟨n2, e2, x2, w2⟩ := DataW.trod_int Tryd.underlying3 t2
    obtain ⟨n3, e3, x3, w3⟩ := DataW.trod_int Tryd.underlying32 t3
    simp at e0 e1 e2 e3
    subst e0 e1 e2 e3
    obtain ⟨a, len, cap, e4⟩ : ∃ a len cap, c4 = .slice a len cap := by
      rcases open_ints Tryd.underlying33 Tryd.underlying5 (by kernel_rfl) t4 with ⟨hcs, _⟩ | ⟨x, l, c, zs, hcs, _⟩
      · simp at hcs; exact ⟨_, _, _, hcs⟩
      · simp at hcs; exact ⟨_, _, _, hcs⟩
    subst e4
    obtain ⟨y40, y41⟩ := y4
    obtain ⟨bs, hr, hd⟩ := open_cells t4
    have hmx := open_cells_max t4
    obtain ⟨_, hlen, hcell⟩ := World.cells?_some hc
    obtain ⟨b, o, spot⟩ := x
    have h0 := hcell 0 (by omega)
    have hspot : spot = none := by simpa [Addr.add] using World.cell?_spot h0
    subst hspot
    have hbl : bs.length = len := by
      obtain ⟨_, a', c', e, _⟩ := hr
      simp at e
      exact e.2.1.symm
    refine ⟨b, o, ⟨n0, n1, n2, n3, .slice a len cap, bs⟩, rfl, ⟨?_, ?_, ?_, ?_, ?_, hr, by show (bs.length : Int) ≤ _; rw [hbl]; exact hmx, bounds_i64 w1, bounds_i64 w2, bounds_u64 w3⟩, _, _, _, _, _, congrArg Prod.fst hx, hd⟩
    · simpa [add_plain] using hcell 0 (by omega)
    · simpa [add_plain] using hcell 1 (by omega)
    · simpa [add_plain] using hcell 2 (by omega)
    · simpa [add_plain] using hcell 3 (by omega)
    · simpa [add_plain] using hcell 4 (by omega)
theorem open_ops {H : Type} {enc : TypeId × Value → H} {W : World} {base : Nat} {v : Value} {d : DataW H} {p : List MemPlace}
    (hv : Value.okWide Tryd.prog W .any base 22 v) (h : DataW.Trod enc Tryd.prog W 0 (fun _ => true) true 22 v d p) :
    ∃ xs, Ops W v xs ∧ ((d = .nil ∧ xs = []) ∨ ∃ es ss, d = .slice es ss ∧ es.length = xs.length) := by
  obtain ⟨a, len, cap, rfl⟩ := okWide_slice Tryd.underlying22 hv
  obtain ⟨fuel, hf⟩ := h
  rcases Go.Deep.open_slice Tryd.underlying22 (by simpa [Value.cells] using hf) with ⟨hcs, hx⟩ | ⟨x, l, c, m, n, D, Pl, hcs, _, hl, hm, hme, hx, hall⟩
  · simp at hcs
    obtain ⟨rfl, rfl, rfl⟩ := hcs
    exact ⟨[], ⟨none, 0, rfl, by simp, fun hp => by simp at hp⟩, .inl ⟨congrArg Prod.fst hx, rfl⟩⟩
  · simp at hcs
    obtain ⟨rfl, rfl, rfl⟩ := hcs
    have hlm : len ≤ m := by rw [hme]; simp; omega
    have each : ∀ i, i < len → ∃ y : OpD, ∃ b o, x.add (i * 5) = ⟨b, o, none⟩ ∧ OpAt W b o y := by
      intro i hi
      obtain ⟨cs, hc, ht⟩ := hall i (by omega)
      rw [cellsOp] at hc
      obtain ⟨b, o, y, hx', hat, _⟩ := open_op hc ht
      exact ⟨y, b, o, hx', hat⟩
    haveI : Inhabited OpD := ⟨⟨0, 0, 0, 0, .slice none 0 0, []⟩⟩
    obtain ⟨f, hf'⟩ := Go.Deep.choose_lt each
    have hlen : ((List.range len).map f).length = len := by simp
    refine ⟨(List.range len).map f, ⟨some x, cap, by rw [hlen], by rw [hlen]; unfold maxLen at hm; omega, fun hp => ?_⟩, .inr ⟨_, _, congrArg Prod.fst hx, by simp⟩⟩
    rw [hlen] at hp
    obtain ⟨b, o, he, hat⟩ := hf' 0 hp
    obtain ⟨xb, xo, xs⟩ := x
    simp [Addr.add] at he
    obtain ⟨rfl, rfl, rfl⟩ := he
    refine ⟨xb, xo, rfl, World.block_lt_of_cell? W _ hat.1, fun k y hk => ?_⟩
    have hkl : k < len := by
      have := (List.getElem?_eq_some_iff.mp hk).1
      simpa using this
    obtain ⟨b, o, he, hat'⟩ := hf' k hkl
    rw [add_plain] at he
    simp at he
    obtain ⟨rfl, rfl⟩ := he
    have : y = f k := by simpa [hkl] using hk.symm
    rw [this]
    exact hat'
theorem OpAt.later {w w' : World} {b o : Nat} {x : OpD} (h : OpAt w b o x) (hb : Below w.heap.size w w') : OpAt w' b o x := by
  obtain ⟨h0, h1, h2, h3, h4, hr, hk⟩ := h
  have hlt : b < w.heap.size := World.block_lt_of_cell? w _ h0
  exact ⟨(hb.cell (p := ⟨b, o, none⟩) hlt).trans h0, (hb.cell (p := ⟨b, o + 1, none⟩) hlt).trans h1, (hb.cell (p := ⟨b, o + 2, none⟩) hlt).trans h2, (hb.cell (p := ⟨b, o + 3, none⟩) hlt).trans h3, (hb.cell (p := ⟨b, o + 4, none⟩) hlt).trans h4, hr.later hb, hk⟩
theorem Ops.at {w : World} {a : Option Addr} {n cap k : Nat} {xs : List OpD} (h : Ops w (.slice a n cap) xs) (hk : k < xs.length) : ∃ b off, a = some ⟨b, off, none⟩ ∧ b < w.heap.size ∧ OpAt w b (off + k * 5) xs[k] := by
  obtain ⟨a', cap', e, hl, hr⟩ := h
  simp at e
  obtain ⟨rfl, rfl, rfl⟩ := e
  obtain ⟨b, off, ha, hlt, hat⟩ := hr (by omega)
  exact ⟨b, off, ha, hlt, hat k _ (by simp [hk])⟩
end Go.Proofs.YtcglonefifldnaaDoor
