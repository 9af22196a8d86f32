/- How a list of calls (Op) is opened. -/
import Derived.Test.YtjlmkmhggkcbhaaDoorQopen
namespace Go.Proofs.YtjlmkmhggkcbhaaDoor
open Go.ChangeShapes Go.WideShapes Go.ChangeAt Go.RowKit
set_option maxRecDepth 100000

structure O4 where
  kd : Int
  wh : Int
  id : Int
  r : Int
def o4z : O4 := ⟨0, 0, 0, 0⟩
def O4At (w : World) (b o : Nat) (x : O4) : Prop :=
  w.cell? ⟨b, o, none⟩ = some (.int .i64 x.kd) ∧ w.cell? ⟨b, o + 1, none⟩ = some (.int .i64 x.wh) ∧ w.cell? ⟨b, o + 2, none⟩ = some (.int .i64 x.id) ∧ w.cell? ⟨b, o + 3, none⟩ = some (.int .i64 x.r)
def O4Ok (x : O4) : Prop :=
  (-9223372036854775808 ≤ x.wh ∧ x.wh ≤ 9223372036854775807) ∧ (-9223372036854775808 ≤ x.id ∧ x.id ≤ 9223372036854775807) ∧ (-9223372036854775808 ≤ x.r ∧ x.r ≤ 9223372036854775807)
def ORd (w : World) (v : Value) (xs : List O4) : Prop :=
  ∃ a cap, v = .slice a xs.length cap ∧ (xs.length : Int) ≤ 9223372036854775807 ∧ (0 < xs.length → ∃ b off, a = some ⟨b, off, none⟩ ∧ b < w.heap.size ∧ ∀ i, i < xs.length → O4At w b (off + i * 4) (xs.getD i o4z) ∧ O4Ok (xs.getD i o4z))
theorem cellsO4 : Tryd.prog.cellsOf 33 = 4 := by kernel_rfl
theorem trod_struct4 {H : Type} {enc : TypeId × Value → H} {P : Program} {w : World} {base : Nat} {spare : Nat → Bool} {held : Bool} {t : TypeId} {f0 f1 f2 f3 : Field} {fuel : Nat} {cs : List Value} {x : DataW H × List MemPlace} (ht : P.underlying t = some (.struct #[f0, f1, f2, f3])) (h : DataW.trod enc P w base spare held fuel t cs = some x) :
    ∃ y0 y1 y2 y3 n, cs.length = P.cellsOf t ∧ DataW.trod enc P w base spare held n f0.type ((cs.drop f0.offset).take (P.cellsOf f0.type)) = some y0 ∧
      DataW.trod enc P w base spare held n f1.type ((cs.drop f1.offset).take (P.cellsOf f1.type)) = some y1 ∧ DataW.trod enc P w base spare held n f2.type ((cs.drop f2.offset).take (P.cellsOf f2.type)) = some y2 ∧
      DataW.trod enc P w base spare held n f3.type ((cs.drop f3.offset).take (P.cellsOf f3.type)) = some y3 := by
  obtain ⟨xs, n, _, rfl, hl, hlen, hf⟩ := DataW.trod_struct ht h
  match xs, hlen with
  | [y0, y1, y2, y3], _ => exact ⟨y0, y1, y2, y3, n, hl, by simpa using hf 0 f0 rfl, by simpa using hf 1 f1 rfl, by simpa using hf 2 f2 rfl, by simpa using hf 3 f3 rfl⟩
theorem open_o4 {H : Type} {enc : TypeId × Value → H} {W : World} {sp : Nat → Bool} {fuel : Nat} {x : Addr} {cs : List Value} {d : DataW H} {p : List MemPlace}
    (hc : W.cells? 0 x 4 = some cs) (h : DataW.trod enc Tryd.prog W 0 sp true fuel 33 cs = some (d, p)) :
    ∃ b o y, x = ⟨b, o, none⟩ ∧ O4At W b o y ∧ O4Ok y := by
  obtain ⟨y0, y1, y2, y3, n, hl, t0, t1, t2, t3⟩ := trod_struct4 Tryd.underlying33 h
  rw [cellsO4] at hl
  match cs, hl with
  | [c0, c1, c2, c3], _ =>
    simp [cellsInt] at t0 t1 t2 t3
    obtain ⟨n0, e0, x0, w0⟩ := DataW.trod_int Tryd.underlying3 t0
    obtain ⟨n1, e1, x1, w1⟩ := DataW.trod_int Tryd.underlying3 t1
    obtain ⟨n2, e2, x2, w2⟩ := DataW.trod_int Tryd.underlying3 t2
    obtain ⟨n3, e3, x3, w3⟩ := DataW.trod_int Tryd.underlying3 t3
    simp at e0 e1 e2 e3
    subst e0 e1 e2 e3
    obtain ⟨_, hlen, hcell⟩ := World.cells?_some hc
    obtain ⟨b, o, spot⟩ := x
    have h0 := hcell 0 (by omega)
    have hspot : spot = none := by simpa [Addr.add] using World.cell?_spot h0
    subst hspot
    refine ⟨b, o, ⟨n0, n1, n2, n3⟩, rfl, ⟨?_, ?_, ?_, ?_⟩, bounds_i64 w1, bounds_i64 w2, bounds_i64 w3⟩
    · simpa [Addr.add] using hcell 0 (by omega)
    · simpa [Addr.add] using hcell 1 (by omega)
    · simpa [Addr.add] using hcell 2 (by omega)
    · simpa [Addr.add] using hcell 3 (by omega)
theorem open_o4s {H : Type} {enc : TypeId × Value → H} {W : World} {base : Nat} {v : Value} {d : DataW H} {p : List MemPlace}
    (hv : Value.okWide Tryd.prog W .any base 22 v) (h : DataW.Trod enc Tryd.prog W 0 (fun _ => true) true 22 v d p) : ∃ xs, ORd W v xs := by
  obtain ⟨a, len, cap, rfl⟩ := okWide_slice Tryd.underlying22 hv
  obtain ⟨fuel, hf⟩ := h
  rcases Go.Deep.open_slice Tryd.underlying22 (by simpa [Value.cells] using hf) with ⟨hcs, hx⟩ | ⟨x, l, c, m, n, D, Pl, hcs, _, hl, hm, hme, hx, hall⟩
  · simp at hcs
    obtain ⟨rfl, rfl, rfl⟩ := hcs
    exact ⟨[], none, 0, rfl, by simp, fun hp => by simp at hp⟩
  · simp at hcs
    obtain ⟨rfl, rfl, rfl⟩ := hcs
    have hlm : len ≤ m := by rw [hme]; simp; omega
    have each : ∀ i, i < len → ∃ y : O4, ∃ b o, x.add (i * 4) = ⟨b, o, none⟩ ∧ O4At W b o y ∧ O4Ok y := by
      intro i hi
      obtain ⟨cs, hc, ht⟩ := hall i (by omega)
      rw [cellsO4] at hc
      obtain ⟨b, o, y, hx', hat⟩ := open_o4 hc ht
      exact ⟨y, b, o, hx', hat⟩
    haveI : Inhabited O4 := ⟨o4z⟩
    obtain ⟨f, hf'⟩ := Go.Deep.choose_lt each
    have hlen : ((List.range len).map f).length = len := by simp
    refine ⟨(List.range len).map f, some x, cap, by rw [hlen], by rw [hlen]; unfold maxLen at hm; omega, fun hp => ?_⟩
    rw [hlen] at hp
    obtain ⟨b, o, he, hat⟩ := hf' 0 hp
    obtain ⟨xb, xo, xs⟩ := x
    simp [Addr.add] at he
    obtain ⟨rfl, rfl, rfl⟩ := he
    refine ⟨xb, xo, rfl, World.block_lt_of_cell? W _ hat.1.1, fun i hi => ?_⟩
    rw [hlen] at hi
    obtain ⟨b, o, he, hat'⟩ := hf' i hi
    rw [add_none] at he
    simp at he
    obtain ⟨rfl, rfl⟩ := he
    have e : ((List.range len).map f).getD i o4z = f i := by simp [List.getD, hi]
    rw [e]
    exact hat'
theorem ORd.at {w w' : World} {a : Option Addr} {n cap : Nat} {xs : List O4} (h : ORd w (.slice a n cap) xs) (hb : Below w.heap.size w w') (i : Nat) (hi : i < xs.length) : ∃ b off kd wh id r, a = some ⟨b, off, none⟩ ∧ w'.cell? ⟨b, off + i * 4, none⟩ = some (.int .i64 kd) ∧ w'.cell? ⟨b, off + i * 4 + 1, none⟩ = some (.int .i64 wh) ∧ w'.cell? ⟨b, off + i * 4 + 2, none⟩ = some (.int .i64 id) ∧ w'.cell? ⟨b, off + i * 4 + 3, none⟩ = some (.int .i64 r) ∧
    (-9223372036854775808 ≤ wh ∧ wh ≤ 9223372036854775807) ∧ (-9223372036854775808 ≤ id ∧ id ≤ 9223372036854775807) ∧ (-9223372036854775808 ≤ r ∧ r ≤ 9223372036854775807) := by
  obtain ⟨a', cap', e, _, hr⟩ := h
  simp at e
  obtain ⟨rfl, rfl, rfl⟩ := e
  obtain ⟨b, off, rfl, hlt, hc⟩ := hr (by omega)
  obtain ⟨⟨h0, h1, h2, h3⟩, k⟩ := hc i hi
  exact ⟨b, off, _, _, _, _, rfl, (hb.cell (p := ⟨b, _, none⟩) hlt).trans h0, (hb.cell (p := ⟨b, _, none⟩) hlt).trans h1, (hb.cell (p := ⟨b, _, none⟩) hlt).trans h2, (hb.cell (p := ⟨b, _, none⟩) hlt).trans h3, k⟩
end Go.Proofs.YtjlmkmhggkcbhaaDoor
