/- How a list of calls (Op) is opened: the calls' numbers and bytes, and how many they are together. -/
import Derived.Test.YtghpehgefbikeaaDoorOpen3
import Derived.Deep.Slices
import Derived.Lib.SmallJoins
namespace Go.Proofs.YtghpehgefbikeaaDoor
open Go.ChangeShapes Go.WideShapes Go.ChangeAt Go.RowKit

structure OpD where
  kind : Int
  which : Int
  n : Int
  v : Value
  bs : List Int
def OpAt (w : World) (b o : Nat) (x : OpD) : Prop :=
  w.cell? ⟨b, o, none⟩ = some (.int .i64 x.kind) ∧ w.cell? ⟨b, o + 1, none⟩ = some (.int .i64 x.which) ∧ w.cell? ⟨b, o + 2, none⟩ = some (.int .i64 x.n) ∧ w.cell? ⟨b, o + 3, none⟩ = some x.v ∧ Rd w x.v x.bs ∧
    (-9223372036854775808 ≤ x.kind ∧ x.kind ≤ 9223372036854775807) ∧ (-9223372036854775808 ≤ x.which ∧ x.which ≤ 9223372036854775807) ∧ (-9223372036854775808 ≤ x.n ∧ x.n ≤ 9223372036854775807)
def Ops (w : World) (v : Value) (xs : List OpD) : Prop :=
  ∃ a cap, v = .slice a xs.length cap ∧ xs.length ≤ cap ∧ (a = none → cap = 0) ∧ (0 < xs.length → ∃ b off, a = some ⟨b, off, none⟩ ∧ b < w.heap.size ∧ ∀ k x, xs[k]? = some x → OpAt w b (off + k * 4) x)
theorem cellsOp : Tryd.prog.cellsOf 31 = 4 := by kernel_rfl
theorem cells3 : Tryd.prog.cellsOf 3 = 1 := by kernel_rfl
theorem cells27 : Tryd.prog.cellsOf 27 = 1 := by kernel_rfl
/-- One call. -/
theorem open_op {H : Type} {enc : TypeId × Value → H} {W : World} {sp : Nat → Bool} {fuel : Nat} {x : Addr} {cs : List Value} {d : DataW H} {p : List MemPlace}
    (hc : W.cells? 0 x 4 = some cs) (h : DataW.trod enc Tryd.prog W 0 sp true fuel 31 cs = some (d, p)) :
    ∃ b o y, x = ⟨b, o, none⟩ ∧ OpAt W b o y ∧ ∃ e0 e1 e2 e3, d = .agg [e0, e1, e2, e3] ∧ ((e3 = .nil ∧ y.bs = []) ∨ ∃ es ss, e3 = .slice es ss ∧ es.length = y.bs.length) := by
  obtain ⟨y0, y1, y2, y3, n, hx, hl, t0, t1, t2, t3⟩ := Joins.trod_struct4 Tryd.underlying31 h
  rw [cellsOp] at hl
  match cs, hl with
  | [c0, c1, c2, c3], _ =>
    simp [cells3, cells27] at t0 t1 t2 t3
    obtain ⟨n0, e0, x0, w0⟩ := DataW.trod_int Tryd.underlying3 t0
    obtain ⟨n1, e1, x1, w1⟩ := DataW.trod_int Tryd.underlying3 t1
    obtain ⟨n2, e2, x2, w2⟩ := DataW.trod_int Tryd.underlying3 t2
    simp at e0 e1 e2
    subst e0 e1 e2
    obtain ⟨a, len, cap, e3⟩ : ∃ a len cap, c3 = .slice a len cap := by
      rcases open_ints Tryd.underlying27 Tryd.underlying5 (by kernel_rfl) t3 with ⟨hcs, _⟩ | ⟨x, l, c, zs, hcs, _⟩
      · simp at hcs; exact ⟨_, _, _, hcs⟩
      · simp at hcs; exact ⟨_, _, _, hcs⟩
    subst e3
    obtain ⟨y30, y31⟩ := y3
    obtain ⟨bs, hr, hd⟩ := open_cells t3
    obtain ⟨_, hlen, hcell⟩ := World.cells?_some hc
    obtain ⟨b, o, spot⟩ := x
    have h0 := hcell 0 (by omega)
    have hspot : spot = none := by simpa [Addr.add] using World.cell?_spot h0
    subst hspot
    refine ⟨b, o, ⟨n0, n1, n2, .slice a len cap, bs⟩, rfl, ⟨?_, ?_, ?_, ?_, hr, bounds_i64 w0, bounds_i64 w1, bounds_i64 w2⟩, _, _, _, _, congrArg Prod.fst hx, hd⟩
    · simpa [add_plain] using hcell 0 (by omega)
    · simpa [add_plain] using hcell 1 (by omega)
    · simpa [add_plain] using hcell 2 (by omega)
    · simpa [add_plain] using hcell 3 (by omega)
/-- How much the calls' bytes are together, with ten for each call. -/
def opsz (xs : List OpD) : Nat := (xs.map fun x => x.bs.length + 10).sum
theorem bulk_one {H : Type} (d : DataW H) : 1 ≤ Rows.uptoBulk d := by
  cases d with
  | lit l => cases l <;> simp [Rows.uptoBulk]
  | _ => simp [Rows.uptoBulk]
theorem bulk_len {H : Type} (l : List (DataW H)) : l.length ≤ Rows.uptoBulkAll l := by
  induction l with
  | nil => simp
  | cons x r ih =>
    have := bulk_one x
    simp only [Rows.uptoBulkAll, List.length_cons]; omega
theorem bulk_op {H : Type} {e0 e1 e2 e3 : DataW H} {bs : List Int} (h : (e3 = .nil ∧ bs = []) ∨ ∃ es ss, e3 = .slice es ss ∧ es.length = bs.length) : bs.length + 5 ≤ Rows.uptoBulk (.agg [e0, e1, e2, e3]) := by
  have h0 := bulk_one e0
  have h1 := bulk_one e1
  have h2 := bulk_one e2
  have h3 : bs.length + 1 ≤ Rows.uptoBulk e3 := by
    rcases h with ⟨rfl, rfl⟩ | ⟨es, ss, rfl, hl⟩
    · simp [Rows.uptoBulk]
    · have := bulk_len es
      simp only [Rows.uptoBulk]
      omega
  simp only [Rows.uptoBulk, Rows.uptoBulkAll]
  omega
theorem bulk_range {H : Type} (D : Nat → DataW H) (f : Nat → OpD) (l : List Nat) (h : ∀ i ∈ l, (f i).bs.length + 5 ≤ Rows.uptoBulk (D i)) : opsz (l.map f) ≤ 2 * Rows.uptoBulkAll (l.map D) := by
  induction l with
  | nil => simp [opsz, Rows.uptoBulkAll]
  | cons i l ih =>
    have h1 := h i (by simp)
    have h2 := ih (fun j hj => h j (by simp [hj]))
    simp only [opsz, List.map_cons, List.sum_cons, Rows.uptoBulkAll] at h2 ⊢
    omega
theorem open_ops {H : Type} {enc : TypeId × Value → H} {W : World} {base : Nat} {v : Value} {d : DataW H} {p : List MemPlace}
    (hv : Value.okWide Tryd.prog W .any base 22 v) (h : DataW.Trod enc Tryd.prog W 0 (fun _ => true) true 22 v d p) :
    ∃ xs, Ops W v xs ∧ opsz xs ≤ 2 * Rows.uptoBulk d ∧ ((d = .nil ∧ xs = []) ∨ ∃ es ss, d = .slice es ss ∧ es.length = xs.length) := by
  obtain ⟨a, len, cap, rfl⟩ := okWide_slice Tryd.underlying22 hv
  obtain ⟨fuel, hf⟩ := h
  rcases Go.Deep.open_slice Tryd.underlying22 (by simpa [Value.cells] using hf) with ⟨hcs, hx⟩ | ⟨x, l, c, m, n, D, Pl, hcs, _, hl, hm, hme, hx, hall⟩
  · simp at hcs
    obtain ⟨rfl, rfl, rfl⟩ := hcs
    exact ⟨[], ⟨none, 0, rfl, by simp, fun _ => rfl, fun hp => by simp at hp⟩, by simp [opsz], .inl ⟨congrArg Prod.fst hx, rfl⟩⟩
  · simp at hcs
    obtain ⟨rfl, rfl, rfl⟩ := hcs
    have hlm : len ≤ m := by rw [hme]; simp; omega
    have each : ∀ i, i < len → ∃ y : OpD, (∃ b o, x.add (i * 4) = ⟨b, o, none⟩ ∧ OpAt W b o y) ∧ y.bs.length + 5 ≤ Rows.uptoBulk (D i) := by
      intro i hi
      obtain ⟨cs, hc, ht⟩ := hall i (by omega)
      rw [cellsOp] at hc
      obtain ⟨b, o, y, hx', hat, e0, e1, e2, e3, hd, hb⟩ := open_op hc ht
      exact ⟨y, ⟨b, o, hx', hat⟩, by rw [hd]; exact bulk_op hb⟩
    haveI : Inhabited OpD := ⟨⟨0, 0, 0, .slice none 0 0, []⟩⟩
    obtain ⟨f, hf'⟩ := Go.Deep.choose_lt each
    have hlen : ((List.range len).map f).length = len := by simp
    refine ⟨(List.range len).map f, ⟨some x, cap, by rw [hlen], by omega, fun e => by simp at e, fun hp => ?_⟩, ?_, .inr ⟨_, _, congrArg Prod.fst hx, by simp⟩⟩
    · rw [hlen] at hp
      obtain ⟨⟨b, o, he, hat⟩, _⟩ := hf' 0 hp
      obtain ⟨xb, xo, xs⟩ := x
      simp [Addr.add] at he
      obtain ⟨rfl, rfl, rfl⟩ := he
      refine ⟨xb, xo, rfl, World.block_lt_of_cell? W _ hat.1, fun k y hk => ?_⟩
      have hkl : k < len := by
        have := (List.getElem?_eq_some_iff.mp hk).1
        simpa using this
      obtain ⟨⟨b, o, he, hat'⟩, _⟩ := hf' k hkl
      rw [add_plain] at he
      simp at he
      obtain ⟨rfl, rfl⟩ := he
      have : y = f k := by simpa [hkl] using hk.symm
      rw [this]
      exact hat'
    · have := bulk_range D f (List.range len) (fun i hi => (hf' i (by simpa using hi)).2)
      rw [show d = .slice ((List.range len).map D) ((List.range (m - len)).map fun j => D (len + j)) from congrArg Prod.fst hx]
      simp only [Rows.uptoBulk]
      omega
theorem bulk_mem {H : Type} {d : DataW H} {l : List (DataW H)} (h : d ∈ l) : Rows.uptoBulk d ≤ Rows.uptoBulkAll l := by
  induction l with
  | nil => cases h
  | cons x r ih =>
    simp only [Rows.uptoBulkAll]
    rcases List.mem_cons.1 h with e | e
    · subst e; omega
    · have := ih e; omega
theorem bulk_part {H : Type} {l : List (DataW H)} (hk : Rows.uptoSmall H l = true) {d : DataW H} (h : d ∈ l) : Rows.uptoBulk d ≤ 1048576 := by
  have h1 : Rows.uptoBulkAll l ≤ 1048576 := of_decide_eq_true hk
  have h2 := bulk_mem h
  omega
theorem OpAt.later {w w' : World} {b o : Nat} {x : OpD} (h : OpAt w b o x) (hb : Below w.heap.size w w') : OpAt w' b o x := by
  obtain ⟨h0, h1, h2, h3, hr, hk⟩ := h
  have hlt : b < w.heap.size := World.block_lt_of_cell? w _ h0
  exact ⟨(hb.cell (p := ⟨b, o, none⟩) hlt).trans h0, (hb.cell (p := ⟨b, o + 1, none⟩) hlt).trans h1, (hb.cell (p := ⟨b, o + 2, none⟩) hlt).trans h2, (hb.cell (p := ⟨b, o + 3, none⟩) hlt).trans h3, hr.later hb, hk⟩
theorem Ops.later {w w' : World} {v : Value} {xs : List OpD} (h : Ops w v xs) (hb : Below w.heap.size w w') : Ops w' v xs := by
  obtain ⟨a, cap, hv, hl, h0, hr⟩ := h
  refine ⟨a, cap, hv, hl, h0, fun hp => ?_⟩
  obtain ⟨b, off, ha, hlt, hat⟩ := hr hp
  exact ⟨b, off, ha, Nat.lt_of_lt_of_le hlt hb.size, fun k x hk => (hat k x hk).later hb⟩
theorem Ops.at {w : World} {a : Option Addr} {n cap k : Nat} {xs : List OpD} (h : Ops w (.slice a n cap) xs) (hk : k < xs.length) : ∃ b off, a = some ⟨b, off, none⟩ ∧ b < w.heap.size ∧ OpAt w b (off + k * 4) xs[k] := by
  obtain ⟨a', cap', e, hl, h0, hr⟩ := h
  simp at e
  obtain ⟨rfl, rfl, rfl⟩ := e
  obtain ⟨b, off, ha, hlt, hat⟩ := hr (by omega)
  exact ⟨b, off, ha, hlt, hat k _ (by simp [hk])⟩
end Go.Proofs.YtghpehgefbikeaaDoor
