/- What the package-level errors hold; a world in which they lie so. -/
import Derived.Test.YtjocjkfllicjdaaDoorRows
import Derived.LaidLaws
import Derived.LaidEql
import Derived.KernelRfl
import Derived.RowKit
namespace Go.Proofs.YtjocjkfllicjdaaDoor
open Go.ChangeShapes Go.RowKit

theorem own : ownKnob Tryd.prog.godebug = none := by kernel_rfl
theorem laidOut : laidOutB Tryd.prog = true := by kernel_rfl
theorem star : "*" ++ "errors.errorString" = "*errors.errorString" := by decide
theorem row108 (u : TypeId) (h : Tryd.prog.typeName? 3 u = some "*errors.errorString") : u = 108 :=
  typeName_ptr_named (nm := "errors.errorString") (by rw [star]; kernel_rfl) (by kernel_rfl) (by decide) u (by rw [star]; exact h)
theorem cells125 : Tryd.prog.cellsOf 125 = 1 := by kernel_rfl
theorem cells9 : Tryd.prog.cellsOf 9 = 1 := by kernel_rfl
theorem comp108 : (Tryd.prog.info? 108).map (fun i => i.comparable) = some true := by kernel_rfl
theorem size125 : (Tryd.prog.info? 125).map (fun i => i.size) = some 1 := by kernel_rfl
/-- A package-level error: its variable, its pointer, its block, its text. -/
def Err (w : World) (g : Nat) (text : List UInt8) (a : Addr) : Prop :=
  w.cell? ⟨g, 0, none⟩ = some (.iface 108 (.pointer (some a))) ∧ (∃ s : ByteArray, w.cell? a = some (.string s) ∧ s.data.toList = text) ∧ ∃ c t, w.heap[a.block]? = some (.cells c t (0, 0))
set_option maxRecDepth 100000 in
/-- The head of the list of what is laid. -/
theorem sent {n : String} {g : Nat} {text : List UInt8} {r : List (String × DataW Unit)} {W : World} (h : laidMet Tryd.prog ((n, .iface "*errors.errorString" (.ptr (.agg [.lit (.string text)]))) :: r) W)
    (hg : Tryd.prog.globalNamed n = some g) (ht : (Tryd.prog.globals[g]?).map (·.type) = some 38) : (∃ a, Err W g text a) ∧ laidMet Tryd.prog r W := by
  obtain ⟨ps, ⟨g0, t0, cs0, f0, p0, q0, hg0, ht0, hv0, hd0, hq, e0⟩, hnd, hrows⟩ := h
  obtain rfl := Option.some.inj (hg.symm.trans hg0)
  obtain rfl := Option.some.inj (ht.symm.trans ht0)
  subst e0
  refine ⟨?_, q0, hq, List.Nodup.sublist (List.sublist_append_right _ _) hnd, fun b off hm => hrows b off (List.mem_append_right _ hm)⟩
  obtain ⟨l0⟩ := cs0
  have ok0 : ∀ u v, l0 = [.iface u v] → Value.okWide Tryd.prog W .any 0 u v := fun u v e => by
    subst e
    exact (hrows g 0 (by simp [MemPlace.row])).2 u v (by simpa using World.var?_cell hg0 hv0 0)
  obtain ⟨a0, s0, rfl, hc0, hs0, hz0, rfl⟩ := errorString_of_trod Tryd.underlying38 row108 Tryd.underlying108 Tryd.underlying125 rfl rfl Tryd.underlying9 cells125 cells9 hd0 ok0
  obtain ⟨c0, t0, hb0⟩ := (hrows a0.block a0.off (by simp [MemPlace.row])).1
  exact ⟨a0, by simpa using World.var?_cell hg0 hv0 0, ⟨s0, hc0, hs0⟩, c0, t0, hb0⟩
theorem Err.ne {w : World} {g h : Nat} {s t : List UInt8} {a b : Addr} (ha : Err w g s a) (hb : Err w h t b) (hn : s ≠ t) : a ≠ b := by
  rintro rfl
  obtain ⟨_, ⟨x, hx, rfl⟩, _⟩ := ha
  obtain ⟨_, ⟨y, hy, rfl⟩, _⟩ := hb
  rw [hx] at hy
  simp at hy
  exact hn (by rw [hy])
theorem Err.eq {w : World} {g : Nat} {s : List UInt8} {a : Addr} (_ : Err w g s a) (W : World) : (binOp .eql 38 (.iface 108 (.pointer (some a))) (.iface 108 (.pointer (some a)))).run Tryd.prog W = .ok (.bool true) W := by
  obtain ⟨i, hi, hc⟩ := Option.map_eq_some_iff.mp comp108
  obtain ⟨j, hj, hs⟩ := Option.map_eq_some_iff.mp size125
  exact run_eql_iface_ptr_same W a Tryd.underlying38 Tryd.underlying108 hi hc hj
theorem Err.same {w : World} {g : Nat} {s : List UInt8} {a : Addr} (_ : Err w g s a) (W : World) : (binOp .neq 38 (.iface 108 (.pointer (some a))) (.iface 108 (.pointer (some a)))).run Tryd.prog W = .ok (.bool false) W := by
  obtain ⟨i, hi, hc⟩ := Option.map_eq_some_iff.mp comp108
  obtain ⟨j, hj, hs⟩ := Option.map_eq_some_iff.mp size125
  simp only [binOp]
  simp [Op.equal, Op.maxDepth, run_equalIn_iface_ptr_same W 9998 a Tryd.underlying38 Tryd.underlying108 hi hc hj]
theorem Err.neq {w : World} {g h : Nat} {s t : List UInt8} {a b : Addr} (ha : Err w g s a) (hb : Err w h t b) (hn : s ≠ t) {W : World} (ea : W.heap[a.block]? = w.heap[a.block]?) (eb : W.heap[b.block]? = w.heap[b.block]?) :
    (binOp .eql 38 (.iface 108 (.pointer (some a))) (.iface 108 (.pointer (some b)))).run Tryd.prog W = .ok (.bool false) W := by
  obtain ⟨i, hi, hc⟩ := Option.map_eq_some_iff.mp comp108
  obtain ⟨j, hj, hs⟩ := Option.map_eq_some_iff.mp size125
  obtain ⟨_, _, c0, t0, h0⟩ := id ha
  obtain ⟨_, _, c1, t1, h1⟩ := id hb
  exact run_eql_iface_ptr_other W Tryd.underlying38 Tryd.underlying108 hi hc hj (by rw [hs]; decide) (ha.ne hb hn) (ea.trans h0) (eb.trans h1)
theorem Err.nil {w : World} {g : Nat} {s : List UInt8} {a : Addr} (_ : Err w g s a) (W : World) : (binOp .eql 38 .nilIface (.iface 108 (.pointer (some a)))).run Tryd.prog W = .ok (.bool false) W :=
  run_eql_iface_nil_left W _ _ Tryd.underlying38
theorem g0 : Tryd.prog.globalNamed "almoner/api.ErrState" = some 0 := by kernel_rfl
theorem g0Type : (Tryd.prog.globals[0]?).map (·.type) = some 38 := by kernel_rfl
abbrev text0 : List UInt8 := [97, 108, 109, 111, 110, 101, 114, 58, 32, 115, 116, 97, 116, 101]
theorem g1 : Tryd.prog.globalNamed "almoner/api.ErrNumber" = some 1 := by kernel_rfl
theorem g1Type : (Tryd.prog.globals[1]?).map (·.type) = some 38 := by kernel_rfl
abbrev text1 : List UInt8 := [97, 108, 109, 111, 110, 101, 114, 58, 32, 110, 117, 109, 98, 101, 114]
theorem g2 : Tryd.prog.globalNamed "almoner/api.ErrOver" = some 2 := by kernel_rfl
theorem g2Type : (Tryd.prog.globals[2]?).map (·.type) = some 38 := by kernel_rfl
abbrev text2 : List UInt8 := [97, 108, 109, 111, 110, 101, 114, 58, 32, 111, 118, 101, 114]
theorem g3 : Tryd.prog.globalNamed "almoner/api.ErrBytes" = some 3 := by kernel_rfl
theorem g3Type : (Tryd.prog.globals[3]?).map (·.type) = some 38 := by kernel_rfl
abbrev text3 : List UInt8 := [97, 108, 109, 111, 110, 101, 114, 58, 32, 98, 121, 116, 101, 115]
theorem g4 : Tryd.prog.globalNamed "almoner/api.ErrSum" = some 4 := by kernel_rfl
theorem g4Type : (Tryd.prog.globals[4]?).map (·.type) = some 38 := by kernel_rfl
abbrev text4 : List UInt8 := [97, 108, 109, 111, 110, 101, 114, 58, 32, 115, 117, 109]
theorem g5 : Tryd.prog.globalNamed "almoner/api.ErrGone" = some 5 := by kernel_rfl
theorem g5Type : (Tryd.prog.globals[5]?).map (·.type) = some 38 := by kernel_rfl
abbrev text5 : List UInt8 := [97, 108, 109, 111, 110, 101, 114, 58, 32, 103, 111, 110, 101]
theorem g6 : Tryd.prog.globalNamed "almoner/api.ErrThere" = some 6 := by kernel_rfl
theorem g6Type : (Tryd.prog.globals[6]?).map (·.type) = some 38 := by kernel_rfl
abbrev text6 : List UInt8 := [97, 108, 109, 111, 110, 101, 114, 58, 32, 116, 104, 101, 114, 101]
theorem g7 : Tryd.prog.globalNamed "almoner/api.ErrFull" = some 7 := by kernel_rfl
theorem g7Type : (Tryd.prog.globals[7]?).map (·.type) = some 38 := by kernel_rfl
abbrev text7 : List UInt8 := [97, 108, 109, 111, 110, 101, 114, 58, 32, 102, 117, 108, 108]
theorem g8 : Tryd.prog.globalNamed "almoner/api.ErrLarge" = some 8 := by kernel_rfl
theorem g8Type : (Tryd.prog.globals[8]?).map (·.type) = some 38 := by kernel_rfl
abbrev text8 : List UInt8 := [97, 108, 109, 111, 110, 101, 114, 58, 32, 108, 97, 114, 103, 101]
theorem g9 : Tryd.prog.globalNamed "almoner/api.ErrLost" = some 9 := by kernel_rfl
theorem g9Type : (Tryd.prog.globals[9]?).map (·.type) = some 38 := by kernel_rfl
abbrev text9 : List UInt8 := [97, 108, 109, 111, 110, 101, 114, 58, 32, 108, 111, 115, 116]
theorem g10 : Tryd.prog.globalNamed "almoner/api.ErrServer" = some 10 := by kernel_rfl
theorem g10Type : (Tryd.prog.globals[10]?).map (·.type) = some 38 := by kernel_rfl
abbrev text10 : List UInt8 := [97, 108, 109, 111, 110, 101, 114, 58, 32, 115, 101, 114, 118, 101, 114]
theorem g11 : Tryd.prog.globalNamed "almoner/api.ErrTask" = some 11 := by kernel_rfl
theorem g11Type : (Tryd.prog.globals[11]?).map (·.type) = some 38 := by kernel_rfl
abbrev text11 : List UInt8 := [97, 108, 109, 111, 110, 101, 114, 58, 32, 116, 97, 115, 107]
theorem g12 : Tryd.prog.globalNamed "almoner/api.ErrTight" = some 12 := by kernel_rfl
theorem g12Type : (Tryd.prog.globals[12]?).map (·.type) = some 38 := by kernel_rfl
abbrev text12 : List UInt8 := [97, 108, 109, 111, 110, 101, 114, 58, 32, 116, 105, 103, 104, 116]
theorem g13 : Tryd.prog.globalNamed "almoner/api.ErrDeep" = some 13 := by kernel_rfl
theorem g13Type : (Tryd.prog.globals[13]?).map (·.type) = some 38 := by kernel_rfl
abbrev text13 : List UInt8 := [97, 108, 109, 111, 110, 101, 114, 58, 32, 100, 101, 101, 112]
theorem g14 : Tryd.prog.globalNamed "almoner/api.ErrBusy" = some 14 := by kernel_rfl
theorem g14Type : (Tryd.prog.globals[14]?).map (·.type) = some 38 := by kernel_rfl
abbrev text14 : List UInt8 := [97, 108, 109, 111, 110, 101, 114, 58, 32, 98, 117, 115, 121]
theorem g15 : Tryd.prog.globalNamed "almoner/api.ErrBallot" = some 15 := by kernel_rfl
theorem g15Type : (Tryd.prog.globals[15]?).map (·.type) = some 38 := by kernel_rfl
abbrev text15 : List UInt8 := [97, 108, 109, 111, 110, 101, 114, 58, 32, 98, 97, 108, 108, 111, 116]
noncomputable def low : Nat := (World.holding Tryd.prog default ⟨#[], #[], []⟩).heap.size
noncomputable def laidWorld (os : Os) : World :=
  let w0 := World.holding Tryd.prog os ⟨#[.cells #[.string ⟨#[97, 108, 109, 111, 110, 101, 114, 58, 32, 115, 116, 97, 116, 101]⟩] 125, .cells #[.string ⟨#[97, 108, 109, 111, 110, 101, 114, 58, 32, 110, 117, 109, 98, 101, 114]⟩] 125, .cells #[.string ⟨#[97, 108, 109, 111, 110, 101, 114, 58, 32, 111, 118, 101, 114]⟩] 125, .cells #[.string ⟨#[97, 108, 109, 111, 110, 101, 114, 58, 32, 98, 121, 116, 101, 115]⟩] 125, .cells #[.string ⟨#[97, 108, 109, 111, 110, 101, 114, 58, 32, 115, 117, 109]⟩] 125, .cells #[.string ⟨#[97, 108, 109, 111, 110, 101, 114, 58, 32, 103, 111, 110, 101]⟩] 125, .cells #[.string ⟨#[97, 108, 109, 111, 110, 101, 114, 58, 32, 116, 104, 101, 114, 101]⟩] 125, .cells #[.string ⟨#[97, 108, 109, 111, 110, 101, 114, 58, 32, 102, 117, 108, 108]⟩] 125, .cells #[.string ⟨#[97, 108, 109, 111, 110, 101, 114, 58, 32, 108, 97, 114, 103, 101]⟩] 125, .cells #[.string ⟨#[97, 108, 109, 111, 110, 101, 114, 58, 32, 108, 111, 115, 116]⟩] 125, .cells #[.string ⟨#[97, 108, 109, 111, 110, 101, 114, 58, 32, 115, 101, 114, 118, 101, 114]⟩] 125, .cells #[.string ⟨#[97, 108, 109, 111, 110, 101, 114, 58, 32, 116, 97, 115, 107]⟩] 125, .cells #[.string ⟨#[97, 108, 109, 111, 110, 101, 114, 58, 32, 116, 105, 103, 104, 116]⟩] 125, .cells #[.string ⟨#[97, 108, 109, 111, 110, 101, 114, 58, 32, 100, 101, 101, 112]⟩] 125, .cells #[.string ⟨#[97, 108, 109, 111, 110, 101, 114, 58, 32, 98, 117, 115, 121]⟩] 125, .cells #[.string ⟨#[97, 108, 109, 111, 110, 101, 114, 58, 32, 98, 97, 108, 108, 111, 116]⟩] 125], #[], []⟩
  { w0 with heap := w0.heap.mapIdx fun k o => match o with
      | .cells c t frozen => if k < 16 then .cells #[.iface 108 (.pointer (some ⟨low + k, 0, none⟩))] t frozen else .cells c t frozen
      | o => o }
end Go.Proofs.YtjocjkfllicjdaaDoor
