/- What the package-level errors hold; a world in which they lie so. -/
import Derived.Test.YtpdehdomilnmeaaGreatDoorRows
import Derived.LaidLaws
import Derived.LaidEql
import Derived.KernelRfl
import Derived.RowKit
namespace Go.Proofs.YtpdehdomilnmeaaGreatDoor
open Go.ChangeShapes Go.RowKit

theorem own : ownKnob Tryz.prog.godebug = none := by kernel_rfl
theorem laidOut : laidOutB Tryz.prog = true := by kernel_rfl
theorem star : "*" ++ "errors.errorString" = "*errors.errorString" := by decide
theorem row290 (u : TypeId) (h : Tryz.prog.typeName? 3 u = some "*errors.errorString") : u = 290 :=
  typeName_ptr_named (nm := "errors.errorString") (by rw [star]; kernel_rfl) (by kernel_rfl) (by decide) u (by rw [star]; exact h)
theorem cells306 : Tryz.prog.cellsOf 306 = 1 := by kernel_rfl
theorem cells9 : Tryz.prog.cellsOf 9 = 1 := by kernel_rfl
theorem comp290 : (Tryz.prog.info? 290).map (fun i => i.comparable) = some true := by kernel_rfl
theorem size306 : (Tryz.prog.info? 306).map (fun i => i.size) = some 1 := by kernel_rfl
/-- A package-level error: its variable, its pointer, its block, its text. -/
def Err (w : World) (g : Nat) (text : List UInt8) (a : Addr) : Prop :=
  w.cell? ⟨g, 0, none⟩ = some (.iface 290 (.pointer (some a))) ∧ (∃ s : ByteArray, w.cell? a = some (.string s) ∧ s.data.toList = text) ∧ ∃ c t, w.heap[a.block]? = some (.cells c t (0, 0))
set_option maxRecDepth 100000 in
/-- The head of the list of what is laid. -/
theorem sent {n : String} {g : Nat} {text : List UInt8} {r : List (String × DataW Unit)} {W : World} (h : laidMet Tryz.prog ((n, .iface "*errors.errorString" (.ptr (.agg [.lit (.string text)]))) :: r) W)
    (hg : Tryz.prog.globalNamed n = some g) (ht : (Tryz.prog.globals[g]?).map (·.type) = some 48) : (∃ a, Err W g text a) ∧ laidMet Tryz.prog r W := by
  obtain ⟨ps, ⟨g0, t0, cs0, f0, p0, q0, hg0, ht0, hv0, hd0, hq, e0⟩, hnd, hrows⟩ := h
  obtain rfl := Option.some.inj (hg.symm.trans hg0)
  obtain rfl := Option.some.inj (ht.symm.trans ht0)
  subst e0
  refine ⟨?_, q0, hq, List.Nodup.sublist (List.sublist_append_right _ _) hnd, fun b off hm => hrows b off (List.mem_append_right _ hm)⟩
  obtain ⟨l0⟩ := cs0
  have ok0 : ∀ u v, l0 = [.iface u v] → Value.okWide Tryz.prog W .any 0 u v := fun u v e => by
    subst e
    exact (hrows g 0 (by simp [MemPlace.row])).2 u v (by simpa using World.var?_cell hg0 hv0 0)
  obtain ⟨a0, s0, rfl, hc0, hs0, hz0, rfl⟩ := errorString_of_trod Tryz.underlying48 row290 Tryz.underlying290 Tryz.underlying306 rfl rfl Tryz.underlying9 cells306 cells9 hd0 ok0
  obtain ⟨c0, t0, hb0⟩ := (hrows a0.block a0.off (by simp [MemPlace.row])).1
  exact ⟨a0, by simpa using World.var?_cell hg0 hv0 0, ⟨s0, hc0, hs0⟩, c0, t0, hb0⟩
theorem Err.ne {w : World} {g h : Nat} {s t : List UInt8} {a b : Addr} (ha : Err w g s a) (hb : Err w h t b) (hn : s ≠ t) : a ≠ b := by
  rintro rfl
  obtain ⟨_, ⟨x, hx, rfl⟩, _⟩ := ha
  obtain ⟨_, ⟨y, hy, rfl⟩, _⟩ := hb
  rw [hx] at hy
  simp at hy
  exact hn (by rw [hy])
theorem Err.eq {w : World} {g : Nat} {s : List UInt8} {a : Addr} (_ : Err w g s a) (W : World) : (binOp .eql 48 (.iface 290 (.pointer (some a))) (.iface 290 (.pointer (some a)))).run Tryz.prog W = .ok (.bool true) W := by
  obtain ⟨i, hi, hc⟩ := Option.map_eq_some_iff.mp comp290
  obtain ⟨j, hj, hs⟩ := Option.map_eq_some_iff.mp size306
  exact run_eql_iface_ptr_same W a Tryz.underlying48 Tryz.underlying290 hi hc hj
theorem Err.same {w : World} {g : Nat} {s : List UInt8} {a : Addr} (_ : Err w g s a) (W : World) : (binOp .neq 48 (.iface 290 (.pointer (some a))) (.iface 290 (.pointer (some a)))).run Tryz.prog W = .ok (.bool false) W := by
  obtain ⟨i, hi, hc⟩ := Option.map_eq_some_iff.mp comp290
  obtain ⟨j, hj, hs⟩ := Option.map_eq_some_iff.mp size306
  simp only [binOp]
  simp [Op.equal, Op.maxDepth, run_equalIn_iface_ptr_same W 9998 a Tryz.underlying48 Tryz.underlying290 hi hc hj]
theorem Err.neq {w : World} {g h : Nat} {s t : List UInt8} {a b : Addr} (ha : Err w g s a) (hb : Err w h t b) (hn : s ≠ t) {W : World} (ea : W.heap[a.block]? = w.heap[a.block]?) (eb : W.heap[b.block]? = w.heap[b.block]?) :
    (binOp .eql 48 (.iface 290 (.pointer (some a))) (.iface 290 (.pointer (some b)))).run Tryz.prog W = .ok (.bool false) W := by
  obtain ⟨i, hi, hc⟩ := Option.map_eq_some_iff.mp comp290
  obtain ⟨j, hj, hs⟩ := Option.map_eq_some_iff.mp size306
  obtain ⟨_, _, c0, t0, h0⟩ := id ha
  obtain ⟨_, _, c1, t1, h1⟩ := id hb
  exact run_eql_iface_ptr_other W Tryz.underlying48 Tryz.underlying290 hi hc hj (by rw [hs]; decide) (ha.ne hb hn) (ea.trans h0) (eb.trans h1)
theorem Err.nil {w : World} {g : Nat} {s : List UInt8} {a : Addr} (_ : Err w g s a) (W : World) : (binOp .eql 48 .nilIface (.iface 290 (.pointer (some a)))).run Tryz.prog W = .ok (.bool false) W :=
  run_eql_iface_nil_left W _ _ Tryz.underlying48
theorem g0 : Tryz.prog.globalNamed "almoner/api.ErrNumber" = some 0 := by kernel_rfl
theorem g0Type : (Tryz.prog.globals[0]?).map (·.type) = some 48 := by kernel_rfl
abbrev text0 : List UInt8 := [97, 108, 109, 111, 110, 101, 114, 58, 32, 110, 117, 109, 98, 101, 114]
theorem g1 : Tryz.prog.globalNamed "almoner/api.ErrOver" = some 1 := by kernel_rfl
theorem g1Type : (Tryz.prog.globals[1]?).map (·.type) = some 48 := by kernel_rfl
abbrev text1 : List UInt8 := [97, 108, 109, 111, 110, 101, 114, 58, 32, 111, 118, 101, 114]
theorem g2 : Tryz.prog.globalNamed "almoner/api.ErrBytes" = some 2 := by kernel_rfl
theorem g2Type : (Tryz.prog.globals[2]?).map (·.type) = some 48 := by kernel_rfl
abbrev text2 : List UInt8 := [97, 108, 109, 111, 110, 101, 114, 58, 32, 98, 121, 116, 101, 115]
theorem g3 : Tryz.prog.globalNamed "almoner/api.ErrSum" = some 3 := by kernel_rfl
theorem g3Type : (Tryz.prog.globals[3]?).map (·.type) = some 48 := by kernel_rfl
abbrev text3 : List UInt8 := [97, 108, 109, 111, 110, 101, 114, 58, 32, 115, 117, 109]
theorem g4 : Tryz.prog.globalNamed "almoner/api.ErrGone" = some 4 := by kernel_rfl
theorem g4Type : (Tryz.prog.globals[4]?).map (·.type) = some 48 := by kernel_rfl
abbrev text4 : List UInt8 := [97, 108, 109, 111, 110, 101, 114, 58, 32, 103, 111, 110, 101]
theorem g5 : Tryz.prog.globalNamed "almoner/api.ErrThere" = some 5 := by kernel_rfl
theorem g5Type : (Tryz.prog.globals[5]?).map (·.type) = some 48 := by kernel_rfl
abbrev text5 : List UInt8 := [97, 108, 109, 111, 110, 101, 114, 58, 32, 116, 104, 101, 114, 101]
theorem g6 : Tryz.prog.globalNamed "almoner/api.ErrFull" = some 6 := by kernel_rfl
theorem g6Type : (Tryz.prog.globals[6]?).map (·.type) = some 48 := by kernel_rfl
abbrev text6 : List UInt8 := [97, 108, 109, 111, 110, 101, 114, 58, 32, 102, 117, 108, 108]
theorem g7 : Tryz.prog.globalNamed "almoner/api.ErrLarge" = some 7 := by kernel_rfl
theorem g7Type : (Tryz.prog.globals[7]?).map (·.type) = some 48 := by kernel_rfl
abbrev text7 : List UInt8 := [97, 108, 109, 111, 110, 101, 114, 58, 32, 108, 97, 114, 103, 101]
theorem g8 : Tryz.prog.globalNamed "almoner/api.ErrLost" = some 8 := by kernel_rfl
theorem g8Type : (Tryz.prog.globals[8]?).map (·.type) = some 48 := by kernel_rfl
abbrev text8 : List UInt8 := [97, 108, 109, 111, 110, 101, 114, 58, 32, 108, 111, 115, 116]
theorem g9 : Tryz.prog.globalNamed "almoner/api.ErrServer" = some 9 := by kernel_rfl
theorem g9Type : (Tryz.prog.globals[9]?).map (·.type) = some 48 := by kernel_rfl
abbrev text9 : List UInt8 := [97, 108, 109, 111, 110, 101, 114, 58, 32, 115, 101, 114, 118, 101, 114]
theorem g10 : Tryz.prog.globalNamed "almoner/api.ErrTask" = some 10 := by kernel_rfl
theorem g10Type : (Tryz.prog.globals[10]?).map (·.type) = some 48 := by kernel_rfl
abbrev text10 : List UInt8 := [97, 108, 109, 111, 110, 101, 114, 58, 32, 116, 97, 115, 107]
theorem g11 : Tryz.prog.globalNamed "almoner/api.ErrTight" = some 11 := by kernel_rfl
theorem g11Type : (Tryz.prog.globals[11]?).map (·.type) = some 48 := by kernel_rfl
abbrev text11 : List UInt8 := [97, 108, 109, 111, 110, 101, 114, 58, 32, 116, 105, 103, 104, 116]
theorem g12 : Tryz.prog.globalNamed "almoner/api.ErrDeep" = some 12 := by kernel_rfl
theorem g12Type : (Tryz.prog.globals[12]?).map (·.type) = some 48 := by kernel_rfl
abbrev text12 : List UInt8 := [97, 108, 109, 111, 110, 101, 114, 58, 32, 100, 101, 101, 112]
theorem g13 : Tryz.prog.globalNamed "almoner/api.ErrBusy" = some 13 := by kernel_rfl
theorem g13Type : (Tryz.prog.globals[13]?).map (·.type) = some 48 := by kernel_rfl
abbrev text13 : List UInt8 := [97, 108, 109, 111, 110, 101, 114, 58, 32, 98, 117, 115, 121]
theorem g14 : Tryz.prog.globalNamed "almoner/api.ErrBallot" = some 14 := by kernel_rfl
theorem g14Type : (Tryz.prog.globals[14]?).map (·.type) = some 48 := by kernel_rfl
abbrev text14 : List UInt8 := [97, 108, 109, 111, 110, 101, 114, 58, 32, 98, 97, 108, 108, 111, 116]
theorem g15 : Tryz.prog.globalNamed "almoner/api.ErrState" = some 15 := by kernel_rfl
theorem g15Type : (Tryz.prog.globals[15]?).map (·.type) = some 48 := by kernel_rfl
abbrev text15 : List UInt8 := [97, 108, 109, 111, 110, 101, 114, 58, 32, 115, 116, 97, 116, 101]
noncomputable def low : Nat := (World.holding Tryz.prog default ⟨#[], #[], []⟩).heap.size
noncomputable def laidWorld (os : Os) : World :=
  let w0 := World.holding Tryz.prog os ⟨#[.cells #[.string ⟨#[97, 108, 109, 111, 110, 101, 114, 58, 32, 110, 117, 109, 98, 101, 114]⟩] 306, .cells #[.string ⟨#[97, 108, 109, 111, 110, 101, 114, 58, 32, 111, 118, 101, 114]⟩] 306, .cells #[.string ⟨#[97, 108, 109, 111, 110, 101, 114, 58, 32, 98, 121, 116, 101, 115]⟩] 306, .cells #[.string ⟨#[97, 108, 109, 111, 110, 101, 114, 58, 32, 115, 117, 109]⟩] 306, .cells #[.string ⟨#[97, 108, 109, 111, 110, 101, 114, 58, 32, 103, 111, 110, 101]⟩] 306, .cells #[.string ⟨#[97, 108, 109, 111, 110, 101, 114, 58, 32, 116, 104, 101, 114, 101]⟩] 306, .cells #[.string ⟨#[97, 108, 109, 111, 110, 101, 114, 58, 32, 102, 117, 108, 108]⟩] 306, .cells #[.string ⟨#[97, 108, 109, 111, 110, 101, 114, 58, 32, 108, 97, 114, 103, 101]⟩] 306, .cells #[.string ⟨#[97, 108, 109, 111, 110, 101, 114, 58, 32, 108, 111, 115, 116]⟩] 306, .cells #[.string ⟨#[97, 108, 109, 111, 110, 101, 114, 58, 32, 115, 101, 114, 118, 101, 114]⟩] 306, .cells #[.string ⟨#[97, 108, 109, 111, 110, 101, 114, 58, 32, 116, 97, 115, 107]⟩] 306, .cells #[.string ⟨#[97, 108, 109, 111, 110, 101, 114, 58, 32, 116, 105, 103, 104, 116]⟩] 306, .cells #[.string ⟨#[97, 108, 109, 111, 110, 101, 114, 58, 32, 100, 101, 101, 112]⟩] 306, .cells #[.string ⟨#[97, 108, 109, 111, 110, 101, 114, 58, 32, 98, 117, 115, 121]⟩] 306, .cells #[.string ⟨#[97, 108, 109, 111, 110, 101, 114, 58, 32, 98, 97, 108, 108, 111, 116]⟩] 306, .cells #[.string ⟨#[97, 108, 109, 111, 110, 101, 114, 58, 32, 115, 116, 97, 116, 101]⟩] 306], #[], []⟩
  { w0 with heap := w0.heap.mapIdx fun k o => match o with
      | .cells c t frozen => if k < 16 then .cells #[.iface 290 (.pointer (some ⟨low + k, 0, none⟩))] t frozen else .cells c t frozen
      | o => o }
end Go.Proofs.YtpdehdomilnmeaaGreatDoor
