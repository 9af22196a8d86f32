/- Letters and a net in memory. -/
import Derived.Test.YtaiklaipdocdmaaDoorNt1
import Derived.Test.YtaiklaipdocdmaaDoorNtMath
namespace Go.Proofs.YtaiklaipdocdmaaDoor
open Go.ChangeShapes Go.WideShapes Go.ChangeAt Go.RowKit
set_option maxRecDepth 100000

/-- A letter, with where its bytes lie. -/
abbrev Lp := Lt × Option Addr × Nat
abbrev bv (l : Lp) : Value := .slice l.2.1 l.1.bs.length l.2.2
abbrev vL (l : Lp) : Value := .agg #[.int .i64 l.1.nu, .int .i64 l.1.fr, .int .i64 l.1.to, bv l]
def cl (l : Lp) : List Value := [.int .i64 l.1.nu, .int .i64 l.1.fr, .int .i64 l.1.to, bv l]
theorem cl_len (l : Lp) : (cl l).length = 4 := rfl
theorem one_cl (l : Lp) : ∀ u ∈ cl l, u.oneCell' = true := by
  intro u hx
  simp only [cl, List.mem_cons, List.not_mem_nil, or_false] at hx
  rcases hx with rfl | rfl | rfl | rfl <;> rfl
theorem info_letter : (Tryd.prog.info? 50).map (fun i => (i.zero, i.size, i.bytes)) = some (some (.agg #[.int .i64 0, .int .i64 0, .int .i64 0, .slice none 0 0]), 4, 48) := by kernel_rfl
/-- A net in its block; each block of its own bears a tag. -/
structure NB (own : Nat → Int × Int) (i : Int) (w : World) (p : Nat) (v : Value) (ps : List Lp) (n : Nt) : Prop where
  blk : w.heap[p]? = some (.cells #[v, .int .i64 n.last] 81 (0, 0))
  row : w.ownsRow 0 50 4 v ps.length (ps.flatMap cl)
  eq : ps.map (·.1) = n.ls
  op : own p = (i, 1)
  ov : ∀ k, v.ownBlock = some k → own k = (i, 2)
  bys : ∀ l ∈ ps, Rd w (bv l) l.1.bs
  ob : ∀ l ∈ ps, ∀ k, (bv l).ownBlock = some k → own k = (i, 2 + l.1.nu)
  sz : ∀ k, w.heap.size ≤ k → own k = (0, 0)
  one : i ≠ 0
  ok : n.Ok
theorem NB.len {own : Nat → Int × Int} {i : Int} {w : World} {p : Nat} {v : Value} {ps : List Lp} {n : Nt} (h : NB own i w p v ps n) : ps.length = n.ls.length := by rw [← h.eq, List.length_map]
theorem NB.lt {own : Nat → Int × Int} {i : Int} {w : World} {p : Nat} {v : Value} {ps : List Lp} {n : Nt} (h : NB own i w p v ps n) : p < w.heap.size := lt_of_heap h.blk
theorem NB.num {own : Nat → Int × Int} {i : Int} {w : World} {p : Nat} {v : Value} {ps : List Lp} {n : Nt} (h : NB own i w p v ps n) {l : Lp} (hl : l ∈ ps) : 1 ≤ l.1.nu ∧ l.1.nu ≤ n.last := h.ok.pos l.1 (by rw [← h.eq]; exact List.mem_map.mpr ⟨l, hl, rfl⟩)
theorem NB.small {own : Nat → Int × Int} {i : Int} {w : World} {p : Nat} {v : Value} {ps : List Lp} {n : Nt} (h : NB own i w p v ps n) {l : Lp} (hl : l ∈ ps) : l.1.bs.length ≤ 140737488352000 := h.ok.sm l.1 (by rw [← h.eq]; exact List.mem_map.mpr ⟨l, hl, rfl⟩)
/-- What else is written leaves the net as it is. -/
theorem NB.kept {own : Nat → Int × Int} {i : Int} {w w' : World} {p : Nat} {v : Value} {ps : List Lp} {n : Nt} (h : NB own i w p v ps n) {F : Nat → Prop} (hk : Kept F w w') (hF : ∀ k, F k → own k ≠ (i, 1) ∧ own k ≠ (i, 2) ∧ ∀ l ∈ ps, own k ≠ (i, 2 + l.1.nu)) : NB own i w' p v ps n := by
  refine ⟨(hk.block p h.lt (fun f => (hF p f).1 h.op)).trans h.blk, ownN_kept h.row hk (fun k e f => (hF k f).2.1 (h.ov k e)), h.eq, h.op, h.ov, fun l hl => (h.bys l hl).kept hk (fun k e f => (hF k f).2.2 l hl (h.ob l hl k e)), h.ob, fun k hs => h.sz k (Nat.le_trans hk.size hs), h.one, h.ok⟩
theorem NB.below {own : Nat → Int × Int} {i : Int} {w w' : World} {p : Nat} {v : Value} {ps : List Lp} {n : Nt} (h : NB own i w p v ps n) (hb : Below w.heap.size w w') : NB own i w' p v ps n :=
  h.kept (kept_of_below hb) (fun k hk => by
    have := h.sz k hk
    have h1 := h.one
    rw [this]
    exact ⟨fun e => h1 (Prod.mk.inj e).1.symm, fun e => h1 (Prod.mk.inj e).1.symm, fun l _ e => h1 (Prod.mk.inj e).1.symm⟩)
/-- A net that another one's calls leave as it is, tags new blocks aside. -/
theorem NB.tags {own own' : Nat → Int × Int} {i : Int} {w : World} {p : Nat} {v : Value} {ps : List Lp} {n : Nt} (h : NB own i w p v ps n) (hs : ∀ k, w.heap.size ≤ k → own' k = (0, 0)) (ho : ∀ k, (own k).1 = i → own' k = own k) : NB own' i w p v ps n :=
  ⟨h.blk, h.row, h.eq, by rw [ho p (by rw [h.op]), h.op], fun k e => by have := h.ov k e; rw [ho k (by rw [this]), this], h.bys, fun l hl k e => by have := h.ob l hl k e; rw [ho k (by rw [this]), this], hs, h.one, h.ok⟩
/-- What a call of a net leaves: the net as n', only its own blocks changed. -/
def NO (own : Nat → Int × Int) (i : Int) (w : World) (p : Nat) (n : Nt) (w' : World) : Prop :=
  ∃ own' v ps, NB own' i w' p v ps n ∧ (∀ k, k < w.heap.size → own' k = own k) ∧ (∀ k, w.heap.size ≤ k → own' k = (0, 0) ∨ (own' k).1 = i) ∧ Kept (fun k => (own k).1 = i) w w'
theorem NB.same {own : Nat → Int × Int} {i : Int} {w w' : World} {p : Nat} {v : Value} {ps : List Lp} {n : Nt} (h : NB own i w p v ps n) (hb : Below w.heap.size w w') : NO own i w p n w' :=
  ⟨own, v, ps, h.below hb, fun _ _ => rfl, fun k hk => .inl (h.sz k hk), kept_new hb⟩
theorem NB.shape {own : Nat → Int × Int} {i : Int} {w : World} {p : Nat} {v : Value} {ps : List Lp} {n : Nt} (h : NB own i w p v ps n) : ∃ a c, v = .slice a ps.length c ∧ ps.length ≤ c := own_sh h.row
theorem NB.cells {own : Nat → Int × Int} {i : Int} {w : World} {p : Nat} {v : Value} {ps : List Lp} {n : Nt} (h : NB own i w p v ps n) : w.cell? ⟨p, 0, none⟩ = some v ∧ w.cell? ⟨p, 1, none⟩ = some (.int .i64 n.last) ∧ w.frozen? ⟨p, 0, none⟩ = false ∧ w.frozen? ⟨p, 1, none⟩ = false :=
  ⟨cell_of_block (i := 0) h.blk rfl, cell_of_block (i := 1) h.blk rfl, frozen_of_block h.blk, frozen_of_block h.blk⟩
theorem NB.rin {own : Nat → Int × Int} {i : Int} {w : World} {p : Nat} {v : Value} {ps : List Lp} {n : Nt} (h : NB own i w p v ps n) : RowIn 4 cl w v ps := RowIn.of_owns cl_len (by have := h.ok.len; have := h.len; omega) h.row
/-- A letter's cells in the row. -/
theorem NB.at {own : Nat → Int × Int} {i : Int} {w : World} {p : Nat} {a : Option Addr} {m c : Nat} {ps : List Lp} {n : Nt} (h : NB own i w p (.slice a m c) ps n) {j : Nat} {l : Lp} (hj : ps[j]? = some l) : ∃ g off, a = some ⟨g, off, none⟩ ∧ w.cell? ⟨g, off + j * 4, none⟩ = some (.int .i64 l.1.nu) ∧ w.cell? ⟨g, off + j * 4 + 1, none⟩ = some (.int .i64 l.1.fr) ∧ w.cell? ⟨g, off + j * 4 + 2, none⟩ = some (.int .i64 l.1.to) ∧ w.cell? ⟨g, off + j * 4 + 3, none⟩ = some (bv l) := by
  obtain ⟨b, off, x, e, hx, hc⟩ := RowIn.at h.rin (Below.refl _ _) j (List.getElem?_eq_some_iff.mp hj).1
  rw [hj] at hx
  cases hx
  exact ⟨b, off, e, hc 0 _ (by omega) rfl, hc 1 _ (by omega) rfl, hc 2 _ (by omega) rfl, hc 3 _ (by omega) rfl⟩
end Go.Proofs.YtaiklaipdocdmaaDoor
