/- Servers: the share of all. -/
import Derived.Test.YtilnchlnlnpkfaaDoorPlan2
namespace Go.Proofs.YtilnchlnlnpkfaaDoor
open Go.ChangeShapes Go.WideShapes Go.ChangeAt Go.RowKit
set_option maxRecDepth 100000
attribute [local go_sem] World.cell?_alloc_some frozen_alloc_some

/-- The four halves of a share. -/
structure Pt (p : Int × Int) (A B C E : Int) : Prop where
  a : Word A
  b : Word B
  c : Word C
  e : Word E
  n : wv A B = p.1
  d : wv C E = p.2
theorem pt_ex {p : Int × Int} (h0 : 0 ≤ p.1) (h1 : p.1 < 340282366920938463463374607431768211456) (h2 : 0 ≤ p.2) (h3 : p.2 < 340282366920938463463374607431768211456) : ∃ A B C E, Pt p A B C E := by
  obtain ⟨A, B, a, b, e1⟩ := halves p.1 h0 h1
  obtain ⟨C, E, c, e, e2⟩ := halves p.2 h2 h3
  exact ⟨A, B, C, E, a, b, c, e, e1.symm, e2.symm⟩
theorem Pt.un {p : Int × Int} {A B C E A' B' C' E' : Int} (h : Pt p A B C E) (h' : Pt p A' B' C' E') : A = A' ∧ B = B' ∧ C = C' ∧ E = E' := by
  obtain ⟨e1, e2⟩ := wv_inj h.a h.b h'.a h'.b (h.n.trans h'.n.symm)
  obtain ⟨e3, e4⟩ := wv_inj h.c h.e h'.c h'.e (h.d.trans h'.d.symm)
  exact ⟨e1, e2, e3, e4⟩
theorem pt_pl {p x : Int × Int} {A B C E A' B' C' E' : Int} (hp : Pt p A B C E) (hq : Pt (addp p x) A' B' C' E') (hx : okq x) (hD : 1 ≤ p.2) : PlIs (wv A B) (wv C E) x.1 x.2 A' B' C' E' true := by
  obtain ⟨x1, x2, x3⟩ := hx
  refine ⟨hq.a, hq.b, hq.c, hq.e, fun _ => ⟨⟨by rw [hp.d]; omega, by omega, by omega⟩, ?_, ?_⟩, fun h => (by cases h)⟩
  · rw [hq.n, hp.n, hp.d]; rfl
  · rw [hq.d, hp.d]; rfl
theorem sh_pt (l : List (Int × Int)) (h : ∀ x ∈ l, okq x) (hl : l.length ≤ 8) : ∃ A B C E, Pt (sh l) A B C E := by
  obtain ⟨h1, h2, h3, h4⟩ := sh_fit l h hl
  exact pt_ex h3 (by omega) (by omega) (by omega)
theorem pt01 : Pt (0, 1) 0 0 0 1 := ⟨word0, word0, word0, word1, rfl, rfl⟩
theorem P4.set {w : World} {p : Nat} {A B C E : Int} (h : P4 w p A B C E) (A' B' C' E' : Int) : P4 ((((w.setCell ⟨p, 0, none⟩ (.int .u64 A')).setCell ⟨p, 1, none⟩ (.int .u64 B')).setCell ⟨p, 2, none⟩ (.int .u64 C')).setCell ⟨p, 3, none⟩ (.int .u64 E')) p A' B' C' E' := by
  obtain ⟨⟨h0, h1, h2, h3⟩, g0, g1, g2, g3⟩ := h
  refine ⟨⟨?_, ?_, ?_, ?_⟩, ?_, ?_, ?_, ?_⟩ <;> simp [go_sem, *]
theorem P4.other {w : World} {p r : Nat} {A B C E : Int} (h : P4 w r A B C E) (hn : r ≠ p) (x0 x1 x2 x3 : Value) : P4 ((((w.setCell ⟨p, 0, none⟩ x0).setCell ⟨p, 1, none⟩ x1).setCell ⟨p, 2, none⟩ x2).setCell ⟨p, 3, none⟩ x3) r A B C E := by
  obtain ⟨⟨h0, h1, h2, h3⟩, g0, g1, g2, g3⟩ := h
  refine ⟨⟨?_, ?_, ?_, ?_⟩, ?_, ?_, ?_, ?_⟩ <;> simp [go_sem, *]
theorem P4.lt {w : World} {p : Nat} {A B C E : Int} (h : P4 w p A B C E) : p < w.heap.size := cell_lt h.1.1
end Go.Proofs.YtilnchlnlnpkfaaDoor
