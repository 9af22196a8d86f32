/- A row of ticks that comes in: its block, its numbers. -/
import Derived.Test.YtdkjoedebjinkaaDoorSrv4
namespace Go.Proofs.YtdkjoedebjinkaaDoor
open Go.ChangeShapes Go.WideShapes Go.ChangeAt Go.RowKit

/-- A list of numbers that is read. -/
def Iw (w : World) (v : Value) (ws : List Int) : Prop := ∃ a cap, v = .slice a ws.length cap ∧ (0 < ws.length → ∃ b off, a = some ⟨b, off, none⟩ ∧ ∀ i x, ws[i]? = some x → w.cell? ⟨b, off + i, none⟩ = some (.int .i64 x))
theorem Iw.below {w w' : World} {v : Value} {ws : List Int} (h : Iw w v ws) (hb : Below w.heap.size w w') : Iw w' v ws := by
  obtain ⟨a, cap, rfl, hr⟩ := h
  refine ⟨a, cap, rfl, fun hp => ?_⟩
  obtain ⟨b, off, rfl, hc⟩ := hr hp
  exact ⟨b, off, rfl, fun i x hi => kc (hc i x hi) hb⟩
theorem Iw.at {w w' : World} {a : Option Addr} {n cap : Nat} {ws : List Int} (h : Iw w (.slice a n cap) ws) (hb : Below w.heap.size w w') (i : Nat) (hi : i < ws.length) : ∃ b off x, a = some ⟨b, off, none⟩ ∧ ws[i]? = some x ∧ w'.cell? ⟨b, off + i, none⟩ = some (.int .i64 x) := by
  obtain ⟨a', cap', e, hr⟩ := h.below hb
  simp at e
  obtain ⟨rfl, rfl, rfl⟩ := e
  obtain ⟨b, off, rfl, hc⟩ := hr (by omega)
  obtain ⟨x, hx⟩ : ∃ x, ws[i]? = some x := ⟨_, List.getElem?_eq_getElem hi⟩
  exact ⟨b, off, x, rfl, hx, hc i x hx⟩
/-- A row in its block. -/
def RB (w : World) (R : Nat) (s : Sv) (m : Int) (v : Value) : Prop := w.heap[R]? = some (.cells #[.int .i64 s.1, .int .i64 s.2.1, .int .i64 s.2.2, .int .i64 m, v] 26 (0, 0))
theorem RB.c0 {w : World} {R : Nat} {s : Sv} {m : Int} {v : Value} (h : RB w R s m v) : w.cell? ⟨R, 0, none⟩ = some (.int .i64 s.1) := cell_of_block (i := 0) h rfl
theorem RB.c1 {w : World} {R : Nat} {s : Sv} {m : Int} {v : Value} (h : RB w R s m v) : w.cell? ⟨R, 1, none⟩ = some (.int .i64 s.2.1) := cell_of_block (i := 1) h rfl
theorem RB.c2 {w : World} {R : Nat} {s : Sv} {m : Int} {v : Value} (h : RB w R s m v) : w.cell? ⟨R, 2, none⟩ = some (.int .i64 s.2.2) := cell_of_block (i := 2) h rfl
theorem RB.c3 {w : World} {R : Nat} {s : Sv} {m : Int} {v : Value} (h : RB w R s m v) : w.cell? ⟨R, 3, none⟩ = some (.int .i64 m) := cell_of_block (i := 3) h rfl
theorem RB.c4 {w : World} {R : Nat} {s : Sv} {m : Int} {v : Value} (h : RB w R s m v) : w.cell? ⟨R, 4, none⟩ = some v := cell_of_block (i := 4) h rfl
theorem RB.lt {w : World} {R : Nat} {s : Sv} {m : Int} {v : Value} (h : RB w R s m v) : R < w.heap.size := (Array.getElem?_eq_some_iff.1 h).1
theorem RB.hold {w w' : World} {R : Nat} {s : Sv} {m : Int} {v : Value} (h : RB w R s m v) (hb : Below w.heap.size w w') : RB w' R s m v := Go.Proofs.YtdkjoedebjinkaaDoor.hold h hb
theorem RB.kb {w w' : World} {R b : Nat} {s : Sv} {m : Int} {v : Value} (h : RB w R s m v) (hk : Kb b w w') (hn : ¬ R = b) : RB w' R s m v := (hk.block R h.lt hn).trans h
theorem rb_new (w : World) (s : Sv) (m : Int) (v : Value) : RB (w.alloc (.cells #[.int .i64 s.1, .int .i64 s.2.1, .int .i64 s.2.2, .int .i64 m, v] 26)) w.heap.size s m v := heap_alloc_new w _
abbrev vR (s : Sv) (m : Int) (v : Value) : Value := .agg #[.int .i64 s.1, .int .i64 s.2.1, .int .i64 s.2.2, .int .i64 m, v]
/-- A row, a server and the listed error in a law's memory. -/
structure LW (W w : World) (R b : Nat) (s : Sv) (m : Int) (v : Value) (wk : Bool) (x : Ss) (a : Addr) : Prop where
  bel : Below W.heap.size W w
  lb : W.heap.size ≤ b
  ne : ¬ R = b
  rb : RB w R s m v
  sb : SB w b s m wk x
  er : w.cell? ⟨0, 0, none⟩ = some (vE a)
  el : 0 < W.heap.size
theorem LW.step {W w w' : World} {R b : Nat} {s : Sv} {m : Int} {v : Value} {wk wk' : Bool} {x x' : Ss} {a : Addr} (h : LW W w R b s m v wk x a) (hk : Kb b w w') (hs : SB w' b s m wk' x') : LW W w' R b s m v wk' x' a :=
  ⟨Kb.below hk h.bel h.lb h.sb.lt, h.lb, h.ne, h.rb.kb hk h.ne, hs, Kept.cell hk h.er (by have := h.lb; have := h.el; simp only; omega), h.el⟩
theorem LW.kb {W w w' : World} {R b : Nat} {s : Sv} {m : Int} {v : Value} {wk : Bool} {x : Ss} {a : Addr} (h : LW W w R b s m v wk x a) (hb : Below w.heap.size w w') : LW W w' R b s m v wk x a :=
  ⟨bt h.bel hb, h.lb, h.ne, h.rb.hold hb, (hb.block _ h.sb.lt).trans h.sb, kc h.er hb, h.el⟩
theorem LW.drewN {W w : World} {R b : Nat} {s : Sv} {m : Int} {v : Value} {wk : Bool} {x : Ss} {a : Addr} (h : LW W w R b s m v wk x a) (n : Nat) : LW W (w.drewN n) R b s m v wk x a :=
  ⟨⟨h.bel.os, h.bel.tape, h.bel.output, h.bel.size, h.bel.block⟩, h.lb, h.ne, h.rb, h.sb, h.er, h.el⟩
/-- A bit of a number, as the walk finds it. -/
theorem bit_cases (t k : Int) : ∃ A v, bits .and .i64 t k = A ∧ ((v = true ∧ A = k) ∨ (v = false ∧ (A == k) = false)) := by
  by_cases e : bits .and .i64 t k = k
  · exact ⟨k, true, e, .inl ⟨rfl, rfl⟩⟩
  · exact ⟨_, false, rfl, .inr ⟨rfl, by simpa using e⟩⟩
end Go.Proofs.YtdkjoedebjinkaaDoor
