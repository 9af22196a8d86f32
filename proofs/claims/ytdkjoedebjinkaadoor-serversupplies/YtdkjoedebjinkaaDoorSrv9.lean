/- Two lists of bools that a law makes, beside a server and a row of ticks. -/
import Derived.Test.YtdkjoedebjinkaaDoorSrv5
import Derived.Test.YtdkjoedebjinkaaDoorSrcV
namespace Go.Proofs.YtdkjoedebjinkaaDoor
open Go.ChangeShapes Go.WideShapes Go.ChangeAt Go.RowKit

theorem infoBool : (Tryd.prog.info? 4).map (fun i => (i.zero, i.size, i.bytes)) = some (some (.bool false), 1, 1) := by kernel_rfl
theorem be_ex : ∃ i, Hid (Tryd.prog.info? 4 = some i ∧ i.zero = some (.bool false) ∧ i.size = 1 ∧ i.bytes = 1) := by
  obtain ⟨i, h1, h2, h3, h4⟩ := info_parts infoBool
  exact ⟨i, mkHid ⟨h1, h2, h3, h4⟩⟩
theorem src_b1 (w : World) (x : Bool) : Src Tryd.prog 1 45 (.slice (some ⟨w.heap.size, 0, none⟩) 1 1) 1 [.bool x] (w.alloc (.cells #[.bool x] 4)) := by
  refine Src.ofSlice _ Tryd.underlying45 _ 1 1 _ rfl (fun j u hj => ?_) (fun u hu => by simp at hu; subst hu; rfl)
  match j, hj with
  | 0, hj => simp at hj; subst hj; simp [Addr.add]
theorem Kept.grownBy {b : Nat} {w w' : World} (h : Kb b w w') : w.grownBy w' (some b) := ⟨h.os, h.tape, h.output, h.size, fun k hk hn => h.block k hk (fun e => hn (by rw [e]))⟩
/-- Two rows of bools, each in a block of its own from base on. -/
structure TB (w : World) (base : Nat) (u v : Value) (us vs : List Bool) : Prop where
  o1 : w.ownsRow base 4 1 u us.length (us.map Value.bool)
  o2 : w.ownsRow base 4 1 v vs.length (vs.map Value.bool)
  ne : ∀ g, u.ownBlock = some g → ¬ v.ownBlock = some g
  sz : base ≤ w.heap.size
theorem none_or {v : Value} {r : Option Nat} (h : ∀ g, v.ownBlock = some g → ¬ r = some g) : v.ownBlock = none ∨ v.ownBlock ≠ r := by
  cases e : v.ownBlock with
  | none => exact .inl rfl
  | some g => exact .inr (fun h2 => h g e h2.symm)
theorem TB.alloc {w : World} {base : Nat} {u v : Value} {us vs : List Bool} (h : TB w base u v us vs) (o : Obj) : TB (w.alloc o) base u v us vs := ⟨h.o1.alloc o, h.o2.alloc o, h.ne, by have := h.sz; simp; omega⟩
theorem TB.kb {w w' : World} {base b : Nat} {u v : Value} {us vs : List Bool} (h : TB w base u v us vs) (hk : Kb b w w') (hb : b < base) : TB w' base u v us vs :=
  ⟨h.o1.kept (Kept.grownBy hk) (none_or fun g hg e => by have := (h.o1.lt g hg).1; simp at e; omega), h.o2.kept (Kept.grownBy hk) (none_or fun g hg e => by have := (h.o2.lt g hg).1; simp at e; omega), h.ne, Nat.le_trans h.sz hk.size⟩
theorem TB.app1 {w w' : World} {base : Nat} {u u' v : Value} {us vs : List Bool} {x : Bool} (h : TB w base u v us vs) (ho : w'.ownsRow base 4 1 u' (us.length + 1) (us.map Value.bool ++ [.bool x])) (hg : w.grownBy w' u.ownBlock) (hat : u'.ownBlock = u.ownBlock ∨ u'.ownBlock = some w.heap.size) : TB w' base u' v (us ++ [x]) vs := by
  refine ⟨by simpa using ho, h.o2.kept hg (none_or fun g hg2 e => h.ne g e hg2), fun g hg2 => ?_, Nat.le_trans h.sz hg.size⟩
  rcases hat with e | e
  · exact h.ne g (by rw [← e]; exact hg2)
  · intro e2
    have := (h.o2.lt g e2).2
    rw [e] at hg2
    simp at hg2
    omega
theorem TB.app2 {w w' : World} {base : Nat} {u v v' : Value} {us vs : List Bool} {x : Bool} (h : TB w base u v us vs) (ho : w'.ownsRow base 4 1 v' (vs.length + 1) (vs.map Value.bool ++ [.bool x])) (hg : w.grownBy w' v.ownBlock) (hat : v'.ownBlock = v.ownBlock ∨ v'.ownBlock = some w.heap.size) : TB w' base u v' us (vs ++ [x]) := by
  refine ⟨h.o1.kept hg (none_or fun g hg2 e => h.ne g hg2 e), by simpa using ho, fun g hg2 e2 => ?_, Nat.le_trans h.sz hg.size⟩
  rcases hat with e | e
  · exact h.ne g hg2 (by rw [← e]; exact e2)
  · have := (h.o1.lt g hg2).2
    rw [e] at e2
    simp at e2
    omega
theorem TB.start (w : World) : TB ((w.alloc (.cells #[] 4)).alloc (.cells #[] 4)) w.heap.size (.slice (some ⟨w.heap.size, 0, none⟩) 0 0) (.slice (some ⟨w.heap.size + 1, 0, none⟩) 0 0) [] [] := by
  have h1 := World.ownsRow_made (base := w.heap.size) (e := 4) (size := 1) w #[] 0 (Nat.le_refl _) (by unfold maxLen; omega) rfl
  have h2 := World.ownsRow_made (base := w.heap.size) (e := 4) (size := 1) (w.alloc (.cells #[] 4)) #[] 0 (by simp) (by unfold maxLen; omega) rfl
  refine ⟨h1.alloc _, by simpa using h2, fun g hg => ?_, by simp; omega⟩
  simp [Value.ownBlock] at hg ⊢
  omega
/-- A server, a row of ticks and two rows of bools in memory. -/
structure RS (W0 Wc w : World) (R b base : Nat) (s : Sv) (m : Int) (v : Value) (wk : Bool) (x : Ss) (a : Addr) (p r : Value) (us vs : List Bool) : Prop where
  bel : Below W0.heap.size W0 w
  fr : Below b Wc w
  lb : W0.heap.size ≤ b
  bb : b < base
  rl : R < base
  ne : ¬ R = b
  rb : RB w R s m v
  sb : SB w b s m wk x
  er : w.cell? ⟨0, 0, none⟩ = some (vE a)
  el : 0 < W0.heap.size
  two : TB w base p r us vs
theorem RS.step {W0 Wc w w' : World} {R b base : Nat} {s : Sv} {m : Int} {v : Value} {wk wk' : Bool} {x x' : Ss} {a : Addr} {p r : Value} {us vs : List Bool} (h : RS W0 Wc w R b base s m v wk x a p r us vs) (hk : Kb b w w') (hs : SB w' b s m wk' x') : RS W0 Wc w' R b base s m v wk' x' a p r us vs :=
  ⟨Kb.below hk h.bel h.lb h.sb.lt, Kb.below hk h.fr (Nat.le_refl _) h.sb.lt, h.lb, h.bb, h.rl, h.ne, h.rb.kb hk h.ne, hs, Kept.cell hk h.er (by have := h.lb; have := h.el; simp only; omega), h.el, h.two.kb hk h.bb⟩
theorem RS.grow {W0 Wc w w' : World} {R b base : Nat} {s : Sv} {m : Int} {v : Value} {wk : Bool} {x : Ss} {a : Addr} {p r p' r' : Value} {us vs us' vs' : List Bool} (h : RS W0 Wc w R b base s m v wk x a p r us vs) {row : Option Nat} (hg : w.grownBy w' row) (hr : ∀ k, row = some k → base ≤ k) (h2 : TB w' base p' r' us' vs') : RS W0 Wc w' R b base s m v wk x a p' r' us' vs' := by
  have hsz := h.two.sz
  have k1 : ∀ k, k < base → w'.heap[k]? = w.heap[k]? := fun k hk => hg.block k (by omega) (fun e => by have := hr k e.symm; omega)
  have b1 : Below base w w' := ⟨hg.os, hg.tape, hg.output, hg.size, k1⟩
  have := h.lb
  have := h.bb
  have := h.el
  exact ⟨h.bel.trans (b1.mono (by omega)), h.fr.trans (b1.mono (by omega)), h.lb, h.bb, h.rl, h.ne, (k1 R h.rl).trans h.rb, (k1 b h.bb).trans h.sb, (b1.cell (p := ⟨0, 0, none⟩) (by simp only; omega)).trans h.er, h.el, h2⟩
theorem RS.alloc {W0 Wc w : World} {R b base : Nat} {s : Sv} {m : Int} {v : Value} {wk : Bool} {x : Ss} {a : Addr} {p r : Value} {us vs : List Bool} (h : RS W0 Wc w R b base s m v wk x a p r us vs) (o : Obj) : RS W0 Wc (w.alloc o) R b base s m v wk x a p r us vs :=
  h.grow (World.grownBy_alloc w o none) (fun k hk => by cases hk) (h.two.alloc o)
theorem RS.app1 {W0 Wc w w' : World} {R b base : Nat} {s : Sv} {m : Int} {v : Value} {wk : Bool} {x : Ss} {a : Addr} {p p' r : Value} {us vs : List Bool} {y : Bool} (h : RS W0 Wc w R b base s m v wk x a p r us vs) (ho : w'.ownsRow base 4 1 p' (us.length + 1) (us.map Value.bool ++ [.bool y])) (hg : w.grownBy w' p.ownBlock) (hat : p'.ownBlock = p.ownBlock ∨ p'.ownBlock = some w.heap.size) : RS W0 Wc w' R b base s m v wk x a p' r (us ++ [y]) vs :=
  h.grow hg (fun k hk => (h.two.o1.lt k hk).1) (h.two.app1 ho hg hat)
theorem RS.app2 {W0 Wc w w' : World} {R b base : Nat} {s : Sv} {m : Int} {v : Value} {wk : Bool} {x : Ss} {a : Addr} {p r r' : Value} {us vs : List Bool} {y : Bool} (h : RS W0 Wc w R b base s m v wk x a p r us vs) (ho : w'.ownsRow base 4 1 r' (vs.length + 1) (vs.map Value.bool ++ [.bool y])) (hg : w.grownBy w' r.ownBlock) (hat : r'.ownBlock = r.ownBlock ∨ r'.ownBlock = some w.heap.size) : RS W0 Wc w' R b base s m v wk x a p r' us (vs ++ [y]) :=
  h.grow hg (fun k hk => (h.two.o2.lt k hk).1) (h.two.app2 ho hg hat)
theorem own_shape {w : World} {base : Nat} {e : TypeId} {size : Nat} {v : Value} {n : Nat} {xs : List Value} (h : w.ownsRow base e size v n xs) : ∃ a cap, v = .slice a n cap := by
  rcases h.2 with ⟨rfl, rfl⟩ | ⟨g, cap, cur, rfl, _⟩
  · exact ⟨_, _, rfl⟩
  · exact ⟨_, _, rfl⟩
/-- The bits of a row's numbers. -/
def wkR (ts : List Int) (i : Nat) : Bool := (bits .and .i64 (ts.getD i 0) 1 == 1)
def btR (ts : List Int) (i : Nat) : Bool := (bits .and .i64 (ts.getD i 0) 2 == 2)
def chR (ts : List Int) (i : Nat) (_ : Ss) : Bool := btR ts i
theorem getD_of {ts : List Int} {i : Nat} {z : Int} (h : ts[i]? = some z) : ts.getD i 0 = z := by simp [List.getD, h]
end Go.Proofs.YtdkjoedebjinkaaDoor
