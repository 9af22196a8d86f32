/- A range over a function whose row has no end: it goes on till a round stops it. -/
import Derived.Test.YtldfngkooilmnaaDoorSup7
import Derived.RangeFuncNested
import Derived.RangeFuncBound
import Derived.RangeFuncCalls
import Derived.RangeFuncLeaves
import Derived.RangeFuncBox
import Derived.Shelf.Abstract
import Derived.OwnWalkIn
import Derived.TacticsInMore
import Derived.LoopNIn
import Derived.LoopIn
namespace Go.Proofs.YtldfngkooilmnaaDoor
open Go.ChangeShapes Go.WideShapes Go.ChangeAt Go.RowKit Go.Shelf

/-- What is asked of such a function: while J holds a round may be asked for, and J bounds the rounds; where a round stops it, it ends; where there is no row (E), it ends at once. -/
def RowIt (F : Fence) (n m : Nat) (P : Program) (gf : Nat) (lb : Array Value) (enc : Nat → Array Value) (n₀ : Nat) (E : Prop) (w0 : World) : Prop :=
  ∀ (l N : Nat) (J : Nat → World → Prop) (Jx : World → Prop) (W : World), Below n₀ w0 W → (∀ i W1, J i W1 → i < N) →
    (¬ E → ∀ i W1, J i W1 → YieldAt F m P l (enc i) W1 fun e W' => (e = .returned (.bool true) ∧ J (i + 1) W' ∧ Below n₀ W1 W') ∨ (e = .returned (.bool false) ∧ Jx W')) →
    J 0 W → CallsIn F n P gf (#[.func (.yield l) #[] #[]] ++ lb) W fun e W' => (∃ v, e = .returned v) ∧ ((¬ E ∧ Jx W') ∨ (E ∧ J 0 W'))
/-- How a round's body ends: it goes on, or it leaves by X. -/
def RoundEnds (B n₀ X i : Nat) (I : Nat → World → Prop) (Ix : World → Prop) (W : World) (e : Exit) (W' : World) : Prop :=
  KeepsFrom B W W' ∧ ((e = .normal ∧ Below n₀ W W' ∧ I (i + 1) W') ∨ (e = .exit X ∧ Ix W'))
/-- What book-keeping leaves as it is. -/
def Calm (B : Nat) (I : World → Prop) : Prop := ∀ W l o o', I W → B ≤ l → W.heap[l]? = some o → o.isCells = false → I (W.putObj l o')
theorem range_row {F : Fence} {n m : Nat} {P : Program} {g : Operand} {ps : Array Tmp} {assign body : Code} {Q : Exit → Act → World → Prop} {a : Act} {w w0 : World} (hro : F.round = none) (h1 : 1 ≤ n) {gf : Nat} {lb : Array Value}
    (hg : a.eval g = .func (.func gf) #[] lb) (hFg : F.fn gf) (eg : ∀ args w, (callFunc gf args).run P w = .ok (.enter gf args) w) {enc : Nat → Array Value} {n₀ : Nat} {E : Prop} (hseq : RowIt F (n - 1) m P gf lb enc n₀ E w0)
    (hb0 : Below n₀ w0 w) (hn₀ : n₀ ≤ w.heap.size) (hps : ∀ i, (enc i).size = ps.size) (N X : Nat) (I : Nat → World → Prop) (Ix : World → Prop) (hIN : ∀ i W, I i W → i < N) (hI : ∀ i, Calm w.heap.size (I i)) (hIx : Calm w.heap.size Ix)
    (h0 : ∀ W, Below w.heap.size w W → I 0 W) (a₁ : Nat → Act)
    (hassign : ∀ (l i : Nat) (W : World) (K : Act → World → Prop), K (a₁ i) W → assign.wpIn (F.inRound l) m P (Exit.then K (fun _ _ _ => False)) { tmps := (ps.zip (enc i)).foldl (fun t (p, v) => t.setIfInBounds p v) a.tmps, defers := [] } W)
    (hbody : ¬ E → ∀ (l i : Nat) (W : World), I i W → body.wpIn (F.inRound l) m P (fun e _ W' => RoundEnds w.heap.size n₀ X i I Ix W e W') (a₁ i) W)
    (hdone : E → ∀ (D : Nat) (W : World), w.heap.size ≤ D → I 0 W → W.heap[D]? = some (.deferred (some [])) → Q .normal { a with defers := { target := .collected D, args := #[] } :: a.defers } W)
    (hstop : ¬ E → ∀ (D : Nat) (W : World), w.heap.size ≤ D → Ix W → W.heap[D]? = some (.deferred (some [])) → (Code.exit X).wpIn F n P Q { a with defers := { target := .collected D, args := #[] } :: a.defers } W) :
    (Code.rangeFunc g ps assign body).wpIn F n P Q a w := by
  refine wpIn_rangeFunc fun fn hfn => ?_
  rw [hro]
  let rec0 (st : LoopState) (pe : Option Code) : Loop := { state := st, pending := pe, fn, tmps := a.tmps, params := ps, assign, body, defers := w.heap.size }
  obtain ⟨W1, hW1⟩ : ∃ W1, W1 = (w.alloc (.deferred (some []))).alloc (.loop (rec0 .ready none)) := ⟨_, rfl⟩
  have hL1 : W1.heap[w.heap.size + 1]? = some (.loop (rec0 .ready none)) := by
    rw [hW1, show w.heap.size + 1 = (w.alloc (.deferred (some []))).heap.size by simp]; exact World.alloc_heap_new _ _
  have hD1 : W1.heap[w.heap.size]? = some (.deferred (some [])) := by
    rw [hW1, Below.heap_alloc _ _ _ (by simp)]; exact World.alloc_heap_new w _
  have hB1 : Below w.heap.size w W1 := by rw [hW1]; exact ((Below.refl _ w).alloc (Nat.le_refl _) _).alloc (by simp) _
  refine ⟨w.heap.size + 1, [{ target := .collected w.heap.size, args := #[] }], W1, { target := .fn (.func gf) lb, args := #[.func (.yield (w.heap.size + 1)) #[] #[]] }, W1, gf, #[.func (.yield (w.heap.size + 1)) #[] #[]] ++ lb, W1, by rw [hW1]; exact run_enterLoop_outer _ _ _ _ _, ?_, ?_, ?_, fun _ => h1, ?_⟩
  · simp only [resolve, hg]
    simp [go_sem]
  · intro f' hf'
    simp [Target.leads] at hf'
    subst hf'
    exact hFg
  · simp [invoke, go_sem, eg]
  have put : ∀ {V : World} {o : Obj} (o' : Obj), V.heap[w.heap.size + 1]? = some o → (V.putObj (w.heap.size + 1) o').heap[w.heap.size + 1]? = some o' := fun o' h => World.putObj_heap_same (Array.getElem?_eq_some_iff.1 h).1
  have putD : ∀ {V : World} (o' : Obj), V.heap[w.heap.size]? = some (.deferred (some [])) → (V.putObj (w.heap.size + 1) o').heap[w.heap.size]? = some (.deferred (some [])) := fun o' h => (World.putObj_heap_other (by omega)).trans h
  have putB : ∀ {V : World} {o : Obj} (o' : Obj), V.heap[w.heap.size + 1]? = some o → o.isCells = false → o.isWalk = false → Below n₀ V (V.putObj (w.heap.size + 1) o') := fun o' h h2 h3 => belowK_b hn₀ _ _ _ o' (by omega) h h2 h3
  refine (hseq (w.heap.size + 1) N (fun i W => I i W ∧ W.heap[w.heap.size + 1]? = some (.loop (rec0 .ready none)) ∧ W.heap[w.heap.size]? = some (.deferred (some [])))
    (fun W => Ix W ∧ W.heap[w.heap.size + 1]? = some (.loop (rec0 .done (some (.exit X)))) ∧ W.heap[w.heap.size]? = some (.deferred (some []))) W1 (hb0.trans (hB1.mono hn₀)) (fun i W h => hIN i W h.1) ?_ ⟨h0 W1 hB1, hL1, hD1⟩).mono ?_
  · rintro hE i W ⟨hi, hl, hd⟩
    refine ⟨fn, _, assign, body, run_yield (P := P) (args := enc i) hl (hps i), roundIn_of_wpIn hfn (hassign _ i W _ ⟨_, run_beginRound hl rfl, ?_⟩)⟩
    refine wpIn_mono (hbody hE _ i _ (hI i W _ _ _ hi (by omega) hl rfl)) ?_
    have hl2 := put (.loop { rec0 .ready none with state := .busy }) hl
    have hd2 := putD (.loop { rec0 .ready none with state := .busy }) hd
    have hb2 := putB (.loop { rec0 .ready none with state := .busy }) hl rfl rfl
    rintro e a3 W3 ⟨hk, ⟨rfl, hb3, hi3⟩ | ⟨rfl, hx3⟩⟩
    · have hl3 := hk.same _ _ (by omega) hl2 rfl
      have hd3 := hk.same _ _ (Nat.le_refl _) hd2 rfl
      exact ⟨_, _, run_endRound (P := P) none hl3, .inl ⟨rfl, ⟨hI _ _ _ _ _ hi3 (by omega) hl3 rfl, put _ hl3, putD _ hd3⟩, (hb2.trans hb3).trans (putB _ hl3 rfl rfl)⟩⟩
    · have hl3 := hk.same _ _ (by omega) hl2 rfl
      have hd3 := hk.same _ _ (Nat.le_refl _) hd2 rfl
      exact ⟨_, _, run_endRound (P := P) (some (.exit X)) hl3, .inr ⟨rfl, hIx _ _ _ _ hx3 (by omega) hl3 rfl, put _ hl3, putD _ hd3⟩⟩
  · rintro e W2 ⟨⟨v, rfl⟩, ⟨hE, hx, hl, hd⟩ | ⟨hE, hi, hl, hd⟩⟩
    · exact ⟨_, _, run_endLoop (P := P) hl (by simp [rec0]), hstop hE _ _ (Nat.le_refl _) (hIx _ _ _ _ hx (by omega) hl rfl) (putD _ hd)⟩
    · exact ⟨_, _, run_endLoop (P := P) hl (by simp [rec0]), hdone hE _ _ (Nat.le_refl _) (hI _ _ _ _ _ hi (by omega) hl rfl) (putD _ hd)⟩
end Go.Proofs.YtldfngkooilmnaaDoor
