import Derived.Test.YtihdkgekickohaaGreatDoorOfX
import Derived.BigQuiet
/- Places in a ledger: place, Place, the document's Place. -/
namespace Go.Proofs.YtihdkgekickohaaGreatDoor
open Go.ChangeShapes Go.WideShapes Go.ChangeAt Go.RowKit
set_option maxRecDepth 100000
attribute [local go_sem] World.cell?_alloc_some frozen_alloc_some

/-- An entry of this client and number. -/
def atP (c n : Int) (e : En) : Prop := e.cl = c ∧ e.nu = n
/-- The place of the first such entry, 0 if there is none. -/
def PlIs (l : List En) (c n : Int) (k : Nat) : Prop :=
  (k = 0 ∧ ∀ (i : Nat) (e : En), l[i]? = some e → ¬ atP c n e) ∨ (∃ (j : Nat) (e : En), k = j + 1 ∧ l[j]? = some e ∧ atP c n e ∧ ∀ (i : Nat) (x : En), i < j → l[i]? = some x → ¬ atP c n x)
theorem plis_ex (l : List En) (c n : Int) : ∃ k, PlIs l c n k := by
  induction l with
  | nil => exact ⟨0, .inl ⟨rfl, by simp⟩⟩
  | cons y l ih =>
    by_cases hy : atP c n y
    · exact ⟨1, .inr ⟨0, y, rfl, rfl, hy, fun i x hi => by omega⟩⟩
    · obtain ⟨k, ⟨rfl, h⟩ | ⟨j, e, rfl, he, hn, ha⟩⟩ := ih
      · refine ⟨0, .inl ⟨rfl, fun i e hx => ?_⟩⟩
        cases i with
        | zero => simp at hx; rw [← hx]; exact hy
        | succ i => exact h i e (by simpa using hx)
      · refine ⟨j + 1 + 1, .inr ⟨j + 1, e, rfl, by simpa using he, hn, fun i x hi hx => ?_⟩⟩
        cases i with
        | zero => simp at hx; rw [← hx]; exact hy
        | succ i => exact ha i x (by omega) (by simpa using hx)
theorem plis_one {l : List En} {c n : Int} {k m : Nat} (h : PlIs l c n k) (h' : PlIs l c n m) : k = m := by
  rcases h with ⟨rfl, h⟩ | ⟨j, e, rfl, he, hn, ha⟩
  · rcases h' with ⟨rfl, _⟩ | ⟨j', e', rfl, he', hn', _⟩
    · rfl
    · exact absurd hn' (h _ _ he')
  · rcases h' with ⟨rfl, h⟩ | ⟨j', e', rfl, he', hn', ha'⟩
    · exact absurd hn (h _ _ he)
    · rcases Nat.lt_trichotomy j j' with h1 | h1 | h1
      · exact absurd hn (ha' j e h1 he)
      · omega
      · exact absurd hn' (ha j' e' h1 he')
theorem PlIs.le {l : List En} {c n : Int} {k : Nat} (h : PlIs l c n k) : k ≤ l.length := by
  rcases h with ⟨rfl, _⟩ | ⟨j, e, rfl, he, _⟩
  · omega
  · have := (List.getElem?_eq_some_iff.mp he).1; omega
theorem fs1_at {ps : List Ep} {i : Nat} {t : Ep} (h : ps[i]? = some t) : (ps.map (·.1))[i]? = some t.1 := by rw [List.getElem?_map, h]; rfl
end Go.Proofs.YtihdkgekickohaaGreatDoor
