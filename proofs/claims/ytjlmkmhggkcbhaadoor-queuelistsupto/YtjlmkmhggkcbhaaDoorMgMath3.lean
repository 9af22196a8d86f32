/- How far each list has been read; the best of the first lists. -/
import Derived.Test.YtjlmkmhggkcbhaaDoorQmerge
import Derived.Test.YtjlmkmhggkcbhaaDoorMgMath2
namespace Go.Proofs.YtjlmkmhggkcbhaaDoor
set_option linter.unusedVariables false

structure Nxt (ps : List (List Int)) (bs : List Nat) (c : List Nat) : Prop where
  l : c.length = ps.length
  le : ∀ i, i < ps.length → c.getD i 0 ≤ (la ps i).length
  d : ∀ i, i < ps.length → la (after ps bs) i = (la ps i).drop (c.getD i 0)
theorem Nxt.start (ps : List (List Int)) : Nxt ps [] (List.replicate ps.length 0) := by
  have e : ∀ i, i < ps.length → (List.replicate ps.length 0).getD i 0 = 0 := fun i hi => by simp [List.getD, hi]
  exact ⟨by simp, fun i hi => by rw [e i hi]; exact Nat.zero_le _, fun i hi => by rw [e i hi]; rfl⟩
theorem Nxt.len {ps : List (List Int)} {bs c : List Nat} (h : Nxt ps bs c) {i : Nat} (hi : i < ps.length) : (la (after ps bs) i).length = (la ps i).length - c.getD i 0 := by rw [h.d i hi, List.length_drop]
theorem Nxt.hd {ps : List (List Int)} {bs c : List Nat} (h : Nxt ps bs c) {i : Nat} (hi : i < ps.length) : Proofs.YtjlmkmhggkcbhaaDoor.hd (la (after ps bs) i) = (la ps i).getD (c.getD i 0) 0 := by
  rw [h.d i hi]
  simp [Proofs.YtjlmkmhggkcbhaaDoor.hd, List.getD]
theorem Nxt.step {ps : List (List Int)} {bs c : List Nat} (h : Nxt ps bs c) {b : Nat} (hb : Bst (after ps bs) b) : Nxt ps (bs ++ [b]) (c.set b (c.getD b 0 + 1)) := by
  have hbl : b < ps.length := by have := hb.1; rwa [after_len] at this
  have hp := hb.2.1
  rw [h.len hbl] at hp
  have e : ∀ i, i < ps.length → (c.set b (c.getD b 0 + 1)).getD i 0 = if i = b then c.getD b 0 + 1 else c.getD i 0 := by
    intro i hi
    have hic : i < c.length := by rw [h.l]; exact hi
    by_cases hib : i = b
    · subst hib; simp [List.getD, hic]
    · have : ¬ b = i := fun e => hib e.symm
      simp [List.getD, hib, List.getElem?_set_ne this]
  refine ⟨by rw [List.length_set]; exact h.l, fun i hi => ?_, fun i hi => ?_⟩
  · rw [e i hi]
    split
    · rename_i hib; subst hib; omega
    · exact h.le i hi
  · rw [e i hi, la_next hb]
    split
    · rename_i hib
      subst hib
      rw [h.d i hi, List.drop_drop]
    · exact h.d i hi
/-- The best among the first j lists, or none. -/
def Bto (rs : List (List Int)) (j : Nat) (best : Int) : Prop :=
  (best = -1 ∧ ∀ i, i < j → (la rs i).length = 0) ∨ ∃ b : Nat, best = (b : Int) ∧ b < j ∧ 0 < (la rs b).length ∧ ∀ i, i < j → 0 < (la rs i).length → ¬ (hd (la rs i) < hd (la rs b) ∨ (hd (la rs i) = hd (la rs b) ∧ i < b))
theorem Bto.start (rs : List (List Int)) : Bto rs 0 (-1) := .inl ⟨rfl, fun i hi => by omega⟩
theorem Bto.skip {rs : List (List Int)} {j : Nat} {best : Int} (h : Bto rs j best) (h0 : (la rs j).length = 0) : Bto rs (j + 1) best := by
  rcases h with ⟨e, ha⟩ | ⟨b, e, hb, hp, ha⟩
  · refine .inl ⟨e, fun i hi => ?_⟩
    by_cases hij : i = j
    · rw [hij]; exact h0
    · exact ha i (by omega)
  · refine .inr ⟨b, e, by omega, hp, fun i hi hl => ?_⟩
    by_cases hij : i = j
    · rw [hij] at hl; omega
    · exact ha i (by omega) hl
theorem Bto.first {rs : List (List Int)} {j : Nat} (h : Bto rs j (-1)) (h0 : 0 < (la rs j).length) : Bto rs (j + 1) (j : Int) := by
  rcases h with ⟨_, ha⟩ | ⟨b, e, _⟩
  · refine .inr ⟨j, rfl, by omega, h0, fun i hi hl => ?_⟩
    by_cases hij : i = j
    · rw [hij]; omega
    · have := ha i (by omega); omega
  · omega
theorem Bto.less {rs : List (List Int)} {j b : Nat} (h : Bto rs j (b : Int)) (h0 : 0 < (la rs j).length) (hlt : hd (la rs j) < hd (la rs b)) : Bto rs (j + 1) (j : Int) := by
  rcases h with ⟨e, _⟩ | ⟨b', e, hb, hp, ha⟩
  · omega
  · have : b' = b := by omega
    subst this
    refine .inr ⟨j, rfl, by omega, h0, fun i hi hl => ?_⟩
    by_cases hij : i = j
    · rw [hij]; omega
    · have := ha i (by omega) hl; omega
theorem Bto.more {rs : List (List Int)} {j b : Nat} (h : Bto rs j (b : Int)) (hlt : ¬ hd (la rs j) < hd (la rs b)) : Bto rs (j + 1) (b : Int) := by
  rcases h with ⟨e, _⟩ | ⟨b', e, hb, hp, ha⟩
  · omega
  · have : b' = b := by omega
    subst this
    refine .inr ⟨b', rfl, by omega, hp, fun i hi hl => ?_⟩
    by_cases hij : i = j
    · rw [hij]; omega
    · exact ha i (by omega) hl
theorem Bto.none {rs : List (List Int)} (h : Bto rs rs.length (-1)) : Dn rs := by
  rcases h with ⟨_, ha⟩ | ⟨b, e, _⟩
  · exact ha
  · omega
theorem Bto.bst {rs : List (List Int)} {b : Nat} (h : Bto rs rs.length (b : Int)) : Bst rs b := by
  rcases h with ⟨e, _⟩ | ⟨b', e, hb, hp, ha⟩
  · omega
  · have : b' = b := by omega
    subst this
    exact ⟨hb, hp, ha⟩
theorem Bto.cases {rs : List (List Int)} {j : Nat} {best : Int} (h : Bto rs j best) : best = -1 ∨ ∃ b : Nat, best = (b : Int) ∧ b < j ∧ 0 < (la rs b).length := by
  rcases h with ⟨e, _⟩ | ⟨b, e, hb, hp, _⟩
  · exact .inl e
  · exact .inr ⟨b, e, hb, hp⟩
end Go.Proofs.YtjlmkmhggkcbhaaDoor
