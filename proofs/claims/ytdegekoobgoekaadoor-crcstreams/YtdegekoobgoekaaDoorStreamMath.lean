/- Frames one behind the other, in plain mathematics. -/
import Derived.Test.YtdegekoobgoekaaDoorSplMath
namespace Go.Proofs.YtdegekoobgoekaaDoor

/-- The frames of payloads, one behind the other. -/
def Sx : List (List Int) → List Int
  | [] => []
  | q :: qs => frame q ++ Sx qs
theorem Sx_append (as bs : List (List Int)) : Sx (as ++ bs) = Sx as ++ Sx bs := by
  induction as with
  | nil => rfl
  | cons q qs ih => simp [Sx, ih]
theorem Sx_one (q : List Int) : Sx [q] = frame q := by simp [Sx]
/-- Payloads that frames can hold. -/
def Pay (qs : List (List Int)) : Prop := ∀ q ∈ qs, Byts q ∧ q.length ≤ 32768
theorem Pay.nil : Pay [] := by simp [Pay]
theorem Pay.append {a b : List (List Int)} (ha : Pay a) (hb : Pay b) : Pay (a ++ b) := fun q hq => (List.mem_append.mp hq).elim (ha q) (hb q)
theorem Pay.tail {q : List Int} {qs : List (List Int)} (h : Pay (q :: qs)) : Pay qs := fun x hx => h x (by simp [hx])
theorem Pay.drop {qs : List (List Int)} (h : Pay qs) (j : Nat) : Pay (qs.drop j) := fun x hx => h x (List.mem_of_mem_drop hx)
theorem Sx_byts {qs : List (List Int)} (h : Pay qs) : Byts (Sx qs) := by
  induction qs with
  | nil => exact Byts.nil
  | cons q qs ih => exact (frame_byts (h q (by simp)).1).append (ih h.tail)
theorem Sx_len {qs : List (List Int)} (h : Pay qs) : (Sx qs).length ≤ 32776 * qs.length := by
  induction qs with
  | nil => simp [Sx]
  | cons q qs ih =>
    have := ih h.tail
    have := (h q (by simp)).2
    simp only [Sx, List.length_append, frame_len, List.length_cons]
    omega
theorem frame_reads {p q : List Int} (hB : Byts p) (hp : p.length ≤ 32768) :
    word (frame p ++ q) = p.length ∧ csum ((frame p ++ q).take (4 + p.length)) = word ((frame p ++ q).drop (4 + p.length)) ∧ ((frame p ++ q).drop 4).take p.length = p := by
  have hbl : (four p.length ++ p).length = 4 + p.length := by rw [List.length_append, four_len]
  have hcs := csum_lt ((four_byts p.length).append hB)
  unfold frame
  refine ⟨?_, ?_, ?_⟩
  · rw [List.append_assoc, List.append_assoc, word_four _ (by omega)]
  · rw [List.append_assoc, List.take_left' hbl, List.drop_left' hbl, word_four _ hcs]
  · rw [List.append_assoc, List.append_assoc, List.drop_left' (four_len _), List.take_left' rfl]
theorem word_take {l : List Int} {M : Nat} (h : 4 ≤ M) : word (l.take M) = word l := by
  unfold word
  simp [List.getD, show 0 < M by omega, show 1 < M by omega, show 2 < M by omega, show 3 < M by omega]
theorem kind_part {q : List Int} {M : Nat} (hp : q.length ≤ 32768) (r : List Int) (h : M < q.length + 8) : kind ((frame q ++ r).take M) = 0 := by
  have hfl := frame_len q
  have hl : ((frame q ++ r).take M).length = M := by rw [List.length_take, List.length_append]; omega
  unfold kind
  by_cases h4 : M < 4
  · rw [if_pos (by omega)]
  · have hw : word ((frame q ++ r).take M) = q.length := by
      rw [word_take (by omega)]
      unfold frame
      rw [List.append_assoc, List.append_assoc, word_four _ (by omega)]
    rw [if_neg (by omega), hw, if_neg (by omega), if_pos (by omega)]
theorem kind_whole {q : List Int} (hB : Byts q) (hp : q.length ≤ 32768) (r : List Int) : kind (frame q ++ r) = 1 ∧ word (frame q ++ r) = q.length ∧ pay (frame q ++ r) = q := by
  obtain ⟨h1, h2, h3⟩ := frame_reads (q := r) hB hp
  refine ⟨?_, h1, ?_⟩
  · unfold kind
    rw [h1, List.length_append, frame_len, if_neg (by omega), if_neg (by omega), if_neg (by omega), if_pos h2]
  · unfold pay
    rw [h1]
    exact h3
/-- A beginning of frames is split into the whole ones. -/
theorem spl_take (qs : List (List Int)) (M f : Nat) (h : Pay qs) (hM : M ≤ (Sx qs).length) (hf : M < f) :
    ∃ j, j ≤ qs.length ∧ spl f ((Sx qs).take M) = .ok (qs.take j, (Sx (qs.take j)).length) ∧ (Sx (qs.take j)).length ≤ M ∧ (j < qs.length → M - (Sx (qs.take j)).length < (qs.getD j []).length + 8) := by
  induction qs generalizing M f with
  | nil =>
    obtain ⟨f, rfl⟩ : ∃ g, f = g + 1 := ⟨f - 1, by omega⟩
    refine ⟨0, Nat.le_refl _, ?_, by simp [Sx], fun hj => by simp at hj⟩
    have : kind ((Sx []).take M) = 0 := by simp [Sx, kind]
    rw [spl, if_neg (by omega), if_pos this]
    rfl
  | cons q qs ih =>
    obtain ⟨f, rfl⟩ : ∃ g, f = g + 1 := ⟨f - 1, by omega⟩
    have hq := h q (by simp)
    have hfl := frame_len q
    by_cases hlt : M < q.length + 8
    · have hk : kind ((Sx (q :: qs)).take M) = 0 := kind_part hq.2 (Sx qs) hlt
      refine ⟨0, Nat.zero_le _, ?_, by simp [Sx], fun _ => by simpa [Sx] using hlt⟩
      rw [spl, if_neg (by omega), if_pos hk]
      rfl
    · have ht : (Sx (q :: qs)).take M = frame q ++ (Sx qs).take (M - (q.length + 8)) := by
        simp only [Sx]
        rw [List.take_append, List.take_of_length_le (by omega), hfl]
      have hM2 : M - (q.length + 8) ≤ (Sx qs).length := by
        simp only [Sx, List.length_append] at hM
        omega
      obtain ⟨j, hj, h1, h2, h3⟩ := ih (M - (q.length + 8)) f h.tail hM2 (by omega)
      obtain ⟨k1, k2, k3⟩ := kind_whole hq.1 hq.2 ((Sx qs).take (M - (q.length + 8)))
      refine ⟨j + 1, by simp; omega, ?_, ?_, ?_⟩
      · rw [ht, spl, if_pos k1, k2, k3, List.drop_left' hfl, h1]
        simp [Sx, hfl]
      · simp only [List.take_succ_cons, Sx, List.length_append]
        omega
      · intro hj'
        have := h3 (by simpa using hj')
        simp only [List.take_succ_cons, Sx, List.length_append, List.getD_cons_succ]
        omega
theorem take_take_drop (l : List Int) (a n : Nat) : l.take a ++ (l.drop a).take n = l.take (a + n) := by
  rw [List.take_add]
theorem Sx_split (qs : List (List Int)) (j : Nat) : Sx qs = Sx (qs.take j) ++ Sx (qs.drop j) := by rw [← Sx_append, List.take_append_drop]
/-- What is left of a beginning of frames, behind the whole ones, is a beginning of the others. -/
theorem Sx_rest (qs : List (List Int)) (j M : Nat) : ((Sx qs).take M).drop (Sx (qs.take j)).length = (Sx (qs.drop j)).take (M - (Sx (qs.take j)).length) := by
  conv => lhs; rw [Sx_split qs j]
  rw [List.drop_take, List.drop_left' rfl]
end Go.Proofs.YtdegekoobgoekaaDoor
