/- What a stream of frames holds, in plain mathematics. -/
import Derived.Test.YtdegekoobgoekaaDoorCrcMath
namespace Go.Proofs.YtdegekoobgoekaaDoor

/-- How a stream begins: 0 with a frame that isn't whole, 1 with a frame, 4 with a wrong sum, 8 with a number that is too large. -/
def kind (r : List Int) : Nat :=
  if r.length < 4 then 0 else if 32768 < word r then 8 else if r.length < word r + 8 then 0 else if csum (r.take (4 + word r)) = word (r.drop (4 + word r)) then 1 else 4
def pay (r : List Int) : List Int := (r.drop 4).take (word r)
theorem kind_zero {r : List Int} (h : kind r = 0) : r.length < 4 ∨ (4 ≤ r.length ∧ word r ≤ 32768 ∧ r.length < word r + 8) := by
  unfold kind at h
  split at h
  · omega
  · split at h
    · omega
    · split at h
      · omega
      · split at h <;> omega
theorem kind_one {r : List Int} (h : kind r = 1) : word r ≤ 32768 ∧ word r + 8 ≤ r.length ∧ csum (r.take (4 + word r)) = word (r.drop (4 + word r)) := by
  unfold kind at h
  split at h
  · omega
  · split at h
    · omega
    · split at h
      · omega
      · split at h
        · refine ⟨by omega, by omega, by assumption⟩
        · omega
theorem kind_four {r : List Int} (h : kind r = 4) : word r ≤ 32768 ∧ word r + 8 ≤ r.length ∧ csum (r.take (4 + word r)) ≠ word (r.drop (4 + word r)) := by
  unfold kind at h
  split at h
  · omega
  · split at h
    · omega
    · split at h
      · omega
      · split at h
        · omega
        · refine ⟨by omega, by omega, by assumption⟩
theorem kind_eight {r : List Int} (h : kind r = 8) : 4 ≤ r.length ∧ 32768 < word r := by
  unfold kind at h
  split at h
  · omega
  · split at h
    · omega
    · split at h
      · omega
      · split at h <;> omega
theorem kind_cases (r : List Int) : kind r = 0 ∨ kind r = 1 ∨ kind r = 4 ∨ kind r = 8 := by
  unfold kind
  split
  · simp
  · split
    · simp
    · split
      · simp
      · split <;> simp
theorem pay_len {r : List Int} (h : kind r = 1) : (pay r).length = word r := by
  have := kind_one h
  simp [pay]
  omega
theorem pay_byts {r : List Int} (h : Byts r) : Byts (pay r) := (h.drop _).take _
/-- The payloads of all frames of a stream and how many bytes they have, or the error's number. -/
def spl : Nat → List Int → Except Nat (List (List Int) × Nat)
  | 0, _ => .ok ([], 0)
  | f + 1, r => if kind r = 1 then (match spl f (r.drop (word r + 8)) with
      | .ok (ps, k) => .ok (pay r :: ps, word r + 8 + k)
      | .error e => .error e) else if kind r = 0 then .ok ([], 0) else .error (kind r)
/-- What stands ahead is put ahead. -/
def pre (ps : List (List Int)) (k : Nat) : Except Nat (List (List Int) × Nat) → Except Nat (List (List Int) × Nat)
  | .ok (qs, j) => .ok (ps ++ qs, k + j)
  | .error e => .error e
theorem pre_nil (x : Except Nat (List (List Int) × Nat)) : pre [] 0 x = x := by
  cases x with
  | ok p => simp [pre]
  | error e => rfl
theorem pre_step {ps : List (List Int)} {k f : Nat} {r : List Int} (h : kind r = 1) : pre ps k (spl (f + 1) r) = pre (ps ++ [pay r]) (k + (word r + 8)) (spl f (r.drop (word r + 8))) := by
  rw [spl, if_pos h]
  cases spl f (r.drop (word r + 8)) with
  | ok p => simp [pre, Nat.add_assoc]
  | error e => rfl
theorem pre_end {ps : List (List Int)} {k f : Nat} {r : List Int} (h : kind r = 0) : pre ps k (spl (f + 1) r) = .ok (ps, k) := by
  rw [spl, if_neg (by omega), if_pos h]
  simp [pre]
theorem pre_bad {ps : List (List Int)} {k f e : Nat} {r : List Int} (h : kind r = e) (h0 : e ≠ 0) (h1 : e ≠ 1) : pre ps k (spl (f + 1) r) = .error e := by
  rw [spl, if_neg (by omega), if_neg (by omega), h]
  rfl
/-- The answer for a stream. -/
def splits (bs : List Int) : Except Nat (List (List Int) × Nat) := spl (bs.length + 1) bs
end Go.Proofs.YtdegekoobgoekaaDoor
