/- What a script of puts comes to, and how it is read back: plain mathematics. -/
import Derived.Test.YtghpehgefbikeaaDoorDec
import Derived.Test.YtghpehgefbikeaaDoorOpenOps
namespace Go.Proofs.YtghpehgefbikeaaDoor

def mask (n : Int) : Nat := (n % 9223372036854775808).toNat
theorem mask_le (n : Int) : (mask n : Int) ≤ 9223372036854775807 := by unfold mask; omega
def opb (x : OpD) : List Int := if x.kind = 1 then enc (mask x.n) else if x.kind = 2 ∨ x.kind = 3 then enc x.bs.length ++ x.bs else []
def allb (xs : List OpD) : List Int := xs.flatMap opb
theorem allb_take (xs : List OpD) (k : Nat) (h : k < xs.length) : allb (xs.take (k + 1)) = allb (xs.take k) ++ opb xs[k] := by
  unfold allb
  rw [List.take_succ_eq_append_getElem h, List.flatMap_append]
  simp
theorem allb_split (xs : List OpD) (k : Nat) (h : k < xs.length) : (allb xs).drop (allb (xs.take k)).length = opb xs[k] ++ allb (xs.drop (k + 1)) := by
  have e : allb xs = allb (xs.take k) ++ (opb xs[k] ++ allb (xs.drop (k + 1))) := by
    unfold allb
    conv => lhs; rw [← List.take_append_drop k xs, List.drop_eq_getElem_cons h, List.flatMap_append, List.flatMap_cons]
  rw [e, List.drop_left]
theorem allb_le (xs : List OpD) (k : Nat) : (allb (xs.take k)).length ≤ (allb xs).length := by
  have e : allb xs = allb (xs.take k) ++ allb (xs.drop k) := by
    unfold allb
    conv => lhs; rw [← List.take_append_drop k xs, List.flatMap_append]
  rw [e, List.length_append]
  omega
theorem opb_len (x : OpD) (h : x.bs.length < 9223372036854775808) : (opb x).length ≤ x.bs.length + 9 := by
  unfold opb
  split
  · have := enc_len9 (mask x.n) (by have := mask_le x.n; omega)
    omega
  · split
    · have := enc_len9 x.bs.length h
      rw [List.length_append]
      omega
    · simp
theorem allb_len (xs : List OpD) (h : opsz xs < 9223372036854775808) : (allb xs).length ≤ opsz xs := by
  induction xs with
  | nil => simp [allb]
  | cons x xs ih =>
    have e : opsz (x :: xs) = x.bs.length + 10 + opsz xs := by simp [opsz]
    have h1 := ih (by omega)
    have h2 := opb_len x (by omega)
    have e2 : allb (x :: xs) = opb x ++ allb xs := rfl
    rw [e2, List.length_append]
    omega
theorem opsz_len (xs : List OpD) : xs.length ≤ opsz xs := by
  induction xs with
  | nil => simp
  | cons x xs ih => simp only [opsz, List.map_cons, List.sum_cons, List.length_cons] at ih ⊢; omega
theorem opsz_at (xs : List OpD) (k : Nat) (h : k < xs.length) : xs[k].bs.length ≤ opsz xs := by
  induction xs generalizing k with
  | nil => simp at h
  | cons x xs ih =>
    cases k with
    | zero => simp [opsz]; omega
    | succ k =>
      have := ih k (by simpa using h)
      simp only [opsz, List.map_cons, List.sum_cons, List.getElem_cons_succ] at this ⊢
      omega
/-- A number that is read where a put began is the number that was put. -/
theorem back_num {bs A t r : List Int} {n i m N : Nat} (hb : bs = A.take n) (ht : A.drop i = enc m ++ t) (h : bs.drop i = enc N ++ r) : N = m ∧ ∃ s, r ++ s = t := by
  have e : A.drop i = enc N ++ (r ++ A.drop (max n i)) := by
    rw [← List.append_assoc, ← h, hb, List.drop_take]
    have : A.drop (max n i) = (A.drop i).drop (n - i) := by rw [List.drop_drop]; congr 1; omega
    rw [this, List.take_append_drop]
  obtain ⟨e1, e2⟩ := enc_free N m (r ++ A.drop (max n i)) t (e.symm.trans ht)
  exact ⟨e1, _, e2⟩
theorem back_piece {bs A t xs r : List Int} {n i N : Nat} (hb : bs = A.take n) (ht : A.drop i = (enc xs.length ++ xs) ++ t) (h : bs.drop i = enc N ++ r) (hN : N ≤ r.length) : N = xs.length ∧ r.take N = xs := by
  rw [List.append_assoc] at ht
  obtain ⟨e1, s, e2⟩ := back_num hb ht h
  refine ⟨e1, ?_⟩
  have : (r ++ s).take N = (xs ++ t).take N := by rw [e2]
  rw [List.take_append_of_le_length hN, e1, List.take_left] at this
  rw [e1]
  exact this
end Go.Proofs.YtghpehgefbikeaaDoor
