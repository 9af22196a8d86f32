/- Numbers read back from their bytes, in plain mathematics. -/
import Derived.Test.YtjocjkfllicjdaaDoorEnc
namespace Go.Proofs.YtjocjkfllicjdaaDoor

def Hi (p : List Int) : Prop := ∀ b ∈ p, 128 ≤ b ∧ b ≤ 255
def lo : List Int → Nat
  | [] => 0
  | b :: p => (b - 128).toNat + 128 * lo p
theorem lo_snoc (p : List Int) (c : Int) : lo (p ++ [c]) = lo p + (c - 128).toNat * 128 ^ p.length := by
  induction p with
  | nil => simp [lo]
  | cons b p ih =>
    simp only [List.cons_append, lo, ih, List.length_cons, Nat.pow_succ]
    rw [Nat.mul_add, Nat.add_assoc]
    congr 2
    rw [Nat.mul_comm 128, Nat.mul_assoc]
theorem lo_lt (p : List Int) (h : Hi p) : lo p < 128 ^ p.length := by
  induction p with
  | nil => simp [lo]
  | cons b p ih =>
    have h1 := h b (by simp)
    have h2 := ih (fun x hx => h x (by simp [hx]))
    simp only [lo, List.length_cons, Nat.pow_succ]
    omega
theorem enc_hi (p : List Int) (c : Int) (h : Hi p) (h0 : 0 ≤ c) (h1 : c < 128) (hc : 0 < c ∨ p = []) : enc (lo p + c.toNat * 128 ^ p.length) = p ++ [c] := by
  induction p with
  | nil =>
    simp only [lo, List.length_nil, Nat.pow_zero, Nat.mul_one, Nat.zero_add]
    rw [enc_lt (by omega)]
    simp
    omega
  | cons b p ih =>
    have hb := h b (by simp)
    have hc' : 0 < c := by rcases hc with hc | hc; exact hc; simp at hc
    have ih' := ih (fun x hx => h x (by simp [hx])) (.inl hc')
    have hpw : 1 ≤ 128 ^ p.length := Nat.one_le_pow _ _ (by omega)
    have e : lo (b :: p) + c.toNat * 128 ^ (b :: p).length = (b - 128).toNat + 128 * (lo p + c.toNat * 128 ^ p.length) := by
      simp only [lo, List.length_cons, Nat.pow_succ]
      rw [Nat.mul_add, ← Nat.mul_assoc, Nat.mul_comm (c.toNat * 128 ^ p.length) 128]
      omega
    have hge : 1 ≤ lo p + c.toNat * 128 ^ p.length := by
      have : 1 * 1 ≤ c.toNat * 128 ^ p.length := Nat.mul_le_mul (by omega) hpw
      omega
    rw [e]
    generalize lo p + c.toNat * 128 ^ p.length = M at *
    rw [enc_ge (by omega), List.cons_append]
    rw [show ((b - 128).toNat + 128 * M) / 128 = M by omega, ih']
    congr 1
    omega
theorem enc_last (n : Nat) : ∃ q c, enc n = q ++ [c] ∧ Hi q ∧ 0 ≤ c ∧ c < 128 ∧ (0 < c ∨ q = []) := by
  induction n using Nat.strongRecOn with
  | ind n ih =>
    by_cases h : n < 128
    · exact ⟨[], n, by rw [enc_lt h]; rfl, by simp [Hi], by omega, by omega, .inr rfl⟩
    · obtain ⟨q, c, e, hq, h0, h1, h2⟩ := ih (n / 128) (by omega)
      refine ⟨((n % 128 + 128 : Nat) : Int) :: q, c, by rw [enc_ge (by omega), e]; rfl, ?_, h0, h1, ?_⟩
      · intro b hb
        rcases List.mem_cons.mp hb with rfl | hb
        · omega
        · exact hq b hb
      · left
        rcases h2 with h2 | h2
        · exact h2
        · subst h2
          rcases Int.lt_or_eq_of_le h0 with h3 | h3
          · exact h3
          · exfalso
            have : enc (n / 128) = [(0 : Int)] := by rw [e, ← h3]; rfl
            have h4 : n / 128 < 128 := by
              apply Classical.byContradiction
              intro hn
              rw [enc_ge (by omega)] at this
              have := enc_len_pos (n / 128 / 128)
              simp_all
            rw [enc_lt h4] at this
            simp at this
            omega
/-- The first byte below 128 is where the number ends. -/
theorem first_lo (p q : List Int) (c d : Int) (s t : List Int) (hp : Hi p) (hq : Hi q) (hc : c < 128) (hd : d < 128) (h : p ++ c :: s = q ++ d :: t) : p = q ∧ c = d ∧ s = t := by
  induction p generalizing q with
  | nil =>
    cases q with
    | nil => simpa using h
    | cons b q =>
      have := hq b (by simp)
      simp at h
      omega
  | cons a p ih =>
    cases q with
    | nil =>
      have := hp a (by simp)
      simp at h
      omega
    | cons b q =>
      simp only [List.cons_append, List.cons.injEq] at h
      obtain ⟨e1, e2, e3⟩ := ih q (fun x hx => hp x (by simp [hx])) (fun x hx => hq x (by simp [hx])) h.2
      exact ⟨by rw [h.1, e1], e2, e3⟩
theorem no_zero (p t : List Int) (hp : Hi p) (hne : p ≠ []) (N : Nat) (r : List Int) : p ++ 0 :: t ≠ enc N ++ r := by
  obtain ⟨q, c, e, hq, h0, h1, h2⟩ := enc_last N
  intro h
  rw [e, List.append_assoc] at h
  obtain ⟨e1, e2, _⟩ := first_lo p q 0 c t r hp hq (by omega) h1 h
  rcases h2 with h2 | h2
  · omega
  · exact hne (by rw [e1, h2])
theorem no_end (l : List Int) (h : Hi (l.take 9)) (N : Nat) (hN : N < 9223372036854775808) (r : List Int) : l ≠ enc N ++ r := by
  obtain ⟨q, c, e, hq, h0, h1, h2⟩ := enc_last N
  have hl := enc_len9 N hN
  rw [e] at hl
  simp at hl
  intro he
  rw [e, List.append_assoc] at he
  have hm : c ∈ l.take 9 := by
    rw [he, List.mem_take_iff_getElem]
    refine ⟨q.length, by simp; omega, ?_⟩
    simp
  have := h c hm
  omega
/-- What is read at the beginning of bytes. -/
def NumSpec (rest : List Int) (n s : Int) (ok : Bool) : Prop :=
  (ok = true ∧ ∃ (N : Nat) (r : List Int), n = N ∧ (N : Int) ≤ 9223372036854775807 ∧ s = ((enc N).length : Int) ∧ rest = enc N ++ r) ∨
  (ok = false ∧ ∀ (N : Nat) (r : List Int), (N : Int) ≤ 9223372036854775807 → rest ≠ enc N ++ r)
end Go.Proofs.YtjocjkfllicjdaaDoor
