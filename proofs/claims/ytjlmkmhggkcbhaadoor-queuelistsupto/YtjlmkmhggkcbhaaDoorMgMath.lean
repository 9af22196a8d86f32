/- How lists become one: the picks. -/
import Derived.Test.YtjlmkmhggkcbhaaDoorSrtMath
namespace Go.Proofs.YtjlmkmhggkcbhaaDoor
set_option linter.unusedVariables false

/-- The list at a place. -/
def la (rs : List (List Int)) (i : Nat) : List Int := rs.getD i []
/-- A list's first number. -/
def hd (l : List Int) : Int := l.getD 0 0
/-- The list whose first number comes next. -/
def Bst (rs : List (List Int)) (b : Nat) : Prop :=
  b < rs.length ∧ 0 < (la rs b).length ∧ ∀ i, i < rs.length → 0 < (la rs i).length → ¬ (hd (la rs i) < hd (la rs b) ∨ (hd (la rs i) = hd (la rs b) ∧ i < b))
def pull (rs : List (List Int)) (b : Nat) : List (List Int) := rs.set b ((la rs b).drop 1)
def after : List (List Int) → List Nat → List (List Int)
  | rs, [] => rs
  | rs, b :: bs => after (pull rs b) bs
def outs : List (List Int) → List Nat → List Int
  | _, [] => []
  | rs, b :: bs => hd (la rs b) :: outs (pull rs b) bs
def okp : List (List Int) → List Nat → Prop
  | _, [] => True
  | rs, b :: bs => Bst rs b ∧ okp (pull rs b) bs
def Dn (rs : List (List Int)) : Prop := ∀ i, i < rs.length → (la rs i).length = 0
def tot (rs : List (List Int)) : Nat := (rs.map List.length).sum
/-- The lists as one. -/
def Mgd (rs : List (List Int)) (out : List Int) : Prop := ∃ bs, okp rs bs ∧ Dn (after rs bs) ∧ out = outs rs bs

theorem Bst.uniq {rs : List (List Int)} {b c : Nat} (h : Bst rs b) (h' : Bst rs c) : b = c := by
  obtain ⟨h1, h2, h3⟩ := h
  obtain ⟨k1, k2, k3⟩ := h'
  have := h3 c k1 k2
  have := k3 b h1 h2
  omega
theorem Dn.none {rs : List (List Int)} {b : Nat} (h : Dn rs) (hb : Bst rs b) : False := by
  have := h b hb.1
  have := hb.2.1
  omega
theorem pull_len (rs : List (List Int)) (b : Nat) : (pull rs b).length = rs.length := by simp [pull]
theorem after_len (rs : List (List Int)) (bs : List Nat) : (after rs bs).length = rs.length := by
  induction bs generalizing rs with
  | nil => rfl
  | cons b bs ih => rw [after, ih, pull_len]
theorem la_pull {rs : List (List Int)} {b : Nat} (hb : b < rs.length) (i : Nat) : la (pull rs b) i = if i = b then (la rs b).drop 1 else la rs i := by
  unfold la pull
  simp only [List.getD, List.getElem?_set]
  by_cases h : b = i
  · subst h; simp [hb, la]
  · simp [h, Ne.symm h]
theorem after_snoc (rs : List (List Int)) (bs : List Nat) (b : Nat) : after rs (bs ++ [b]) = pull (after rs bs) b := by
  induction bs generalizing rs with
  | nil => rfl
  | cons c bs ih => exact ih _
theorem outs_snoc (rs : List (List Int)) (bs : List Nat) (b : Nat) : outs rs (bs ++ [b]) = outs rs bs ++ [hd (la (after rs bs) b)] := by
  induction bs generalizing rs with
  | nil => rfl
  | cons c bs ih => simp only [List.cons_append, outs, after, ih]
theorem outs_len (rs : List (List Int)) (bs : List Nat) : (outs rs bs).length = bs.length := by
  induction bs generalizing rs with
  | nil => rfl
  | cons c bs ih => simp [outs, ih]
theorem okp_snoc {rs : List (List Int)} {bs : List Nat} {b : Nat} (h : okp rs bs) (hb : Bst (after rs bs) b) : okp rs (bs ++ [b]) := by
  induction bs generalizing rs with
  | nil => exact ⟨hb, trivial⟩
  | cons c bs ih => exact ⟨h.1, ih h.2 hb⟩
theorem picks_uniq {rs : List (List Int)} {bs cs : List Nat} (h : okp rs bs) (hd : Dn (after rs bs)) (h' : okp rs cs) (hd' : Dn (after rs cs)) : bs = cs := by
  induction bs generalizing rs cs with
  | nil => cases cs with
    | nil => rfl
    | cons c cs => exact (Dn.none hd h'.1).elim
  | cons b bs ih => cases cs with
    | nil => exact (Dn.none hd' h.1).elim
    | cons c cs =>
      obtain rfl := h.1.uniq h'.1
      rw [ih h.2 hd h'.2 hd']
theorem Mgd.uniq {rs : List (List Int)} {o o' : List Int} (h : Mgd rs o) (h' : Mgd rs o') : o = o' := by
  obtain ⟨bs, a, b, rfl⟩ := h
  obtain ⟨cs, c, d, rfl⟩ := h'
  rw [picks_uniq a b c d]
theorem sum_set (xs : List Nat) (b y : Nat) (hb : b < xs.length) : (xs.set b y).sum + xs.getD b 0 = xs.sum + y := by
  induction xs generalizing b with
  | nil => simp at hb
  | cons x xs ih => cases b with
    | zero => simp; omega
    | succ b =>
      have := ih b (by simpa using hb)
      simp only [List.set_cons_succ, List.sum_cons, List.getD_cons_succ]
      omega
theorem tot_pull {rs : List (List Int)} {b : Nat} (h : Bst rs b) : tot (pull rs b) + 1 = tot rs := by
  have hb := h.1
  have hp := h.2.1
  have e : (pull rs b).map List.length = (rs.map List.length).set b ((la rs b).drop 1).length := by unfold pull; rw [List.map_set]
  have s := sum_set (rs.map List.length) b ((la rs b).drop 1).length (by simpa using hb)
  have g : (rs.map List.length).getD b 0 = (la rs b).length := by unfold la; simp [List.getD, hb]
  unfold tot
  rw [e]
  rw [g] at s
  rw [List.length_drop] at s ⊢
  omega
theorem tot_after {rs : List (List Int)} {bs : List Nat} (h : okp rs bs) : tot (after rs bs) + bs.length = tot rs := by
  induction bs generalizing rs with
  | nil => rfl
  | cons b bs ih =>
    have h1 := tot_pull h.1
    have h2 := ih h.2
    simp only [after, List.length_cons]
    omega
theorem Dn.tot {rs : List (List Int)} (h : Dn rs) : tot rs = 0 := by
  unfold Proofs.YtjlmkmhggkcbhaaDoor.tot
  rw [List.sum_eq_zero_iff_forall_eq_nat]
  intro n hn
  obtain ⟨l, hl, rfl⟩ := List.mem_map.mp hn
  obtain ⟨i, hi, rfl⟩ := List.getElem_of_mem hl
  have := h i hi
  simpa [la, List.getD, hi] using this
theorem Mgd.len {rs : List (List Int)} {o : List Int} (h : Mgd rs o) : o.length = Proofs.YtjlmkmhggkcbhaaDoor.tot rs := by
  obtain ⟨bs, a, b, rfl⟩ := h
  have := tot_after a
  have := b.tot
  rw [outs_len]
  omega
theorem le_sum {xs : List Nat} {n : Nat} (h : n ∈ xs) : n ≤ xs.sum := by
  induction xs with
  | nil => simp at h
  | cons x xs ih =>
    rw [List.sum_cons]
    rcases List.mem_cons.mp h with rfl | h
    · omega
    · have := ih h; omega
theorem la_le_tot (rs : List (List Int)) (i : Nat) : (la rs i).length ≤ tot rs := by
  by_cases hi : i < rs.length
  · have : (la rs i).length ∈ rs.map List.length := by unfold la; rw [List.mem_map]; exact ⟨rs[i], List.getElem_mem hi, by simp [List.getD, hi]⟩
    exact le_sum this
  · unfold la; simp [List.getD, hi]
end Go.Proofs.YtjlmkmhggkcbhaaDoor
