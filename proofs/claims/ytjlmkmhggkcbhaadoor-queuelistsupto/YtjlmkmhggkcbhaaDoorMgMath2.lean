/- Lists that don't fall make one that doesn't; each is found in it. -/
import Derived.Test.YtjlmkmhggkcbhaaDoorMgMath
namespace Go.Proofs.YtjlmkmhggkcbhaaDoor
set_option linter.unusedVariables false

/-- A list that doesn't fall. -/
def Nf (l : List Int) : Prop := l.Pairwise (· ≤ ·)
theorem Nf.hd {l : List Int} (h : Nf l) {y : Int} (hy : y ∈ l) : Proofs.YtjlmkmhggkcbhaaDoor.hd l ≤ y := by
  cases l with
  | nil => simp at hy
  | cons x l =>
    show x ≤ y
    rcases List.mem_cons.mp hy with rfl | hy
    · exact Int.le_refl _
    · exact (List.pairwise_cons.mp h).1 y hy
theorem la_split {rs : List (List Int)} {b : Nat} (h : 0 < (la rs b).length) : la rs b = hd (la rs b) :: (la rs b).drop 1 := by
  cases e : la rs b with
  | nil => rw [e] at h; simp at h
  | cons x l => rfl
theorem outs_from {rs : List (List Int)} {bs : List Nat} (h : okp rs bs) {y : Int} (hy : y ∈ outs rs bs) : ∃ i, i < rs.length ∧ y ∈ la rs i := by
  induction bs generalizing rs with
  | nil => simp [outs] at hy
  | cons b bs ih =>
    rcases List.mem_cons.mp hy with rfl | hy
    · exact ⟨b, h.1.1, by rw [la_split h.1.2.1]; exact List.mem_cons_self ..⟩
    · obtain ⟨i, hi, hm⟩ := ih h.2 hy
      rw [pull_len] at hi
      rw [la_pull h.1.1] at hm
      by_cases e : i = b
      · rw [if_pos e] at hm
        exact ⟨b, h.1.1, List.mem_of_mem_drop hm⟩
      · rw [if_neg e] at hm
        exact ⟨i, hi, hm⟩
theorem outs_nf {rs : List (List Int)} {bs : List Nat} (h : okp rs bs) (hn : ∀ i, i < rs.length → Nf (la rs i)) : Nf (outs rs bs) := by
  induction bs generalizing rs with
  | nil => exact List.Pairwise.nil
  | cons b bs ih =>
    have hn' : ∀ i, i < (pull rs b).length → Nf (la (pull rs b) i) := fun i hi => by
      rw [pull_len] at hi
      rw [la_pull h.1.1]
      by_cases e : i = b
      · rw [if_pos e]; exact (hn b h.1.1).sublist (List.drop_sublist 1 _)
      · rw [if_neg e]; exact hn i hi
    refine List.pairwise_cons.mpr ⟨fun y hy => ?_, ih h.2 hn'⟩
    obtain ⟨i, hi, hm⟩ := outs_from h.2 hy
    rw [pull_len] at hi
    rw [la_pull h.1.1] at hm
    by_cases e : i = b
    · rw [if_pos e] at hm
      exact (hn b h.1.1).hd (List.mem_of_mem_drop hm)
    · rw [if_neg e] at hm
      have h1 := (hn i hi).hd hm
      have h2 := h.1.2.2 i hi (by cases e' : la rs i with
        | nil => rw [e'] at hm; simp at hm
        | cons x l => simp)
      omega
theorem la_in {rs : List (List Int)} {bs : List Nat} (h : okp rs bs) (hd : Dn (after rs bs)) (i : Nat) (hi : i < rs.length) : (la rs i).Sublist (outs rs bs) := by
  induction bs generalizing rs with
  | nil =>
    have : (la rs i).length = 0 := hd i hi
    rw [List.eq_nil_of_length_eq_zero this]
    exact List.nil_sublist _
  | cons b bs ih =>
    have h1 := ih h.2 hd (by rw [pull_len]; exact hi)
    rw [la_pull h.1.1] at h1
    by_cases e : i = b
    · rw [if_pos e] at h1
      rw [e, la_split h.1.2.1]
      exact List.Sublist.cons_cons _ h1
    · rw [if_neg e] at h1
      exact List.Sublist.cons _ h1
/-- What is left of a list that is looked for in another. -/
def scan : List Int → List Int → List Int
  | s, [] => s
  | [], _ :: _ => []
  | x :: s, y :: m => if x = y then scan s m else scan (x :: s) m
theorem scan_nil (m : List Int) : scan [] m = [] := by cases m <;> rfl
theorem scan_sub {m s : List Int} (h : s.Sublist m) : scan s m = [] := by
  induction m generalizing s with
  | nil => rw [List.sublist_nil.mp h]; rfl
  | cons y m ih =>
    cases s with
    | nil => rfl
    | cons x s =>
      by_cases e : x = y
      · show (if x = y then scan s m else scan (x :: s) m) = []
        rw [if_pos e]
        exact ih (by cases h with
          | cons _ h => exact (List.sublist_cons_self x s).trans h
          | cons_cons _ h => exact h)
      · show (if x = y then scan s m else scan (x :: s) m) = []
        rw [if_neg e]
        exact ih (by cases h with
          | cons _ h => exact h
          | cons_cons _ h => exact absurd rfl e)
/-- The law's scan, by places. -/
def at1 (s : List Int) (at_ : Nat) (x : Int) : Nat := if at_ < s.length ∧ s.getD at_ 0 = x then at_ + 1 else at_
def atN (s : List Int) : Nat → List Int → Nat
  | a, [] => a
  | a, x :: m => atN s (at1 s a x) m
theorem atN_scan (s m : List Int) (a : Nat) (ha : a ≤ s.length) : atN s a m ≤ s.length ∧ s.drop (atN s a m) = scan (s.drop a) m := by
  induction m generalizing a with
  | nil => exact ⟨ha, rfl⟩
  | cons x m ih =>
    unfold atN at1
    by_cases h : a < s.length
    · have e : s.drop a = s.getD a 0 :: s.drop (a + 1) := by rw [List.drop_eq_getElem_cons h]; simp [List.getD, h]
      rw [e]
      by_cases hx : s.getD a 0 = x
      · rw [if_pos ⟨h, hx⟩]
        obtain ⟨h1, h2⟩ := ih (a + 1) (by omega)
        refine ⟨h1, h2.trans ?_⟩
        show _ = if s.getD a 0 = x then scan (s.drop (a + 1)) m else _
        rw [if_pos hx]
      · rw [if_neg (fun y => hx y.2)]
        obtain ⟨h1, h2⟩ := ih a ha
        refine ⟨h1, h2.trans ?_⟩
        show _ = if s.getD a 0 = x then scan (s.drop (a + 1)) m else _
        rw [if_neg hx, e]
    · rw [if_neg (fun y => h y.1)]
      obtain ⟨h1, h2⟩ := ih a ha
      refine ⟨h1, h2.trans ?_⟩
      have : s.drop a = [] := List.drop_eq_nil_of_le (by omega)
      rw [this, scan_nil, scan_nil]
theorem atN_all {s m : List Int} (h : s.Sublist m) : atN s 0 m = s.length := by
  obtain ⟨h1, h2⟩ := atN_scan s m 0 (Nat.zero_le _)
  rw [List.drop_zero, scan_sub h] at h2
  have := List.drop_eq_nil_iff.mp h2
  omega
end Go.Proofs.YtjlmkmhggkcbhaaDoor
