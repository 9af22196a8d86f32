/- Letters and a net, as lists. -/
import Derived.Test.YtaiklaipdocdmaaDoorLaid
namespace Go.Proofs.YtaiklaipdocdmaaDoor

/-- A letter: its number, sender, receiver and bytes. -/
structure Lt where
  nu : Int
  fr : Int
  to : Int
  bs : List Int
/-- A net: the letters that wait, the last number given out. -/
structure Nt where
  ls : List Lt
  last : Nat
structure Nt.Ok (n : Nt) : Prop where
  len : n.ls.length ≤ 4096
  up : n.ls.Pairwise (fun a b => a.nu < b.nu)
  pos : ∀ l ∈ n.ls, 1 ≤ l.nu ∧ l.nu ≤ n.last
  sm : ∀ l ∈ n.ls, l.bs.length ≤ 140737488352000
def Nt.zero : Nt := ⟨[], 0⟩
theorem Nt.zero_ok : Nt.zero.Ok := ⟨by simp [Nt.zero], List.Pairwise.nil, by simp [Nt.zero], by simp [Nt.zero]⟩
def isN (k : Int) : Bool := decide (0 ≤ k) && decide (k ≤ 6)
/-- Where a letter stands. -/
def Nt.find (n : Nt) (t : Int) : Option Nat := n.ls.findIdx? (fun l => l.nu == t)
def Nt.put (n : Nt) (l : Lt) : Nt := ⟨n.ls ++ [{ l with nu := n.last + 1 }], n.last + 1⟩
def Nt.out (n : Nt) (k : Nat) : Nt := ⟨n.ls.eraseIdx k, n.last⟩
def Nt.lose (n : Nt) (t : Int) : Nt := ⟨n.ls.filter (fun l => !(l.to == t)), n.last⟩
theorem Nt.Ok.put {n : Nt} (h : n.Ok) (l : Lt) (hl : n.ls.length < 4096) (hs : l.bs.length ≤ 140737488352000) : (n.put l).Ok := by
  refine ⟨by simp [Nt.put]; omega, ?_, ?_, ?_⟩
  · simp only [Nt.put, List.pairwise_append]
    refine ⟨h.up, by simp, ?_⟩
    intro a ha b hb
    simp only [List.mem_singleton] at hb
    subst hb
    have := (h.pos a ha).2
    simp only
    omega
  · intro a ha
    simp only [Nt.put, List.mem_append, List.mem_singleton] at ha ⊢
    rcases ha with ha | rfl
    · have := h.pos a ha; omega
    · simp only; omega
  · intro a ha
    simp only [Nt.put, List.mem_append, List.mem_singleton] at ha
    rcases ha with ha | rfl
    · exact h.sm a ha
    · exact hs
theorem Nt.Ok.out {n : Nt} (h : n.Ok) (k : Nat) : (n.out k).Ok := by
  have hsub : (n.ls.eraseIdx k).Sublist n.ls := List.eraseIdx_sublist _ _
  exact ⟨Nat.le_trans hsub.length_le h.len, h.up.sublist hsub, fun l hl => h.pos l (hsub.subset hl), fun l hl => h.sm l (hsub.subset hl)⟩
theorem Nt.Ok.lose {n : Nt} (h : n.Ok) (t : Int) : (n.lose t).Ok := by
  have hsub : (n.ls.filter (fun l => !(l.to == t))).Sublist n.ls := List.filter_sublist
  exact ⟨Nat.le_trans hsub.length_le h.len, h.up.sublist hsub, fun l hl => h.pos l (hsub.subset hl), fun l hl => h.sm l (hsub.subset hl)⟩
theorem find_some {n : Nt} {t : Int} {k : Nat} (h : n.find t = some k) : ∃ l, n.ls[k]? = some l ∧ l.nu = t ∧ k < n.ls.length ∧ ∀ j l, n.ls[j]? = some l → j < k → l.nu ≠ t := by
  obtain ⟨hk, h1, h2⟩ := List.findIdx?_eq_some_iff_getElem.mp h
  refine ⟨n.ls[k], List.getElem?_eq_getElem hk, by simpa using h1, hk, fun j l hj hjk => ?_⟩
  have := h2 j hjk
  obtain ⟨hj1, rfl⟩ := List.getElem?_eq_some_iff.mp hj
  simpa using this
theorem find_none {n : Nt} {t : Int} (h : n.find t = none) : ∀ l ∈ n.ls, l.nu ≠ t := by
  intro l hl
  have := List.findIdx?_eq_none_iff.mp h l hl
  simpa using this
theorem up_lt {xs : List Lt} (h : xs.Pairwise (fun a b => a.nu < b.nu)) {i j : Nat} {a b : Lt} (hi : xs[i]? = some a) (hj : xs[j]? = some b) (hij : i < j) : a.nu < b.nu := by
  obtain ⟨h1, rfl⟩ := List.getElem?_eq_some_iff.mp hi
  obtain ⟨h2, rfl⟩ := List.getElem?_eq_some_iff.mp hj
  exact List.pairwise_iff_getElem.mp h i j h1 h2 hij
/-- Where the search ends. -/
theorem cut_ex {xs : List Lt} (h : xs.Pairwise (fun a b => a.nu < b.nu)) (t : Int) : ∃ K, K ≤ xs.length ∧ (∀ j l, xs[j]? = some l → j < K → l.nu < t) ∧ (∀ j l, xs[j]? = some l → K ≤ j → t ≤ l.nu) := by
  induction xs with
  | nil => exact ⟨0, by simp, by simp, by simp⟩
  | cons x r ih =>
    obtain ⟨hx, hr⟩ := List.pairwise_cons.mp h
    by_cases hlt : x.nu < t
    · obtain ⟨K, h1, h2, h3⟩ := ih hr
      refine ⟨K + 1, by simp; omega, ?_, ?_⟩
      · intro j l hj hk
        cases j with
        | zero => simp at hj; subst hj; exact hlt
        | succ j => exact h2 j l (by simpa using hj) (by omega)
      · intro j l hj hk
        cases j with
        | zero => omega
        | succ j => exact h3 j l (by simpa using hj) (by omega)
    · refine ⟨0, by simp, by omega, ?_⟩
      intro j l hj _
      cases j with
      | zero => simp at hj; subst hj; omega
      | succ j =>
        have := hx l (List.mem_of_getElem? (by simpa using hj))
        omega
theorem find_cut {n : Nt} (h : n.Ok) (t : Int) : ∃ K, K ≤ n.ls.length ∧ (∀ j l, n.ls[j]? = some l → j < K → l.nu < t) ∧ (∀ j l, n.ls[j]? = some l → K ≤ j → t ≤ l.nu) ∧ ((n.find t = some K ∧ ∃ l, n.ls[K]? = some l ∧ l.nu = t) ∨ (n.find t = none ∧ ¬ ∃ l, n.ls[K]? = some l ∧ l.nu = t)) := by
  obtain ⟨K, h1, h2, h3⟩ := cut_ex h.up t
  refine ⟨K, h1, h2, h3, ?_⟩
  cases hf : n.find t with
  | none => exact .inr ⟨rfl, fun ⟨l, hl, e⟩ => find_none hf l (List.mem_of_getElem? hl) e⟩
  | some k =>
    obtain ⟨l, hl, e, hk, hfst⟩ := find_some hf
    have e1 : ¬ k < K := fun hlt => by have := h2 k l hl hlt; omega
    have e2 : ¬ K < k := fun hlt => by
      obtain ⟨x, hx⟩ : ∃ x, n.ls[K]? = some x := ⟨_, List.getElem?_eq_getElem (by omega)⟩
      have a1 := up_lt h.up hx hl hlt
      have a2 := h3 K x hx (Nat.le_refl _)
      omega
    have : k = K := by omega
    subst this
    exact .inl ⟨rfl, l, hl, e⟩
end Go.Proofs.YtaiklaipdocdmaaDoor
