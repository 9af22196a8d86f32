/- Shares as pairs of numbers: how they are put together, in any order. -/
import Derived.Test.YthncfkeoephipaaDoorMath
namespace Go.Proofs.YthncfkeoephipaaDoor

abbrev Sv := Int × Int × Int
abbrev Tk := Int × Int × Int × Int
def okS (s : Sv) : Prop := 1 ≤ s.1 ∧ s.1 ≤ 3 ∧ 1 ≤ s.2.1 ∧ s.2.1 ≤ s.2.2 ∧ s.2.2 ≤ 256
def okT (t : Tk) : Prop := 1 ≤ t.1 ∧ t.1 ≤ t.2.2.1 ∧ t.2.2.1 ≤ t.2.1 ∧ t.2.1 ≤ 256 ∧ 0 ≤ t.2.2.2 ∧ t.2.2.2 ≤ t.1
def bS (s : Sv) : Bool := decide (1 ≤ s.1 ∧ s.1 ≤ 3 ∧ 1 ≤ s.2.1 ∧ s.2.1 ≤ s.2.2 ∧ s.2.2 ≤ 256)
def bT (t : Tk) : Bool := decide (1 ≤ t.1 ∧ t.1 ≤ t.2.2.1 ∧ t.2.2.1 ≤ t.2.1 ∧ t.2.1 ≤ 256 ∧ 0 ≤ t.2.2.2 ∧ t.2.2.2 ≤ t.1)
theorem bS_true {s : Sv} (h : okS s) : bS s = true := decide_eq_true h
theorem bS_false {s : Sv} (h : ¬ okS s) : bS s = false := decide_eq_false h
theorem bT_true {t : Tk} (h : okT t) : bT t = true := decide_eq_true h
theorem bT_false {t : Tk} (h : ¬ okT t) : bT t = false := decide_eq_false h
def qt (s : Sv) : Int × Int := (s.2.1, s.2.2)
def cp (t : Tk) : Int × Int := (t.1, t.2.1)
def okq (x : Int × Int) : Prop := 1 ≤ x.1 ∧ x.1 ≤ x.2 ∧ x.2 ≤ 256
theorem okS.q {s : Sv} (h : okS s) : okq (qt s) := ⟨h.2.2.1, h.2.2.2.1, h.2.2.2.2⟩
theorem okT.q {t : Tk} (h : okT t) : okq (cp t) := by obtain ⟨h1, h2, h3, h4, _⟩ := h; exact ⟨h1, by show t.1 ≤ t.2.1; omega, h4⟩
/-- A share and a quotient together. -/
def addp (p x : Int × Int) : Int × Int := (p.1 * x.2 + p.2 * x.1, p.2 * x.2)
def sh (l : List (Int × Int)) : Int × Int := l.foldl addp (0, 1)
theorem sh_nil : sh [] = (0, 1) := rfl
theorem sh_snoc (l : List (Int × Int)) (x : Int × Int) : sh (l ++ [x]) = addp (sh l) x := by simp [sh, List.foldl_append]
theorem addp_comm (p x y : Int × Int) : addp (addp p x) y = addp (addp p y) x := by
  obtain ⟨n, d⟩ := p; obtain ⟨a, b⟩ := x; obtain ⟨c, e⟩ := y
  simp only [addp, Prod.mk.injEq]
  constructor <;> grind
theorem sh_perm {l l' : List (Int × Int)} (h : l.Perm l') : sh l = sh l' := h.foldl_eq' (fun x _ y _ z => addp_comm z x y) _
theorem snoc_ind {α : Type} {M : List α → Prop} (h0 : M []) (h1 : ∀ l x, M l → M (l ++ [x])) (l : List α) : M l := by
  have : ∀ r : List α, M r.reverse := by
    intro r
    induction r with
    | nil => simpa using h0
    | cons a r ih => rw [List.reverse_cons]; exact h1 _ _ ih
  simpa using this l.reverse
theorem sh_bounds (l : List (Int × Int)) (h : ∀ x ∈ l, okq x) : 1 ≤ (sh l).2 ∧ (sh l).2 ≤ 256 ^ l.length ∧ 0 ≤ (sh l).1 ∧ (sh l).1 ≤ l.length * (sh l).2 := by
  revert h
  refine snoc_ind (M := fun l => (∀ x ∈ l, okq x) → 1 ≤ (sh l).2 ∧ (sh l).2 ≤ 256 ^ l.length ∧ 0 ≤ (sh l).1 ∧ (sh l).1 ≤ l.length * (sh l).2) ?_ ?_ l
  · intro _; simp [sh]
  · intro l x ih h
    obtain ⟨h1, h2, h3, h4⟩ := ih (fun y hy => h y (by simp [hy]))
    obtain ⟨x1, x2, x3⟩ := h x (by simp)
    rw [sh_snoc]
    obtain ⟨a, b⟩ := x
    simp only at x1 x2 x3
    generalize sh l = p at *
    obtain ⟨N, D⟩ := p
    simp only [addp] at *
    have hb : 1 ≤ b := by omega
    refine ⟨?_, ?_, ?_, ?_⟩
    · have := Int.mul_le_mul h1 hb (by omega) (by omega); omega
    · rw [List.length_append, List.length_singleton, Int.pow_succ]
      exact Int.mul_le_mul h2 x3 (by omega) (Int.pow_nonneg (by decide))
    · exact Int.add_nonneg (Int.mul_nonneg h3 (by omega)) (Int.mul_nonneg (by omega) (by omega))
    · have e1 : N * b ≤ (l.length * D) * b := Int.mul_le_mul_of_nonneg_right h4 (by omega)
      have e2 : D * a ≤ D * b := Int.mul_le_mul_of_nonneg_left x2 (by omega)
      have e3 : ((l ++ [(a, b)]).length : Int) * (D * b) = (l.length * D) * b + D * b := by
        rw [List.length_append, List.length_singleton]
        push_cast
        grind
      rw [e3]
      omega
theorem pow256 {n : Nat} (h : n ≤ 8) : (256 : Int) ^ n ≤ 18446744073709551616 := by
  have : n = 0 ∨ n = 1 ∨ n = 2 ∨ n = 3 ∨ n = 4 ∨ n = 5 ∨ n = 6 ∨ n = 7 ∨ n = 8 := by omega
  rcases this with rfl | rfl | rfl | rfl | rfl | rfl | rfl | rfl | rfl <;> decide
theorem sh_fit (l : List (Int × Int)) (h : ∀ x ∈ l, okq x) (hl : l.length ≤ 8) : 1 ≤ (sh l).2 ∧ (sh l).2 ≤ 18446744073709551616 ∧ 0 ≤ (sh l).1 ∧ (sh l).1 ≤ 147573952589676412928 := by
  obtain ⟨h1, h2, h3, h4⟩ := sh_bounds l h
  have := pow256 hl
  have e : (l.length : Int) * (sh l).2 ≤ 8 * 18446744073709551616 := Int.mul_le_mul (by omega) (by omega) (by omega) (by decide)
  exact ⟨h1, by omega, h3, by omega⟩
end Go.Proofs.YthncfkeoephipaaDoor
