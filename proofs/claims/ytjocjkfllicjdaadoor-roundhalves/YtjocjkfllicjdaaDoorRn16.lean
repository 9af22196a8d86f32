/- The law RoundHalves. -/
import Derived.Test.YtjocjkfllicjdaaDoorRn15
namespace Go.Proofs.YtjocjkfllicjdaaDoor
open Go.ChangeShapes Go.WideShapes Go.ChangeAt Go.RowKit
set_option maxRecDepth 100000
attribute [local go_sem] World.cell?_alloc_some frozen_alloc_some

theorem lx_accept {nb : Nat} {w W : World} {p : Nat} {r : Rn} {e : En} {l : List En} (i : Nat) (b : Bl) (h : LX nb w W p r e l) (hc : cntsB r 2 (i : Int) b = true) :
    Calls Tryd.prog 25 #[.pointer (some ⟨p, 0, none⟩), .int .i64 (i : Int), vB b] W fun x w' => x = .returned (.bool true) ∧ LX nb w w' p (accR r i) e l ∧ Kept (fun k => k = p) W w' := by
  have hp := h.lr.at.1
  obtain ⟨G, a, c, t, qs, h1, h2, h3', h4', h5, h6⟩ := h
  refine (accepted_yes i b h1 hc).mono ?_
  rintro x w' ⟨rfl, hr, hk⟩
  exact ⟨rfl, ⟨G, a, c, t, qs, hr, h2, h3', h4', below_of h5 hp hk, h6⟩, hk⟩
/-- Who has been heard, as a function. -/
def updB (a : Nat → Bool) (i : Nat) : Nat → Bool := fun k => if i = k then true else a k
def a0 : Nat → Bool := fun _ => false
def cn (a : Nat → Bool) : Nat := [a 0, a 1, a 2, a 3, a 4, a 5, a 6].count true
def RH (M : Nat) (s : Int) (a : Nat → Bool) : Rn := ⟨(M : Int), false, s, (3, 1), a 0, a 1, a 2, a 3, a 4, a 5, a 6, (0, 0), 1⟩
def lsH (s : Int) (e : En) : List En := if s = 1 then [] else [e]
/-- The round in a stage; behind more than half it is in the next. -/
def StR (M : Nat) (s : Int) (a : Nat → Bool) : Rn := if M < 2 * cn a then RH M (s + 1) a0 else RH M s a
def StL (M : Nat) (s : Int) (a : Nat → Bool) (e : En) : List En := if M < 2 * cn a then [e] else lsH s e
theorem cn_le (a : Nat → Bool) : cn a ≤ 7 := by unfold cn; exact List.count_le_length
theorem cn_upd {a : Nat → Bool} {i : Nat} (hi : i < 7) (h : a i = false) : cn (updB a i) = cn a + 1 := by
  unfold cn updB
  rcases seven7 hi with rfl | rfl | rfl | rfl | rfl | rfl | rfl <;> simp [h, List.count_cons] <;> omega
theorem cn_all {a : Nat → Bool} {M : Nat} (hM : M ≤ 7) (h : ∀ j, j < M → a j = true) : M ≤ cn a := by
  unfold cn
  have : M = 0 ∨ M = 1 ∨ M = 2 ∨ M = 3 ∨ M = 4 ∨ M = 5 ∨ M = 6 ∨ M = 7 := by omega
  rcases this with rfl | rfl | rfl | rfl | rfl | rfl | rfl | rfl
  · omega
  all_goals simp [List.count_cons, h 0 (by omega)]
  all_goals (first | (simp [h 1 (by omega)]) | skip)
  all_goals (first | (simp [h 2 (by omega)]) | skip)
  all_goals (first | (simp [h 3 (by omega)]) | skip)
  all_goals (first | (simp [h 4 (by omega)]) | skip)
  all_goals (first | (simp [h 5 (by omega)]) | skip)
  all_goals (first | (simp [h 6 (by omega)]) | skip)
  all_goals omega
theorem half_iff {M c : Nat} (hM : 1 ≤ M) : halfI (M : Int) ≤ (c : Int) ↔ M < 2 * c := by
  unfold halfI
  rw [if_neg (by omega)]
  omega
theorem rh_at (M : Nat) (s : Int) (a : Nat → Bool) {i : Nat} (hi : i < 7) : (RH M s a).at i = a i := by
  rcases seven7 hi with rfl | rfl | rfl | rfl | rfl | rfl | rfl <;> rfl
theorem rh_counts {M : Nat} {s : Int} {a : Nat → Bool} {i : Nat} (hi : i < M) (hM : M ≤ 7) : cntsB (RH M s a) s (i : Int) (3, 1) = !(a i) := by
  unfold cntsB
  rw [show ((i : Int)).toNat = i by omega, rh_at M s a (by omega), decide_eq_true (show (RH M s a).st = s from rfl), decide_eq_true (show ((3, 1) : Bl).1 = (RH M s a).b.1 from rfl), decide_eq_true (show ((3, 1) : Bl).2 = (RH M s a).b.2 from rfl), decide_eq_true (show 0 ≤ (i : Int) by omega), decide_eq_true (show (i : Int) < (RH M s a).N by show (i : Int) < (M : Int); omega)]
  simp
theorem rh_cnt (M : Nat) (s : Int) (a : Nat → Bool) (i : Nat) : ((RH M s a).hear i).cnt = cn (updB a i) := rfl
theorem rh_acc {M : Nat} {a : Nat → Bool} (i : Nat) (hM : 1 ≤ M) : accR (RH M 2 a) i = StR M 2 (updB a i) := by
  unfold accR StR
  rw [rh_cnt, show (RH M 2 a).N = (M : Int) from rfl]
  by_cases h : M < 2 * cn (updB a i)
  · rw [if_pos ((half_iff hM).mpr h), if_pos h]; rfl
  · rw [if_neg (fun q => h ((half_iff hM).mp q)), if_neg h]; rfl
theorem rh_prom {M : Nat} {a : Nat → Bool} (i : Nat) (hM : 1 ≤ M) (e : En) : promS (RH M 1 a) i (0, 0) 0 0 = StR M 1 (updB a i) ∧ promL (RH M 1 a) i (0, 0) 0 e [] [] = StL M 1 (updB a i) e := by
  unfold promS promL StR StL
  rw [rh_cnt, show (RH M 1 a).N = (M : Int) from rfl]
  by_cases h : M < 2 * cn (updB a i)
  · rw [if_pos ((half_iff hM).mpr h), if_pos h, if_pos ((half_iff hM).mpr h), if_pos h]; exact ⟨rfl, rfl⟩
  · rw [if_neg (fun q => h ((half_iff hM).mp q)), if_neg h, if_neg (fun q => h ((half_iff hM).mp q)), if_neg h]; exact ⟨rfl, rfl⟩
def rowB (M : Nat) (a : Nat → Bool) : List Value := (List.range M).map (fun k => .bool (a k))
theorem rowB_at (a : Nat → Bool) {M k : Nat} (h : k < M) : (rowB M a)[k]? = some (.bool (a k)) := by
  unfold rowB
  rw [List.getElem?_map, List.getElem?_range h]
  rfl
theorem rowB_set (M : Nat) (a : Nat → Bool) (i : Nat) : (rowB M a).set i (.bool true) = rowB M (updB a i) := by
  unfold rowB updB
  apply List.ext_getElem?
  intro m
  by_cases hm : m < M
  · rw [List.getElem?_set, List.getElem?_map, List.getElem?_map, List.getElem?_range hm]
    by_cases e : i = m
    · subst e
      simp [hm]
    · simp [e]
  · rw [List.getElem?_eq_none (by simp; omega), List.getElem?_eq_none (by simp; omega)]
theorem bools_made (n : Nat) : (madeCells (Value.bool false).cells (n * 1)).toList = rowB n a0 := by
  rw [Nat.mul_one]
  apply List.ext_getElem?
  intro m
  unfold madeCells rowB a0
  by_cases hm : m < n
  · simp [hm, Value.cells, Nat.mod_one]
  · rw [List.getElem?_eq_none (by simp; omega), List.getElem?_eq_none (by simp; omega)]
theorem info_bool : (Tryd.prog.info? 4).map (fun i => (i.zero, i.size, i.bytes)) = some (some (.bool false), 1, 1) := by kernel_rfl
/-- A number brought down below M. -/
theorem rest_M (n M : Int) (h1 : 1 ≤ M) (h2 : M ≤ 7) : ∃ A B K : Int, n.tmod M = A ∧ IntKind.i64.wrap A = A ∧ IntKind.i64.wrap (A + M) = B ∧ B.tmod M = K ∧ IntKind.i64.wrap K = K ∧ 0 ≤ K ∧ K < M := by
  have a1 := Int.tmod_lt_of_pos n (show 0 < M by omega)
  have a2 : -M < n.tmod M := by
    by_cases hn : 0 ≤ n
    · have := Int.tmod_nonneg M hn; omega
    · have e := Int.neg_tmod (a := -n) (b := M)
      rw [Int.neg_neg] at e
      have := Int.tmod_lt_of_pos (-n) (show 0 < M by omega)
      omega
  have b1 := Int.tmod_lt_of_pos (n.tmod M + M) (show 0 < M by omega)
  have b2 := Int.tmod_nonneg M (show 0 ≤ n.tmod M + M by omega)
  exact ⟨n.tmod M, n.tmod M + M, (n.tmod M + M).tmod M, rfl, by rw [IntKind.wrap_i64]; omega, by rw [IntKind.wrap_i64]; omega, rfl, by rw [IntKind.wrap_i64]; omega, b2, b1⟩
end Go.Proofs.YtjocjkfllicjdaaDoor
