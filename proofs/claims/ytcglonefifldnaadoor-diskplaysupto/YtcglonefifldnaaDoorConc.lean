/- All sectors' bytes in one list. -/
import Derived.Test.YtcglonefifldnaaDoorDlay
import Derived.Laws.CopyOwn
namespace Go.Proofs.YtcglonefifldnaaDoor
open Go.ChangeShapes Go.WideShapes Go.ChangeAt Go.RowKit

def conc (n : Nat) (f : Int → List Int) : List Int := (List.range n).flatMap (fun i : Nat => f (i : Int))
theorem conc_succ (n : Nat) (f : Int → List Int) : conc (n + 1) f = conc n f ++ f (n : Int) := by
  unfold conc
  rw [List.range_succ, List.flatMap_append]
  simp
theorem conc_len (n : Nat) (f : Int → List Int) (h : ∀ i, Sec (f i)) : (conc n f).length = 64 * n := by
  induction n with
  | zero => rfl
  | succ n ih => rw [conc_succ, List.length_append, ih, (h n).len]; omega
theorem conc_byts (n : Nat) (f : Int → List Int) (h : ∀ i, Sec (f i)) : Byts (conc n f) := by
  intro b hb
  simp only [conc, List.mem_flatMap] at hb
  obtain ⟨i, _, hb⟩ := hb
  exact (h i).byts b hb
theorem conc_at (n : Nat) (f : Int → List Int) (h : ∀ i, Sec (f i)) (i : Nat) (hi : i < n) : ((conc n f).drop (64 * i)).take 64 = f (i : Int) := by
  induction n with
  | zero => omega
  | succ n ih =>
    have hl := conc_len n f h
    rw [conc_succ]
    by_cases e : i = n
    · subst e
      rw [List.drop_append, List.drop_of_length_le (by omega), hl]
      have := (h (i : Int)).len
      simp [List.take_of_length_le (show (f (i : Int)).length ≤ 64 by omega)]
    · rw [List.drop_append_of_le_length (by omega), List.take_append_of_le_length (by rw [List.length_drop]; omega)]
      exact ih (by omega)
theorem conc_congr (n : Nat) (f g : Int → List Int) (h : ∀ i : Nat, i < n → f (i : Int) = g (i : Int)) : conc n f = conc n g := by
  induction n with
  | zero => rfl
  | succ n ih => rw [conc_succ, conc_succ, ih (fun i hi => h i (by omega)), h n (by omega)]
theorem splice_left {α : Type} (A B : List α) (off : Nat) (cs : List α) (h : off + cs.length ≤ A.length) : splice (A ++ B) off cs = splice A off cs ++ B := by
  unfold splice
  rw [List.take_append_of_le_length (by omega), List.drop_append_of_le_length h]
  simp
theorem splice_right {α : Type} (A B : List α) (cs : List α) : splice (A ++ B) A.length cs = A ++ splice B 0 cs := by
  unfold splice
  rw [List.take_left, List.drop_append, List.drop_of_length_le (by omega)]
  simp
theorem conc_splice (n : Nat) (f : Int → List Int) (h : ∀ i, Sec (f i)) (i : Nat) (hi : i < n) (bs : List Int) (hb : bs.length ≤ 64) : splice (conc n f) (64 * i) bs = conc n (updI f (i : Int) (laid (f (i : Int)) bs)) := by
  induction n with
  | zero => omega
  | succ n ih =>
    have hl := conc_len n f h
    rw [conc_succ, conc_succ]
    by_cases e : i = n
    · subst e
      have e1 : conc i (updI f (i : Int) (laid (f (i : Int)) bs)) = conc i f := conc_congr i _ _ (fun j hj => by simp [updI]; omega)
      rw [← hl, splice_right, e1]
      simp [splice, laid, updI]
    · rw [splice_left _ _ _ _ (by omega), ih (by omega)]
      have : ¬ ((n : Int) = (i : Int)) := by omega
      simp [updI, this]
theorem splice_map {α β : Type} (g : α → β) (L : List α) (off : Nat) (cs : List α) : splice (L.map g) off (cs.map g) = (splice L off cs).map g := by
  simp [splice, List.map_take, List.map_drop]
theorem splice_all {α : Type} (L cs : List α) (h : cs.length = L.length) : splice L 0 cs = cs := by
  unfold splice
  rw [Nat.zero_add, h, List.drop_length]
  simp
end Go.Proofs.YtcglonefifldnaaDoor
