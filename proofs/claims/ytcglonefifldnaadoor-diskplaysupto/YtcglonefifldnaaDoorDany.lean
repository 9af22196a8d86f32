/- Write of a sector at whatever place; what stays of a sector that is not written. -/
import Derived.Test.YtcglonefifldnaaDoorDalive
import Derived.Test.YtcglonefifldnaaDoorOpenOps5
import Derived.Test.YtcglonefifldnaaDoorErrNum
namespace Go.Proofs.YtcglonefifldnaaDoor
open Go.ChangeShapes Go.WideShapes Go.ChangeAt Go.RowKit

theorem write_some (F : Nat → Prop) (w : World) (p : Nat) (n : Int) (f : Int → List Int) (c : List (Int × List Int)) (nw i : Int) (v : Value) (bs : List Int) (a : Addr) (E : Err w 0 text0 a) (h : Dk F w p n f c nw false) (hv : Rd w v bs) (hl : bs.length = 64) (hcl : c.length ≤ 1000000000000) (hnw : 0 ≤ nw ∧ nw ≤ 1000000000000000) :
    Calls Tryd.prog 17 #[.pointer (some ⟨p, 0, none⟩), .int .i64 i, v] w fun e w' => ∃ ev, e = .returned ev ∧ ∃ F' c' nw', Dk F' w' p n f c' nw' false ∧ (c' = c ∨ (0 ≤ i ∧ i < n ∧ c' = c ++ [(i, bs)])) ∧ c'.length ≤ c.length + 1 ∧ (0 ≤ nw' ∧ nw' ≤ nw + 1) ∧ (∀ k, F' k → F k ∨ w.heap.size ≤ k) ∧ Kept F w w' := by
  by_cases hi : 0 ≤ i ∧ i < n
  · refine (write_ok F w p n f c nw i v bs h hi.1 hi.2 hv hl hcl hnw).mono ?_
    rintro e w' ⟨rfl, F', hD, hF, hk⟩
    exact ⟨_, rfl, F', _, _, hD, .inr ⟨hi.1, hi.2, rfl⟩, by simp, by omega, hF, hk⟩
  · refine (write_num F w p n f c nw i v _ h ⟨_, rfl⟩ E.1 hi).mono ?_
    rintro e w' ⟨rfl, rfl⟩
    exact ⟨_, rfl, F, c, nw, h, .inl rfl, by omega, by omega, fun k hk => .inl hk, Kept.refl _ _⟩
theorem seenOf_nil (f : Int → List Int) (i : Int) : seenOf f [] i = f i := rfl
theorem flushed_other (f : Int → List Int) (c : List (Int × List Int)) (i : Int) (h : ∀ x ∈ c, x.1 ≠ i) : flushed f c i = f i := by
  induction c generalizing f with
  | nil => rfl
  | cons x r ih =>
    have h1 := ih (lay1 f x) (fun y hy => h y (by simp [hy]))
    have h2 : lay1 f x i = f i := by
      have := h x (by simp)
      simp [lay1, updI, Ne.symm this]
    exact h1.trans h2
theorem seenOf_other (f : Int → List Int) (c : List (Int × List Int)) (i : Int) (h : ∀ x ∈ c, x.1 ≠ i) : seenOf f c i = f i := by
  have : c.reverse.find? (fun x => x.1 == i) = none := by
    rw [List.find?_eq_none]
    intro x hx
    simpa using h x (by simpa using hx)
  unfold seenOf
  rw [this]
theorem crashedTo_other (kb : Nat → Bool) (t : Int) (f : Int → List Int) (c : List (Int × List Int)) (i : Int) (h : ∀ x ∈ c, x.1 ≠ i) (j : Nat) : crashedTo kb t f c j i = f i := by
  induction j with
  | zero => rfl
  | succ j ih =>
    by_cases hj : j < c.length
    · have hx : c[j]? = some c[j] := by simp [hj]
      rw [crashedTo_succ kb t f c j _ hx]
      have hne := h c[j] (by simp)
      unfold crash1
      split
      · simp [updI, Ne.symm hne, ih]
      · exact ih
    · have hx : c[j]? = none := by simp; omega
      unfold crashedTo
      rw [hx]
      exact ih
theorem crashedTo_nil (kb : Nat → Bool) (t : Int) (f : Int → List Int) (j : Nat) : crashedTo kb t f [] j = f := by
  funext i
  exact crashedTo_other kb t f [] i (by simp) j
end Go.Proofs.YtcglonefifldnaaDoor
