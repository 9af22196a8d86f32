/- What the functions product and Cross of package wide answer. -/
import Derived.Test.YtgmkhhaieolndaaDoorWide
namespace Go.Proofs.YtgmkhhaieolndaaDoor
open Go.ChangeShapes Go.WideShapes Go.ChangeAt Go.RowKit

/-- A 64-bit integer. -/
structure I64 (x : Int) : Prop where
  lo : -9223372036854775808 ≤ x
  hi : x ≤ 9223372036854775807
theorem product_is {a b H L : Int} {w : World} (ha : I64 a) (hb : I64 b) (a0 : 0 ≤ a) (b0 : 0 ≤ b) (h1 : Word H) (h2 : Word L) (h : Hid (H * 18446744073709551616 + L = a * b)) :
    Calls Tryd.prog 36 #[.int .i64 a, .int .i64 b] w fun e w' => e = .returned (.agg #[.int .u64 H, .int .u64 L]) ∧ Below w.heap.size w w' := by
  obtain ⟨u1, u2⟩ := ha; obtain ⟨u3, u4⟩ := hb
  have v1 := h1.lo; have v2 := h2.lo; have v3 := h2.hi
  have k1 : Hid (a * b / 18446744073709551616 = H) := by show a * b / 18446744073709551616 = H; rw [← h.out]; omega
  have k2 : Hid (a * b % 18446744073709551616 = L) := by show a * b % 18446744073709551616 = L; rw [← h.out]; omega
  clear h
  go_enter Tryd.func36, Tryd.ntmps36
  go_wp2_with (go_at_call 34; with_reducible refine (mul64_is a0 (by omega) b0 (by omega) k1 k2).mono ?_; rintro e wx ⟨rfl, hw⟩; rw [hw]; clear hw)
  exact bodyPost_ret (v := .agg #[.int .u64 H, .int .u64 L]) (by simp [results, Tryd.results36, go_sem]) rfl ⟨rfl, ba (Below.refl _ _) _⟩
theorem prod_halves {a b : Int} (ha : I64 a) (hb : I64 b) (a0 : 0 ≤ a) (b0 : 0 ≤ b) : ∃ H L : Int, Word H ∧ Word L ∧ H * 18446744073709551616 + L = a * b := by
  have h0 : 0 ≤ a * b := Int.mul_nonneg a0 b0
  have h1 : a * b ≤ 9223372036854775807 * 9223372036854775807 := Int.mul_le_mul ha.hi hb.hi b0 (by decide)
  obtain ⟨H, L, x, y, e⟩ := halves (a * b) h0 (by omega)
  exact ⟨H, L, x, y, e.symm⟩
/-- wide.Cross of legal fractions. -/
theorem cross_yes {a b c d x : Int} {w : World} (ha : I64 a) (hb : I64 b) (hc : I64 c) (hd : I64 d) (a0 : 0 ≤ a) (b0 : 1 ≤ b) (c0 : 0 ≤ c) (d0 : 1 ≤ d) (h : Hid (x = cmpI (a * d) (c * b))) :
    Calls Tryd.prog 24 #[.int .i64 a, .int .i64 b, .int .i64 c, .int .i64 d] w fun e w' => e = .returned (.tuple #[.int .i64 x, .bool true]) ∧ Below w.heap.size w w' := by
  obtain ⟨H, L, p1, p2, e1⟩ := prod_halves ha hd a0 (by omega)
  obtain ⟨M, N, p3, p4, e2⟩ := prod_halves hc hb c0 (by omega)
  have E1 : Hid (H * 18446744073709551616 + L = a * d) := e1
  have E2 : Hid (M * 18446744073709551616 + N = c * b) := e2
  have hx : Hid (x = cmpI (H * 18446744073709551616 + L) (M * 18446744073709551616 + N)) := by show x = _; rw [e1, e2]; exact h.out
  clear e1 e2 h
  go_enter Tryd.func24, Tryd.ntmps24
  go_wp2_with (first
    | (go_at_call 36; with_reducible refine (product_is ha hd a0 (by omega) p1 p2 E1).mono ?_; rintro e w1 ⟨rfl, b1⟩)
    | (go_at_call 36; with_reducible refine (product_is hc hb c0 (by omega) p3 p4 E2).mono ?_; rintro e w2 ⟨rfl, b2⟩)
    | (go_at_call 23; with_reducible refine (wcmp p1 p2 p3 p4 hx).mono ?_; rintro e w3 ⟨rfl, b3⟩))
  go_ret2
  exact ⟨rfl, bt (bt b1 b2) b3⟩
/-- wide.Cross of others. -/
theorem cross_no {a b c d : Int} {w : World} (h : a < 0 ∨ c < 0 ∨ b < 1 ∨ d < 1) :
    Calls Tryd.prog 24 #[.int .i64 a, .int .i64 b, .int .i64 c, .int .i64 d] w fun e w' => e = .returned (.tuple #[.int .i64 0, .bool false]) ∧ Below w.heap.size w w' := by
  by_cases h1 : a < 0
  · go_enter Tryd.func24, Tryd.ntmps24
    go_wp2
    go_ret2
    exact ⟨rfl, Below.refl _ _⟩
  · by_cases h2 : c < 0
    · go_enter Tryd.func24, Tryd.ntmps24
      go_wp2
      go_ret2
      exact ⟨rfl, Below.refl _ _⟩
    · by_cases h3 : b < 1
      · go_enter Tryd.func24, Tryd.ntmps24
        go_wp2
        go_ret2
        exact ⟨rfl, Below.refl _ _⟩
      · have h4 : d < 1 := by omega
        clear h
        go_enter Tryd.func24, Tryd.ntmps24
        go_wp2
        go_ret2
        exact ⟨rfl, Below.refl _ _⟩
/-- The answer of Cross. -/
structure CrossIs (a b c d x : Int) (ok : Bool) : Prop where
  yes : ok = true → (0 ≤ a ∧ 1 ≤ b ∧ 0 ≤ c ∧ 1 ≤ d) ∧ x = cmpI (a * d) (c * b)
  no : ok = false → (a < 0 ∨ c < 0 ∨ b < 1 ∨ d < 1) ∧ x = 0
theorem cross_ex (a b c d : Int) : ∃ x ok, CrossIs a b c d x ok := by
  by_cases h : 0 ≤ a ∧ 1 ≤ b ∧ 0 ≤ c ∧ 1 ≤ d
  · exact ⟨_, true, fun _ => ⟨h, rfl⟩, fun h => (by cases h)⟩
  · exact ⟨0, false, fun h => (by cases h), fun _ => ⟨by omega, rfl⟩⟩
theorem cross_is {a b c d x : Int} {ok : Bool} {w : World} (ha : I64 a) (hb : I64 b) (hc : I64 c) (hd : I64 d) (h : CrossIs a b c d x ok) :
    Calls Tryd.prog 24 #[.int .i64 a, .int .i64 b, .int .i64 c, .int .i64 d] w fun e w' => e = .returned (.tuple #[.int .i64 x, .bool ok]) ∧ Below w.heap.size w w' := by
  cases ok
  · obtain ⟨h1, rfl⟩ := h.no rfl
    exact cross_no h1
  · obtain ⟨⟨h1, h2, h3, h4⟩, h5⟩ := h.yes rfl
    exact cross_yes ha hb hc hd h1 h2 h3 h4 h5
end Go.Proofs.YtgmkhhaieolndaaDoor
