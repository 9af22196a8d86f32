/- TickSums: Add, Sub and Sum of package tick against the document's sums, at all integers and all lists of them. -/
import Derived.Test.YtpjlppffehjemaaRefSum
namespace Go.Proofs.Ytpjlppffehjemaa
open Go.ChangeShapes Go.WideShapes Go.ChangeAt Go.RowKit

theorem tickSum_is {zs : List Int} {S : Int} {v : Value} {w : World} (hl : zs.length ≤ 140737488355328) (h : Reads w v zs) (hS : Hid (S = zs.sum)) :
    Calls Try.prog 13 #[v] w fun e w' => e = .returned (.tuple #[.int .i64 (fitN S), .bool (fitB S)]) ∧ w' = w := by
  rw [hS.out]
  exact tickSum_any zs v w hl h
theorem reads_pair (a b : Int) (w : World) (e : TypeId) (a1 : -9223372036854775808 ≤ a) (a2 : a ≤ 9223372036854775807) (b1 : -9223372036854775808 ≤ b) (b2 : b ≤ 9223372036854775807) :
    Reads (w.alloc (.cells #[.int .i64 a, .int .i64 b] e)) (.slice (some ⟨w.heap.size, 0, none⟩) 2 2) [a, b] := by
  refine ⟨_, 2, rfl, by simp; omega, fun _ => ⟨_, 0, rfl, fun k hk => ?_⟩⟩
  have : k = 0 ∨ k = 1 := by simp at hk; omega
  rcases this with rfl | rfl <;> go_simp
set_option maxHeartbeats 1600000 in
theorem sums_yes (a b : Int) (zs : List Int) (v : Value) (w : World) (a1 : -9223372036854775808 ≤ a) (a2 : a ≤ 9223372036854775807) (b1 : -9223372036854775808 ≤ b) (b2 : b ≤ 9223372036854775807)
    (hl : zs.length ≤ 20000000000000) (hr : Reads w v zs) (hy : -9223372036854775808 ≤ a - b ∧ a - b ≤ 9223372036854775807) :
    Calls Try.prog 3 #[.int .i64 a, .int .i64 b, v] w fun e w' => e = .returned (.bool true) ∧ Below w.heap.size w w' := by
  obtain ⟨S, hS⟩ : ∃ S, S = zs.sum := ⟨_, rfl⟩
  have HS : Hid (S = zs.sum) := hS
  clear hS
  have HP : Hid (a + b = [a, b].sum) := by show a + b = [a, b].sum; simp
  have f1 := fitN_yes hy.1 hy.2
  have f2 := fitB_yes hy.1 hy.2
  have f3 := fitN_yes a1 a2
  have f4 := fitB_yes a1 a2
  go_enter Try.func3, Try.ntmps3
  go_wp2_with (first | (go_at_call 9; refine (alive_any _).mono ?_; rintro e wx ⟨rfl, hw⟩; rw [hw]; clear hw) | (go_at_call 10; refine (add_any _ _ _ (by omega) (by omega) (by omega) (by omega)).mono ?_; rintro e wx ⟨rfl, hw⟩; rw [hw]; clear hw) | (go_at_call 12; refine (sub_any _ _ _ (by omega) (by omega) (by omega) (by omega)).mono ?_; rintro e wx ⟨rfl, hw⟩; rw [hw]; clear hw) | (go_at_call 11; with_reducible refine (refSum_any [a, b] (a + b) _ _ (by simp) (reads_pair a b _ _ a1 a2 b1 b2) HP).mono ?_; rintro e w1 ⟨rfl, h1⟩) | (go_at_call 13; refine (tickSum_is (by omega) (hr.later (((Below.refl _ _).alloc (Nat.le_refl _) _).trans (h1.mono (by simp)))) HS).mono ?_; rintro e wx ⟨rfl, hw⟩; rw [hw]; clear hw) | (go_at_call 11; with_reducible refine (refSum_any zs S _ _ (by omega) (hr.later (((Below.refl _ _).alloc (Nat.le_refl _) _).trans (h1.mono (by simp)))) HS).mono ?_; rintro e w2 ⟨rfl, h2⟩))
  go_ret
  exact ⟨rfl, (((Below.refl _ _).alloc (Nat.le_refl _) _).trans (h1.mono (by simp))).trans (h2.mono (by have := h1.size; simp at this; omega))⟩
set_option maxHeartbeats 1600000 in
theorem sums_low (a b : Int) (zs : List Int) (v : Value) (w : World) (a1 : -9223372036854775808 ≤ a) (a2 : a ≤ 9223372036854775807) (b1 : -9223372036854775808 ≤ b) (b2 : b ≤ 9223372036854775807)
    (hl : zs.length ≤ 20000000000000) (hr : Reads w v zs) (hy : a - b < -9223372036854775808) :
    Calls Try.prog 3 #[.int .i64 a, .int .i64 b, v] w fun e w' => e = .returned (.bool true) ∧ Below w.heap.size w w' := by
  obtain ⟨S, hS⟩ : ∃ S, S = zs.sum := ⟨_, rfl⟩
  have HS : Hid (S = zs.sum) := hS
  clear hS
  have HP : Hid (a + b = [a, b].sum) := by show a + b = [a, b].sum; simp
  have f1 := fitN_no (n := a - b) (by omega)
  have f2 := fitB_no (n := a - b) (by omega)
  have f3 := fitN_yes b1 b2
  have f4 := fitB_yes b1 b2
  have k1 : a < 0 := by omega
  have k2 : 0 < b := by omega
  have k3 : a < -9223372036854775808 + b := by omega
  go_enter Try.func3, Try.ntmps3
  go_wp2_with (first | (go_at_call 9; refine (alive_any _).mono ?_; rintro e wx ⟨rfl, hw⟩; rw [hw]; clear hw) | (go_at_call 10; refine (add_any _ _ _ (by omega) (by omega) (by omega) (by omega)).mono ?_; rintro e wx ⟨rfl, hw⟩; rw [hw]; clear hw) | (go_at_call 12; refine (sub_any _ _ _ (by omega) (by omega) (by omega) (by omega)).mono ?_; rintro e wx ⟨rfl, hw⟩; rw [hw]; clear hw) | (go_at_call 11; with_reducible refine (refSum_any [a, b] (a + b) _ _ (by simp) (reads_pair a b _ _ a1 a2 b1 b2) HP).mono ?_; rintro e w1 ⟨rfl, h1⟩) | (go_at_call 13; refine (tickSum_is (by omega) (hr.later (((Below.refl _ _).alloc (Nat.le_refl _) _).trans (h1.mono (by simp)))) HS).mono ?_; rintro e wx ⟨rfl, hw⟩; rw [hw]; clear hw) | (go_at_call 11; with_reducible refine (refSum_any zs S _ _ (by omega) (hr.later (((Below.refl _ _).alloc (Nat.le_refl _) _).trans (h1.mono (by simp)))) HS).mono ?_; rintro e w2 ⟨rfl, h2⟩))
  go_ret
  exact ⟨rfl, (((Below.refl _ _).alloc (Nat.le_refl _) _).trans (h1.mono (by simp))).trans (h2.mono (by have := h1.size; simp at this; omega))⟩
set_option maxHeartbeats 1600000 in
theorem sums_high (a b : Int) (zs : List Int) (v : Value) (w : World) (a1 : -9223372036854775808 ≤ a) (a2 : a ≤ 9223372036854775807) (b1 : -9223372036854775808 ≤ b) (b2 : b ≤ 9223372036854775807)
    (hl : zs.length ≤ 20000000000000) (hr : Reads w v zs) (hy : 9223372036854775807 < a - b) :
    Calls Try.prog 3 #[.int .i64 a, .int .i64 b, v] w fun e w' => e = .returned (.bool true) ∧ Below w.heap.size w w' := by
  obtain ⟨S, hS⟩ : ∃ S, S = zs.sum := ⟨_, rfl⟩
  have HS : Hid (S = zs.sum) := hS
  clear hS
  have HP : Hid (a + b = [a, b].sum) := by show a + b = [a, b].sum; simp
  have f1 := fitN_no (n := a - b) (by omega)
  have f2 := fitB_no (n := a - b) (by omega)
  have f3 := fitN_yes b1 b2
  have f4 := fitB_yes b1 b2
  have k1 : 0 ≤ a := by omega
  have k2 : b < 0 := by omega
  have k3 : 9223372036854775807 + b < a := by omega
  go_enter Try.func3, Try.ntmps3
  go_wp2_with (first | (go_at_call 9; refine (alive_any _).mono ?_; rintro e wx ⟨rfl, hw⟩; rw [hw]; clear hw) | (go_at_call 10; refine (add_any _ _ _ (by omega) (by omega) (by omega) (by omega)).mono ?_; rintro e wx ⟨rfl, hw⟩; rw [hw]; clear hw) | (go_at_call 12; refine (sub_any _ _ _ (by omega) (by omega) (by omega) (by omega)).mono ?_; rintro e wx ⟨rfl, hw⟩; rw [hw]; clear hw) | (go_at_call 11; with_reducible refine (refSum_any [a, b] (a + b) _ _ (by simp) (reads_pair a b _ _ a1 a2 b1 b2) HP).mono ?_; rintro e w1 ⟨rfl, h1⟩) | (go_at_call 13; refine (tickSum_is (by omega) (hr.later (((Below.refl _ _).alloc (Nat.le_refl _) _).trans (h1.mono (by simp)))) HS).mono ?_; rintro e wx ⟨rfl, hw⟩; rw [hw]; clear hw) | (go_at_call 11; with_reducible refine (refSum_any zs S _ _ (by omega) (hr.later (((Below.refl _ _).alloc (Nat.le_refl _) _).trans (h1.mono (by simp)))) HS).mono ?_; rintro e w2 ⟨rfl, h2⟩))
  go_ret
  exact ⟨rfl, (((Below.refl _ _).alloc (Nat.le_refl _) _).trans (h1.mono (by simp))).trans (h2.mono (by have := h1.size; simp at this; omega))⟩
theorem sums_any (a b : Int) (zs : List Int) (v : Value) (w : World) (a1 : -9223372036854775808 ≤ a) (a2 : a ≤ 9223372036854775807) (b1 : -9223372036854775808 ≤ b) (b2 : b ≤ 9223372036854775807)
    (hl : zs.length ≤ 20000000000000) (hr : Reads w v zs) :
    Calls Try.prog 3 #[.int .i64 a, .int .i64 b, v] w fun e w' => e = .returned (.bool true) ∧ Below w.heap.size w w' := by
  by_cases h1 : a - b < -9223372036854775808
  · exact sums_low a b zs v w a1 a2 b1 b2 hl hr h1
  · by_cases h2 : 9223372036854775807 < a - b
    · exact sums_high a b zs v w a1 a2 b1 b2 hl hr h2
    · exact sums_yes a b zs v w a1 a2 b1 b2 hl hr (by omega)
end Go.Proofs.Ytpjlppffehjemaa
