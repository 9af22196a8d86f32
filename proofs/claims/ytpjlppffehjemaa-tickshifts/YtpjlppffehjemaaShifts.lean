/- TickShifts: Shift of package tick against doubling and halving step by step, at all pairs of integers. -/
import Derived.Test.YtpjlppffehjemaaShift
namespace Go.Proofs.Ytpjlppffehjemaa
open Go.ChangeShapes Go.WideShapes Go.ChangeAt Go.RowKit

theorem mulRef_two {a P : Int} {w : World} (a1 : -9223372036854775808 ≤ a) (a2 : a ≤ 9223372036854775807) (hP : Hid (P = a * 2)) :
    Calls Try.prog 15 #[.int .i64 a, .int .i64 2] w fun e w' => e = .returned (.tuple #[.int .i64 (fitN P), .bool (fitB P)]) ∧ Below w.heap.size w w' := by
  rw [hP.out]
  exact mulRef_any a 2 w a1 a2 (by omega) (by omega)
theorem shift_is {a n S : Int} {w : World} (n1 : -9223372036854775808 ≤ n) (n2 : n ≤ 9223372036854775807) (hn : 0 ≤ n) (hS : Hid (S = sh a n)) :
    Calls Try.prog 27 #[.int .i64 a, .int .i64 n] w fun e w' => e = .returned (.tuple #[.int .i64 (fitN S), .bool (fitB S)]) ∧ w' = w := by
  rw [hS.out]
  exact shift_pos a n w n1 n2 hn
theorem shift_isn {a n S : Int} {w : World} (a1 : -9223372036854775808 ≤ a) (a2 : a ≤ 9223372036854775807) (n1 : -9223372036854775808 ≤ n) (n2 : n ≤ 9223372036854775807) (hn : n < 0) (hS : Hid (S = sd a (-n))) :
    Calls Try.prog 27 #[.int .i64 a, .int .i64 n] w fun e w' => e = .returned (.tuple #[.int .i64 S, .bool true]) ∧ w' = w := by
  rw [hS.out]
  exact shift_neg a n w a1 a2 n1 n2 hn
theorem halve (a : Int) (k : Nat) : a / two k / 2 = a / two (k + 1) := by
  have := two_pos k
  rw [two_succ, Int.mul_comm, Int.ediv_ediv, if_neg (by omega), Int.sub_zero]
theorem two_zero : two 0 = 1 := rfl
set_option maxHeartbeats 1600000 in
theorem shifts_neg (a n : Int) (w : World) (a1 : -9223372036854775808 ≤ a) (a2 : a ≤ 9223372036854775807) (n1 : -9223372036854775808 ≤ n) (n2 : n ≤ 9223372036854775807) (hn : n < 0) :
    Calls Try.prog 7 #[.int .i64 a, .int .i64 n] w fun e w' => e = .returned (.bool true) ∧ Below w.heap.size w w' := by
  obtain ⟨S, hS⟩ : ∃ S, S = sd a (-n) := ⟨_, rfl⟩
  have HS : Hid (S = sd a (-n)) := hS
  clear hS
  have hn' : decide (0 < n) = false := decide_eq_false (by omega)
  go_enter Try.func7, Try.ntmps7
  go_wp2_with (first | (go_at_call 9; refine (alive_any _).mono ?_; rintro e wx ⟨rfl, hw⟩; rw [hw]; clear hw) | (go_at_call 27; refine (shift_isn a1 a2 n1 n2 hn HS).mono ?_; rintro e wx ⟨rfl, hw⟩; rw [hw]; clear hw))
  go_loop [7, 8, 9] (fun wv bv iv => wv = .int .i64 a ∧ bv = .bool true ∧ iv = .int .i64 0) (fun _ _ _ => 0)
  case atStart => exact ⟨rfl, rfl, rfl⟩
  case round =>
    obtain ⟨rfl, rfl, rfl⟩ := hrel
    go_wp2
    go_loop [7, 10] (fun wv iv => ∃ k : Nat, k ≤ min (-n).toNat 70 ∧ iv = .int .i64 k ∧ wv = .int .i64 (a / two k)) (fun _ iv => 70 - (intOf iv).toNat)
    case atStart => exact ⟨0, by omega, rfl, by rw [two_zero]; simp⟩
    case round =>
      obtain ⟨k, hk, rfl, rfl⟩ := hrel
      have hd := div_range a (two k) (by have := two_pos k; omega) a1 a2
      have HH : Hid (a / two k / 2 = a / two (k + 1)) := halve a k
      have HE : Hid (k = min (-n).toNat 70 → S = a / two k) := by
        show k = min (-n).toNat 70 → S = a / two k
        intro h; rw [HS.out, h]; rfl
      generalize a / two k = x at *
      by_cases hlt : k < min (-n).toNat 70
      · have h1 : (k : Int) < 70 := by omega
        have h2 : n < -(k : Int) := by omega
        go_wp2_with (go_at_call 19; refine (refFloor_any _ _ _ (by omega) (by omega) (by omega) (by omega)).mono ?_; rintro e wx ⟨rfl, hw⟩; rw [hw]; clear hw)
        go_round
        case rel => exact ⟨k + 1, by omega, by go_num, by rw [HH.out]⟩
        case measure => simp [intOf]; omega
      · have hx : S = x := HE.out (by omega)
        subst hx
        by_cases h1 : (k : Int) < 70
        · have h2 : decide (n < -(k : Int)) = false := decide_eq_false (by omega)
          go_wp2
          go_ret
          exact ⟨rfl, Below.refl _ _⟩
        · have h3 : decide ((k : Int) < 70) = false := decide_eq_false h1
          go_wp2
          go_ret
          exact ⟨rfl, Below.refl _ _⟩
theorem sh_step (a : Int) (k : Nat) {x : Int} (hx : x = a * two k) : a * two (k + 1) = x * 2 := by rw [mul_two, hx]
set_option maxHeartbeats 1600000 in
theorem shifts_pos (a n : Int) (w : World) (a1 : -9223372036854775808 ≤ a) (a2 : a ≤ 9223372036854775807) (n1 : -9223372036854775808 ≤ n) (n2 : n ≤ 9223372036854775807) (hn : 0 ≤ n) :
    Calls Try.prog 7 #[.int .i64 a, .int .i64 n] w fun e w' => e = .returned (.bool true) ∧ Below w.heap.size w w' := by
  obtain ⟨S, hS⟩ : ∃ S, S = sh a n := ⟨_, rfl⟩
  have HS : Hid (S = sh a n) := hS
  clear hS
  have hn' : decide (n < 0) = false := decide_eq_false (by omega)
  go_enter Try.func7, Try.ntmps7
  go_wp2_with (first | (go_at_call 9; refine (alive_any _).mono ?_; rintro e wx ⟨rfl, hw⟩; rw [hw]; clear hw) | (go_at_call 27; refine (shift_is n1 n2 hn HS).mono ?_; rintro e wx ⟨rfl, hw⟩; rw [hw]; clear hw))
  go_loopw [7, 8, 9] (fun wv bv iv wr => ∃ (k : Nat) (x : Int), k ≤ min n.toNat 70 ∧ iv = .int .i64 k ∧ wv = .int .i64 (fitN x) ∧ bv = .bool (fitB x) ∧ Hid (x = a * two k) ∧ Below w.heap.size w wr) (fun _ _ iv _ => 70 - (intOf iv).toNat)
  case atStart =>
    refine ⟨0, a, by omega, rfl, by rw [fitN_yes a1 a2], by rw [fitB_yes a1 a2], ?_, Below.refl _ _⟩
    show a = a * two 0
    rw [two_zero]; simp
  case round =>
    obtain ⟨k, x, hk, rfl, rfl, rfl, HX, hbel⟩ := hrel
    have HE : Hid (k = min n.toNat 70 ∨ fitB x = false → fitN S = fitN x ∧ fitB S = fitB x) := by
      show k = min n.toNat 70 ∨ fitB x = false → fitN S = fitN x ∧ fitB S = fitB x
      rintro (h | h)
      · have : S = x := by rw [HS.out, HX.out, h]; rfl
        rw [this]; exact ⟨rfl, rfl⟩
      · have h2 : fitB S = false := by rw [HS.out]; rw [HX.out] at h; exact fit_mono a hk h
        rw [fitN_of_not h, fitN_of_not h2, h, h2]; exact ⟨rfl, rfl⟩
    have HN : Hid (a * two (k + 1) = x * 2) := sh_step a k HX.out
    clear HX
    cases hb : fitB x
    · have hz := fitN_of_not hb
      obtain ⟨e1, e2⟩ := HE.out (Or.inr hb)
      rw [hz] at e1
      rw [hb] at e2
      rw [hz]
      clear HE HN hb hz
      by_cases h1 : (k : Int) < 70
      · by_cases h2 : (k : Int) < n
        · go_wp2
          go_loop [7, 10] (fun wv iv => wv = .int .i64 0 ∧ iv = .int .i64 0) (fun _ _ => 0)
          case atStart => exact ⟨rfl, rfl⟩
          case round =>
            obtain ⟨rfl, rfl⟩ := hrel
            go_wp2
            go_ret
            exact ⟨rfl, hbel⟩
        · have h3 : decide ((k : Int) < n) = false := decide_eq_false h2
          go_wp2
          go_loop [7, 10] (fun wv iv => wv = .int .i64 0 ∧ iv = .int .i64 0) (fun _ _ => 0)
          case atStart => exact ⟨rfl, rfl⟩
          case round =>
            obtain ⟨rfl, rfl⟩ := hrel
            go_wp2
            go_ret
            exact ⟨rfl, hbel⟩
      · have h3 : decide ((k : Int) < 70) = false := decide_eq_false h1
        go_wp2
        go_loop [7, 10] (fun wv iv => wv = .int .i64 0 ∧ iv = .int .i64 0) (fun _ _ => 0)
        case atStart => exact ⟨rfl, rfl⟩
        case round =>
          obtain ⟨rfl, rfl⟩ := hrel
          go_wp2
          go_ret
          exact ⟨rfl, hbel⟩
    · have hz := fitN_of_fitB hb
      have r1 := fitN_lo x
      have r2 := fitN_hi x
      rw [hz] at r1 r2 ⊢
      by_cases hlt : k < min n.toNat 70
      · have h1 : (k : Int) < 70 := by omega
        have h2 : (k : Int) < n := by omega
        obtain ⟨y, hy⟩ : ∃ y, y = x * 2 := ⟨_, rfl⟩
        have HY : Hid (y = x * 2) := hy
        have HY' : Hid (y = a * two (k + 1)) := by show y = a * two (k + 1); rw [HN.out, hy]
        clear HE HN hb hz hy
        go_wp2_with (go_at_call 15; refine (mulRef_two r1 r2 HY).mono ?_; rintro e w1 ⟨rfl, g1⟩)
        go_roundw
        case rel => exact ⟨k + 1, y, by omega, by go_num, rfl, rfl, HY', hbel.trans (g1.mono hbel.size)⟩
        case measure => simp [intOf]; omega
      · obtain ⟨e1, e2⟩ := HE.out (Or.inl (by omega))
        rw [hz] at e1
        rw [hb] at e2
        clear HE HN hb hz
        by_cases h1 : (k : Int) < 70
        · have h3 : decide ((k : Int) < n) = false := decide_eq_false (by omega)
          go_wp2
          go_loop [7, 10] (fun wv iv => wv = .int .i64 x ∧ iv = .int .i64 0) (fun _ _ => 0)
          case atStart => exact ⟨rfl, rfl⟩
          case round =>
            obtain ⟨rfl, rfl⟩ := hrel
            go_wp2
            go_ret
            exact ⟨rfl, hbel⟩
        · have h3 : decide ((k : Int) < 70) = false := decide_eq_false h1
          go_wp2
          go_loop [7, 10] (fun wv iv => wv = .int .i64 x ∧ iv = .int .i64 0) (fun _ _ => 0)
          case atStart => exact ⟨rfl, rfl⟩
          case round =>
            obtain ⟨rfl, rfl⟩ := hrel
            go_wp2
            go_ret
            exact ⟨rfl, hbel⟩
theorem shifts_any (a n : Int) (w : World) (a1 : -9223372036854775808 ≤ a) (a2 : a ≤ 9223372036854775807) (n1 : -9223372036854775808 ≤ n) (n2 : n ≤ 9223372036854775807) :
    Calls Try.prog 7 #[.int .i64 a, .int .i64 n] w fun e w' => e = .returned (.bool true) ∧ Below w.heap.size w w' := by
  by_cases h : n < 0
  · exact shifts_neg a n w a1 a2 n1 n2 h
  · exact shifts_pos a n w a1 a2 n1 n2 (by omega)
end Go.Proofs.Ytpjlppffehjemaa
