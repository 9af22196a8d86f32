/- TickDivisors: Gcd and Lcm of package tick against the document's, at all pairs of integers. -/
import Derived.Test.YtpjlppffehjemaaLcm
namespace Go.Proofs.Ytpjlppffehjemaa
open Go.ChangeShapes Go.WideShapes Go.ChangeAt Go.RowKit

theorem times_hid {ps qs : List Int} {va vb : Value} {w : World} {x y P : Int} (ha : Num w va ps) (hb : Num w vb qs) (la : ps.length ≤ 1000) (lb : qs.length ≤ 1000) (hx : Hid (val ps = x)) (hy : Hid (val qs = y)) (hP : Hid (P = x * y)) :
    Calls Try.prog 25 #[va, vb] w fun e w' => ∃ v ds, e = .returned v ∧ Num w' v ds ∧ Hid (P = val ds) ∧ ds.length ≤ ps.length + qs.length + 1 ∧ Below w.heap.size w w' := by
  refine (times_any ps qs va vb w ha hb la lb).mono ?_
  rintro e w' ⟨v, ds, he, h1, h2, h3, h4⟩
  refine ⟨v, ds, he, h1, ?_, h3, h4⟩
  show P = val ds
  rw [hP.out, h2, hx.out, hy.out]
theorem whole_is {ds : List Int} {v : Value} {w : World} {P : Int} (h : Num w v ds) (hl : ds.length ≤ 30000000000000) (hP : Hid (P = val ds)) :
    Calls Try.prog 24 #[v, .bool false] w fun e w' => e = .returned (.tuple #[.int .i64 (fitN P), .bool (fitB P)]) ∧ w' = w := by
  rw [hP.out]
  exact whole_pos ds v w h hl
set_option maxHeartbeats 1600000 in
theorem divisors_zero (a b A B G : Int) (w : World) (a1 : -9223372036854775808 ≤ a) (a2 : a ≤ 9223372036854775807) (b1 : -9223372036854775808 ≤ b) (b2 : b ≤ 9223372036854775807) (hz : a = 0 ∨ b = 0)
    (HA : Hid (A = (a.natAbs : Int))) (HB : Hid (B = (b.natAbs : Int))) (A0 : 0 ≤ A) (A1 : A < 18446744073709551616) (B0 : 0 ≤ B) (B1 : B < 18446744073709551616)
    (HG : Hid (G = (Nat.gcd a.natAbs b.natAbs : Nat))) (HG' : Hid (G = (Nat.gcd b.natAbs a.natAbs : Nat))) (HR : Hid (G = (Nat.gcd A.natAbs B.natAbs : Nat))) :
    Calls Try.prog 6 #[.int .i64 a, .int .i64 b] w fun e w' => e = .returned (.bool true) ∧ Below w.heap.size w w' := by
  have hz' : Hid (a = 0 ∨ b = 0) := hz
  by_cases h1 : a = 0
  · have e1 : (a == 0) = true := by simpa using h1
    clear h1 hz
    go_enter Try.func6, Try.ntmps6
    go_wp2_with (first | (go_at_call 9; refine (alive_any _).mono ?_; rintro e wx ⟨rfl, hw⟩; rw [hw]; clear hw) | (go_at_call 20; with_reducible refine (amount_is a1 a2 HA).mono ?_; rintro e wx ⟨rfl, hw⟩; rw [hw]; clear hw) | (go_at_call 20; with_reducible refine (amount_is b1 b2 HB).mono ?_; rintro e wx ⟨rfl, hw⟩; rw [hw]; clear hw) | (go_at_call 21; with_reducible refine (gcd_is a1 a2 b1 b2 HG).mono ?_; rintro e wx ⟨rfl, k1, rfl⟩) | (go_at_call 21; with_reducible refine (gcd_is b1 b2 a1 a2 HG').mono ?_; rintro e wx ⟨rfl, k2, rfl⟩) | (go_at_call 22; with_reducible refine (lcm_zero _ _ _ hz'.out).mono ?_; rintro e wx ⟨rfl, k3, rfl⟩) | (go_at_call 23; with_reducible refine (gcdRef_is A0 A1 B0 B1 HR).mono ?_; rintro e wx ⟨rfl, k4, rfl⟩))
    go_ret
    exact ⟨rfl, below_drewN (Below.refl _ _) _⟩
  · have e1 : (a == 0) = false := by simpa using h1
    have e2 : (b == 0) = true := by simp; omega
    clear h1 hz
    go_enter Try.func6, Try.ntmps6
    go_wp2_with (first | (go_at_call 9; refine (alive_any _).mono ?_; rintro e wx ⟨rfl, hw⟩; rw [hw]; clear hw) | (go_at_call 20; with_reducible refine (amount_is a1 a2 HA).mono ?_; rintro e wx ⟨rfl, hw⟩; rw [hw]; clear hw) | (go_at_call 20; with_reducible refine (amount_is b1 b2 HB).mono ?_; rintro e wx ⟨rfl, hw⟩; rw [hw]; clear hw) | (go_at_call 21; with_reducible refine (gcd_is a1 a2 b1 b2 HG).mono ?_; rintro e wx ⟨rfl, k1, rfl⟩) | (go_at_call 21; with_reducible refine (gcd_is b1 b2 a1 a2 HG').mono ?_; rintro e wx ⟨rfl, k2, rfl⟩) | (go_at_call 22; with_reducible refine (lcm_zero _ _ _ hz'.out).mono ?_; rintro e wx ⟨rfl, k3, rfl⟩) | (go_at_call 23; with_reducible refine (gcdRef_is A0 A1 B0 B1 HR).mono ?_; rintro e wx ⟨rfl, k4, rfl⟩))
    go_ret
    exact ⟨rfl, below_drewN (Below.refl _ _) _⟩
set_option maxHeartbeats 1600000 in
theorem divisors_yes (a b A B G P : Int) (w : World) (a1 : -9223372036854775808 ≤ a) (a2 : a ≤ 9223372036854775807) (b1 : -9223372036854775808 ≤ b) (b2 : b ≤ 9223372036854775807) (ha : a ≠ 0) (hb : b ≠ 0)
    (HA : Hid (A = (a.natAbs : Int))) (HB : Hid (B = (b.natAbs : Int))) (A0 : 0 ≤ A) (A1 : A < 18446744073709551616) (B0 : 0 ≤ B) (B1 : B < 18446744073709551616) (G0 : 0 < G) (Q0 : 0 ≤ A / G) (Q1 : A / G < 18446744073709551616)
    (HG : Hid (G = (Nat.gcd a.natAbs b.natAbs : Nat))) (HG' : Hid (G = (Nat.gcd b.natAbs a.natAbs : Nat))) (HR : Hid (G = (Nat.gcd A.natAbs B.natAbs : Nat))) (HP : Hid (P = A / G * B)) :
    Calls Try.prog 6 #[.int .i64 a, .int .i64 b] w fun e w' => e = .returned (.bool true) ∧ Below w.heap.size w w' := by
  have e1 : (a == 0) = false := by simpa using ha
  have e2 : (b == 0) = false := by simpa using hb
  have ha' : Hid (a ≠ 0) := ha
  have hb' : Hid (b ≠ 0) := hb
  clear ha hb
  go_enter Try.func6, Try.ntmps6
  go_wp2_with (first | (go_at_call 9; refine (alive_any _).mono ?_; rintro e wx ⟨rfl, hw⟩; rw [hw]; clear hw) | (go_at_call 20; with_reducible refine (amount_is a1 a2 HA).mono ?_; rintro e wx ⟨rfl, hw⟩; rw [hw]; clear hw) | (go_at_call 20; with_reducible refine (amount_is b1 b2 HB).mono ?_; rintro e wx ⟨rfl, hw⟩; rw [hw]; clear hw) | (go_at_call 21; with_reducible refine (gcd_is a1 a2 b1 b2 HG).mono ?_; rintro e wx ⟨rfl, k1, rfl⟩) | (go_at_call 21; with_reducible refine (gcd_is b1 b2 a1 a2 HG').mono ?_; rintro e wx ⟨rfl, k2, rfl⟩) | (go_at_call 22; with_reducible refine (lcm_any _ _ A B G P _ a1 a2 b1 b2 ha'.out hb'.out HA HB HG HP).mono ?_; rintro e wx ⟨rfl, k3, rfl⟩) | (go_at_call 23; with_reducible refine (gcdRef_is A0 A1 B0 B1 HR).mono ?_; rintro e wx ⟨rfl, k4, rfl⟩) | (go_at_call 26; with_reducible refine (of_hid (A / G) _ Q0 Q1).mono ?_; rintro e w1 ⟨v1, d1, rfl, n1, E1, l1, g1⟩) | (go_at_call 26; with_reducible refine (of_hid B _ B0 B1).mono ?_; rintro e w2 ⟨v2, d2, rfl, n2, E2, l2, g2⟩) | (go_at_call 25; refine (times_hid (n1.later g2) n2 (by omega) (by omega) E1 E2 HP).mono ?_; rintro e w3 ⟨v3, d3, rfl, n3, E3, l3, g3⟩) | (go_at_call 24; refine (whole_is n3 (by omega) E3).mono ?_; rintro e wx ⟨rfl, hw⟩; rw [hw]; clear hw))
  go_ret
  exact ⟨rfl, (below_drewN (Below.refl _ _) _).trans ((g1.mono (by simp)).trans ((g2.mono (by have := g1.size; simp at this; omega)).trans (g3.mono (by have := g1.size; have := g2.size; simp at *; omega))))⟩
theorem divisors_any (a b : Int) (w : World) (a1 : -9223372036854775808 ≤ a) (a2 : a ≤ 9223372036854775807) (b1 : -9223372036854775808 ≤ b) (b2 : b ≤ 9223372036854775807) :
    Calls Try.prog 6 #[.int .i64 a, .int .i64 b] w fun e w' => e = .returned (.bool true) ∧ Below w.heap.size w w' := by
  have hG' : ((Nat.gcd a.natAbs b.natAbs : Nat) : Int) = (Nat.gcd b.natAbs a.natAbs : Nat) := by rw [Nat.gcd_comm]
  have hR : ((Nat.gcd a.natAbs b.natAbs : Nat) : Int) = (Nat.gcd (a.natAbs : Int).natAbs (b.natAbs : Int).natAbs : Nat) := rfl
  by_cases hz : a = 0 ∨ b = 0
  · exact divisors_zero a b _ _ _ w a1 a2 b1 b2 hz rfl rfl (by omega) (by omega) (by omega) (by omega) rfl hG' hR
  · have hg := Nat.gcd_pos_of_pos_left b.natAbs (by omega : 0 < a.natAbs)
    refine divisors_yes a b _ _ _ _ w a1 a2 b1 b2 (by omega) (by omega) rfl rfl (by omega) (by omega) (by omega) (by omega) (by omega) ?_ ?_ rfl hG' hR rfl
    · exact Int.ediv_nonneg (by omega) (by omega)
    · have := Int.ediv_le_self ((Nat.gcd a.natAbs b.natAbs : Nat) : Int) (by omega : 0 ≤ (a.natAbs : Int)); omega
end Go.Proofs.Ytpjlppffehjemaa
