/- WireNumbers: unlike numbers have unlike bytes, none the beginning of the other; greater ones are never shorter. -/
import Derived.Test.YtghpehgefbikeaaDoorAlive
import Derived.Laws.Bits128
namespace Go.Proofs.YtghpehgefbikeaaDoor
open Go.ChangeShapes Go.WideShapes Go.ChangeAt Go.RowKit

theorem and63 (n : Int) : bits .and .i64 n 9223372036854775807 = n % 9223372036854775808 := by
  have h : (BitVec.ofInt 64 9223372036854775807).toNat = 2 ^ 63 - 1 := by decide
  have key : (BitVec.ofInt 64 n &&& BitVec.ofInt 64 9223372036854775807).toNat = (n % ((2 ^ 64 : Nat) : Int)).toNat % 2 ^ 63 := by
    rw [BitVec.toNat_and, BitVec.toNat_ofInt, h, Nat.and_two_pow_sub_one_eq_mod]
  show IntKind.i64.wrap ((BitVec.ofInt 64 n &&& BitVec.ofInt 64 9223372036854775807).toNat : Nat) = _
  rw [key, IntKind.wrap_i64]
  omega
theorem and63_ex (n : Int) : ∃ N : Nat, (N : Int) ≤ 9223372036854775807 ∧ bits .and .i64 n 9223372036854775807 = (N : Int) := ⟨(n % 9223372036854775808).toNat, by omega, by rw [and63]; omega⟩
theorem same_any (w : World) (va vb : Value) (xs ys : List Int) (ha : Rd w va xs) (hb : Rd w vb ys) : Calls Tryd.prog 36 #[va, vb] w fun e w' => e = .returned (.bool (decide (xs = ys))) ∧ w' = w := by
  have c1 := ha.conv
  have c2 := hb.conv
  by_cases h : xs = ys
  · subst h
    go_enter Tryd.func36, Tryd.ntmps36
    go_wp2
    go_ret
    exact ⟨by simp, rfl⟩
  · have hn := str_neL ha.1 hb.1 h
    go_enter Tryd.func36, Tryd.ntmps36
    go_wp2
    go_ret
    exact ⟨by simp [h, hn], rfl⟩
set_option maxHeartbeats 3200000 in
theorem numbers_eq (a b : Int) (w : World) (A : Nat) (hA : (A : Int) ≤ 9223372036854775807) (eA : bits .and .i64 a 9223372036854775807 = (A : Int)) (eB : bits .and .i64 b 9223372036854775807 = (A : Int)) :
    Calls Tryd.prog 8 #[.int .i64 a, .int .i64 b] w fun e w' => e = .returned (.bool true) ∧ Below w.heap.size w w' := by
  have M1 : Hid True := trivial
  have M2 : Hid True := trivial
  have M3 : Hid True := trivial
  have l5 := enc_len_pos A
  have l7 := enc_len9 A (by omega)
  go_enter Tryd.func8, Tryd.ntmps8
  go_wp2_with (first | (go_at_call 9; refine (alive_any _).mono ?_; rintro e w0 ⟨rfl, hb0⟩) | (go_at_call 10; clear M1; refine (new_any _).mono ?_; rintro e w1 ⟨rfl, hw1, hb1⟩; have hp1 := hw1.1 w0.heap.size rfl; have hb1' := hb0.trans (hb1.mono hb0.size); obtain ⟨P, hP⟩ : ∃ P, P = w0.heap.size := ⟨_, rfl⟩; rw [← hP] at hw1 hp1 ⊢; have hP0 : w.heap.size ≤ P := (by rw [hP]; exact hb0.size); clear hP hb1 hb0) | (go_at_call 10; refine (new_any _).mono ?_; rintro e w2 ⟨rfl, hw2, hb2⟩; have hp2 := hw2.1 w1.heap.size rfl; have hb2' := hb1'.trans (hb2.mono hb1'.size); have hw12 := hw1.below hb2; obtain ⟨Q, hQ⟩ : ∃ Q, Q = w1.heap.size := ⟨_, rfl⟩; rw [← hQ] at hw2 hp1 hp2 ⊢; have HP : Hid (w.heap.size ≤ P ∧ P < Q ∧ Q < w2.heap.size) := ⟨hP0, hp1, hp2⟩; clear hQ hb2 hb1' hw1 hp1 hp2 hP0) | (go_at_call 11; clear M2; refine (num_any _ _ _ [] false A hw12 hA (by simp)).mono ?_; rintro e w3 ⟨rfl, F3, hw3, hF3, hk3⟩; have hb3 := hb2'.trans (hk3.below (B := w.heap.size) (fun k hk => by have := HP.out; omega) hb2'.size); have hw23 := hw2.kept hk3 (fun k h1 h2 => by have := HP.out; omega); have HF3 : Hid (∀ k, F3 k → k ≠ Q) := mkHid (fun k hk => by have := HP.out; rcases hF3 k hk with h | h <;> omega); clear hF3 hk3 hw2 hw12 hb2') | (go_at_call 11; refine (num_any _ _ _ [] false A hw23 hA (by simp)).mono ?_; rintro e w4 ⟨rfl, F4, hw4, hF4, hk4⟩; have hb4 := hb3.trans (hk4.below (B := w.heap.size) (fun k hk => by have := HP.out; omega) hb3.size); have hw34 := hw3.kept hk4 HF3.out; clear hF4 hk4 hw3 HF3 hw23 hb3) | (go_at_call 18; clear M3; refine (done_ok _ _ _ _ hw34 (by have := enc_len9 A (by omega); simp only [List.nil_append]; omega)).mono ?_; rintro e w5 ⟨v5, rfl, ho5, hb5⟩; have hb5' := hb4.trans (hb5.mono hb4.size); have hw45 := hw4.below hb5; rw [List.nil_append] at ho5; have hr5 := Rd.of_owns (enc_byts A) ho5; obtain ⟨a5, c5, hv5⟩ := own_shape ho5; clear ho5 hb5 hw34 hw4 hb4) | (go_at_call 18; refine (done_ok _ _ _ _ hw45 (by have := enc_len9 A (by omega); simp only [List.nil_append]; omega)).mono ?_; rintro e w6 ⟨v6, rfl, ho6, hb6⟩; have hb6' := hb5'.trans (hb6.mono hb5'.size); rw [List.nil_append] at ho6; have hr6 := Rd.of_owns (enc_byts A) ho6; obtain ⟨a6, c6, hv6⟩ := own_shape ho6; have hr5' := hr5.later hb6; subst hv5 hv6; clear ho6 hb6 hw45 hb5' hr5; obtain ⟨b5, o5, rfl, hc5, e5⟩ := hr5'.spot (enc_len_pos A); obtain ⟨b6, o6, rfl, hc6, e6⟩ := hr6.spot (enc_len_pos A)) | (go_at_call 36; refine (same_any _ _ _ _ _ hr5' hr6).mono ?_; rintro e wx ⟨rfl, hw⟩; rw [hw]; clear hw))
  go_ret
  exact ⟨by simp, hb6'⟩
set_option maxHeartbeats 3200000 in
theorem numbers_lt (a b : Int) (w : World) (A B : Nat) (hA : (A : Int) ≤ 9223372036854775807) (hB : (B : Int) ≤ 9223372036854775807) (eA : bits .and .i64 a 9223372036854775807 = (A : Int)) (eB : bits .and .i64 b 9223372036854775807 = (B : Int)) (hAB : A < B) :
    Calls Tryd.prog 8 #[.int .i64 a, .int .i64 b] w fun e w' => e = .returned (.bool true) ∧ Below w.heap.size w w' := by
  have M1 : Hid True := trivial
  have M2 : Hid True := trivial
  have M3 : Hid True := trivial
  have l5 := enc_len_pos A
  have l6 := enc_len_pos B
  have l7 := enc_len9 A (by omega)
  have hm := enc_mono A B (by omega)
  have hne : ¬ (A : Int) = B := by omega
  obtain ⟨xs, hxs⟩ : ∃ xs, xs = (enc A).take (enc A).length := ⟨_, rfl⟩
  obtain ⟨ys, hys⟩ : ∃ ys, ys = (enc B).take (enc A).length := ⟨_, rfl⟩
  have hn2 : ¬ (strOfNums xs).toList = (strOfNums ys).toList := by
    rw [hxs, hys]
    exact str_neL (Byts.take (enc_byts A) _) (Byts.take (enc_byts B) _) (enc_take_ne A B (by omega) _ (by omega))
  have HX : Hid ((enc A).take (enc A).length = xs ∧ (enc B).take (enc A).length = ys) := ⟨hxs.symm, hys.symm⟩
  clear hxs hys
  go_enter Tryd.func8, Tryd.ntmps8
  go_wp2_with (first | (go_at_call 9; refine (alive_any _).mono ?_; rintro e w0 ⟨rfl, hb0⟩) | (go_at_call 10; clear M1; refine (new_any _).mono ?_; rintro e w1 ⟨rfl, hw1, hb1⟩; have hp1 := hw1.1 w0.heap.size rfl; have hb1' := hb0.trans (hb1.mono hb0.size); obtain ⟨P, hP⟩ : ∃ P, P = w0.heap.size := ⟨_, rfl⟩; rw [← hP] at hw1 hp1 ⊢; have hP0 : w.heap.size ≤ P := (by rw [hP]; exact hb0.size); clear hP hb1 hb0) | (go_at_call 10; refine (new_any _).mono ?_; rintro e w2 ⟨rfl, hw2, hb2⟩; have hp2 := hw2.1 w1.heap.size rfl; have hb2' := hb1'.trans (hb2.mono hb1'.size); have hw12 := hw1.below hb2; obtain ⟨Q, hQ⟩ : ∃ Q, Q = w1.heap.size := ⟨_, rfl⟩; rw [← hQ] at hw2 hp1 hp2 ⊢; have HP : Hid (w.heap.size ≤ P ∧ P < Q ∧ Q < w2.heap.size) := ⟨hP0, hp1, hp2⟩; clear hQ hb2 hb1' hw1 hp1 hp2 hP0) | (go_at_call 11; clear M2; refine (num_any _ _ _ [] false A hw12 hA (by simp)).mono ?_; rintro e w3 ⟨rfl, F3, hw3, hF3, hk3⟩; have hb3 := hb2'.trans (hk3.below (B := w.heap.size) (fun k hk => by have := HP.out; omega) hb2'.size); have hw23 := hw2.kept hk3 (fun k h1 h2 => by have := HP.out; omega); have HF3 : Hid (∀ k, F3 k → k ≠ Q) := mkHid (fun k hk => by have := HP.out; rcases hF3 k hk with h | h <;> omega); clear hF3 hk3 hw2 hw12 hb2') | (go_at_call 11; refine (num_any _ _ _ [] false B hw23 hB (by simp)).mono ?_; rintro e w4 ⟨rfl, F4, hw4, hF4, hk4⟩; have hb4 := hb3.trans (hk4.below (B := w.heap.size) (fun k hk => by have := HP.out; omega) hb3.size); have hw34 := hw3.kept hk4 HF3.out; clear hF4 hk4 hw3 HF3 hw23 hb3) | (go_at_call 18; clear M3; refine (done_ok _ _ _ _ hw34 (by have := enc_len9 A (by omega); simp only [List.nil_append]; omega)).mono ?_; rintro e w5 ⟨v5, rfl, ho5, hb5⟩; have hb5' := hb4.trans (hb5.mono hb4.size); have hw45 := hw4.below hb5; rw [List.nil_append] at ho5; have hr5 := Rd.of_owns (enc_byts A) ho5; obtain ⟨a5, c5, hv5⟩ := own_shape ho5; clear ho5 hb5 hw34 hw4 hb4) | (go_at_call 18; refine (done_ok _ _ _ _ hw45 (by have := enc_len9 B (by omega); simp only [List.nil_append]; omega)).mono ?_; rintro e w6 ⟨v6, rfl, ho6, hb6⟩; have hb6' := hb5'.trans (hb6.mono hb5'.size); rw [List.nil_append] at ho6; have hr6 := Rd.of_owns (enc_byts B) ho6; obtain ⟨a6, c6, hv6⟩ := own_shape ho6; have hr5' := hr5.later hb6; subst hv5 hv6; clear ho6 hb6 hw45 hb5' hr5; obtain ⟨b5, o5, rfl, hc5, e5⟩ := hr5'.spot (enc_len_pos A); obtain ⟨b6, o6, rfl, hc6, e6⟩ := hr6.spot (enc_len_pos B); have cv5 := (hr5'.take (n := (enc A).length) (by omega)).convs; rw [HX.out.1] at cv5; have cv6 := (hr6.take (n := (enc A).length) (by omega)).convs; rw [HX.out.2] at cv6; clear hr5' hr6))
  go_quiet (fail)
  go_wp2
  go_ret
  exact ⟨ret_bool (by simp [hn2]), hb6'.trans ⟨rfl, rfl, rfl, Nat.le_refl _, fun _ _ => rfl⟩⟩
set_option maxHeartbeats 3200000 in
theorem numbers_gt1 (a b : Int) (w : World) (A B : Nat) (hA : (A : Int) ≤ 9223372036854775807) (hB : (B : Int) ≤ 9223372036854775807) (eA : bits .and .i64 a 9223372036854775807 = (A : Int)) (eB : bits .and .i64 b 9223372036854775807 = (B : Int)) (hAB : B < A) (hlt : (enc B).length < (enc A).length) :
    Calls Tryd.prog 8 #[.int .i64 a, .int .i64 b] w fun e w' => e = .returned (.bool true) ∧ Below w.heap.size w w' := by
  have M1 : Hid True := trivial
  have M2 : Hid True := trivial
  have M3 : Hid True := trivial
  have l5 := enc_len_pos A
  have l6 := enc_len_pos B
  have l7 := enc_len9 A (by omega)
  have hm := enc_mono B A (by omega)
  have hne : ¬ (A : Int) = B := by omega
  obtain ⟨xs, hxs⟩ : ∃ xs, xs = (enc A).take (enc B).length := ⟨_, rfl⟩
  obtain ⟨ys, hys⟩ : ∃ ys, ys = (enc B).take (enc B).length := ⟨_, rfl⟩
  have hn2 : ¬ (strOfNums xs).toList = (strOfNums ys).toList := by
    rw [hxs, hys]
    exact str_neL (Byts.take (enc_byts A) _) (Byts.take (enc_byts B) _) (enc_take_ne A B (by omega) _ (by omega))
  have HX : Hid ((enc A).take (enc B).length = xs ∧ (enc B).take (enc B).length = ys) := ⟨hxs.symm, hys.symm⟩
  clear hxs hys
  go_enter Tryd.func8, Tryd.ntmps8
  go_wp2_with (first | (go_at_call 9; refine (alive_any _).mono ?_; rintro e w0 ⟨rfl, hb0⟩) | (go_at_call 10; clear M1; refine (new_any _).mono ?_; rintro e w1 ⟨rfl, hw1, hb1⟩; have hp1 := hw1.1 w0.heap.size rfl; have hb1' := hb0.trans (hb1.mono hb0.size); obtain ⟨P, hP⟩ : ∃ P, P = w0.heap.size := ⟨_, rfl⟩; rw [← hP] at hw1 hp1 ⊢; have hP0 : w.heap.size ≤ P := (by rw [hP]; exact hb0.size); clear hP hb1 hb0) | (go_at_call 10; refine (new_any _).mono ?_; rintro e w2 ⟨rfl, hw2, hb2⟩; have hp2 := hw2.1 w1.heap.size rfl; have hb2' := hb1'.trans (hb2.mono hb1'.size); have hw12 := hw1.below hb2; obtain ⟨Q, hQ⟩ : ∃ Q, Q = w1.heap.size := ⟨_, rfl⟩; rw [← hQ] at hw2 hp1 hp2 ⊢; have HP : Hid (w.heap.size ≤ P ∧ P < Q ∧ Q < w2.heap.size) := ⟨hP0, hp1, hp2⟩; clear hQ hb2 hb1' hw1 hp1 hp2 hP0) | (go_at_call 11; clear M2; refine (num_any _ _ _ [] false A hw12 hA (by simp)).mono ?_; rintro e w3 ⟨rfl, F3, hw3, hF3, hk3⟩; have hb3 := hb2'.trans (hk3.below (B := w.heap.size) (fun k hk => by have := HP.out; omega) hb2'.size); have hw23 := hw2.kept hk3 (fun k h1 h2 => by have := HP.out; omega); have HF3 : Hid (∀ k, F3 k → k ≠ Q) := mkHid (fun k hk => by have := HP.out; rcases hF3 k hk with h | h <;> omega); clear hF3 hk3 hw2 hw12 hb2') | (go_at_call 11; refine (num_any _ _ _ [] false B hw23 hB (by simp)).mono ?_; rintro e w4 ⟨rfl, F4, hw4, hF4, hk4⟩; have hb4 := hb3.trans (hk4.below (B := w.heap.size) (fun k hk => by have := HP.out; omega) hb3.size); have hw34 := hw3.kept hk4 HF3.out; clear hF4 hk4 hw3 HF3 hw23 hb3) | (go_at_call 18; clear M3; refine (done_ok _ _ _ _ hw34 (by have := enc_len9 A (by omega); simp only [List.nil_append]; omega)).mono ?_; rintro e w5 ⟨v5, rfl, ho5, hb5⟩; have hb5' := hb4.trans (hb5.mono hb4.size); have hw45 := hw4.below hb5; rw [List.nil_append] at ho5; have hr5 := Rd.of_owns (enc_byts A) ho5; obtain ⟨a5, c5, hv5⟩ := own_shape ho5; clear ho5 hb5 hw34 hw4 hb4) | (go_at_call 18; refine (done_ok _ _ _ _ hw45 (by have := enc_len9 B (by omega); simp only [List.nil_append]; omega)).mono ?_; rintro e w6 ⟨v6, rfl, ho6, hb6⟩; have hb6' := hb5'.trans (hb6.mono hb5'.size); rw [List.nil_append] at ho6; have hr6 := Rd.of_owns (enc_byts B) ho6; obtain ⟨a6, c6, hv6⟩ := own_shape ho6; have hr5' := hr5.later hb6; subst hv5 hv6; clear ho6 hb6 hw45 hb5' hr5; obtain ⟨b5, o5, rfl, hc5, e5⟩ := hr5'.spot (enc_len_pos A); obtain ⟨b6, o6, rfl, hc6, e6⟩ := hr6.spot (enc_len_pos B); have cv5 := (hr5'.take (n := (enc B).length) (by omega)).convs; rw [HX.out.1] at cv5; have cv6 := (hr6.take (n := (enc B).length) (by omega)).convs; rw [HX.out.2] at cv6; clear hr5' hr6))
  go_quiet (fail)
  go_wp2
  go_ret
  exact ⟨ret_bool (by simp [hn2]), hb6'.trans ⟨rfl, rfl, rfl, Nat.le_refl _, fun _ _ => rfl⟩⟩
set_option maxHeartbeats 3200000 in
theorem numbers_gt2 (a b : Int) (w : World) (A B : Nat) (hA : (A : Int) ≤ 9223372036854775807) (hB : (B : Int) ≤ 9223372036854775807) (eA : bits .and .i64 a 9223372036854775807 = (A : Int)) (eB : bits .and .i64 b 9223372036854775807 = (B : Int)) (hAB : B < A) (hlt : ¬ (enc B).length < (enc A).length) :
    Calls Tryd.prog 8 #[.int .i64 a, .int .i64 b] w fun e w' => e = .returned (.bool true) ∧ Below w.heap.size w w' := by
  have M1 : Hid True := trivial
  have M2 : Hid True := trivial
  have M3 : Hid True := trivial
  have l5 := enc_len_pos A
  have l6 := enc_len_pos B
  have l7 := enc_len9 A (by omega)
  have hm := enc_mono B A (by omega)
  have hne : ¬ (A : Int) = B := by omega
  obtain ⟨xs, hxs⟩ : ∃ xs, xs = (enc A).take (enc A).length := ⟨_, rfl⟩
  obtain ⟨ys, hys⟩ : ∃ ys, ys = (enc B).take (enc A).length := ⟨_, rfl⟩
  have hn2 : ¬ (strOfNums xs).toList = (strOfNums ys).toList := by
    rw [hxs, hys]
    exact str_neL (Byts.take (enc_byts A) _) (Byts.take (enc_byts B) _) (enc_take_ne A B (by omega) _ (by omega))
  have HX : Hid ((enc A).take (enc A).length = xs ∧ (enc B).take (enc A).length = ys) := ⟨hxs.symm, hys.symm⟩
  clear hxs hys
  go_enter Tryd.func8, Tryd.ntmps8
  go_wp2_with (first | (go_at_call 9; refine (alive_any _).mono ?_; rintro e w0 ⟨rfl, hb0⟩) | (go_at_call 10; clear M1; refine (new_any _).mono ?_; rintro e w1 ⟨rfl, hw1, hb1⟩; have hp1 := hw1.1 w0.heap.size rfl; have hb1' := hb0.trans (hb1.mono hb0.size); obtain ⟨P, hP⟩ : ∃ P, P = w0.heap.size := ⟨_, rfl⟩; rw [← hP] at hw1 hp1 ⊢; have hP0 : w.heap.size ≤ P := (by rw [hP]; exact hb0.size); clear hP hb1 hb0) | (go_at_call 10; refine (new_any _).mono ?_; rintro e w2 ⟨rfl, hw2, hb2⟩; have hp2 := hw2.1 w1.heap.size rfl; have hb2' := hb1'.trans (hb2.mono hb1'.size); have hw12 := hw1.below hb2; obtain ⟨Q, hQ⟩ : ∃ Q, Q = w1.heap.size := ⟨_, rfl⟩; rw [← hQ] at hw2 hp1 hp2 ⊢; have HP : Hid (w.heap.size ≤ P ∧ P < Q ∧ Q < w2.heap.size) := ⟨hP0, hp1, hp2⟩; clear hQ hb2 hb1' hw1 hp1 hp2 hP0) | (go_at_call 11; clear M2; refine (num_any _ _ _ [] false A hw12 hA (by simp)).mono ?_; rintro e w3 ⟨rfl, F3, hw3, hF3, hk3⟩; have hb3 := hb2'.trans (hk3.below (B := w.heap.size) (fun k hk => by have := HP.out; omega) hb2'.size); have hw23 := hw2.kept hk3 (fun k h1 h2 => by have := HP.out; omega); have HF3 : Hid (∀ k, F3 k → k ≠ Q) := mkHid (fun k hk => by have := HP.out; rcases hF3 k hk with h | h <;> omega); clear hF3 hk3 hw2 hw12 hb2') | (go_at_call 11; refine (num_any _ _ _ [] false B hw23 hB (by simp)).mono ?_; rintro e w4 ⟨rfl, F4, hw4, hF4, hk4⟩; have hb4 := hb3.trans (hk4.below (B := w.heap.size) (fun k hk => by have := HP.out; omega) hb3.size); have hw34 := hw3.kept hk4 HF3.out; clear hF4 hk4 hw3 HF3 hw23 hb3) | (go_at_call 18; clear M3; refine (done_ok _ _ _ _ hw34 (by have := enc_len9 A (by omega); simp only [List.nil_append]; omega)).mono ?_; rintro e w5 ⟨v5, rfl, ho5, hb5⟩; have hb5' := hb4.trans (hb5.mono hb4.size); have hw45 := hw4.below hb5; rw [List.nil_append] at ho5; have hr5 := Rd.of_owns (enc_byts A) ho5; obtain ⟨a5, c5, hv5⟩ := own_shape ho5; clear ho5 hb5 hw34 hw4 hb4) | (go_at_call 18; refine (done_ok _ _ _ _ hw45 (by have := enc_len9 B (by omega); simp only [List.nil_append]; omega)).mono ?_; rintro e w6 ⟨v6, rfl, ho6, hb6⟩; have hb6' := hb5'.trans (hb6.mono hb5'.size); rw [List.nil_append] at ho6; have hr6 := Rd.of_owns (enc_byts B) ho6; obtain ⟨a6, c6, hv6⟩ := own_shape ho6; have hr5' := hr5.later hb6; subst hv5 hv6; clear ho6 hb6 hw45 hb5' hr5; obtain ⟨b5, o5, rfl, hc5, e5⟩ := hr5'.spot (enc_len_pos A); obtain ⟨b6, o6, rfl, hc6, e6⟩ := hr6.spot (enc_len_pos B); have cv5 := (hr5'.take (n := (enc A).length) (by omega)).convs; rw [HX.out.1] at cv5; have cv6 := (hr6.take (n := (enc A).length) (by omega)).convs; rw [HX.out.2] at cv6; clear hr5' hr6))
  go_quiet (fail)
  go_wp2
  go_ret
  exact ⟨ret_bool (by simp [hn2]), hb6'.trans ⟨rfl, rfl, rfl, Nat.le_refl _, fun _ _ => rfl⟩⟩
theorem numbers_walk (a b : Int) (w : World) : Calls Tryd.prog 8 #[.int .i64 a, .int .i64 b] w fun e w' => e = .returned (.bool true) ∧ Below w.heap.size w w' := by
  obtain ⟨A, hA, eA⟩ := and63_ex a
  obtain ⟨B, hB, eB⟩ := and63_ex b
  rcases Nat.lt_trichotomy A B with h | h | h
  · exact numbers_lt a b w A B hA hB eA eB h
  · subst h; exact numbers_eq a b w A hA eA eB
  · by_cases hl : (enc B).length < (enc A).length
    · exact numbers_gt1 a b w A B hA hB eA eB h hl
    · exact numbers_gt2 a b w A B hA hB eA eB h hl
end Go.Proofs.YtghpehgefbikeaaDoor
