/- The walk of the law WideShifts. -/
import Derived.Test.YtakdkoocbekbgaaShift2
import Derived.Test.YtakdkoocbekbgaaRDiv
namespace Go.Proofs.Ytakdkoocbekbgaa
open Go.ChangeShapes Go.WideShapes Go.ChangeAt Go.RowKit
attribute [local go_sem] World.cell?_alloc_some
theorem pow_mono {A : Int} {i k : Nat} (A0 : 0 ≤ A) (h : i ≤ k) : A * 2 ^ i ≤ A * 2 ^ k := Int.mul_le_mul_of_nonneg_left (pow2_le h) A0
theorem sh_eq {A WH WL XH XL : Int} {wb xb : Bool} {i k : Nat} (A0 : 0 ≤ A) (hW : Is (A * 2 ^ i) WH WL wb) (hX : Is (A * 2 ^ k) XH XL xb) (hk : i ≤ k) (hx : ¬ (i < 130 ∧ i < k ∧ wb = true)) : XH = WH ∧ XL = WL ∧ xb = wb := by
  cases wb
  · obtain ⟨e1, e2, e3⟩ := hW.no rfl
    have h1 := pow_mono A0 hk
    have h2 : 0 ≤ A * 2 ^ i := Int.mul_nonneg A0 (Int.le_of_lt (pow2_pos i))
    cases xb
    · obtain ⟨e4, e5, _⟩ := hX.no rfl
      exact ⟨by omega, by omega, rfl⟩
    · have := hX.yes rfl
      have := wv_hi hX.h hX.l
      exact absurd ⟨h2, by omega⟩ e3
  · by_cases hi : i = k
    · subst hi; exact hX.un hW
    · have hx' : ¬ (i < 130 ∧ i < k) := fun h => hx ⟨h.1, h.2, rfl⟩
      have hA : A = 0 := by
        refine Int.le_antisymm (Int.not_lt.mp fun hn => ?_) A0
        have h1 := hW.yes rfl
        have h2 := wv_hi hW.h hW.l
        have h3 := pow_mono A0 (show 130 ≤ i by omega)
        have e : (2 : Int) ^ 130 = 1361129467683753853853498429727072845824 := by decide
        rw [e] at h3
        omega
      rw [hA, Int.zero_mul] at hW hX
      exact hX.un hW
theorem div2_step {A WH WL H L r : Int} {i : Nat} (hW : wv WH WL = A / 2 ^ i) (h : DivIs (wv WH WL) 2 H L r) : wv H L = A / 2 ^ (i + 1) := by
  have := h.eq; have := h.lo; have := h.hi
  rw [Int.pow_succ, ← Int.ediv_ediv_of_nonneg (Int.le_of_lt (pow2_pos i)), ← hW]
  omega
theorem shr_eq {A : Int} {i k : Nat} (A0 : 0 ≤ A) (A1 : A < 340282366920938463463374607431768211456) (hk : i ≤ k) (hx : ¬ (i < 130 ∧ i < k)) : A / 2 ^ i = A / 2 ^ k := by
  by_cases hi : i = k
  · rw [hi]
  · have e : (2 : Int) ^ 130 = 1361129467683753853853498429727072845824 := by decide
    have h1 := pow2_le (show 130 ≤ i by omega)
    have h2 := pow2_le (show 130 ≤ k by omega)
    rw [e] at h1 h2
    rw [Int.ediv_eq_zero_of_lt A0 (by omega), Int.ediv_eq_zero_of_lt A0 (by omega)]
set_option maxRecDepth 20000 in
set_option maxHeartbeats 8000000 in
theorem shifts_neg {ah al : Int} {k : Nat} (w : World) (a : Word ah) (b : Word al) (k0 : 1 ≤ k) (k1 : k ≤ 9223372036854775808) :
    Calls Try.prog 5 #[.agg #[.int .u64 ah, .int .u64 al], .int .i64 (-(k : Int))] w fun e w' => e = .returned (.bool true) ∧ Below w.heap.size w w' := by
  have A0 := wv_lo a b
  have A1 := wv_hi a b
  have q0 : 0 ≤ wv ah al / 2 ^ k := Int.ediv_nonneg A0 (Int.le_of_lt (pow2_pos k))
  obtain ⟨XH, XL, x1, x2, hx⟩ := halves (wv ah al / 2 ^ k) q0 (by have := Int.ediv_le_self (2 ^ k) A0; omega)
  have hX : Is (wv ah al / 2 ^ k) XH XL true := is_of x1 x2 hx.symm
  have hn : -(k : Int) < 0 := by omega
  clear q0 hx
  go_enter Try.func5, Try.ntmps5
  go_wp2_with (first
    | (go_at_call 9; refine (alive_any).mono ?_; rintro e w0 ⟨rfl, B0⟩; have c0 := kc (a := ⟨w.heap.size, 0, none⟩) (v := .int .u64 ah) (by simp [go_sem]) B0; have c1 := kc (a := ⟨w.heap.size, 1, none⟩) (v := .int .u64 al) (by simp [go_sem]) B0)
    | (go_at_call 23; with_reducible refine (wshr a b k0 k1 hX).mono ?_; rintro e w1 ⟨rfl, B1⟩; have c2 := kc c0 B1; have c3 := kc c1 B1; clear c0 c1))
  go_loop [8, 9] (fun bv iv => bv = .bool true ∧ iv = .int .i64 0) (fun _ _ => 0)
  case atStart => exact ⟨rfl, rfl⟩
  case round =>
    obtain ⟨rfl, rfl⟩ := hrel
    have h0 : ¬ (0 : Int) < -(k : Int) := by omega
    go_wp2
    clear h0
    go_loopw [10] (fun iv wr => ∃ (i : Nat) (WH WL : Int), iv = .int .i64 i ∧ i ≤ k ∧ i ≤ 130 ∧ Word WH ∧ Word WL ∧ Hid (wv WH WL = wv ah al / 2 ^ i) ∧ Below w.heap.size w wr ∧ (wr.cell? ⟨w1.heap.size, 0, none⟩ = some (.int .u64 XH) ∧ wr.cell? ⟨w1.heap.size, 1, none⟩ = some (.int .u64 XL)) ∧
        (wr.cell? ⟨w1.heap.size + 1, 0, none⟩ = some (.int .u64 WH) ∧ wr.cell? ⟨w1.heap.size + 1, 1, none⟩ = some (.int .u64 WL) ∧ wr.frozen? ⟨w1.heap.size + 1, 0, none⟩ = false ∧ wr.frozen? ⟨w1.heap.size + 1, 1, none⟩ = false)) (fun iv _ => 130 - (intOf iv).toNat)
    case atStart =>
      have T := bt (bt (ba (Below.refl _ _) _) B0) B1
      exact ⟨0, ah, al, rfl, by omega, by omega, a, b, by show wv ah al = wv ah al / 2 ^ 0; simp, ba (ba T _) _, ⟨by simp [go_sem], by simp [go_sem]⟩, by simp [go_sem], by simp [go_sem], by simp [go_sem], by simp [go_sem]⟩
    case round =>
      obtain ⟨i, WH, WL, rfl, ik, i130, v1, v2, HW, D, ⟨y0, y1⟩, z0, z1, z2, z3⟩ := hrel
      have sz : w.heap.size ≤ w1.heap.size := (bt (bt (ba (Below.refl _ _) _) B0) B1).size
      clear c2 c3 B0 B1
      by_cases ht : i < 130 ∧ i < k
      · obtain ⟨t1, t2⟩ := ht
        have t3 : -(k : Int) < -(i : Int) := by omega
        obtain ⟨H, L, r, hD⟩ := div_ex (wv_lo v1 v2) (wv_hi v1 v2) (show (0 : Int) < 2 by decide)
        have HS : Hid (wv H L = wv ah al / 2 ^ (i + 1)) := div2_step HW.out hD
        go_wp2_with (go_at_call 22; refine (refDiv v1 v2 (by decide) hD).mono ?_; rintro e w2 ⟨rfl, b2⟩; have u0 := kc z0 b2; have u1 := kc z1 b2; have u2 := kf z0 b2 z2; have u3 := kf z1 b2 z3)
        go_roundw
        case rel => exact ⟨i + 1, H, L, by go_num, by omega, by omega, hD.h, hD.l, HS, ((bt D b2).setCell (by simp; omega) _).setCell (by simp; omega) _, ⟨cs (cs (kc y0 b2) (by simp)) (by simp), cs (cs (kc y1 b2) (by simp)) (by simp)⟩, by simp [go_sem, u0], by simp [go_sem, u1], fs (fs u2), fs (fs u3)⟩
        case measure => simp [intOf]; omega
      · have he := shr_eq A0 A1 ik ht
        obtain ⟨e1, e2⟩ := wv_inj v1 v2 x1 x2 (by rw [HW.out, he, hX.yes rfl])
        subst e1 e2
        clear he HW
        by_cases t1 : i < 130
        · have t2 : ¬ (-(k : Int) < -(i : Int)) := by omega
          clear ht
          go_wp2
          go_ret
          exact ⟨rfl, D⟩
        · clear ht
          go_wp2
          go_ret
          exact ⟨rfl, D⟩
theorem mul2_step {A WH WL H L : Int} {b : Bool} {i : Nat} (hW : Is (A * 2 ^ i) WH WL true) (h : Is (wv WH WL * 2) H L b) : Is (A * 2 ^ (i + 1)) H L b := by
  have e : A * 2 ^ (i + 1) = wv WH WL * 2 := by rw [hW.yes rfl, Int.pow_succ]; grind
  rw [e]; exact h
set_option maxRecDepth 20000 in
set_option maxHeartbeats 8000000 in
theorem shifts_pos {ah al : Int} {k : Nat} (w : World) (a : Word ah) (b : Word al) (k1 : k ≤ 9223372036854775807) :
    Calls Try.prog 5 #[.agg #[.int .u64 ah, .int .u64 al], .int .i64 (k : Int)] w fun e w' => e = .returned (.bool true) ∧ Below w.heap.size w w' := by
  have A0 := wv_lo a b
  obtain ⟨XH, XL, xb, hX⟩ := is_ex (wv ah al * 2 ^ k)
  have hn : ¬ (k : Int) < 0 := by omega
  go_enter Try.func5, Try.ntmps5
  go_wp2_with (first
    | (go_at_call 9; refine (alive_any).mono ?_; rintro e w0 ⟨rfl, B0⟩; have c0 := kc (a := ⟨w.heap.size, 0, none⟩) (v := .int .u64 ah) (by simp [go_sem]) B0; have c1 := kc (a := ⟨w.heap.size, 1, none⟩) (v := .int .u64 al) (by simp [go_sem]) B0)
    | (go_at_call 23; with_reducible refine (wshl a b k1 hX).mono ?_; rintro e w1 ⟨rfl, B1⟩; have c2 := kc c0 B1; have c3 := kc c1 B1; clear c0 c1))
  go_loopw [8, 9] (fun bv iv wr => ∃ (i : Nat) (WH WL : Int) (wb : Bool), bv = .bool wb ∧ iv = .int .i64 i ∧ i ≤ k ∧ i ≤ 130 ∧ Is (wv ah al * 2 ^ i) WH WL wb ∧ Below w.heap.size w wr ∧ (wr.cell? ⟨w.heap.size, 0, none⟩ = some (.int .u64 ah) ∧ wr.cell? ⟨w.heap.size, 1, none⟩ = some (.int .u64 al)) ∧ (wr.cell? ⟨w1.heap.size, 0, none⟩ = some (.int .u64 XH) ∧ wr.cell? ⟨w1.heap.size, 1, none⟩ = some (.int .u64 XL)) ∧
        (wr.cell? ⟨w1.heap.size + 1, 0, none⟩ = some (.int .u64 WH) ∧ wr.cell? ⟨w1.heap.size + 1, 1, none⟩ = some (.int .u64 WL) ∧ wr.frozen? ⟨w1.heap.size + 1, 0, none⟩ = false ∧ wr.frozen? ⟨w1.heap.size + 1, 1, none⟩ = false)) (fun _ iv _ => 130 - (intOf iv).toNat)
  case atStart =>
    have T := bt (bt (ba (Below.refl _ _) _) B0) B1
    exact ⟨0, ah, al, true, rfl, rfl, by omega, by omega, is_of a b (by simp), ba (ba T _) _, ⟨kl (kl c2 _) _, kl (kl c3 _) _⟩, ⟨by simp [go_sem], by simp [go_sem]⟩, by simp [go_sem], by simp [go_sem], by simp [go_sem], by simp [go_sem]⟩
  case round =>
    obtain ⟨i, WH, WL, wb, rfl, rfl, ik, i130, hW, D, ⟨x0, x1⟩, ⟨y0, y1⟩, z0, z1, z2, z3⟩ := hrel
    have sz : w.heap.size < w1.heap.size := cell_lt c2
    clear c2 c3 B0 B1
    by_cases ht : i < 130 ∧ i < k ∧ wb = true
    · obtain ⟨t1, t2, rfl⟩ := ht
      obtain ⟨H, L, hb, hM⟩ := is_ex (wv WH WL * 2)
      have hS := mul2_step hW hM
      have hword2 : Word 2 := ⟨by decide, by decide⟩
      have ne1 : w.heap.size ≠ w1.heap.size + 1 := by omega
      go_wp2_with (go_at_call 19; refine (refMul hW.h hW.l hword2 hM).mono ?_; rintro e w2 ⟨rfl, b2⟩; have u0 := kc z0 b2; have u1 := kc z1 b2; have u2 := kf z0 b2 z2; have u3 := kf z1 b2 z3)
      go_roundw
      case rel => exact ⟨i + 1, H, L, hb, rfl, by go_num, by omega, by omega, hS, ((bt D b2).setCell (by simp; omega) _).setCell (by simp; omega) _, ⟨cs (cs (kc x0 b2) ne1) ne1, cs (cs (kc x1 b2) ne1) ne1⟩, ⟨cs (cs (kc y0 b2) (by simp)) (by simp), cs (cs (kc y1 b2) (by simp)) (by simp)⟩, by simp [go_sem, u0], by simp [go_sem, u1], fs (fs u2), fs (fs u3)⟩
      case measure => simp [intOf]; omega
    · obtain ⟨e1, e2, e3⟩ := sh_eq A0 hW hX ik ht
      subst e1 e2 e3
      clear hW
      have hlast : (i < 130 ∧ i < k ∧ xb = false) ∨ (i < 130 ∧ ¬ i < k) ∨ ¬ i < 130 := by
        by_cases p : i < 130
        · by_cases q : i < k
          · left; refine ⟨p, q, ?_⟩; cases xb
            · rfl
            · exact absurd ⟨p, q, rfl⟩ ht
          · exact .inr (.inl ⟨p, q⟩)
        · exact .inr (.inr p)
      clear ht
      have hback : xb = true → (k = 0 → Is (wv XH XL * 2 ^ 0) ah al true) ∧ (1 ≤ k → Is (wv XH XL / 2 ^ k) ah al true) := by
        intro hb
        subst hb
        constructor
        · intro hk; subst hk; exact is_of a b (by rw [hX.yes rfl]; simp)
        · intro hk; exact is_of a b (by rw [hX.yes rfl, Int.mul_ediv_cancel _ (by have := pow2_pos k; omega)])
      rcases hlast with ⟨p, q, r⟩ | ⟨p, q⟩ | p
      · subst r
        go_wp2
        go_loop [10] (fun iv => iv = .int .i64 0) (fun _ => 0)
        case atStart => rfl
        case round =>
          subst hrel
          go_wp2
          go_ret
          exact ⟨rfl, D⟩
      · go_wp2
        go_loop [10] (fun iv => iv = .int .i64 0) (fun _ => 0)
        case atStart => rfl
        case round =>
          subst hrel
          cases xb
          · go_wp2
            go_ret
            exact ⟨rfl, D⟩
          · obtain ⟨hb0, hb1⟩ := hback rfl
            clear hback
            by_cases h200 : 200 < k
            · exfalso; omega
            · by_cases hk : k = 0
              · have hZ := hb0 hk
                clear hb0 hb1
                subst hk
                go_wp2_with (go_at_call 23; refine (wshl (k := 0) hX.h hX.l (by decide) hZ).mono ?_; rintro e w2 ⟨rfl, b2⟩; have v0 := kc x0 b2; have v1 := kc x1 b2)
                go_ret
                exact ⟨rfl, ba (bt D b2) _⟩
              · have hZ := hb1 (by omega)
                clear hb0 hb1
                go_wp2_with (go_at_call 23; with_reducible refine (wshr (k := k) hX.h hX.l (by omega) (by omega) hZ).mono ?_; rintro e w2 ⟨rfl, b2⟩; have v0 := kc x0 b2; have v1 := kc x1 b2)
                go_ret
                exact ⟨rfl, ba (bt D b2) _⟩
      · go_wp2
        go_loop [10] (fun iv => iv = .int .i64 0) (fun _ => 0)
        case atStart => rfl
        case round =>
          subst hrel
          cases xb
          · go_wp2
            go_ret
            exact ⟨rfl, D⟩
          · obtain ⟨hb0, hb1⟩ := hback rfl
            clear hback
            by_cases h200 : 200 < k
            · go_wp2
              go_ret
              exact ⟨rfl, D⟩
            · by_cases hk : k = 0
              · exfalso; omega
              · have hZ := hb1 (by omega)
                clear hb0 hb1
                go_wp2_with (go_at_call 23; with_reducible refine (wshr (k := k) hX.h hX.l (by omega) (by omega) hZ).mono ?_; rintro e w2 ⟨rfl, b2⟩; have v0 := kc x0 b2; have v1 := kc x1 b2)
                go_ret
                exact ⟨rfl, ba (bt D b2) _⟩
theorem shifts_any {ah al n : Int} (w : World) (a : Word ah) (b : Word al) (h1 : -9223372036854775808 ≤ n) (h2 : n ≤ 9223372036854775807) :
    Calls Try.prog 5 #[.agg #[.int .u64 ah, .int .u64 al], .int .i64 n] w fun e w' => e = .returned (.bool true) ∧ Below w.heap.size w w' := by
  by_cases h : n < 0
  · obtain ⟨k, rfl⟩ : ∃ k : Nat, n = -(k : Int) := ⟨(-n).toNat, by omega⟩
    exact shifts_neg w a b (by omega) (by omega)
  · obtain ⟨k, rfl⟩ : ∃ k : Nat, n = (k : Int) := ⟨n.toNat, by omega⟩
    exact shifts_pos w a b (by omega)
end Go.Proofs.Ytakdkoocbekbgaa
