/- What the document's Div answers: the quotient and the rest, digit by digit. -/
import Derived.Test.YtakdkoocbekbgaaBits
namespace Go.Proofs.Ytakdkoocbekbgaa
open Go.ChangeShapes Go.WideShapes Go.ChangeAt Go.RowKit
attribute [local go_sem] World.cell?_alloc_some
theorem or_at {a b : Int} {k : Nat} (a0 : 0 ≤ a) (a1 : a < 2 ^ k) (b0 : 0 ≤ b) (b1 : b * 2 ^ k < 18446744073709551616) (hk : k ≤ 64) : bits .or .u64 (b * 2 ^ k) a = b * 2 ^ k + a := by
  obtain ⟨a, rfl⟩ := Int.eq_ofNat_of_zero_le a0
  obtain ⟨b, rfl⟩ := Int.eq_ofNat_of_zero_le b0
  have e : ((b * 2 ^ k : Nat) : Int) = (b : Int) * 2 ^ k := by push_cast; rfl
  have e2 : ((2 ^ k : Nat) : Int) = (2 : Int) ^ k := by push_cast; rfl
  have h64 : 2 ^ k ≤ 2 ^ 64 := Nat.pow_le_pow_right (by decide) hk
  rw [← e] at b1 ⊢
  rw [← e2] at a1
  rw [bits_or_u64_nat (b * 2 ^ k) a (by omega) (by omega)]
  have := Nat.two_pow_add_eq_or_of_lt (show a < 2 ^ k by omega) b
  rw [Nat.mul_comm b, ← this]
  push_cast
  rfl
/-- A digit is set where none was. -/
theorem or_bit {x c : Int} {k : Nat} (hk : k < 64) (w : Word x) (e : x = c * 2 ^ (k + 1)) : bits .or .u64 x (2 ^ k) = x + 2 ^ k ∧ Word (x + 2 ^ k) := by
  have p := pow2_pos k
  have p1 := pow2_pos (k + 1)
  have es : (2 : Int) ^ (k + 1) = 2 ^ k * 2 := Int.pow_succ 2 k
  obtain ⟨u1, u2⟩ := w
  have c0 : 0 ≤ c := by
    refine Int.not_lt.mp fun hn => ?_
    have : c * 2 ^ (k + 1) < 0 := Int.mul_neg_of_neg_of_pos hn p1
    omega
  have hs := pow2_split (k := k + 1) (by omega)
  have h1 : c + 1 ≤ 2 ^ (64 - (k + 1)) := by
    have : c * 2 ^ (k + 1) < 2 ^ (64 - (k + 1)) * 2 ^ (k + 1) := by rw [Int.mul_comm (2 ^ (64 - (k + 1)))]; omega
    have := Int.lt_of_mul_lt_mul_right this (by omega)
    omega
  have h2 : (c + 1) * 2 ^ (k + 1) ≤ 2 ^ (64 - (k + 1)) * 2 ^ (k + 1) := Int.mul_le_mul_of_nonneg_right h1 (by omega)
  have e3 : (c + 1) * 2 ^ (k + 1) = c * 2 ^ (k + 1) + 2 ^ (k + 1) := by grind
  rw [Int.mul_comm (2 ^ (64 - (k + 1)))] at h2
  constructor
  · rw [e, or_at (by omega) (by omega) c0 (by omega) (by omega)]
  · exact ⟨by omega, by omega⟩
/-- Where the division stands with j digits left. -/
structure DivSt (N n : Int) (j : Nat) (QH QL r : Int) : Prop where
  h : Word QH
  l : Word QL
  lo : 0 ≤ r
  hi : r < n
  m : ∃ m, wv QH QL = m * 2 ^ j ∧ N / 2 ^ j = m * n + r
def bitI (n : Int) (k : Nat) : Int := if bitB n k then 1 else 0
theorem half_step (N : Int) (k : Nat) : N / 2 ^ k = 2 * (N / 2 ^ (k + 1)) + bitI N k := by
  rw [Int.pow_succ, ← Int.ediv_ediv_of_nonneg (Int.le_of_lt (pow2_pos k))]
  unfold bitI bitB
  generalize N / 2 ^ k = x
  by_cases h : x % 2 = 1
  · rw [if_pos (by simpa using h)]; omega
  · rw [if_neg (by simpa using h)]; omega
theorem st_start {N n : Int} (h0 : 0 ≤ N) (h1 : N < 340282366920938463463374607431768211456) (n0 : 0 < n) : DivSt N n 128 0 0 0 := by
  refine ⟨word0, word0, by omega, n0, 0, by simp [wv], ?_⟩
  have e : N / 2 ^ 128 = 0 := Int.ediv_eq_zero_of_lt h0 h1
  rw [e]; simp
theorem st_no {N n QH QL r : Int} {k : Nat} (s : DivSt N n (k + 1) QH QL r) (h : 2 * r + bitI N k < n) : DivSt N n k QH QL (2 * r + bitI N k) := by
  obtain ⟨m, h1, h2⟩ := s.m
  have b0 : 0 ≤ bitI N k := by unfold bitI; split <;> omega
  refine ⟨s.h, s.l, by have := s.lo; omega, h, 2 * m, ?_, ?_⟩
  · rw [h1, Int.pow_succ]; grind
  · rw [half_step, h2]; grind
theorem st_lo {N n QH QL r : Int} {k : Nat} (hk : k < 64) (s : DivSt N n (k + 1) QH QL r) (h : n ≤ 2 * r + bitI N k) : bits .or .u64 QL (2 ^ k) = QL + 2 ^ k ∧ DivSt N n k QH (QL + 2 ^ k) (2 * r + bitI N k - n) := by
  obtain ⟨m, h1, h2⟩ := s.m
  have b0 : bitI N k ≤ 1 := by unfold bitI; split <;> omega
  have hs := pow2_split (k := k + 1) (by omega)
  have e : QL = (m - QH * 2 ^ (64 - (k + 1))) * 2 ^ (k + 1) := by
    unfold wv at h1
    rw [← hs] at h1
    generalize (2 : Int) ^ (k + 1) = p at *
    generalize (2 : Int) ^ (64 - (k + 1)) = q at *
    grind
  obtain ⟨e1, e2⟩ := or_bit hk s.l e
  refine ⟨e1, s.h, e2, by omega, by have := s.hi; omega, 2 * m + 1, ?_, ?_⟩
  · have : wv QH (QL + 2 ^ k) = wv QH QL + 2 ^ k := by unfold wv; omega
    rw [this, h1, Int.pow_succ]; grind
  · rw [half_step, h2]; grind
theorem st_hi {N n QH QL r : Int} {k : Nat} (hk : k < 64) (s : DivSt N n (64 + k + 1) QH QL r) (h : n ≤ 2 * r + bitI N (64 + k)) : bits .or .u64 QH (2 ^ k) = QH + 2 ^ k ∧ DivSt N n (64 + k) (QH + 2 ^ k) QL (2 * r + bitI N (64 + k) - n) := by
  obtain ⟨m, h1, h2⟩ := s.m
  have b0 : bitI N (64 + k) ≤ 1 := by unfold bitI; split <;> omega
  have hp : (2 : Int) ^ (64 + k + 1) = 18446744073709551616 * 2 ^ (k + 1) := by rw [Nat.add_assoc, Int.pow_add]; rfl
  have e : QH = m * 2 ^ (k + 1) := by
    have := s.l.lo; have := s.l.hi
    unfold wv at h1
    rw [hp] at h1
    have e4 : m * (18446744073709551616 * 2 ^ (k + 1)) = 18446744073709551616 * (m * 2 ^ (k + 1)) := by grind
    rw [e4] at h1
    omega
  obtain ⟨e1, e2⟩ := or_bit hk s.h e
  refine ⟨e1, e2, s.l, by omega, by have := s.hi; omega, 2 * m + 1, ?_, ?_⟩
  · have : wv (QH + 2 ^ k) QL = wv QH QL + 18446744073709551616 * 2 ^ k := by unfold wv; generalize (2 : Int) ^ k = p; omega
    have e5 : (2 : Int) ^ (64 + k) = 18446744073709551616 * 2 ^ k := by rw [Int.pow_add]; rfl
    rw [this, h1, hp, e5, Int.pow_succ]; grind
  · rw [half_step, h2]; grind
theorem st_end {N n QH QL r H L x : Int} (s : DivSt N n 0 QH QL r) (d : DivIs N n H L x) : QH = H ∧ QL = L ∧ r = x := by
  obtain ⟨m, h1, h2⟩ := s.m
  simp at h1 h2
  have n0 : 0 < n := by have := s.lo; have := s.hi; omega
  have h3 : N = wv QH QL * n + r := by rw [h1]; exact h2
  have u1 := div_un n0 h3 s.lo s.hi
  have u2 := div_un n0 d.eq d.lo d.hi
  obtain ⟨e1, e2⟩ := wv_inj s.h s.l d.h d.l (by rw [← u1.1, ← u2.1])
  exact ⟨e1, e2, by rw [← u1.2, ← u2.2]⟩
theorem plus_hid (ps qs : List Int) (va vb : Value) (w : World) (ha : Num w va ps) (hb : Num w vb qs) (la : ps.length ≤ 30000000000000) (lb : qs.length ≤ 30000000000000) :
    Calls Try.prog 31 #[va, vb] w fun e w' => ∃ v ds, e = .returned v ∧ Num w' v ds ∧ Hid (val ds = val ps + val qs) ∧ (ds.length ≤ max ps.length qs.length + 1 ∧ max ps.length qs.length ≤ ds.length) ∧ Below w.heap.size w w' :=
  plus_any ps qs va vb w ha hb la lb
theorem minus_hid (ps qs : List Int) (va vb : Value) (w : World) (ha : Num w va ps) (hb : Num w vb qs) (la : ps.length ≤ 30000000000000) (lb : qs.length ≤ 30000000000000) (hle : val qs ≤ val ps) :
    Calls Try.prog 35 #[va, vb] w fun e w' => ∃ v ds, e = .returned v ∧ Num w' v ds ∧ Hid (val ds = val ps - val qs) ∧ ds.length = max ps.length qs.length ∧ Below w.heap.size w w' :=
  minus_any ps qs va vb w ha hb la lb hle
theorem mkHid {p : Prop} (h : p) : Hid p := h
theorem num_set {w : World} {p : Addr} {v x : Value} {ds : List Int} {q : Int} (h : Num w v ds) (hq : w.cell? p = some (.int .u64 q)) : Num (w.setCell p x) v ds := by
  obtain ⟨hd, a, cap, rfl, hr⟩ := h
  refine ⟨hd, a, cap, rfl, fun h0 => ?_⟩
  obtain ⟨b, off, rfl, hb, hc⟩ := hr h0
  refine ⟨b, off, rfl, by simpa using hb, fun k hk => ?_⟩
  rw [World.cell?_setCell_other]
  · exact hc k hk
  · intro e
    have h1 := hc k hk
    rw [← e, hq] at h1
    simp at h1
theorem fs {w : World} {a p : Addr} {x : Value} (h : w.frozen? a = false) : (w.setCell p x).frozen? a = false := by simp [h]
theorem cs {w : World} {a p : Addr} {v x : Value} (h : w.cell? a = some v) (hn : a.block ≠ p.block) : (w.setCell p x).cell? a = some v := by
  rw [World.cell?_of_block (w := w) (Below.heap_setCell _ p x a.block hn)]; exact h
set_option maxHeartbeats 16000000 in
theorem refDiv {ah al n H L r : Int} {w : World} (a : Word ah) (b : Word al) (hn1 : n < 18446744073709551616) (h : DivIs (wv ah al) n H L r) :
    Calls Try.prog 22 #[.agg #[.int .u64 ah, .int .u64 al], .int .u64 n] w fun e w' => e = .returned (.tuple #[.agg #[.int .u64 H, .int .u64 L], .int .u64 r]) ∧ Below w.heap.size w w' := by
  have n0 : 0 < n := by have := h.lo; have := h.hi; omega
  have hst := st_start (wv_lo a b) (wv_hi a b) n0
  go_enter Try.func22, Try.ntmps22
  go_wp2_with (go_at_call 41; with_reducible refine (of_hid 0 _ (by decide) (by decide)).mono ?_; rintro e w0 ⟨v0, d0, rfl, m0, E0, l0, B0⟩)
  go_loopw [7, 8] (fun rv iv wr => ∃ (j : Nat) (QH QL x : Int) (ds : List Int), iv = .int .i64 ((j : Int) - 1) ∧ j ≤ 128 ∧ DivSt (wv ah al) n j QH QL x ∧ Num wr rv ds ∧ Hid (val ds = x) ∧ ds.length + 2 * j ≤ 260 ∧ Below w.heap.size w wr ∧
      (wr.cell? ⟨w.heap.size, 0, none⟩ = some (.int .u64 ah) ∧ wr.cell? ⟨w.heap.size, 1, none⟩ = some (.int .u64 al)) ∧ (wr.cell? ⟨w.heap.size + 1, 0, none⟩ = some (.int .u64 0) ∧ wr.cell? ⟨w.heap.size + 1, 1, none⟩ = some (.int .u64 0) ∧ wr.frozen? ⟨w.heap.size + 1, 0, none⟩ = false ∧ wr.frozen? ⟨w.heap.size + 1, 1, none⟩ = false) ∧
      (wr.cell? ⟨w.heap.size + 2, 0, none⟩ = some (.int .u64 QH) ∧ wr.cell? ⟨w.heap.size + 2, 1, none⟩ = some (.int .u64 QL) ∧ wr.frozen? ⟨w.heap.size + 2, 0, none⟩ = false ∧ wr.frozen? ⟨w.heap.size + 2, 1, none⟩ = false)) (fun _ iv _ => (intOf iv + 1).toNat)
  case atStart =>
    refine ⟨128, 0, 0, 0, d0, rfl, by omega, hst, m0, E0, by omega, bt (ba (ba (ba (Below.refl _ _) _) _) _) B0, ⟨kc (by simp [go_sem]) B0, kc (by simp [go_sem]) B0⟩, ⟨kc (by simp [go_sem]) B0, kc (by simp [go_sem]) B0, kf (v := .int .u64 0) (by simp [go_sem]) B0 (by simp [go_sem]), kf (v := .int .u64 0) (by simp [go_sem]) B0 (by simp [go_sem])⟩, kc (by simp [go_sem]) B0, kc (by simp [go_sem]) B0, kf (v := .int .u64 0) (by simp [go_sem]) B0 (by simp [go_sem]), kf (v := .int .u64 0) (by simp [go_sem]) B0 (by simp [go_sem])⟩
  case round =>
    obtain ⟨j, QH, QL, x, ds, rfl, hj, st, hnum, EX, hlen, hbel, ⟨c0, c1⟩, ⟨t0, t1, t2, t3⟩, q0, q1, q2, q3⟩ := hrel
    clear B0 E0 l0 m0 hst
    by_cases hz : j = 0
    · subst hz
      obtain ⟨rfl, rfl, rfl⟩ := st_end st h
      have HR : Hid (x = val ds) := EX.out.symm
      have hx := h.hi
      go_wp2_with (go_at_call 43; refine (fits_yes hnum HR (by omega) (by omega)).mono ?_; rintro e wx ⟨rfl, hw⟩; rw [hw]; clear hw)
      exact bodyPost_ret (v := .tuple #[.agg #[.int .u64 QH, .int .u64 QL], .int .u64 x]) (by simp [results, Try.results22, go_sem, t0, t1]) rfl ⟨rfl, (hbel.setCell (by simp) _).setCell (by simp) _⟩
    · obtain ⟨k, rfl⟩ : ∃ k, j = k + 1 := ⟨j - 1, by omega⟩
      have ek : ((k + 1 : Nat) : Int) - 1 = (k : Int) := by omega
      rw [ek]
      by_cases h64 : k < 64
      · have eW : IntKind.u64.wrap (2 ^ k) = 2 ^ k := by rw [IntKind.wrap_u64]; have := pow2_pos k; have := pow2_le (show k ≤ 63 by omega); omega
        cases hb : bitB (wv ah al) k
        · have HB : Hid (bitB (wv ah al) k = false) := hb
          have eb : bitI (wv ah al) k = 0 := by unfold bitI; rw [hb]; rfl
          by_cases hlt : 2 * x < n
          · have HL : Hid (decide (2 * x < n) = true) := decide_eq_true hlt
            have ST := st_no st (by rw [eb]; omega)
            rw [eb] at ST
            rw [Int.add_zero] at ST
            clear hb eb st hlt
            go_wp2_with (first
              | (go_at_call 31; with_reducible refine (plus_hid ds ds _ _ _ hnum hnum (by omega) (by omega)).mono ?_; rintro e w1 ⟨v1, d1, rfl, n1, E1, l1, b1⟩; have x0 := kc c0 b1; have x1 := kc c1 b1)
              | (go_at_call 38; refine (refBit (i := k) a b rfl (by omega) HB).mono ?_; rintro e w2 ⟨rfl, b2⟩; have n2 := n1.later b2; have F4 : Hid (val d1 = 2 * x) := mkHid (by rw [E1.out, EX.out]; omega))
              | (go_at_call 41; with_reducible refine (of_hid n _ (by omega) hn1).mono ?_; rintro e w5 ⟨v5, d5, rfl, n5, E5, l5, b5⟩)
              | (go_at_call 34; refine (less_is F4 E5 HL (n2.later b5) n5 (by omega) (by omega)).mono ?_; rintro e wx ⟨rfl, hw⟩; rw [hw]; clear hw))
            go_roundw
            case rel =>
              have T := bt (bt b1 b2) b5
              exact ⟨k, QH, QL, _, d1, rfl, by omega, ST, n2.later b5, F4, by omega, bt hbel T, ⟨kc c0 T, kc c1 T⟩, ⟨kc t0 T, kc t1 T, kf t0 T t2, kf t1 T t3⟩, kc q0 T, kc q1 T, kf q0 T q2, kf q1 T q3⟩
            case measure => (first | (simp [intOf]; done) | (simp [intOf]; omega))
          · have HL : Hid (decide (2 * x < n) = false) := decide_eq_false hlt
            obtain ⟨eO, ST⟩ := st_lo (k := k) (by omega) st (by rw [eb]; omega)
            rw [eb] at ST
            rw [Int.add_zero] at ST
            clear hb eb st
            go_wp2_with (first
              | (go_at_call 31; with_reducible refine (plus_hid ds ds _ _ _ hnum hnum (by omega) (by omega)).mono ?_; rintro e w1 ⟨v1, d1, rfl, n1, E1, l1, b1⟩; have x0 := kc c0 b1; have x1 := kc c1 b1)
              | (go_at_call 38; refine (refBit (i := k) a b rfl (by omega) HB).mono ?_; rintro e w2 ⟨rfl, b2⟩; have n2 := n1.later b2; have F4 : Hid (val d1 = 2 * x) := mkHid (by rw [E1.out, EX.out]; omega))
              | (go_at_call 41; with_reducible refine (of_hid n _ (by omega) hn1).mono ?_; rintro e w6 ⟨v6, d6, rfl, n6, E6, l6, b6⟩; have n46 := (n2.later b5).later b6)
              | (go_at_call 41; with_reducible refine (of_hid n _ (by omega) hn1).mono ?_; rintro e w5 ⟨v5, d5, rfl, n5, E5, l5, b5⟩)
              | (go_at_call 34; refine (less_is F4 E5 HL (n2.later b5) n5 (by omega) (by omega)).mono ?_; rintro e wx ⟨rfl, hw⟩; rw [hw]; clear hw)
              | (go_at_call 35; refine (minus_hid d1 d6 _ _ _ n46 n6 (by omega) (by omega) (by rw [F4.out, E6.out]; omega)).mono ?_; rintro e w7 ⟨v7, d7, rfl, n7, E7, l7, b7⟩; have T := bt (bt (bt (bt b1 b2) b5) b6) b7; have u0 := kc q0 T; have u1 := kc q1 T; have u2 := kf q0 T q2; have u3 := kf q1 T q3; have F7 : Hid (val d7 = (2 * x) - n) := mkHid (by rw [E7.out, F4.out, E6.out])))
            go_roundw
            case rel =>
              exact ⟨k, QH, (QL + 2 ^ k), _, d7, rfl, by omega, ST, num_set n7 u1, F7, by omega, (bt hbel T).setCell (by simp; omega) _, ⟨cs (kc c0 T) (by simp; omega), cs (kc c1 T) (by simp; omega)⟩, ⟨cs (kc t0 T) (by simp), cs (kc t1 T) (by simp), fs (kf t0 T t2), fs (kf t1 T t3)⟩, by simp [go_sem, u0], by simp [go_sem, u1], fs u2, fs u3⟩
            case measure => (first | (simp [intOf]; done) | (simp [intOf]; omega))
        · have HB : Hid (bitB (wv ah al) k = true) := hb
          have eb : bitI (wv ah al) k = 1 := by unfold bitI; rw [hb]; rfl
          by_cases hlt : 2 * x + 1 < n
          · have HL : Hid (decide (2 * x + 1 < n) = true) := decide_eq_true hlt
            have ST := st_no st (by rw [eb]; omega)
            rw [eb] at ST
            clear hb eb st hlt
            go_wp2_with (first
              | (go_at_call 31; with_reducible refine (plus_hid ds ds _ _ _ hnum hnum (by omega) (by omega)).mono ?_; rintro e w1 ⟨v1, d1, rfl, n1, E1, l1, b1⟩; have x0 := kc c0 b1; have x1 := kc c1 b1)
              | (go_at_call 38; refine (refBit (i := k) a b rfl (by omega) HB).mono ?_; rintro e w2 ⟨rfl, b2⟩; have n2 := n1.later b2)
              | (go_at_call 41; with_reducible refine (of_hid 1 _ (by decide) (by decide)).mono ?_; rintro e w3 ⟨v3, d3, rfl, n3, E3, l3, b3⟩)
              | (go_at_call 31; with_reducible refine (plus_hid d1 d3 _ _ _ (n2.later b3) n3 (by omega) (by omega)).mono ?_; rintro e w4 ⟨v4, d4, rfl, n4, E4, l4, b4⟩; have F4 : Hid (val d4 = 2 * x + 1) := mkHid (by rw [E4.out, E1.out, E3.out, EX.out]; omega))
              | (go_at_call 41; with_reducible refine (of_hid n _ (by omega) hn1).mono ?_; rintro e w5 ⟨v5, d5, rfl, n5, E5, l5, b5⟩)
              | (go_at_call 34; refine (less_is F4 E5 HL (n4.later b5) n5 (by omega) (by omega)).mono ?_; rintro e wx ⟨rfl, hw⟩; rw [hw]; clear hw))
            go_roundw
            case rel =>
              have T := bt (bt (bt (bt b1 b2) b3) b4) b5
              exact ⟨k, QH, QL, _, d4, rfl, by omega, ST, n4.later b5, F4, by omega, bt hbel T, ⟨kc c0 T, kc c1 T⟩, ⟨kc t0 T, kc t1 T, kf t0 T t2, kf t1 T t3⟩, kc q0 T, kc q1 T, kf q0 T q2, kf q1 T q3⟩
            case measure => (first | (simp [intOf]; done) | (simp [intOf]; omega))
          · have HL : Hid (decide (2 * x + 1 < n) = false) := decide_eq_false hlt
            obtain ⟨eO, ST⟩ := st_lo (k := k) (by omega) st (by rw [eb]; omega)
            rw [eb] at ST
            clear hb eb st
            go_wp2_with (first
              | (go_at_call 31; with_reducible refine (plus_hid ds ds _ _ _ hnum hnum (by omega) (by omega)).mono ?_; rintro e w1 ⟨v1, d1, rfl, n1, E1, l1, b1⟩; have x0 := kc c0 b1; have x1 := kc c1 b1)
              | (go_at_call 38; refine (refBit (i := k) a b rfl (by omega) HB).mono ?_; rintro e w2 ⟨rfl, b2⟩; have n2 := n1.later b2)
              | (go_at_call 41; with_reducible refine (of_hid 1 _ (by decide) (by decide)).mono ?_; rintro e w3 ⟨v3, d3, rfl, n3, E3, l3, b3⟩)
              | (go_at_call 31; with_reducible refine (plus_hid d1 d3 _ _ _ (n2.later b3) n3 (by omega) (by omega)).mono ?_; rintro e w4 ⟨v4, d4, rfl, n4, E4, l4, b4⟩; have F4 : Hid (val d4 = 2 * x + 1) := mkHid (by rw [E4.out, E1.out, E3.out, EX.out]; omega))
              | (go_at_call 41; with_reducible refine (of_hid n _ (by omega) hn1).mono ?_; rintro e w6 ⟨v6, d6, rfl, n6, E6, l6, b6⟩; have n46 := (n4.later b5).later b6)
              | (go_at_call 41; with_reducible refine (of_hid n _ (by omega) hn1).mono ?_; rintro e w5 ⟨v5, d5, rfl, n5, E5, l5, b5⟩)
              | (go_at_call 34; refine (less_is F4 E5 HL (n4.later b5) n5 (by omega) (by omega)).mono ?_; rintro e wx ⟨rfl, hw⟩; rw [hw]; clear hw)
              | (go_at_call 35; refine (minus_hid d4 d6 _ _ _ n46 n6 (by omega) (by omega) (by rw [F4.out, E6.out]; omega)).mono ?_; rintro e w7 ⟨v7, d7, rfl, n7, E7, l7, b7⟩; have T := bt (bt (bt (bt (bt (bt b1 b2) b3) b4) b5) b6) b7; have u0 := kc q0 T; have u1 := kc q1 T; have u2 := kf q0 T q2; have u3 := kf q1 T q3; have F7 : Hid (val d7 = (2 * x + 1) - n) := mkHid (by rw [E7.out, F4.out, E6.out])))
            go_roundw
            case rel =>
              exact ⟨k, QH, (QL + 2 ^ k), _, d7, rfl, by omega, ST, num_set n7 u1, F7, by omega, (bt hbel T).setCell (by simp; omega) _, ⟨cs (kc c0 T) (by simp; omega), cs (kc c1 T) (by simp; omega)⟩, ⟨cs (kc t0 T) (by simp), cs (kc t1 T) (by simp), fs (kf t0 T t2), fs (kf t1 T t3)⟩, by simp [go_sem, u0], by simp [go_sem, u1], fs u2, fs u3⟩
            case measure => (first | (simp [intOf]; done) | (simp [intOf]; omega))
      · obtain ⟨k, rfl⟩ : ∃ i, k = 64 + i := ⟨k - 64, by omega⟩
        have eW : IntKind.u64.wrap (2 ^ k) = 2 ^ k := by rw [IntKind.wrap_u64]; have := pow2_pos k; have := pow2_le (show k ≤ 63 by omega); omega
        cases hb : bitB (wv ah al) (64 + k)
        · have HB : Hid (bitB (wv ah al) (64 + k) = false) := hb
          have eb : bitI (wv ah al) (64 + k) = 0 := by unfold bitI; rw [hb]; rfl
          by_cases hlt : 2 * x < n
          · have HL : Hid (decide (2 * x < n) = true) := decide_eq_true hlt
            have ST := st_no st (by rw [eb]; omega)
            rw [eb] at ST
            rw [Int.add_zero] at ST
            clear hb eb st hlt
            go_wp2_with (first
              | (go_at_call 31; with_reducible refine (plus_hid ds ds _ _ _ hnum hnum (by omega) (by omega)).mono ?_; rintro e w1 ⟨v1, d1, rfl, n1, E1, l1, b1⟩; have x0 := kc c0 b1; have x1 := kc c1 b1)
              | (go_at_call 38; refine (refBit (i := (64 + k)) a b rfl (by omega) HB).mono ?_; rintro e w2 ⟨rfl, b2⟩; have n2 := n1.later b2; have F4 : Hid (val d1 = 2 * x) := mkHid (by rw [E1.out, EX.out]; omega))
              | (go_at_call 41; with_reducible refine (of_hid n _ (by omega) hn1).mono ?_; rintro e w5 ⟨v5, d5, rfl, n5, E5, l5, b5⟩)
              | (go_at_call 34; refine (less_is F4 E5 HL (n2.later b5) n5 (by omega) (by omega)).mono ?_; rintro e wx ⟨rfl, hw⟩; rw [hw]; clear hw))
            go_roundw
            case rel =>
              have T := bt (bt b1 b2) b5
              exact ⟨(64 + k), QH, QL, _, d1, rfl, by omega, ST, n2.later b5, F4, by omega, bt hbel T, ⟨kc c0 T, kc c1 T⟩, ⟨kc t0 T, kc t1 T, kf t0 T t2, kf t1 T t3⟩, kc q0 T, kc q1 T, kf q0 T q2, kf q1 T q3⟩
            case measure => (first | (simp [intOf]; done) | (simp [intOf]; omega))
          · have HL : Hid (decide (2 * x < n) = false) := decide_eq_false hlt
            obtain ⟨eO, ST⟩ := st_hi (k := k) (by omega) st (by rw [eb]; omega)
            rw [eb] at ST
            rw [Int.add_zero] at ST
            clear hb eb st
            go_wp2_with (first
              | (go_at_call 31; with_reducible refine (plus_hid ds ds _ _ _ hnum hnum (by omega) (by omega)).mono ?_; rintro e w1 ⟨v1, d1, rfl, n1, E1, l1, b1⟩; have x0 := kc c0 b1; have x1 := kc c1 b1)
              | (go_at_call 38; refine (refBit (i := (64 + k)) a b rfl (by omega) HB).mono ?_; rintro e w2 ⟨rfl, b2⟩; have n2 := n1.later b2; have F4 : Hid (val d1 = 2 * x) := mkHid (by rw [E1.out, EX.out]; omega))
              | (go_at_call 41; with_reducible refine (of_hid n _ (by omega) hn1).mono ?_; rintro e w6 ⟨v6, d6, rfl, n6, E6, l6, b6⟩; have n46 := (n2.later b5).later b6)
              | (go_at_call 41; with_reducible refine (of_hid n _ (by omega) hn1).mono ?_; rintro e w5 ⟨v5, d5, rfl, n5, E5, l5, b5⟩)
              | (go_at_call 34; refine (less_is F4 E5 HL (n2.later b5) n5 (by omega) (by omega)).mono ?_; rintro e wx ⟨rfl, hw⟩; rw [hw]; clear hw)
              | (go_at_call 35; refine (minus_hid d1 d6 _ _ _ n46 n6 (by omega) (by omega) (by rw [F4.out, E6.out]; omega)).mono ?_; rintro e w7 ⟨v7, d7, rfl, n7, E7, l7, b7⟩; have T := bt (bt (bt (bt b1 b2) b5) b6) b7; have u0 := kc q0 T; have u1 := kc q1 T; have u2 := kf q0 T q2; have u3 := kf q1 T q3; have F7 : Hid (val d7 = (2 * x) - n) := mkHid (by rw [E7.out, F4.out, E6.out])))
            go_roundw
            case rel =>
              exact ⟨(64 + k), (QH + 2 ^ k), QL, _, d7, rfl, by omega, ST, num_set n7 u0, F7, by omega, (bt hbel T).setCell (by simp; omega) _, ⟨cs (kc c0 T) (by simp; omega), cs (kc c1 T) (by simp; omega)⟩, ⟨cs (kc t0 T) (by simp), cs (kc t1 T) (by simp), fs (kf t0 T t2), fs (kf t1 T t3)⟩, by simp [go_sem, u0], by simp [go_sem, u1], fs u2, fs u3⟩
            case measure => (first | (simp [intOf]; done) | (simp [intOf]; omega))
        · have HB : Hid (bitB (wv ah al) (64 + k) = true) := hb
          have eb : bitI (wv ah al) (64 + k) = 1 := by unfold bitI; rw [hb]; rfl
          by_cases hlt : 2 * x + 1 < n
          · have HL : Hid (decide (2 * x + 1 < n) = true) := decide_eq_true hlt
            have ST := st_no st (by rw [eb]; omega)
            rw [eb] at ST
            clear hb eb st hlt
            go_wp2_with (first
              | (go_at_call 31; with_reducible refine (plus_hid ds ds _ _ _ hnum hnum (by omega) (by omega)).mono ?_; rintro e w1 ⟨v1, d1, rfl, n1, E1, l1, b1⟩; have x0 := kc c0 b1; have x1 := kc c1 b1)
              | (go_at_call 38; refine (refBit (i := (64 + k)) a b rfl (by omega) HB).mono ?_; rintro e w2 ⟨rfl, b2⟩; have n2 := n1.later b2)
              | (go_at_call 41; with_reducible refine (of_hid 1 _ (by decide) (by decide)).mono ?_; rintro e w3 ⟨v3, d3, rfl, n3, E3, l3, b3⟩)
              | (go_at_call 31; with_reducible refine (plus_hid d1 d3 _ _ _ (n2.later b3) n3 (by omega) (by omega)).mono ?_; rintro e w4 ⟨v4, d4, rfl, n4, E4, l4, b4⟩; have F4 : Hid (val d4 = 2 * x + 1) := mkHid (by rw [E4.out, E1.out, E3.out, EX.out]; omega))
              | (go_at_call 41; with_reducible refine (of_hid n _ (by omega) hn1).mono ?_; rintro e w5 ⟨v5, d5, rfl, n5, E5, l5, b5⟩)
              | (go_at_call 34; refine (less_is F4 E5 HL (n4.later b5) n5 (by omega) (by omega)).mono ?_; rintro e wx ⟨rfl, hw⟩; rw [hw]; clear hw))
            go_roundw
            case rel =>
              have T := bt (bt (bt (bt b1 b2) b3) b4) b5
              exact ⟨(64 + k), QH, QL, _, d4, rfl, by omega, ST, n4.later b5, F4, by omega, bt hbel T, ⟨kc c0 T, kc c1 T⟩, ⟨kc t0 T, kc t1 T, kf t0 T t2, kf t1 T t3⟩, kc q0 T, kc q1 T, kf q0 T q2, kf q1 T q3⟩
            case measure => (first | (simp [intOf]; done) | (simp [intOf]; omega))
          · have HL : Hid (decide (2 * x + 1 < n) = false) := decide_eq_false hlt
            obtain ⟨eO, ST⟩ := st_hi (k := k) (by omega) st (by rw [eb]; omega)
            rw [eb] at ST
            clear hb eb st
            go_wp2_with (first
              | (go_at_call 31; with_reducible refine (plus_hid ds ds _ _ _ hnum hnum (by omega) (by omega)).mono ?_; rintro e w1 ⟨v1, d1, rfl, n1, E1, l1, b1⟩; have x0 := kc c0 b1; have x1 := kc c1 b1)
              | (go_at_call 38; refine (refBit (i := (64 + k)) a b rfl (by omega) HB).mono ?_; rintro e w2 ⟨rfl, b2⟩; have n2 := n1.later b2)
              | (go_at_call 41; with_reducible refine (of_hid 1 _ (by decide) (by decide)).mono ?_; rintro e w3 ⟨v3, d3, rfl, n3, E3, l3, b3⟩)
              | (go_at_call 31; with_reducible refine (plus_hid d1 d3 _ _ _ (n2.later b3) n3 (by omega) (by omega)).mono ?_; rintro e w4 ⟨v4, d4, rfl, n4, E4, l4, b4⟩; have F4 : Hid (val d4 = 2 * x + 1) := mkHid (by rw [E4.out, E1.out, E3.out, EX.out]; omega))
              | (go_at_call 41; with_reducible refine (of_hid n _ (by omega) hn1).mono ?_; rintro e w6 ⟨v6, d6, rfl, n6, E6, l6, b6⟩; have n46 := (n4.later b5).later b6)
              | (go_at_call 41; with_reducible refine (of_hid n _ (by omega) hn1).mono ?_; rintro e w5 ⟨v5, d5, rfl, n5, E5, l5, b5⟩)
              | (go_at_call 34; refine (less_is F4 E5 HL (n4.later b5) n5 (by omega) (by omega)).mono ?_; rintro e wx ⟨rfl, hw⟩; rw [hw]; clear hw)
              | (go_at_call 35; refine (minus_hid d4 d6 _ _ _ n46 n6 (by omega) (by omega) (by rw [F4.out, E6.out]; omega)).mono ?_; rintro e w7 ⟨v7, d7, rfl, n7, E7, l7, b7⟩; have T := bt (bt (bt (bt (bt (bt b1 b2) b3) b4) b5) b6) b7; have u0 := kc q0 T; have u1 := kc q1 T; have u2 := kf q0 T q2; have u3 := kf q1 T q3; have F7 : Hid (val d7 = (2 * x + 1) - n) := mkHid (by rw [E7.out, F4.out, E6.out])))
            go_roundw
            case rel =>
              exact ⟨(64 + k), (QH + 2 ^ k), QL, _, d7, rfl, by omega, ST, num_set n7 u0, F7, by omega, (bt hbel T).setCell (by simp; omega) _, ⟨cs (kc c0 T) (by simp; omega), cs (kc c1 T) (by simp; omega)⟩, ⟨cs (kc t0 T) (by simp), cs (kc t1 T) (by simp), fs (kf t0 T t2), fs (kf t1 T t3)⟩, by simp [go_sem, u0], by simp [go_sem, u1], fs u2, fs u3⟩
            case measure => (first | (simp [intOf]; done) | (simp [intOf]; omega))
end Go.Proofs.Ytakdkoocbekbgaa
