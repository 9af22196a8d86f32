/- What the document's Add, Sub, Mul, Compare for numbers of 128 bits answer. -/
import Derived.Test.YtjhekemgcmhjoaaGreatDoorRef
namespace Go.Proofs.YtjhekemgcmhjoaaGreatDoor
open Go.ChangeShapes Go.WideShapes Go.ChangeAt Go.RowKit
set_option maxRecDepth 100000

theorem keep4 {W w1 : World} {a0 a1 a2 a3 : Addr} {v0 v1 v2 v3 : Value} (hb : Below W.heap.size W w1) (h : W.cell? a0 = some v0 ∧ W.cell? a1 = some v1 ∧ W.cell? a2 = some v2 ∧ W.cell? a3 = some v3) :
    w1.cell? a0 = some v0 ∧ w1.cell? a1 = some v1 ∧ w1.cell? a2 = some v2 ∧ w1.cell? a3 = some v3 :=
  ⟨kc h.1 hb, kc h.2.1 hb, kc h.2.2.1 hb, kc h.2.2.2 hb⟩
theorem kf {w w1 : World} {a : Addr} {v : Value} (h : w.cell? a = some v) (hb : Below w.heap.size w w1) (f : w.frozen? a = false) : w1.frozen? a = false := by
  rw [hb.frozen (cell_lt h)]; exact f
theorem keep4s {w : World} {a0 a1 a2 a3 p q : Addr} {v0 v1 v2 v3 x y : Value} (h : w.cell? a0 = some v0 ∧ w.cell? a1 = some v1 ∧ w.cell? a2 = some v2 ∧ w.cell? a3 = some v3) (h0 : a0.block ≠ p.block ∧ a1.block ≠ p.block ∧ a2.block ≠ p.block ∧ a3.block ≠ p.block) (h1 : p.block = q.block) :
    ((w.setCell p x).setCell q y).cell? a0 = some v0 ∧ ((w.setCell p x).setCell q y).cell? a1 = some v1 ∧ ((w.setCell p x).setCell q y).cell? a2 = some v2 ∧ ((w.setCell p x).setCell q y).cell? a3 = some v3 := by
  obtain ⟨c0, c1, c2, c3⟩ := h0
  have f : ∀ (a : Addr) (v : Value), a.block ≠ p.block → w.cell? a = some v → ((w.setCell p x).setCell q y).cell? a = some v := by
    intro a v hn hv
    rw [World.cell?_of_block (w := w.setCell p x) (Below.heap_setCell _ q y a.block (by omega)), World.cell?_of_block (w := w) (Below.heap_setCell _ p x a.block hn)]
    exact hv
  exact ⟨f _ _ c0 h.1, f _ _ c1 h.2.1, f _ _ c2 h.2.2.1, f _ _ c3 h.2.2.2⟩
theorem sum_eq {p q r a b : Int} (h : r = p + q) (h1 : Hid (p = a)) (h2 : Hid (q = b)) : r = a + b := by rw [h, h1.out, h2.out]
theorem diff_eq {p q r a b : Int} (h : r = p - q) (h1 : Hid (p = a)) (h2 : Hid (q = b)) : r = a - b := by rw [h, h1.out, h2.out]
theorem less_is {ps qs : List Int} {va vb : Value} {w : World} {x y : Int} {t : Bool} (hx : Hid (val ps = x)) (hy : Hid (val qs = y)) (ht : Hid (decide (x < y) = t)) (ha : Num w va ps) (hb : Num w vb qs) (la : ps.length ≤ 30000000000000) (lb : qs.length ≤ 30000000000000) :
    Calls Tryz.prog 115 #[va, vb] w fun e w' => e = .returned (.bool t) ∧ w' = w := by
  rw [← ht.out, ← hx.out, ← hy.out]
  exact less_any ps qs va vb w ha hb la lb
theorem refMul {ah al n H L : Int} {ok : Bool} {w : World} (a1 : Word ah) (a2 : Word al) (b : Word n) (h : Is (wv ah al * n) H L ok) :
    Calls Tryz.prog 178 #[.agg #[.int .u64 ah, .int .u64 al], .int .u64 n] w fun e w' => e = .returned (.tuple #[.agg #[.int .u64 H, .int .u64 L], .bool ok]) ∧ Below w.heap.size w w' := by
  go_enter Tryz.func178, Tryz.ntmps178
  go_wp2_with (first
      | (go_at_call 114; with_reducible refine (refOf a1 a2).mono ?_; rintro e w1 ⟨v1, d1, rfl, n1, E1, l1, c1⟩)
      | (go_at_call 151; with_reducible refine (of_hid n _ b.lo b.hi).mono ?_; rintro e w2 ⟨v2, d2, rfl, n2, E2, l2, c2⟩)
      | (go_at_call 116; refine (times_any d1 d2 _ _ _ (n1.later c2) n2 (by omega) (by omega)).mono ?_; rintro e w3 ⟨v3, d3, rfl, n3, E3, l3, c3⟩; have E3 : Hid (_ = _) := E3)
      | (go_at_call 177; refine (back_any n3 (by omega) (by omega) (by rw [E3.out, E1.out, E2.out]; exact h)).mono ?_; rintro e w4 ⟨rfl, c4⟩; have T := bt (bt (bt c1 c2) c3) c4; have f0 := kc (a := ⟨w.heap.size + 1, 0, none⟩) (v := .int .u64 0) (by simp [go_sem]) T; have f1 := kc (a := ⟨w.heap.size + 1, 1, none⟩) (v := .int .u64 0) (by simp [go_sem]) T; have f2 := kf (a := ⟨w.heap.size + 1, 0, none⟩) (v := .int .u64 0) (by simp [go_sem]) T (by simp [go_sem]); have f3 := kf (a := ⟨w.heap.size + 1, 1, none⟩) (v := .int .u64 0) (by simp [go_sem]) T (by simp [go_sem]); clear T))
  have T : Below w.heap.size w w4 := bt (bt (bt (bt (ba (ba (Below.refl _ _) _) _) c1) c2) c3) c4
  exact bodyPost_ret (v := .tuple #[.agg #[.int .u64 H, .int .u64 L], .bool ok]) (by simp [results, Tryz.results178, go_sem, f0, f1]) rfl ⟨rfl, (T.setCell (by simp) _).setCell (by simp) _⟩
end Go.Proofs.YtjhekemgcmhjoaaGreatDoor
