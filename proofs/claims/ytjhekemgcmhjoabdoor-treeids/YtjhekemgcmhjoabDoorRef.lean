/- What the document's answers for numbers of 128 bits do: Of, Back, Add, Sub, Mul, Compare. -/
import Derived.Test.YtjhekemgcmhjoabDoorIs
import Derived.Test.YtjhekemgcmhjoabDoorTimes
import Derived.Deep.RegionHeld3
import Derived.Deep.AppendLies
namespace Go.Proofs.YtjhekemgcmhjoabDoor
open Go.ChangeShapes Go.WideShapes Go.ChangeAt Go.RowKit
set_option maxRecDepth 100000

theorem ownsRow_below {w w' : World} {base : Nat} {e : TypeId} {size : Nat} {v : Value} {n : Nat} {xs : List Value} (h : w.ownsRow base e size v n xs) (hb : Below w.heap.size w w') : w'.ownsRow base e size v n xs := by
  refine ⟨h.1, ?_⟩
  rcases h.2 with h' | ⟨g, cap, cur, hv, hg, hh, r⟩
  · exact .inl h'
  · refine .inr ⟨g, cap, cur, hv, hg, ?_, r⟩
    have hlt : g < w.heap.size := by
      refine Nat.not_le.mp fun hn => ?_
      rw [Array.getElem?_eq_none hn] at hh
      cases hh
    rw [hb.block g hlt]; exact hh
theorem keep2 {W w1 : World} {a0 a1 : Addr} {v0 v1 : Value} (hb : Below W.heap.size W w1) (h : W.cell? a0 = some v0 ∧ W.cell? a1 = some v1) : w1.cell? a0 = some v0 ∧ w1.cell? a1 = some v1 :=
  ⟨kc h.1 hb, kc h.2 hb⟩
theorem keep2g {W w1 : World} {a0 a1 : Addr} {v0 v1 : Value} {row : Option Nat} (hb : W.grownBy w1 row) (h : W.cell? a0 = some v0 ∧ W.cell? a1 = some v1) (h0 : row ≠ some a0.block) (h1 : row ≠ some a1.block) : w1.cell? a0 = some v0 ∧ w1.cell? a1 = some v1 := by
  rw [hb.cell_far _ (cell_lt h.1) (Ne.symm h0), hb.cell_far _ (cell_lt h.2) (Ne.symm h1)]
  exact h
theorem ones (ds : List Int) : ∀ u ∈ ds.map (Value.int .u32), u.oneCell' = true := by
  intro u hu
  simp at hu
  obtain ⟨x, _, rfl⟩ := hu
  rfl
theorem back_great (ds : List Int) (hd : Digs ds) (i : Nat) (h8 : 8 ≤ i) (hz : ds.getD i 0 ≠ 0) : 340282366920938463463374607431768211456 ≤ val ds := by
  have h1 := take_le hd (i + 1)
  rw [val_take] at h1
  have h2 := take_nonneg hd i
  have h3 := (hd.at i).1
  have h5 : 1 * pw i ≤ ds.getD i 0 * pw i := Int.mul_le_mul_of_nonneg_right (by omega) (Int.le_of_lt (pw_pos i))
  have h6 := pw_le h8
  have h7 : pw 8 = 340282366920938463463374607431768211456 := rfl
  omega
theorem back_head (ds : List Int) (i : Nat) (hz : ds.getD i 0 = 0) (h : val (ds.take i) = val (ds.take 8)) : val (ds.take (i + 1)) = val (ds.take 8) := by
  rw [val_take, hz, h]; omega
theorem take8 (ds : List Int) (h : 8 ≤ ds.length) : val (ds.take 8) = wv (val ((ds.drop 4).take 4)) (val (ds.take 4)) := by
  have e : ds.take 8 = ds.take 4 ++ (ds.drop 4).take 4 := by rw [← List.take_add]
  have p4 : pw 4 = 18446744073709551616 := rfl
  rw [e, val_append2, List.length_take, Nat.min_eq_left (by omega), p4]
  unfold wv
  omega
theorem getD_take (ds : List Int) (n k : Nat) (h : k < n) : (ds.take n).getD k 0 = ds.getD k 0 := by
  simp [List.getD, h]
theorem getD_drop (ds : List Int) (n k : Nat) : (ds.drop n).getD k 0 = ds.getD (n + k) 0 := by
  simp [List.getD]
end Go.Proofs.YtjhekemgcmhjoabDoor
