/- What the document's product of two numbers (lists of digits) is, and the document's Mul of two integers. -/
import Derived.Test.YtjhekemgcmhjoabDoorBig2
import Derived.Test.YtjhekemgcmhjoabDoorMul
namespace Go.Proofs.YtjhekemgcmhjoabDoor
open Go.ChangeShapes Go.WideShapes Go.ChangeAt Go.RowKit
set_option maxRecDepth 100000

theorem mul_digit (x y c : Int) (x0 : 0 ≤ x) (x1 : x ≤ 65535) (y0 : 0 ≤ y) (y1 : y ≤ 65535) (c0 : 0 ≤ c) (c1 : c ≤ 65535) : 0 ≤ x * y ∧ x * y ≤ 4294836225 ∧ 0 ≤ x * y + c ∧ x * y + c ≤ 4294901760 := by
  have h1 := Int.mul_nonneg x0 y0
  have h2 := Int.mul_le_mul x1 y1 y0 (by omega : (0 : Int) ≤ 65535)
  omega
theorem row_rel {ps zs : List Int} {i j : Nat} {x c p : Int} {B : Nat} {w wr w1 : World} {o : Obj} {ov v' : Value} (hp : p = x * ps.getD j 0 + c) (dp : Digs ps) (x0 : 0 ≤ x) (x1 : x ≤ 65535) (c0 : 0 ≤ c) (c1 : c ≤ 65535) (hlen : zs.length = i + j) (hdz : Digs zs)
    (hown : wr.ownsRow B 157 1 ov (i + j) (zs.map (Value.int .u32))) (HV : Hid (val zs + c * pw (i + j) = x * val (ps.take j) * pw i)) (hbel : Below B w wr) (hB : B ≤ wr.heap.size)
    (hown' : w1.ownsRow B 157 1 v' (i + j + 1) (zs.map (Value.int .u32) ++ [.int .u32 (p % 65536)])) (hgrow : (wr.alloc o).grownBy w1 ov.ownBlock) :
    (0 ≤ p / 65536 ∧ p / 65536 ≤ 65535) ∧ (zs ++ [p % 65536]).length = i + (j + 1) ∧ Digs (zs ++ [p % 65536]) ∧ w1.ownsRow B 157 1 v' (i + (j + 1)) ((zs ++ [p % 65536]).map (Value.int .u32)) ∧
      Hid (val (zs ++ [p % 65536]) + p / 65536 * pw (i + (j + 1)) = x * val (ps.take (j + 1)) * pw i) ∧ Below B w w1 ∧ B ≤ w1.heap.size := by
  have h1 := dp.at j
  have h2 := mul_digit x (ps.getD j 0) c x0 x1 h1.1 h1.2 c0 c1
  have hs := hgrow.size
  simp at hs
  refine ⟨by omega, by simp [hlen]; omega, hdz.snoc (by omega) (by omega), by simpa [Nat.add_assoc] using hown', ?_, ?_, by omega⟩
  · have := times_round zs ps i j x c hlen HV.out
    rw [← hp] at this
    exact this
  · exact (hbel.alloc hB _).grown hgrow (by simp; omega) (fun k hk => (hown.lt k hk).1)
end Go.Proofs.YtjhekemgcmhjoabDoor
