/- What package wide answers of sums, differences, products and order, at every number of 128 bits. -/
import Derived.Test.YtilnchlnlnpkfaaDoorMul
import Derived.Below
namespace Go.Proofs.YtilnchlnlnpkfaaDoor
open Go.ChangeShapes Go.WideShapes Go.ChangeAt Go.RowKit
set_option maxRecDepth 100000

/-- A number of 64 bits. -/
structure Word (x : Int) : Prop where
  lo : 0 ≤ x
  hi : x < 18446744073709551616
theorem bcell {W w1 : World} (hb : Below W.heap.size W w1) : (∀ b o, b < W.heap.size → w1.cell? ⟨b, o, none⟩ = W.cell? ⟨b, o, none⟩) ∧ (∀ b o, b < W.heap.size → w1.frozen? ⟨b, o, none⟩ = W.frozen? ⟨b, o, none⟩) :=
  ⟨fun b o h => hb.cell (p := ⟨b, o, none⟩) h, fun b o h => hb.frozen (p := ⟨b, o, none⟩) h⟩
theorem ba {W w : World} (h : Below W.heap.size W w) (o : Obj) : Below W.heap.size W (w.alloc o) := h.alloc h.size o
theorem bt {W w w1 : World} (h : Below W.heap.size W w) (hb : Below w.heap.size w w1) : Below W.heap.size W w1 := h.trans (hb.mono h.size)
theorem halves (n : Int) (h0 : 0 ≤ n) (h1 : n < 340282366920938463463374607431768211456) : ∃ H L : Int, Word H ∧ Word L ∧ n = H * 18446744073709551616 + L :=
  ⟨n / 18446744073709551616, n % 18446744073709551616, ⟨by omega, by omega⟩, ⟨by omega, by omega⟩, by omega⟩
theorem mul_range {x y : Int} (hx : Word x) (hy : Word y) : 0 ≤ x * y ∧ x * y ≤ 18446744073709551615 * 18446744073709551615 :=
  ⟨Int.mul_nonneg hx.lo hy.lo, Int.mul_le_mul (by have := hx.hi; omega) (by have := hy.hi; omega) hy.lo (by decide)⟩
/-- -1, 0 or 1. -/
def cmpI (a b : Int) : Int := if a < b then -1 else if b < a then 1 else 0
end Go.Proofs.YtilnchlnlnpkfaaDoor
