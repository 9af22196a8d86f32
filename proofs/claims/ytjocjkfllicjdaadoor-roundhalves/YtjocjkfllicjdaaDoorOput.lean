/- An entry's bytes: putAll, Put. -/
import Derived.Test.YtjocjkfllicjdaaDoorOcheck2
import Derived.Test.YtjocjkfllicjdaaDoorPiece
namespace Go.Proofs.YtjocjkfllicjdaaDoor
open Go.ChangeShapes Go.WideShapes Go.ChangeAt Go.RowKit
set_option maxRecDepth 100000
attribute [local go_sem] World.cell?_alloc_some frozen_alloc_some

theorem amt_i64 {x : Int} (h : amt x) : 0 ≤ x ∧ x ≤ 9223372036854775807 := ⟨h.1, by have := h.2; omega⟩
theorem encL_take {xs : List Int} {j : Nat} {x : Int} (h : xs[j]? = some x) : encL (xs.take (j + 1)) = encL (xs.take j) ++ enc x.toNat := by
  rw [List.take_add_one, h, encL_append]
  simp [encL_cons, encL_nil]
theorem encL_take_len {xs : List Int} (hx : ∀ x ∈ xs, 0 ≤ x ∧ x ≤ 9223372036854775807) (j : Nat) : (encL (xs.take j)).length ≤ 9 * xs.length := by
  have := encL_len (xs.take j) (fun n hn => (hx n (List.mem_of_mem_take hn)).2)
  rw [List.length_take] at this
  omega
abbrev oE (e : En) (tv : Value) : Obj := .cells #[.int .i64 e.cl, .int .i64 e.nu, .int .i64 e.ki, .int .i64 e.id, .int .i64 e.sk, .int .i64 e.sq, .int .i64 e.st, .int .i64 e.po, tv, .int .i64 e.tm] 28
theorem bb {B : Nat} {w w1 w2 : World} (h : Below B w w1) (hb : Below B w1 w2) : Below B w w2 := h.trans hb
theorem nums_take {e : En} {j : Nat} {x : Tk} (hx : e.ts[j]? = some x) : encL (hnum e) ++ enc e.ts.length ++ encL ((e.ts.take (j + 1)).flatMap tnum) = encL (hnum e) ++ enc e.ts.length ++ encL ((e.ts.take j).flatMap tnum) ++ encL (tnum x) := by
  rw [List.take_add_one, hx, List.flatMap_append, encL_append]
  simp
theorem nums_whole (e : En) : encL (hnum e) ++ enc e.ts.length ++ encL (e.ts.flatMap tnum) = bytesE e := by
  simp [bytesE, nums, encL_append, encL_cons]
theorem inF.part {e : En} (h : inF e) (j : Nat) : ((encL (hnum e) ++ enc e.ts.length ++ encL ((e.ts.take j).flatMap tnum)).length : Int) ≤ 1000 := by
  obtain ⟨_, ⟨h8, hh, ht⟩, _⟩ := h
  have l1 := encL_len (hnum e) (fun n hn => by have := (hh n hn).2; omega)
  have l2 := enc_len9 e.ts.length (by omega)
  have l3 := encL_len ((e.ts.take j).flatMap tnum) (fun n hn => by
    obtain ⟨t, hm, hn⟩ := List.mem_flatMap.mp hn
    have := okT_all.mp (ht t (List.mem_of_mem_take hm)) n hn
    have := this.2
    omega)
  rw [tnum_len, List.length_take] at l3
  have l4 : (hnum e).length = 9 := rfl
  simp only [List.length_append]
  omega
end Go.Proofs.YtjocjkfllicjdaaDoor
