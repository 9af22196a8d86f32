/- The document's Put. -/
import Derived.Test.YtjocjkfllicjdaaDoorOled
import Derived.Test.YtjocjkfllicjdaaDoorSrcV
import Derived.Test.YtjocjkfllicjdaaDoorRefNum
namespace Go.Proofs.YtjocjkfllicjdaaDoor
open Go.ChangeShapes Go.WideShapes Go.ChangeAt Go.RowKit
set_option maxRecDepth 100000
attribute [local go_sem] World.cell?_alloc_some frozen_alloc_some

theorem info_int : (Tryd.prog.info? 3).map (fun i => (i.zero, i.size, i.bytes)) = some (some (.int .i64 0), 1, 8) := by kernel_rfl
theorem src_ints (w : World) (xs : List Int) (cs : Array Value) (n : Nat) (hn : xs.length = n) (h : cs = (xs.map (Value.int .i64)).toArray) : Src Tryd.prog 1 54 (.slice (some ⟨w.heap.size, 0, none⟩) n n) n (xs.map (Value.int .i64)) (w.alloc (.cells cs 3)) := by
  refine Src.ofSlice _ Tryd.underlying54 _ n n _ (by simp [hn]) (fun j u hj => ?_) (fun u hu => by obtain ⟨x, _, rfl⟩ := List.mem_map.mp hu; rfl)
  rw [add_none]
  refine cell_of_block (heap_alloc_new w (.cells cs 3)) ?_
  rw [h, Nat.zero_add]
  simpa using hj
theorem row_of_owns {w : World} {base n : Nat} {v : Value} {xs : List Int} (hn : 0 < n) (h : w.ownsRow base 3 1 v n (xs.map (Value.int .i64))) : ∃ g cap, v = .slice (some ⟨g, 0, none⟩) n cap ∧ Row w g 0 xs := by
  rcases h.2 with ⟨_, h0⟩ | ⟨g, cap, cur, rfl, _⟩
  · omega
  · refine ⟨g, cap, rfl, fun i x hx => ?_⟩
    have := h.cells (g := g) rfl i (.int .i64 x) (by simp [hx])
    rw [add_none] at this
    exact this
theorem owns_full (w : World) (base : Nat) (e : TypeId) (size n : Nat) (cs : Array Value) (hb : base ≤ w.heap.size) (hm : n ≤ maxLen) (hs : cs.size = n * size) : (w.alloc (.cells cs e)).ownsRow base e size (.slice (some ⟨w.heap.size, 0, none⟩) n n) n cs.toList :=
  ⟨by simpa using hs, .inr ⟨w.heap.size, n, cs, rfl, hb, heap_alloc_new w _, Nat.le_refl _, hm, hs, by rw [List.take_of_length_le]; simp [hs]⟩⟩
theorem nums_j {e : En} {j : Nat} {x : Tk} (hx : e.ts[j]? = some x) : (hnum e ++ ((e.ts.length : Int) :: (e.ts.take (j + 1)).flatMap tnum)).map (Value.int .i64) = (hnum e ++ ((e.ts.length : Int) :: (e.ts.take j).flatMap tnum)).map (Value.int .i64) ++ (tnum x).map (Value.int .i64) := by
  rw [List.take_add_one, hx]
  simp
theorem nums_jl (e : En) (j : Nat) (hj : j ≤ e.ts.length) : (hnum e ++ ((e.ts.length : Int) :: (e.ts.take j).flatMap tnum)).length = 10 + 4 * j := by
  rw [List.length_append, List.length_cons, tnum_len, List.length_take]
  simp [hnum]
  omega
end Go.Proofs.YtjocjkfllicjdaaDoor
