/- WireReads: every call in every order on two readers of any bytes. -/
import Derived.Test.YtghpehgefbikeaaDoorRSt
import Derived.Test.YtghpehgefbikeaaDoorLaid
import Derived.Test.YtghpehgefbikeaaDoorAlive
import Derived.Deep.RegionHeld3
import Derived.BigQuiet
namespace Go.Proofs.YtghpehgefbikeaaDoor
open Go.ChangeShapes Go.WideShapes Go.ChangeAt Go.RowKit

theorem upd_idf {α : Type} (f : Nat → α) (k : Nat) : upd f k (f k) = f := by
  funext j
  by_cases h : j = k
  · subst h; rw [upd_same]
  · rw [upd_other _ _ h]
theorem xorAny (z c : Int) (h : 0 ≤ z ∧ z ≤ 255) (hc : 0 ≤ c ∧ c ≤ 255) : ∃ y : Int, bits .xor .u8 z c = y ∧ 0 ≤ y ∧ y ≤ 255 := by
  have e := u8_xor z c h.1 (by omega) (by omega) (by omega)
  have hlt : z.toNat ^^^ c.toNat < 2 ^ 8 := Nat.xor_lt_two_pow (by omega) (by omega)
  exact ⟨_, e, by omega, by omega⟩
theorem and1_nat (n : Int) : ∃ k : Nat, k < 2 ∧ bits .and .i64 n 1 = (k : Int) := by
  have h1 : (BitVec.ofInt 64 1).toNat = 2 ^ 1 - 1 := by decide
  have key : (BitVec.ofInt 64 n &&& BitVec.ofInt 64 1).toNat = (n % ((2 ^ 64 : Nat) : Int)).toNat % 2 ^ 1 := by
    rw [BitVec.toNat_and, BitVec.toNat_ofInt, h1, Nat.and_two_pow_sub_one_eq_mod]
  refine ⟨(n % ((2 ^ 64 : Nat) : Int)).toNat % 2 ^ 1, by omega, ?_⟩
  show IntKind.i64.wrap ((BitVec.ofInt 64 n &&& BitVec.ofInt 64 1).toNat : Nat) = _
  rw [key, IntKind.wrap_i64]
  omega
theorem own_at4 {w : World} {base : Nat} {e : TypeId} {v : Value} {n : Nat} {xs : List Value} (h : w.ownsRow base e 4 v n xs) (hn : 1 ≤ n) : ∃ g cap, v = .slice (some ⟨g, 0, none⟩) n cap ∧ base ≤ g ∧ g < w.heap.size ∧ ∀ j u, xs[j]? = some u → w.cell? ⟨g, j, none⟩ = some u := by
  rcases h.2 with ⟨_, h0⟩ | ⟨g, cap, cur, hv, hb, hg, hc, _⟩
  · omega
  · refine ⟨g, cap, hv, hb, (Array.getElem?_eq_some_iff.1 hg).1, fun j u hj => ?_⟩
    subst hv
    have := h.cells (g := g) rfl j u hj
    rwa [add_none, Nat.zero_add] at this
def extra2 : List OpD := [⟨4, 0, 0, .slice none 0 0, []⟩, ⟨4, 1, 0, .slice none 0 0, []⟩]
theorem src_extra2 (w : World) : Src Tryd.prog 4 22 (.slice (some ⟨w.heap.size, 0, none⟩) 2 2) 2 (opcells extra2) (w.alloc (.cells #[.int .i64 4, .int .i64 0, .int .i64 0, .slice none 0 0, .int .i64 4, .int .i64 1, .int .i64 0, .slice none 0 0] 31)) := by
  refine Src.ofSlice _ Tryd.underlying22 _ 2 2 _ rfl (fun j u hj => ?_) (opcells_one extra2 (fun x hx => by simp [extra2] at hx; rcases hx with rfl | rfl <;> rfl))
  have hjl : j < 8 := (List.getElem?_eq_some_iff.mp hj).1
  rw [add_none]
  have hb : (w.alloc (.cells #[.int .i64 4, .int .i64 0, .int .i64 0, .slice none 0 0, .int .i64 4, .int .i64 1, .int .i64 0, .slice none 0 0] 31)).heap[w.heap.size]? = _ := heap_alloc_new w _
  rw [Nat.zero_add, cell_of_row _ w.heap.size j _ _ _ hb]
  rw [← hj]
  have : j = 0 ∨ j = 1 ∨ j = 2 ∨ j = 3 ∨ j = 4 ∨ j = 5 ∨ j = 6 ∨ j = 7 := by omega
  rcases this with rfl | rfl | rfl | rfl | rfl | rfl | rfl | rfl <;> rfl
theorem Tryd.info31 : (Tryd.prog.info? 31).map (fun i => (i.zero, i.size, i.bytes)) = some (some (.agg #[.int .i64 0, .int .i64 0, .int .i64 0, .slice none 0 0]), 4, 48) := by kernel_rfl
theorem rs_start {w w1 : World} {S0 S1 : Value} {v : Nat → Value} {bs : Nat → List Int} (hb1 : Below (w.alloc (.cells #[S0, S1] 28)).heap.size (w.alloc (.cells #[S0, S1] 28)) w1) :
    RS w ((w1.alloc (.cells #[.pointer none, .pointer none] 44)).alloc (.cells #[.pointer none, .pointer none] 46)) w.heap.size [S0, S1] w1.heap.size (w1.heap.size + 1) 0 v bs (fun _ => .pointer none) (fun _ => .pointer none) (fun _ => 0) (fun _ => 0) (fun _ => 0) (fun _ => 0) (fun _ _ => False) := by
  have hs := hb1.size
  simp at hs
  have hsz : (w.alloc (.cells #[S0, S1] 28)).heap.size = w.heap.size + 1 := by simp
  have hbx : w1.heap[w.heap.size]? = some (.cells #[S0, S1] 28 (0, 0)) := by
    rw [hb1.block w.heap.size (by omega)]
    exact heap_alloc_new w _
  have b1 : Below w.heap.size w w1 := ((Below.refl _ _).alloc (Nat.le_refl _) _).trans (hb1.mono (by omega))
  have bel := (b1.alloc b1.size (.cells #[.pointer none, .pointer none] 44)).alloc (by simp; omega) (.cells #[.pointer none, .pointer none] 46)
  refine ⟨bel, fun l u hl => ?_, ?_, ?_, fun k hk => by omega, fun k hk => by omega, fun k hk => by omega, fun b hb => ?_, ⟨by omega, by omega, by omega⟩, fun k b hk => by omega, fun k hk => by omega, fun k l hk => by omega, fun k l b hk => by omega, fun k l hk => by omega⟩
  · have hb2 : ((w1.alloc (.cells #[.pointer none, .pointer none] 44)).alloc (.cells #[.pointer none, .pointer none] 46)).heap[w.heap.size]? = some (.cells #[S0, S1] 28 (0, 0)) := by
      rw [heap_alloc_old _ _ (by simp; omega), heap_alloc_old _ _ (by omega)]
      exact hbx
    match l, hl with
    | 0, hl => exact cell_of_block hb2 (by simpa using hl)
    | 1, hl => exact cell_of_block hb2 (by simpa using hl)
  · rw [heap_alloc_old _ _ (by simp)]
    exact heap_alloc_new w1 _
  · have := heap_alloc_new (w1.alloc (.cells #[.pointer none, .pointer none] 44)) (.cells #[.pointer none, .pointer none] 46)
    simpa using this
  · rcases hb with rfl | rfl | rfl
    · simp; omega
    · simp; omega
    · simp; omega
end Go.Proofs.YtghpehgefbikeaaDoor
