/- New of the document's disk. -/
import Derived.Test.YtcglonefifldnaaDoorRflush
import Derived.Deep.OwnRows
namespace Go.Proofs.YtcglonefifldnaaDoor
open Go.ChangeShapes Go.WideShapes Go.ChangeAt Go.RowKit

theorem conc_zeros (n : Nat) : conc n (fun _ => zeros) = List.replicate (64 * n) 0 := by
  induction n with
  | zero => rfl
  | succ n ih =>
    rw [conc_succ, ih, show 64 * (n + 1) = 64 * n + 64 by omega]
    show List.replicate (64 * n) 0 ++ List.replicate 64 0 = _
    rw [List.replicate_append_replicate]
theorem made_zeros (n : Nat) : madeCells #[.int .u8 0] (64 * n) = ((conc n (fun _ => zeros)).map (Value.int .u8)).toArray := by
  rw [conc_zeros]
  apply Array.ext
  · simp [madeCells]
  · intro i h1 h2
    simp [madeCells, Nat.mod_one]
theorem rk_start {W : World} {q sb nb n : Nat} (h0 : 1 ≤ n) (h1 : n ≤ 1024) (hd : W.heap[q]? = some (.cells #[.slice (some ⟨sb, 0, none⟩) (64 * n) (64 * n), .slice (some ⟨nb, 0, none⟩) (64 * n) (64 * n), .slice none 0 0, .slice none 0 0, .int .i64 0, .bool false] 41 (0, 0)))
    (hs : W.heap[sb]? = some (.cells (madeCells #[.int .u8 0] (64 * n)) 5 (0, 0))) (hn : W.heap[nb]? = some (.cells (madeCells #[.int .u8 0] (64 * n)) 5 (0, 0))) (d1 : sb ≠ q) (d2 : nb ≠ q) (d3 : nb ≠ sb) :
    Rk (fun k => k = q ∨ k = sb ∨ k = nb) W q n (fun _ => zeros) (fun _ => zeros) [] 0 false sb nb (.slice none 0 0) (.slice none 0 0) (fun _ => False) := by
  rw [made_zeros] at hs hn
  refine ⟨fun k e => ?_, .inl rfl, fun _ => zeros_sec, fun _ => zeros_sec, by simp, by simp, h0, h1, hd, hs, hn, World.ownsRow_nil _ _ _ _, Lst.nil _ _ _, ⟨.inr (.inl rfl), d1⟩, ⟨.inr (.inr rfl), d2, d3⟩, fun k e => by simp [Value.ownBlock] at e, fun k e => by simp [Value.ownBlock] at e, fun k e => e.elim⟩
  rcases e with rfl | rfl | rfl
  · exact (Array.getElem?_eq_some_iff.1 hd).1
  · exact (Array.getElem?_eq_some_iff.1 hs).1
  · exact (Array.getElem?_eq_some_iff.1 hn).1
set_option maxHeartbeats 3200000 in
theorem rnew_ok (w : World) (n : Nat) (h0 : 1 ≤ n) (h1 : n ≤ 1024) :
    Calls Tryd.prog 10 #[.int .i64 (n : Int)] w fun r w' => ∃ q sb nb F, r = .returned (.pointer (some ⟨q, 0, none⟩)) ∧ Rk F w' q n (fun _ => zeros) (fun _ => zeros) [] 0 false sb nb (.slice none 0 0) (.slice none 0 0) (fun _ => False) ∧ (∀ k, F k → w.heap.size ≤ k) ∧ Below w.heap.size w w' := by
  obtain ⟨m, hm⟩ : ∃ m : Nat, m = 64 * n := ⟨_, rfl⟩
  have hmi : 64 * (n : Int) = (m : Int) := by omega
  have hmb : (m : Int) ≤ 65536 := by omega
  have m1 : IntKind.i64.wrap (m : Int) = (m : Int) := by rw [IntKind.wrap_i64]; omega
  have hmk : ∀ W : World, (Instr.makeSlice 33 (.int .i64 (m : Int)) (.int .i64 (m : Int))).run Tryd.prog W = .ok (.slice (some ⟨W.heap.size, 0, none⟩) m m) (W.alloc (.cells (madeCells #[.int .u8 0] m) 5)) := run_make_row' (P := Tryd.prog) 33 5 (.int .u8 0) 1 Tryd.underlying33 Tryd.info5 rfl .i64 .i64 m (by omega) (by omega)
  have HM := mkHid hm
  have HZ := mkHid (made_zeros n)
  clear hm
  go_enter Tryd.func10, Tryd.ntmps10
  go_wp2
  go_region
  all_goals go_wp2
  all_goals go_ret
  all_goals
    have hm := HM.out
    subst hm
    generalize ho : Obj.cells (madeCells #[.int .u8 0] (64 * n)) 5 = o at *
    generalize hp : Obj.cells _ 41 = o2 at *
    have b1 : (((w.alloc o).alloc o).alloc o2).heap[w.heap.size]? = some o := by
      rw [heap_alloc_old _ _ (by simp; omega), heap_alloc_old _ _ (by simp)]; exact heap_alloc_new w o
    have b2 : (((w.alloc o).alloc o).alloc o2).heap[w.heap.size + 1]? = some o := by
      rw [heap_alloc_old _ _ (by simp)]; simpa using heap_alloc_new (w.alloc o) o
    have b3 : (((w.alloc o).alloc o).alloc o2).heap[w.heap.size + 1 + 1]? = some o2 := by
      simpa using heap_alloc_new ((w.alloc o).alloc o) o2
    subst ho hp
    refine ⟨_, _, _, _, rfl, rk_start h0 h1 (by first | exact b3) (by first | exact b1 | exact b2) (by first | exact b2 | exact b1) (by omega) (by omega) (by omega), fun k e => by rcases e with rfl | rfl | rfl <;> omega, ((((Below.refl _ w).alloc (Nat.le_refl _) _).alloc (by simp) _).alloc (by simp; omega) _).drew⟩
end Go.Proofs.YtcglonefifldnaaDoor
