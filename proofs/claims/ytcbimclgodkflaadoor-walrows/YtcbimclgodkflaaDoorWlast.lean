/- The last record of an area. -/
import Derived.Test.YtcbimclgodkflaaDoorWstand
namespace Go.Proofs.YtcbimclgodkflaaDoor
open Go.ChangeShapes Go.WideShapes Go.ChangeAt Go.RowKit
set_option maxRecDepth 100000

theorem results_cell1 {fn : Func} {p : Tmp} {ty : TypeId} (h : fn.results = #[.cell p ty]) (tmps : Array Value) (P : Program) (w : World) :
    (results fn tmps).run P w = ((asAddr (tmps.getD p undef)).run P w).andThen fun a w₁ => (loadVar ty a).run P w₁ := by
  simp only [results, h]
  simp [Sem.run_bind, Result.andThen]
theorem last_leaves {W : World} {R : Nat} {a b c d : Value} (hR : W.heap[R]? = some (.cells #[a, b, c, d] 92 (0, 0))) (tmps : Array Value) (h2 : tmps.getD 2 undef = .pointer (some ⟨R, 0, none⟩)) : (results Tryd.f41 tmps).run Tryd.prog W = .ok (.agg #[a, b, c, d]) W := by
  have hl := run_loadVar_row (P := Tryd.prog) W R 92 92 #[a, b, c, d] (0, 0) _ hR Tryd.underlying92 rfl sizeRec
  rw [results_cell1 (p := 2) (ty := 92) rfl, h2]
  simp [asAddr, Result.andThen, hl]
theorem two_new (w : World) (o : Obj) (r : Array Value) : ((w.alloc o).alloc (.cells r 92)).heap[w.heap.size + 1]? = some (.cells r 92 (0, 0)) := by
  have := heap_alloc_new (w.alloc o) (.cells r 92)
  rw [show (w.alloc o).heap.size = w.heap.size + 1 by simp] at this
  exact this
theorem last_nil (w : World) (x y z : Value) (a : Option Addr) (cap : Nat) :
    Calls Tryd.prog 41 #[.agg #[x, y, .slice a 0 cap, z]] w fun e w' => e = .returned (.agg #[.int .i64 0, .int .i64 0, .int .i64 0, .slice none 0 0]) ∧ Below w.heap.size w w' := by
  go_enter Tryd.func41, Tryd.ntmps41
  go_wp2
  exact bodyPost_ret (last_leaves (two_new w _ _) _ rfl) rfl ⟨rfl, ((Below.refl _ w).alloc (Nat.le_refl _) _).alloc (by simp) _⟩
theorem last_some (w : World) (x y z : Value) (g ep ix : Int) (da : Option Addr) (dn dc : Nat) (b off m cap : Nat) (hm : (m : Int) ≤ 1000000000000) (h0 : w.cell? ⟨b, off + m * 4, none⟩ = some (.int .i64 g)) (h1 : w.cell? ⟨b, off + m * 4 + 1, none⟩ = some (.int .i64 ep)) (h2 : w.cell? ⟨b, off + m * 4 + 2, none⟩ = some (.int .i64 ix)) (h3 : w.cell? ⟨b, off + m * 4 + 3, none⟩ = some (.slice da dn dc)) :
    Calls Tryd.prog 41 #[.agg #[x, y, .slice (some ⟨b, off, none⟩) (m + 1) cap, z]] w fun e w' => e = .returned (.agg #[.int .i64 g, .int .i64 ep, .int .i64 ix, .slice da dn dc]) ∧ Below w.heap.size w w' := by
  have hm1 : ((m : Int) + 1 == 0) = false := by simp; omega
  have hb2 : Below w.heap.size w ((w.alloc (.cells #[x, y, .slice (some ⟨b, off, none⟩) (m + 1) cap, z] 69)).alloc (.cells #[.int .i64 0, .int .i64 0, .int .i64 0, .slice none 0 0] 92)) := ((Below.refl _ w).alloc (Nat.le_refl _) _).alloc (by simp) _
  have q0 := (hb2.cell (World.block_lt_of_cell? w _ h0)).trans h0
  have q1 := (hb2.cell (World.block_lt_of_cell? w _ h1)).trans h1
  have q2 := (hb2.cell (World.block_lt_of_cell? w _ h2)).trans h2
  have q3 := (hb2.cell (World.block_lt_of_cell? w _ h3)).trans h3
  clear hb2 h0 h1 h2 h3
  go_enter Tryd.func41, Tryd.ntmps41
  go_wp2
  exact bodyPost_ret (last_leaves (two_new w _ _) _ rfl) rfl ⟨rfl, ((Below.refl _ w).alloc (Nat.le_refl _) _).alloc (by simp) _⟩
theorem goes_nil (w : World) (x y z d : Value) (a : Option Addr) (cap g ep ix : Nat) :
    Calls Tryd.prog 69 #[.agg #[x, y, .slice a 0 cap, z], .agg #[.int .i64 (g : Int), .int .i64 (ep : Int), .int .i64 (ix : Int), d]] w fun e w' => e = .returned (.bool (decide (ix = 0 ∧ 1 ≤ g))) ∧ Below w.heap.size w w' := by
  have hb2 : Below w.heap.size w ((w.alloc (.cells #[x, y, .slice a 0 cap, z] 69)).alloc (.cells #[.int .i64 (g : Int), .int .i64 (ep : Int), .int .i64 (ix : Int), d] 92)) := ((Below.refl _ w).alloc (Nat.le_refl _) _).alloc (by simp) _
  have HB := mkHid hb2
  clear hb2
  by_cases h1 : ix = 0
  · subst h1
    by_cases h2 : 1 ≤ g
    · have h2i : (1 : Int) ≤ (g : Int) := by omega
      go_enter Tryd.func69, Tryd.ntmps69
      go_wp2
      go_ret
      exact ⟨by simp [h2], HB.out⟩
    · have h2i : ¬ (1 : Int) ≤ (g : Int) := by omega
      go_enter Tryd.func69, Tryd.ntmps69
      go_wp2
      go_ret
      exact ⟨by simp, HB.out⟩
  · have h1i : ((ix : Int) == 0) = false := by simp; omega
    go_enter Tryd.func69, Tryd.ntmps69
    go_wp2
    go_ret
    exact ⟨by simp [h1], HB.out⟩
theorem goes_some (w : World) (x y z d : Value) (g ep ix lg le lx : Nat) (da : Option Addr) (dn dc b off m cap : Nat) (hm : (m : Int) ≤ 1000000000000) (hx : (lx : Int) ≤ 1099511627776) (h0 : w.cell? ⟨b, off + m * 4, none⟩ = some (.int .i64 (lg : Int))) (h1 : w.cell? ⟨b, off + m * 4 + 1, none⟩ = some (.int .i64 (le : Int))) (h2 : w.cell? ⟨b, off + m * 4 + 2, none⟩ = some (.int .i64 (lx : Int))) (h3 : w.cell? ⟨b, off + m * 4 + 3, none⟩ = some (.slice da dn dc)) :
    Calls Tryd.prog 69 #[.agg #[x, y, .slice (some ⟨b, off, none⟩) (m + 1) cap, z], .agg #[.int .i64 (g : Int), .int .i64 (ep : Int), .int .i64 (ix : Int), d]] w fun e w' => e = .returned (.bool (decide (g = lg ∧ ix = lx + 1 ∧ le ≤ ep))) ∧ Below w.heap.size w w' := by
  obtain ⟨W2, hW2⟩ : ∃ W2, W2 = (w.alloc (.cells #[x, y, .slice (some ⟨b, off, none⟩) (m + 1) cap, z] 69)).alloc (.cells #[.int .i64 (g : Int), .int .i64 (ep : Int), .int .i64 (ix : Int), d] 92) := ⟨_, rfl⟩
  have hb2 : Below w.heap.size w W2 := by rw [hW2]; exact ((Below.refl _ w).alloc (Nat.le_refl _) _).alloc (by simp) _
  have hn2 : W2.heap[w.heap.size + 1]? = some (.cells #[.int .i64 (g : Int), .int .i64 (ep : Int), .int .i64 (ix : Int), d] 92 (0, 0)) := by rw [hW2]; exact two_new w _ _
  have HB := mkHid hb2
  have HN := mkHid hn2
  have HC := mkHid (last_some W2 x y z (lg : Int) (le : Int) (lx : Int) da dn dc b off m cap hm ((hb2.cell (World.block_lt_of_cell? w _ h0)).trans h0) ((hb2.cell (World.block_lt_of_cell? w _ h1)).trans h1) ((hb2.cell (World.block_lt_of_cell? w _ h2)).trans h2) ((hb2.cell (World.block_lt_of_cell? w _ h3)).trans h3))
  clear hb2 hn2 h0 h1 h2 h3
  have hm1 : ((m : Int) + 1 == 0) = false := by simp; omega
  have hw1 : IntKind.i64.wrap ((lx : Int) + 1) = (lx : Int) + 1 := by rw [IntKind.wrap_i64]; omega
  obtain ⟨c1, hc1⟩ : ∃ c1, ((g : Int) == (lg : Int)) = c1 := ⟨_, rfl⟩
  obtain ⟨c2, hc2⟩ : ∃ c2, ((ix : Int) == (lx : Int) + 1) = c2 := ⟨_, rfl⟩
  have hcs : decide (g = lg ∧ ix = lx + 1 ∧ le ≤ ep) = (c1 && (c2 && decide ((le : Int) ≤ (ep : Int)))) := by
    subst hc1 hc2
    rw [Bool.eq_iff_iff]
    simp
    omega
  rw [hcs]
  clear hcs
  by_cases hc3 : (le : Int) ≤ (ep : Int) <;> cases c1 <;> cases c2 <;>
  (go_enter Tryd.func69, Tryd.ntmps69
   go_wp2_with (first
    | (go_at_call 41; rw [← hW2]; refine HC.out.mono ?_; rintro e w3 ⟨rfl, hb3⟩; have hn3 := HN.out; rw [← hb3.block (w.heap.size + 1) (Array.getElem?_eq_some_iff.1 hn3).1] at hn3; have hb4 := ((Below.refl _ w3).alloc (Nat.le_refl _) (.cells #[.int .i64 (lg : Int), .int .i64 (le : Int), .int .i64 (lx : Int), .slice da dn dc] 92)); have hn4 := hn3; rw [← hb4.block (w.heap.size + 1) (Array.getElem?_eq_some_iff.1 hn3).1] at hn4; have r0 := cell_of_block (i := 0) hn4 rfl; have r1 := cell_of_block (i := 1) hn4 rfl; have r2 := cell_of_block (i := 2) hn4 rfl; have HB3 := mkHid ((HB.out.trans (hb3.mono HB.out.size)).trans (hb4.mono (HB.out.trans (hb3.mono HB.out.size)).size)); clear hn3 hn4 hb3 hb4))
   go_ret
   exact ⟨by first | rfl | (simp only [hc3, decide_true, Bool.true_and, Bool.and_true]; done) | (simp [hc3]; done) | (simp; omega), HB3.out⟩)
end Go.Proofs.YtcbimclgodkflaaDoor
