/- Rows of jobs that a law keeps of its own, at any place of their blocks. -/
import Derived.Test.YthncfkeoephipaaDoorGr1
import Derived.Test.YthncfkeoephipaaDoorGs8
import Derived.Laws.MakeOwn
import Derived.Lib.AppendZerosOnto
namespace Go.Proofs.YthncfkeoephipaaDoor
open Go.ChangeShapes Go.WideShapes Go.ChangeAt Go.RowKit
attribute [local go_sem] World.cell?_alloc_some frozen_alloc_some

theorem RowIn.kept {α : Type} {n : Nat} {f : α → List Value} {G : Nat → Prop} {w w' : World} {v : Value} {xs : List α} (h : RowIn n f w v xs) (hk : Kept G w w') (hn : ∀ k, v.ownBlock = some k → ¬ G k) : RowIn n f w' v xs := by
  obtain ⟨a, cap, rfl, hc, hl, hr⟩ := h
  refine ⟨a, cap, rfl, hc, hl, fun hp => ?_⟩
  obtain ⟨b, off, rfl, hx⟩ := hr hp
  exact ⟨b, off, rfl, fun i x hi r u hr hu => hk.cell (hx i x hi r u hr hu) (hn b rfl)⟩
theorem at_of_cell {w : World} {g i : Nat} {c : Array Value} {t : TypeId} {v : Value} (h : w.heap[g]? = some (.cells c t (0, 0))) (hc : w.cell? ⟨g, i, none⟩ = some v) : c[i]? = some v := by
  simpa [World.cell?, h] using hc
def RJ (w : World) (v : Value) (l : List Jb) : Prop := RowIn 5 cj w v l ∧ ((v = .slice none 0 0 ∧ l = []) ∨ ∃ g o cap cur, v = .slice (some ⟨g, o, none⟩) l.length cap ∧ w.heap[g]? = some (.cells cur 45 (0, 0)) ∧ o + cap * 5 ≤ cur.size)
theorem RJ.nil (w : World) : RJ w (.slice none 0 0) [] := ⟨⟨none, 0, rfl, by simp, by simp, fun h => absurd h (by simp)⟩, .inl ⟨rfl, rfl⟩⟩
theorem RJ.lt {w : World} {v : Value} {l : List Jb} (h : RJ w v l) {k : Nat} (hk : v.ownBlock = some k) : k < w.heap.size := by
  rcases h.2 with ⟨rfl, _⟩ | ⟨g, o, cap, cur, rfl, hg, _⟩
  · cases hk
  · cases hk; exact lt_of_heap hg
theorem RJ.kept {G : Nat → Prop} {w w' : World} {v : Value} {l : List Jb} (h : RJ w v l) (hk : Kept G w w') (hn : ∀ k, v.ownBlock = some k → ¬ G k) : RJ w' v l := by
  refine ⟨h.1.kept hk hn, ?_⟩
  rcases h.2 with h | ⟨g, o, cap, cur, rfl, hg, hs⟩
  · exact .inl h
  · exact .inr ⟨g, o, cap, cur, rfl, (hk.block g (lt_of_heap hg) (hn g rfl)).trans hg, hs⟩
/-- A job behind a row. -/
theorem run_append_rj (w : World) (ty : TypeId) {v x : Value} {l : List Jb} {j : Jb} (h : RJ w v l) (hs : Src Tryd.prog 5 54 x 1 (cj j) w) (hl : l.length ≤ 64) :
    ∃ v' w', (Builtin.append_ #[54, 54] ty #[v, x]).run Tryd.prog w = .ok v' w' ∧ RJ w' v' (l ++ [j]) ∧ w.grownBy w' v.ownBlock ∧ (v'.ownBlock = v.ownBlock ∨ v'.ownBlock = some w.heap.size) := by
  obtain ⟨ie, hi, hz, hsize, hby⟩ := info_parts info_job
  have hsrc := RowIn.src (ty := 54) (e := 45) Tryd.underlying54 (by omega) cj_len onej h.1
  have hfl := fl_len cj 5 cj_len l
  have hs' : Src Tryd.prog ie.size 54 x 1 (cj j) w := by rw [hsize]; exact hs
  have hgrow : ∀ a cap, v = .slice a l.length cap → cap < l.length + 1 → ∃ v' w', (Builtin.append_ #[54, 54] ty #[v, x]).run Tryd.prog w = .ok v' w' ∧ RJ w' v' (l ++ [j]) ∧ w.grownBy w' v.ownBlock ∧ (v'.ownBlock = v.ownBlock ∨ v'.ownBlock = some w.heap.size) := by
    rintro a cap rfl hc
    have hr := run_append_grow_src (P := Tryd.prog) w 54 54 ty 45 ie _ Tryd.underlying54 hi hz a l.length cap (l.flatMap cj) (by rw [hsize]; exact hsrc.cellsD) x 1 (cj j) hs' hc (by omega) (by rw [hby]; exact growslice_fits (by omega) (by omega))
    have hge := grownCap_ge w (l.length + 1) cap 45
    have hcm : grownCap w (l.length + 1) cap 45 ≤ maxLen := grownCap_le_maxLen w (l.length + 1) cap 45 (by unfold maxLen; omega)
    have hsz : ((l.flatMap cj ++ cj j).toArray ++ Builtin.zeroCells (Value.agg #[.int .i64 0, .int .i64 0, .int .i64 0, .int .i64 0, .int .i64 0]).cells (grownCap w (l.length + 1) cap 45 - (l.length + 1))).size = grownCap w (l.length + 1) cap 45 * 5 := by
      simp only [Array.size_append, List.size_toArray, size_zeroCells, List.length_append, hfl, cj_len]
      simp only [Value.cells, List.size_toArray, List.length_cons, List.length_nil]
      omega
    have hfm : l.flatMap cj ++ cj j = (l ++ [j]).flatMap cj := by simp
    refine ⟨_, _, hr, ⟨RowIn.of_owns (base := 0) (e := 45) cj_len (by simp; omega) ⟨by simp [hfl, cj_len]; omega, .inr ⟨w.heap.size, grownCap w (l.length + 1) cap 45, _, ?_, Nat.zero_le _, heap_alloc_new w.drew _, ?_, hcm, hsz, ?_⟩⟩, .inr ⟨w.heap.size, 0, grownCap w (l.length + 1) cap 45, _, ?_, heap_alloc_new w.drew _, by rw [hsz]; omega⟩⟩, ⟨rfl, rfl, rfl, by simp, fun k hk _ => (Kept.alloc (fun _ => False) w.drew _).block k hk (fun f => f)⟩, .inr rfl⟩
    · simp
    · simp; omega
    · rw [hfm]
      simp only [Array.toList_append]
      have hlen : ((l ++ [j]).flatMap cj).length = (l ++ [j]).length * 5 := fl_len cj 5 cj_len _
      rw [← hlen]
      exact List.take_left
    · simp
  rcases h.2 with ⟨rfl, rfl⟩ | ⟨g, o, cap, cur, rfl, hg, hcs⟩
  · exact hgrow none 0 rfl (by simp)
  · by_cases hroom : l.length + 1 ≤ cap
    · have hst := run_storeCells_at Tryd.prog g (o + l.length * 5) 45 (cj j) 0 cur w hg (by rw [cj_len]; omega) hs.one
      simp only [Nat.add_zero, cj_len] at hst
      have hr : (Builtin.append_ #[54, 54] ty #[.slice (some ⟨g, o, none⟩) l.length cap, x]).run Tryd.prog w = .ok (.slice (some ⟨g, o, none⟩) (l.length + 1) cap) (w.setRow g (cur.toList.take (o + l.length * 5) ++ cj j ++ cur.toList.drop (o + l.length * 5 + 5)).toArray) := by
        have hf := hs.cells
        have hl := hs.len
        simp [Builtin.append_, run_underlying Tryd.underlying54, sizeOf, typeInfo, hi, hsize, hl, hroom, hf, add_none, hst]
      have hb := setRow_heap w g cur (cur.toList.take (o + l.length * 5) ++ cj j ++ cur.toList.drop (o + l.length * 5 + 5)).toArray 45 (0, 0) hg
      refine ⟨_, _, hr, ⟨⟨some ⟨g, o, none⟩, cap, by simp, by simp; omega, by simp; omega, fun _ => ⟨g, o, rfl, fun i y hy r u hr hu => cell_of_block hb ?_⟩⟩, .inr ⟨g, o, cap, _, by simp, hb, ?_⟩⟩, ⟨rfl, rfl, rfl, by simp, fun k _ hk => setRow_other w g k _ (fun e => hk (by simp [Value.ownBlock, e]))⟩, .inl rfl⟩
      · have hil : i < (l ++ [j]).length := (List.getElem?_eq_some_iff.mp hy).1
        simp at hil
        by_cases hi2 : i < l.length
        · rw [List.getElem?_append_left hi2] at hy
          obtain ⟨b', off', x', e, hx', hc'⟩ := RowIn.at h.1 (Below.refl _ _) i hi2
          simp at e
          obtain ⟨rfl, rfl⟩ := e
          rw [hy] at hx'
          cases hx'
          have := at_of_cell hg (hc' r u hr hu)
          rw [List.getElem?_toArray, List.append_assoc, List.getElem?_append_left (by simp only [List.length_take, Array.length_toList]; omega), List.getElem?_take_of_lt (by omega), Array.getElem?_toList]
          exact this
        · obtain rfl : i = l.length := by omega
          rw [List.getElem?_append_right (Nat.le_refl _)] at hy
          simp at hy
          subst hy
          have ht : (cur.toList.take (o + l.length * 5)).length = o + l.length * 5 := by simp only [List.length_take, Array.length_toList]; omega
          rw [List.getElem?_toArray, List.append_assoc, List.getElem?_append_right (by omega), ht, List.getElem?_append_left (by rw [cj_len]; omega), show o + l.length * 5 + r - (o + l.length * 5) = r by omega]
          exact hu
      · simp only [List.size_toArray, List.length_append, List.length_take, List.length_drop, Array.length_toList, cj_len]
        omega
    · exact hgrow _ _ rfl (by omega)
/-- The row without its first job. -/
theorem RJ.tail {w : World} {v : Value} {j : Jb} {l : List Jb} (h : RJ w v (j :: l)) : ∃ a n cap v', v = .slice a n cap ∧ n = l.length + 1 ∧ (∀ W, (Instr.slice 54 (.slice a n cap) (some (.int .i64 1)) none none).run Tryd.prog W = .ok v' W) ∧ RJ w v' l ∧ v'.ownBlock = v.ownBlock := by
  obtain ⟨ie, hi, hz, hsize, hby⟩ := info_parts info_job
  rcases h.2 with ⟨_, hc⟩ | ⟨g, o, cap, cur, rfl, hg, hcs⟩
  · cases hc
  · obtain ⟨a', cap', e, hc, hl, hr⟩ := h.1
    simp at e
    obtain ⟨rfl, rfl⟩ := e
    obtain ⟨b, off, e, hx⟩ := hr (by simp)
    simp at e
    obtain ⟨rfl, rfl⟩ := e
    simp at hc hl
    refine ⟨_, _, cap, .slice (some ⟨g, if cap = 1 then o else o + 5, none⟩) l.length (cap - 1), rfl, by simp, fun W => ?_, ⟨⟨_, cap - 1, rfl, by omega, by omega, fun hp => ⟨g, _, rfl, fun i x hi r u hr hu => ?_⟩⟩, .inr ⟨g, _, cap - 1, cur, rfl, hg, by split <;> omega⟩⟩, rfl⟩
    · have hel : Tryd.prog.elem 54 = 45 := by kernel_rfl
      have := run_slice_l (P := Tryd.prog) (t := 54)
      by_cases h1 : cap = 1
      · subst h1
        simp [Instr.slice, Instr.sliceBounds, run_underlying Tryd.underlying54, sizeOf, typeInfo, hi, hsize, Instr.sliceBound, asIntOf]
        omega
      · simp [Instr.slice, Instr.sliceBounds, run_underlying Tryd.underlying54, sizeOf, typeInfo, hi, hsize, Instr.sliceBound, asIntOf, h1, add_none]
        omega
    · have hcl := (List.getElem?_eq_some_iff.mp hi).1
      have := hx (i + 1) x (by simpa using hi) r u hr hu
      rw [if_neg (by omega)]
      rw [show o + 5 + i * 5 + r = o + (i + 1) * 5 + r by omega]
      exact this
end Go.Proofs.YthncfkeoephipaaDoor
