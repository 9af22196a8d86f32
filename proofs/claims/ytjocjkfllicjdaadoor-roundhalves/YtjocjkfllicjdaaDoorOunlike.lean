/- The law OrderUnlike. -/
import Derived.Test.YtjocjkfllicjdaaDoorOread
namespace Go.Proofs.YtjocjkfllicjdaaDoor
open Go.ChangeShapes Go.WideShapes Go.ChangeAt Go.RowKit
set_option maxRecDepth 100000
attribute [local go_sem] World.cell?_alloc_some frozen_alloc_some

theorem bytesL_inj {l m : List En} (hl : ∀ e ∈ l, inF e) (hm : ∀ e ∈ m, inF e) (h : bytesL l = bytesL m) : l = m := by
  rw [bytesL_eq, bytesL_eq] at h
  obtain ⟨h1, h2⟩ := enc_free _ _ _ _ h
  have := (chunks_pre l m [] hl hm (by omega) (by simpa using h2)).2
  rw [this, h1, List.take_of_length_le (Nat.le_refl _)]
theorem ens_two (w : World) (t u : Ep) (ht : EnW w t) (hu : EnW w u) : Ens (w.alloc (.cells #[.int .i64 t.1.cl, .int .i64 t.1.nu, .int .i64 t.1.ki, .int .i64 t.1.id, .int .i64 t.1.sk, .int .i64 t.1.sq, .int .i64 t.1.st, .int .i64 t.1.po, tv t, .int .i64 t.1.tm, .int .i64 u.1.cl, .int .i64 u.1.nu, .int .i64 u.1.ki, .int .i64 u.1.id, .int .i64 u.1.sk, .int .i64 u.1.sq, .int .i64 u.1.st, .int .i64 u.1.po, tv u, .int .i64 u.1.tm] 28)) (.slice (some ⟨w.heap.size, 0, none⟩) 2 2) [t, u] := by
  have hn := heap_alloc_new w (.cells #[.int .i64 t.1.cl, .int .i64 t.1.nu, .int .i64 t.1.ki, .int .i64 t.1.id, .int .i64 t.1.sk, .int .i64 t.1.sq, .int .i64 t.1.st, .int .i64 t.1.po, tv t, .int .i64 t.1.tm, .int .i64 u.1.cl, .int .i64 u.1.nu, .int .i64 u.1.ki, .int .i64 u.1.id, .int .i64 u.1.sk, .int .i64 u.1.sq, .int .i64 u.1.st, .int .i64 u.1.po, tv u, .int .i64 u.1.tm] 28)
  refine ⟨_, _, rfl, by simp, fun _ => ⟨w.heap.size, 0, rfl, fun i x hx => ?_⟩, fun x hx => ?_⟩
  · have hi : i = 0 ∨ i = 1 := by have := (List.getElem?_eq_some_iff.mp hx).1; simp at this; omega
    rcases hi with rfl | rfl <;> simp at hx <;> subst hx
    · exact ⟨cell_of_block hn rfl, cell_of_block hn rfl, cell_of_block hn rfl, cell_of_block hn rfl, cell_of_block hn rfl, cell_of_block hn rfl, cell_of_block hn rfl, cell_of_block hn rfl, cell_of_block hn rfl, cell_of_block hn rfl⟩
    · exact ⟨cell_of_block hn rfl, cell_of_block hn rfl, cell_of_block hn rfl, cell_of_block hn rfl, cell_of_block hn rfl, cell_of_block hn rfl, cell_of_block hn rfl, cell_of_block hn rfl, cell_of_block hn rfl, cell_of_block hn rfl⟩
  · simp at hx
    rcases hx with rfl | rfl
    · exact ht.below ((Below.refl _ _).alloc (Nat.le_refl _) _)
    · exact hu.below ((Below.refl _ _).alloc (Nat.le_refl _) _)
end Go.Proofs.YtjocjkfllicjdaaDoor
