/- The law OrderUnlike. -/
import Derived.Test.YtaiklaipdocdmaaDoorOread
namespace Go.Proofs.YtaiklaipdocdmaaDoor
open Go.ChangeShapes Go.WideShapes Go.ChangeAt Go.RowKit
set_option maxRecDepth 100000
attribute [local go_sem] World.cell?_alloc_some frozen_alloc_some

theorem write_yes (w : World) (v : Value) (ps : List Ep) (es : Addr) (h : Ens w v ps) (hl : ps.length ≤ 64) (he : w.cell? ⟨0, 0, none⟩ = some (vErr es)) (hf : ∀ t ∈ ps, inF t.1) : Calls Tryd.prog 43 #[v] w fun r w' => ∃ v', r = .returned (.tuple #[v', .nilIface]) ∧ w'.ownsRow w.heap.size 5 1 v' (bytesL (fs1 ps)).length ((bytesL (fs1 ps)).map (Value.int .u8)) ∧ Below w.heap.size w w' := by
  refine (write_all w v ps es h hl he).mono ?_
  rintro r w' ⟨hb, ⟨_, v', rfl, ho⟩ | ⟨hn, _⟩⟩
  · exact ⟨v', rfl, ho, hb⟩
  · exact absurd hf hn
theorem bytesL_inj {l m : List En} (hl : ∀ e ∈ l, inF e) (hm : ∀ e ∈ m, inF e) (h : bytesL l = bytesL m) : l = m := by
  rw [bytesL_eq, bytesL_eq] at h
  obtain ⟨h1, h2⟩ := enc_free _ _ _ _ h
  have := (chunks_pre l m [] hl hm (by omega) (by simpa using h2)).2
  rw [this, h1, List.take_of_length_le (Nat.le_refl _)]
theorem ens_two (w : World) (t u : Ep) (ht : EnW w t) (hu : EnW w u) : Ens (w.alloc (.cells #[.int .i64 t.1.cl, .int .i64 t.1.nu, .int .i64 t.1.ki, .int .i64 t.1.id, .int .i64 t.1.sk, .int .i64 t.1.sq, .int .i64 t.1.st, .int .i64 t.1.po, tv t, .int .i64 t.1.tm, .int .i64 u.1.cl, .int .i64 u.1.nu, .int .i64 u.1.ki, .int .i64 u.1.id, .int .i64 u.1.sk, .int .i64 u.1.sq, .int .i64 u.1.st, .int .i64 u.1.po, tv u, .int .i64 u.1.tm] 96)) (.slice (some ⟨w.heap.size, 0, none⟩) 2 2) [t, u] := by
  have hn := heap_alloc_new w (.cells #[.int .i64 t.1.cl, .int .i64 t.1.nu, .int .i64 t.1.ki, .int .i64 t.1.id, .int .i64 t.1.sk, .int .i64 t.1.sq, .int .i64 t.1.st, .int .i64 t.1.po, tv t, .int .i64 t.1.tm, .int .i64 u.1.cl, .int .i64 u.1.nu, .int .i64 u.1.ki, .int .i64 u.1.id, .int .i64 u.1.sk, .int .i64 u.1.sq, .int .i64 u.1.st, .int .i64 u.1.po, tv u, .int .i64 u.1.tm] 96)
  refine ⟨_, _, rfl, by simp, fun _ => ⟨w.heap.size, 0, rfl, fun i x hx => ?_⟩, fun x hx => ?_⟩
  · have hi : i = 0 ∨ i = 1 := by have := (List.getElem?_eq_some_iff.mp hx).1; simp at this; omega
    rcases hi with rfl | rfl <;> simp at hx <;> subst hx
    · exact ⟨cell_of_block hn rfl, cell_of_block hn rfl, cell_of_block hn rfl, cell_of_block hn rfl, cell_of_block hn rfl, cell_of_block hn rfl, cell_of_block hn rfl, cell_of_block hn rfl, cell_of_block hn rfl, cell_of_block hn rfl⟩
    · exact ⟨cell_of_block hn rfl, cell_of_block hn rfl, cell_of_block hn rfl, cell_of_block hn rfl, cell_of_block hn rfl, cell_of_block hn rfl, cell_of_block hn rfl, cell_of_block hn rfl, cell_of_block hn rfl, cell_of_block hn rfl⟩
  · simp at hx
    rcases hx with rfl | rfl
    · exact ht.below ((Below.refl _ _).alloc (Nat.le_refl _) _)
    · exact hu.below ((Below.refl _ _).alloc (Nat.le_refl _) _)
theorem read_yes (w : World) (v : Value) (l : List En) (eb es : Addr) (h : Rd w v (bytesL l)) (hl : l.length ≤ 64) (hf : ∀ e ∈ l, inF e) (he : w.cell? ⟨4, 0, none⟩ = some (vErr eb)) (hes : w.cell? ⟨0, 0, none⟩ = some (vErr es)) :
    Calls Tryd.prog 85 #[v] w fun r w' => ∃ v' qs, r = .returned (.tuple #[v', .nilIface]) ∧ Led w.heap.size w' v' qs ∧ fs1 qs = l ∧ Below w.heap.size w w' := by
  refine (read_any w v _ eb es h (by have := bytesL_len hl hf; omega) he hes).mono ?_
  rintro r w' ⟨hb, ⟨v', qs, hq, hq64, he, rfl, hL⟩ | ⟨hno, _⟩⟩
  · exact ⟨v', qs, rfl, hL, (bytesL_inj hf (fun e he => by obtain ⟨t, ht, rfl⟩ := List.mem_map.mp he; exact hq t ht) he).symm, hb⟩
  · exact absurd rfl (hno l hl hf)
theorem read_two (w : World) (v : Value) (e f : En) (eb es : Addr) (h : Rd w v (bytesL [e, f])) (hf : inF e) (hg : inF f) (he : w.cell? ⟨4, 0, none⟩ = some (vErr eb)) (hes : w.cell? ⟨0, 0, none⟩ = some (vErr es)) :
    Calls Tryd.prog 85 #[v] w fun r w' => ∃ gb gc xa xc ya yc, r = .returned (.tuple #[.slice (some ⟨gb, 0, none⟩) 2 gc, .nilIface]) ∧ EnAt w' gb 0 (e, xa, xc) ∧ EnAt w' gb 10 (f, ya, yc) ∧ EnW w' (e, xa, xc) ∧ EnW w' (f, ya, yc) ∧ Below w.heap.size w w' := by
  have hall : ∀ x ∈ [e, f], inF x := by intro x hx; simp at hx; rcases hx with rfl | rfl <;> assumption
  refine (read_yes w v [e, f] eb es h (by simp) hall he hes).mono ?_
  rintro r w' ⟨v', qs, rfl, hL, hq, hb⟩
  match qs, hq with
  | [(e', xa, xc), (f', ya, yc)], hq =>
    simp at hq
    obtain ⟨rfl, rfl⟩ := hq
    have hen := hL.ens (by simp) (fun t ht => by simp at ht; rcases ht with rfl | rfl; have := hf.2.1.1; simp only; omega; have := hg.2.1.1; simp only; omega)
    obtain ⟨a0, cap, rfl, _, hr, hw⟩ := hen
    obtain ⟨g, off, rfl, hc⟩ := hr (by simp)
    have hz : off = 0 := by
      rcases hL.own.2 with ⟨e1, _⟩ | ⟨g1, cap1, cur, e1, _⟩
      · simp at e1
      · simp at e1; exact e1.1.2
    subst hz
    exact ⟨g, cap, xa, xc, ya, yc, rfl, by simpa using hc 0 _ rfl, by simpa using hc 1 _ rfl, hw _ (by simp), hw _ (by simp), hb⟩
end Go.Proofs.YtaiklaipdocdmaaDoor
