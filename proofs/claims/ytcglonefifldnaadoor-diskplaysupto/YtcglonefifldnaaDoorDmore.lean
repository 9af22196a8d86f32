/- Lose of a disk; what a disk refuses. -/
import Derived.Test.YtcglonefifldnaaDoorDany
namespace Go.Proofs.YtcglonefifldnaaDoor
open Go.ChangeMaps Go.ChangeShapes Go.WideShapes Go.ChangeAt Go.RowKit

theorem Ms.clear {w : World} {b : Nat} {f : Int → List Int} (h : Ms w b f) (ty : TypeId) : ∃ w', (Builtin.clear_ #[55] ty #[.map (some b)]).run Tryd.prog w = .ok (.tuple #[]) w' ∧ Ms w' b (fun _ => zeros) ∧ Kept (fun j => j = b) w w' := by
  obtain ⟨_, es, clock, hb, _⟩ := h
  refine ⟨setBlock w b (.map #[] clock), ?_, ⟨fun _ => zeros_sec, #[], clock, heap_setBlock_same hb _, fun e he => by simp at he, fun _ => rfl⟩, ?_⟩
  · simp [Builtin.clear_, run_underlying Tryd.underlying55, MapKept.run_getObj_map hb, MapKept.run_setObj_map _ hb, Result.andThen, setBlock]
  · exact ⟨rfl, rfl, rfl, by simp [setBlock], fun k _ hk => heap_setBlock_other hb _ hk⟩
set_option maxHeartbeats 3200000 in
theorem dlose_any (F : Nat → Prop) (w : World) (p : Nat) (n : Int) (f : Int → List Int) (c : List (Int × List Int)) (nw : Int) (lost : Bool) (h : Dk F w p n f c nw lost) :
    Calls Tryd.prog 26 #[.pointer (some ⟨p, 0, none⟩)] w fun e w' => e = .returned (.tuple #[]) ∧ Dk F w' p n (fun _ => zeros) [] nw true ∧ Kept F w w' := by
  obtain ⟨hF, hp, hc, mb, cv, hmb, hpm, hd, hM, hcv, ho⟩ := h
  have c1 : w.cell? ⟨p, 1, none⟩ = some (.map (some mb)) := cell_of_block hd rfl
  have c2 : w.cell? ⟨p, 2, none⟩ = some cv := cell_of_block hd rfl
  have c4 : w.cell? ⟨p, 4, none⟩ = some (.bool lost) := cell_of_block hd rfl
  have g2 : w.frozen? ⟨p, 2, none⟩ = false := frozen_of_block hd
  have g4 : w.frozen? ⟨p, 4, none⟩ = false := frozen_of_block hd
  obtain ⟨W1, hW1⟩ : ∃ W1, W1 = (w.setCell ⟨p, 4, none⟩ (.bool true)).setCell ⟨p, 2, none⟩ (.slice none 0 0) := ⟨_, rfl⟩
  have k1 : Kept (fun k => k = p) w W1 := by
    rw [hW1]
    exact (Kept.setCell (F := fun k => k = p) w (p := ⟨p, 4, none⟩) rfl _).trans (Kept.setCell (F := fun k => k = p) _ (p := ⟨p, 2, none⟩) rfl _) (fun _ e => .inl e)
  have hd1 : W1.heap[p]? = some (.cells #[.int .i64 n, .map (some mb), .slice none 0 0, .int .i64 nw, .bool true] 58 (0, 0)) := by
    rw [hW1, heap_set (heap_set hd)]
    simp
  have hM1 : Ms W1 mb f := hM.kept k1 (fun e => hpm e.symm)
  obtain ⟨W2, hrun, hM2, hk2⟩ := hM1.clear 0
  have d1 : W1.cell? ⟨p, 1, none⟩ = some (.map (some mb)) := cell_of_block hd1 rfl
  have hd2 : W2.heap[p]? = _ := (hk2.block p (Array.getElem?_eq_some_iff.1 hd1).1 hpm).trans hd1
  have hk : Kept F w W2 := (k1.mono (G := F) (fun k e => by rw [e]; exact hp)).trans hk2 (fun k e => .inl (by rw [e]; exact hmb))
  have HRes : Hid (Dk F W2 p n (fun _ => zeros) [] nw true ∧ Kept F w W2) := mkHid ⟨⟨fun k e => Nat.lt_of_lt_of_le (hF k e) hk.size, hp, by simp, mb, .slice none 0 0, hmb, hpm, hd2, hM2, fun k e => by simp [Value.ownBlock] at e, World.ownsRow_nil _ _ _ _⟩, hk⟩
  rw [hW1] at hrun d1
  clear hF hp hc hd hM hcv ho hd1 hM1 hM2 hk2 hd2 hk hW1 k1
  go_enter Tryd.func26, Tryd.ntmps26
  go_wp2
  go_end0
  exact ⟨rfl, HRes.out.1, HRes.out.2⟩
theorem flush_lost (F : Nat → Prop) (w : World) (p : Nat) (n : Int) (f : Int → List Int) (c : List (Int × List Int)) (nw : Int) (ev : Value) (h : Dk F w p n f c nw true) (he : w.cell? ⟨8, 0, none⟩ = some ev) :
    Calls Tryd.prog 18 #[.pointer (some ⟨p, 0, none⟩)] w fun e w' => e = .returned ev ∧ w' = w := by
  obtain ⟨c0, c3, c4, _, _⟩ := h.cells
  go_enter Tryd.func18, Tryd.ntmps18
  go_wp2
  go_ret
  exact ⟨rfl, rfl⟩
theorem read_num (F : Nat → Prop) (w : World) (p : Nat) (n : Int) (f : Int → List Int) (c : List (Int × List Int)) (nw i : Int) (ev : Value) (h : Dk F w p n f c nw false) (hv : ErrV ev) (he : w.cell? ⟨0, 0, none⟩ = some ev) (hi : ¬ (0 ≤ i ∧ i < n)) :
    Calls Tryd.prog 20 #[.pointer (some ⟨p, 0, none⟩), .int .i64 i] w fun e w' => e = .returned (.tuple #[.slice none 0 0, ev]) ∧ w' = w := by
  obtain ⟨a, rfl⟩ := hv
  go_enter Tryd.func20, Tryd.ntmps20
  go_wp2_with (go_at_call 28; refine (refused_num F w p n f c nw i _ h he hi).mono ?_; rintro e w1 ⟨rfl, rfl⟩)
  go_ret2
  exact ⟨rfl, rfl⟩
theorem read_lost (F : Nat → Prop) (w : World) (p : Nat) (n : Int) (f : Int → List Int) (c : List (Int × List Int)) (nw i : Int) (ev : Value) (h : Dk F w p n f c nw true) (hv : ErrV ev) (he : w.cell? ⟨8, 0, none⟩ = some ev) :
    Calls Tryd.prog 20 #[.pointer (some ⟨p, 0, none⟩), .int .i64 i] w fun e w' => e = .returned (.tuple #[.slice none 0 0, ev]) ∧ w' = w := by
  obtain ⟨a, rfl⟩ := hv
  go_enter Tryd.func20, Tryd.ntmps20
  go_wp2_with (go_at_call 28; refine (refused_lost F w p n f c nw i _ h he).mono ?_; rintro e w1 ⟨rfl, rfl⟩)
  go_ret2
  exact ⟨rfl, rfl⟩
theorem dnew_bad (w : World) (n : Int) (ev : Value) (hv : ErrV ev) (he : w.cell? ⟨0, 0, none⟩ = some ev) (h : n < 1 ∨ 1024 < n) :
    Calls Tryd.prog 8 #[.int .i64 n] w fun e w' => e = .returned (.tuple #[.pointer none, ev]) ∧ Below w.heap.size w w' := by
  obtain ⟨a, rfl⟩ := hv
  by_cases h1 : n < 1
  · clear h
    go_enter Tryd.func8, Tryd.ntmps8
    go_wp2
    go_region
    all_goals go_wp2
    all_goals go_ret2
    all_goals exact ⟨rfl, (Below.refl _ _).drew⟩
  · have h2 : 1024 < n := by omega
    clear h
    go_enter Tryd.func8, Tryd.ntmps8
    go_wp2
    go_region
    all_goals go_wp2
    all_goals go_ret2
    all_goals exact ⟨rfl, (Below.refl _ _).drew⟩
theorem seenOf_snoc (f : Int → List Int) (c : List (Int × List Int)) (i : Int) (bs : List Int) : seenOf f (c ++ [(i, bs)]) = updI (seenOf f c) i bs := by
  funext j
  unfold seenOf updI
  rw [List.reverse_append]
  simp only [List.reverse_cons, List.reverse_nil, List.nil_append, List.singleton_append, List.find?_cons]
  by_cases e : j = i
  · subst e; simp
  · have : (i == j) = false := by simp; exact fun h => e h.symm
    simp [this, e]
theorem flushed_seen (f : Int → List Int) (hf : ∀ k, Sec (f k)) (c : List (Int × List Int)) (hc : ∀ x ∈ c, Sec x.2) : flushed f c = seenOf f c := by
  have key : ∀ (m : Nat) (c : List (Int × List Int)), c.length = m → (∀ x ∈ c, Sec x.2) → flushed f c = seenOf f c := by
    intro m
    induction m with
    | zero =>
      intro c h _
      have : c = [] := List.length_eq_zero_iff.mp h
      subst this
      rfl
    | succ m ih =>
      intro c h hc
      have hne : c ≠ [] := fun e => by subst e; simp at h
      have hs := List.dropLast_concat_getLast hne
      generalize c.getLast hne = x at hs
      generalize c.dropLast = d at hs
      subst hs
      have h1 := ih d (by simpa using h) (fun y hy => hc y (by simp [hy]))
      obtain ⟨i, bs⟩ := x
      have hb : Sec bs := hc (i, bs) (by simp)
      have hd : Sec (seenOf f d i) := find_mem_sec (fun y hy => hc y (by simp [hy])) hf i
      rw [seenOf_snoc]
      show List.foldl lay1 f (d ++ [(i, bs)]) = _
      rw [List.foldl_append]
      have h2 : List.foldl lay1 f d = seenOf f d := h1
      rw [h2]
      simp only [List.foldl_cons, List.foldl_nil, lay1, laid_full hd hb]
  exact key c.length c rfl hc
end Go.Proofs.YtcglonefifldnaaDoor
