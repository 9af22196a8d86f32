/- A pile in memory; lay. -/
import Derived.Test.YtjlmkmhggkcbhaaDoorPcmp
namespace Go.Proofs.YtjlmkmhggkcbhaaDoor
open Go.ChangeShapes Go.WideShapes Go.ChangeAt Go.RowKit
set_option maxRecDepth 100000

def tc (x : Th) : List Value := [.int .i64 x.1, .int .i64 x.2]
def tcs (xs : List Th) : List Value := xs.flatMap tc
theorem tcs_len (xs : List Th) : (tcs xs).length = xs.length * 2 := by
  induction xs with
  | nil => rfl
  | cons x r ih =>
    simp only [tcs, List.flatMap_cons, List.length_append, List.length_cons] at ih ⊢
    simp only [tc, List.length_cons, List.length_nil]
    omega
theorem tcs_append (a b : List Th) : tcs (a ++ b) = tcs a ++ tcs b := by simp [tcs]
theorem tcs_at (xs : List Th) (i : Nat) (hi : i < xs.length) : (tcs xs)[i * 2]? = some (.int .i64 (gt xs i).1) ∧ (tcs xs)[i * 2 + 1]? = some (.int .i64 (gt xs i).2) := by
  induction xs generalizing i with
  | nil => simp at hi
  | cons x r ih =>
    cases i with
    | zero => simp [tcs, tc, gt]
    | succ i =>
      have h := ih i (by simpa using hi)
      have e1 : tcs (x :: r) = tc x ++ tcs r := rfl
      have e2 : gt (x :: r) (i + 1) = gt r i := by simp [gt]
      rw [e1, e2, List.getElem?_append_right (by simp [tc]; omega), List.getElem?_append_right (by simp [tc]; omega)]
      have e3 : (i + 1) * 2 - (tc x).length = i * 2 := by simp [tc]; omega
      have e4 : (i + 1) * 2 + 1 - (tc x).length = i * 2 + 1 := by simp [tc]; omega
      rw [e3, e4]
      exact h
theorem tcs_set (xs : List Th) (i : Nat) (x : Th) (hi : i < xs.length) : ((tcs xs).set (i * 2) (.int .i64 x.1)).set (i * 2 + 1) (.int .i64 x.2) = tcs (xs.set i x) := by
  induction xs generalizing i with
  | nil => simp at hi
  | cons y r ih =>
    cases i with
    | zero => simp [tcs, tc]
    | succ i =>
      have h := ih i (by simpa using hi)
      have e1 : tcs (y :: r) = tc y ++ tcs r := rfl
      have e2 : tcs ((y :: r).set (i + 1) x) = tc y ++ tcs (r.set i x) := rfl
      have e3 : (i + 1) * 2 - (tc y).length = i * 2 := by simp [tc]; omega
      have e4 : (i + 1) * 2 + 1 - (tc y).length = i * 2 + 1 := by simp [tc]; omega
      rw [e1, e2, List.set_append_right _ _ (by simp [tc]; omega), List.set_append_right _ _ (by simp [tc]; omega), e3, e4, h]
theorem cell_of_block {w : World} {p i : Nat} {c : Array Value} {t : TypeId} {v : Value} (h : w.heap[p]? = some (.cells c t (0, 0))) (hi : c[i]? = some v) : w.cell? ⟨p, i, none⟩ = some v := by
  rw [cell_of_row w p i c t (0, 0) h]; exact hi
theorem frozen_of_block {w : World} {p i : Nat} {c : Array Value} {t : TypeId} (h : w.heap[p]? = some (.cells c t (0, 0))) : w.frozen? ⟨p, i, none⟩ = false := by
  simp [World.frozen?, h]
theorem heap_set {w : World} {p i : Nat} {c : Array Value} {t : TypeId} {v : Value} (h : w.heap[p]? = some (.cells c t (0, 0))) : (w.setCell ⟨p, i, none⟩ v).heap[p]? = some (.cells (c.set! i v) t (0, 0)) := by
  simp [World.setCell, Array.getElem?_modify, h]
theorem own_shape {w : World} {base : Nat} {e : TypeId} {size : Nat} {v : Value} {n : Nat} {xs : List Value} (h : w.ownsRow base e size v n xs) : ∃ a c, v = .slice a n c := by
  rcases h.2 with ⟨rfl, h0⟩ | ⟨g, cap, cur, rfl, _⟩
  · exact ⟨none, 0, by rw [h0]⟩
  · exact ⟨_, _, rfl⟩
theorem own_keep {w : World} {w' : World} {G : Nat → Prop} {base sz : Nat} {e : TypeId} {v : Value} {m : Nat} {xs : List Value} (h : w.ownsRow base e sz v m xs) (hk : Kept G w w') (hn : ∀ k, v.ownBlock = some k → ¬ G k) : w'.ownsRow base e sz v m xs := by
  refine ⟨h.1, h.2.imp id ?_⟩
  rintro ⟨g, cap, cur, rfl, hb, hg, rest⟩
  exact ⟨g, cap, cur, rfl, hb, by rw [hk.block g (Array.getElem?_eq_some_iff.1 hg).1 (hn g rfl)]; exact hg, rest⟩
theorem kept_below (F : Nat → Prop) {w w' : World} (h : Below w.heap.size w w') : Kept F w w' := ⟨h.os, h.tape, h.output, h.size, fun k hk _ => h.block k hk⟩
/-- A pile's things and places in memory, behind its pointer. -/
def Rp (F : Nat → Prop) (w : World) (p : Nat) (T : TypeId) (xs : List Th) (m : Int → Option Nat) : Prop :=
  (∀ k, F k → k < w.heap.size) ∧ F p ∧ ∃ mb sv, F mb ∧ p ≠ mb ∧ w.heap[p]? = some (.cells #[sv, .map (some mb)] T (0, 0)) ∧ Mi w mb m ∧ (∀ k, sv.ownBlock = some k → F k ∧ k ≠ p ∧ k ≠ mb) ∧ w.ownsRow 0 52 2 sv xs.length (tcs xs)
theorem Rp.kept {F : Nat → Prop} {w w' : World} {p : Nat} {T : TypeId} {xs : List Th} {m : Int → Option Nat} {G : Nat → Prop} (h : Rp F w p T xs m) (hk : Kept G w w') (hn : ∀ k, F k → ¬ G k) : Rp F w' p T xs m := by
  obtain ⟨hF, hp, mb, sv, hmb, hpm, hd, hM, hsv, ho⟩ := h
  exact ⟨fun k hf => Nat.lt_of_lt_of_le (hF k hf) hk.size, hp, mb, sv, hmb, hpm, by rw [hk.block p (hF p hp) (hn p hp)]; exact hd, hM.kept hk (hn mb hmb), hsv, own_keep ho hk (fun k e => hn k (hsv k e).1)⟩
theorem Rp.below {F : Nat → Prop} {w w' : World} {p : Nat} {T : TypeId} {xs : List Th} {m : Int → Option Nat} (h : Rp F w p T xs m) (hb : Below w.heap.size w w') : Rp F w' p T xs m :=
  h.kept (kept_of_below hb) (fun k hf hge => by have := h.1 k hf; omega)
/-- What is at hand of a pile with things in it. -/
structure Pv (F : Nat → Prop) (w : World) (p : Nat) (T : TypeId) (xs : List Th) (m : Int → Option Nat) (mb g cap : Nat) : Prop where
  hF : ∀ k, F k → k < w.heap.size
  fp : F p
  fm : F mb
  fg : F g
  pm : p ≠ mb
  gp : g ≠ p
  gm : g ≠ mb
  hd : w.heap[p]? = some (.cells #[.slice (some ⟨g, 0, none⟩) xs.length cap, .map (some mb)] T (0, 0))
  mi : Mi w mb m
  ho : w.ownsRow 0 52 2 (.slice (some ⟨g, 0, none⟩) xs.length cap) xs.length (tcs xs)
theorem Rp.view {F : Nat → Prop} {w : World} {p : Nat} {T : TypeId} {xs : List Th} {m : Int → Option Nat} (h : Rp F w p T xs m) (hl : 0 < xs.length) : ∃ mb g cap, Pv F w p T xs m mb g cap := by
  obtain ⟨hF, hp, mb, sv, hmb, hpm, hd, hM, hsv, ho⟩ := h
  have ho' := ho
  rcases ho.2 with ⟨rfl, h0⟩ | ⟨g, cap, cur, rfl, hb, hg, rest⟩
  · omega
  · obtain ⟨h1, h2, h3⟩ := hsv g rfl
    exact ⟨mb, g, cap, hF, hp, hmb, h1, hpm, h2, h3, hd, hM, ho'⟩
theorem Pv.rp {F : Nat → Prop} {w : World} {p : Nat} {T : TypeId} {xs : List Th} {m : Int → Option Nat} {mb g cap : Nat} (h : Pv F w p T xs m mb g cap) : Rp F w p T xs m :=
  ⟨h.hF, h.fp, mb, _, h.fm, h.pm, h.hd, h.mi, fun k hk => by simp [Value.ownBlock] at hk; subst hk; exact ⟨h.fg, h.gp, h.gm⟩, h.ho⟩
theorem Pv.at {F : Nat → Prop} {w : World} {p : Nat} {T : TypeId} {xs : List Th} {m : Int → Option Nat} {mb g cap : Nat} (h : Pv F w p T xs m mb g cap) (i : Nat) (hi : i < xs.length) :
    w.cell? ⟨g, i * 2, none⟩ = some (.int .i64 (gt xs i).1) ∧ w.cell? ⟨g, i * 2 + 1, none⟩ = some (.int .i64 (gt xs i).2) := by
  obtain ⟨a, b⟩ := tcs_at xs i hi
  have h1 := h.ho.cells (g := g) rfl (i * 2) _ a
  have h2 := h.ho.cells (g := g) rfl (i * 2 + 1) _ b
  rw [add_none, Nat.zero_add] at h1 h2
  exact ⟨h1, h2⟩
theorem Pv.below {F : Nat → Prop} {w w' : World} {p : Nat} {T : TypeId} {xs : List Th} {m : Int → Option Nat} {mb g cap : Nat} (h : Pv F w p T xs m mb g cap) (hb : Below w.heap.size w w') : Pv F w' p T xs m mb g cap := by
  have hn : ∀ k, F k → ¬ w.heap.size ≤ k := fun k hf => by have := h.hF k hf; omega
  have hk := kept_of_below hb
  exact ⟨fun k hf => Nat.lt_of_lt_of_le (h.hF k hf) hb.size, h.fp, h.fm, h.fg, h.pm, h.gp, h.gm, by rw [hb.block p (h.hF p h.fp)]; exact h.hd, h.mi.kept hk (hn _ h.fm), own_keep h.ho hk (fun k e => by simp [Value.ownBlock] at e; subst e; exact hn _ h.fg)⟩
theorem own_frozen {w : World} {base : Nat} {e : TypeId} {size : Nat} {n : Nat} {xs : List Value} {g cap : Nat} (h : w.ownsRow base e size (.slice (some ⟨g, 0, none⟩) n cap) n xs) (i : Nat) : w.frozen? ⟨g, i, none⟩ = false := by
  rcases h.2 with ⟨h0, _⟩ | ⟨g', cap', cur, h0, hb, hg, rest⟩
  · simp at h0
  · simp at h0
    obtain ⟨rfl, rfl⟩ := h0
    exact frozen_of_block hg
/-- A thing was laid: its two cells are stored. -/
theorem Pv.stored {F : Nat → Prop} {w : World} {p : Nat} {T : TypeId} {xs : List Th} {m : Int → Option Nat} {mb g cap : Nat} (h : Pv F w p T xs m mb g cap) (i : Nat) (hi : i < xs.length) (x : Th) :
    Pv F ((w.setCell ⟨g, i * 2, none⟩ (.int .i64 x.1)).setCell ⟨g, i * 2 + 1, none⟩ (.int .i64 x.2)) p T (xs.set i x) m mb g cap ∧ Kept F w ((w.setCell ⟨g, i * 2, none⟩ (.int .i64 x.1)).setCell ⟨g, i * 2 + 1, none⟩ (.int .i64 x.2)) := by
  have k1 : Kept (fun k => k = g) w (w.setCell ⟨g, i * 2, none⟩ (.int .i64 x.1)) := Kept.setCell (F := fun k => k = g) w (p := ⟨g, i * 2, none⟩) rfl _
  have k2 : Kept (fun k => k = g) (w.setCell ⟨g, i * 2, none⟩ (.int .i64 x.1)) ((w.setCell ⟨g, i * 2, none⟩ (.int .i64 x.1)).setCell ⟨g, i * 2 + 1, none⟩ (.int .i64 x.2)) := Kept.setCell (F := fun k => k = g) _ (p := ⟨g, i * 2 + 1, none⟩) rfl _
  have k12 := k1.trans k2 (fun _ h => .inl h)
  refine ⟨⟨fun k hf => Nat.lt_of_lt_of_le (h.hF k hf) k12.size, h.fp, h.fm, h.fg, h.pm, h.gp, h.gm, ?_, h.mi.kept k12 (fun e => h.gm e.symm), ?_⟩, k12.mono (fun k e => e ▸ h.fg)⟩
  · rw [k12.block p (h.hF p h.fp) (fun e => h.gp e.symm), List.length_set]
    exact h.hd
  · rw [List.length_set]
    rcases h.ho.2 with ⟨h0, _⟩ | ⟨g', cap', cur, h0, hb, hg, hnc, hcm, hcs, ht⟩
    · simp at h0
    · simp at h0
      obtain ⟨rfl, rfl⟩ := h0
      refine ⟨by rw [tcs_len, List.length_set], .inr ⟨g, cap, _, rfl, hb, heap_set (heap_set hg), hnc, hcm, by simpa using hcs, ?_⟩⟩
      have hz : xs.length * 2 ≤ cur.size := by rw [hcs]; omega
      rw [← tcs_set xs i x hi, ← ht]
      simp only [Array.set!_eq_setIfInBounds, Array.toList_setIfInBounds]
      rw [List.take_set, List.take_set]
theorem Pv.mapped {F : Nat → Prop} {w w' : World} {p : Nat} {T : TypeId} {xs : List Th} {m m' : Int → Option Nat} {mb g cap : Nat} (h : Pv F w p T xs m mb g cap) (hm : Mi w' mb m') (hk : Kept (fun j => j = mb) w w') : Pv F w' p T xs m' mb g cap :=
  ⟨fun k hf => Nat.lt_of_lt_of_le (h.hF k hf) hk.size, h.fp, h.fm, h.fg, h.pm, h.gp, h.gm, by rw [hk.block p (h.hF p h.fp) h.pm]; exact h.hd, hm, own_keep h.ho hk (fun k e => by simp [Value.ownBlock] at e; subst e; exact h.gm)⟩
end Go.Proofs.YtjlmkmhggkcbhaaDoor
