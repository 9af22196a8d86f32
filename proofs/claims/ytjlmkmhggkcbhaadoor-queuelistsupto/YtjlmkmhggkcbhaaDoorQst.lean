/- A queue beside lists of one's own: what a law holds between two calls. -/
import Derived.Test.YtjlmkmhggkcbhaaDoorQopen
namespace Go.Proofs.YtjlmkmhggkcbhaaDoor
open Go.ChangeShapes Go.WideShapes Go.ChangeAt Go.RowKit
set_option maxRecDepth 100000

/-- A queue that the call has made, apart from the blocks Pr. -/
def Qp (w wr : World) (p : Nat) (V : List Th) (Pr : Nat → Prop) : Prop :=
  (∃ F, Qu F wr p V ∧ (∀ k, F k → w.heap.size ≤ k) ∧ ∀ k, Pr k → ¬ F k ∧ k < wr.heap.size) ∧ Below w.heap.size w wr
/-- What lies in the blocks Pr stays. -/
def Pk (Pr : Nat → Prop) (w w' : World) : Prop := w.heap.size ≤ w'.heap.size ∧ ∀ k, k < w.heap.size → Pr k → w'.heap[k]? = w.heap[k]?
theorem Pk.cell {Pr : Nat → Prop} {w w' : World} (h : Pk Pr w w') {a : Addr} {v : Value} (hc : w.cell? a = some v) (hp : Pr a.block) : w'.cell? a = some v :=
  (World.cell?_of_block (h.2 a.block (World.block_lt_of_cell? w a hc) hp)).trans hc
theorem Pk.frozen {Pr : Nat → Prop} {w w' : World} (h : Pk Pr w w') {a : Addr} (hf : w.frozen? a = false) (hp : Pr a.block) (hl : a.block < w.heap.size) : w'.frozen? a = false :=
  frozen_of_heap (h.2 _ hl hp) hf
theorem Pk.below (Pr : Nat → Prop) {w w' : World} (h : Below w.heap.size w w') : Pk Pr w w' := ⟨h.size, fun k hk _ => h.block k hk⟩
theorem Pk.kept {F Pr : Nat → Prop} {w w' : World} (h : Kept F w w') (hn : ∀ k, Pr k → ¬ F k) : Pk Pr w w' := ⟨h.size, fun k hk hp => h.block k hk (hn k hp)⟩
theorem Pk.trans {Pr : Nat → Prop} {a b c : World} (h : Pk Pr a b) (k : Pk Pr b c) : Pk Pr a c := ⟨Nat.le_trans h.1 k.1, fun i hi hp => (k.2 i (Nat.lt_of_lt_of_le hi h.1) hp).trans (h.2 i hi hp)⟩
theorem Pk.own {Pr : Nat → Prop} {w w' : World} (h : Pk Pr w w') {base sz : Nat} {e : TypeId} {v : Value} {m : Nat} {xs : List Value} (ho : w.ownsRow base e sz v m xs) (hp : ∀ k, v.ownBlock = some k → Pr k) : w'.ownsRow base e sz v m xs := by
  refine ⟨ho.1, ho.2.imp id ?_⟩
  rintro ⟨g, cap, cur, rfl, hb, hg, rest⟩
  exact ⟨g, cap, cur, rfl, hb, by rw [h.2 g (Array.getElem?_eq_some_iff.1 hg).1 (hp g rfl)]; exact hg, rest⟩
theorem Qp.below {w wr w' : World} {p : Nat} {V : List Th} {Pr : Nat → Prop} (h : Qp w wr p V Pr) (hb : Below wr.heap.size wr w') : Qp w w' p V Pr := by
  obtain ⟨⟨F, h1, h2, h3⟩, h4⟩ := h
  exact ⟨⟨F, h1.below hb, h2, fun k hk => ⟨(h3 k hk).1, Nat.lt_of_lt_of_le (h3 k hk).2 hb.size⟩⟩, h4.trans (hb.mono h4.size)⟩
theorem Qp.more {w wr : World} {p : Nat} {V : List Th} {Pr Ps : Nat → Prop} (h : Qp w wr p V Pr) (b : Nat) (hb : wr.heap.size = b) (hs : ∀ k, Ps k → Pr k ∨ k = b) {w' : World} (hw : Below wr.heap.size wr w') (hl : b < w'.heap.size) : Qp w w' p V Ps := by
  obtain ⟨⟨F, h1, h2, h3⟩, h4⟩ := h
  refine ⟨⟨F, h1.below hw, h2, fun k hk => ?_⟩, h4.trans (hw.mono h4.size)⟩
  rcases hs k hk with h | h
  · exact ⟨(h3 k h).1, Nat.lt_of_lt_of_le (h3 k h).2 hw.size⟩
  · subst h
    exact ⟨fun f => by have := h1.lt k f; omega, hl⟩
/-- A protected block was written. -/
theorem Qp.wrote {w wr w' : World} {p : Nat} {V : List Th} {Pr : Nat → Prop} (h : Qp w wr p V Pr) {G : Nat → Prop} (hk : Kept G wr w') (hG : ∀ k, G k → Pr k ∧ w.heap.size ≤ k) : Qp w w' p V Pr := by
  obtain ⟨⟨F, h1, h2, h3⟩, h4⟩ := h
  refine ⟨⟨F, h1.kept hk (fun k f g => (h3 k (hG k g).1).1 f), h2, fun k hk' => ⟨(h3 k hk').1, Nat.lt_of_lt_of_le (h3 k hk').2 hk.size⟩⟩, h4.trans (hk.below (fun k g => (hG k g).2) h4.size)⟩
theorem qp_push {w wr : World} {p : Nat} {V : List Th} {Pr : Nat → Prop} (h : Qp w wr p V Pr) (id r : Int) (hn : ∀ y ∈ V, y.1 ≠ id) (hl : V.length < 4096) :
    Calls Tryd.prog 18 #[.pointer (some ⟨p, 0, none⟩), .int .i64 id, .int .i64 r] wr fun e w' => e = .returned .nilIface ∧ Hid (∃ V', Qp w w' p V' Pr ∧ (∀ y, y ∈ V' ↔ y ∈ V ∨ y = (id, r)) ∧ V'.length = V.length + 1 ∧ Pk Pr wr w') := by
  obtain ⟨⟨F, h1, h2, h3⟩, h4⟩ := h
  refine (push_ok F wr p V id r h1 hn hl).mono ?_
  rintro e w' ⟨rfl, F', V', a, b, c, d, k⟩
  have hs := h4.size
  refine ⟨rfl, V', ⟨⟨F', a, fun j hj => ?_, fun j hj => ⟨fun f => ?_, Nat.lt_of_lt_of_le (h3 j hj).2 k.size⟩⟩, h4.trans (k.below h2 hs)⟩, b, c, Pk.kept k (fun j hj => (h3 j hj).1)⟩
  · rcases d j hj with h | h
    · exact h2 j h
    · omega
  · rcases d j f with h | h
    · exact (h3 j hj).1 h
    · have := (h3 j hj).2; omega
theorem qp_drop {w wr : World} {p : Nat} {V : List Th} {Pr : Nat → Prop} (h : Qp w wr p V Pr) (id : Int) (hi : ∃ y ∈ V, y.1 = id) (hl : V.length ≤ 4096) :
    Calls Tryd.prog 19 #[.pointer (some ⟨p, 0, none⟩), .int .i64 id] wr fun e w' => e = .returned .nilIface ∧ Hid (∃ V', Qp w w' p V' Pr ∧ (∀ y, y ∈ V' ↔ y ∈ V ∧ y.1 ≠ id) ∧ V'.length + 1 = V.length ∧ Pk Pr wr w') := by
  obtain ⟨⟨F, h1, h2, h3⟩, h4⟩ := h
  obtain ⟨y, hy, hid⟩ := hi
  obtain ⟨i, hi, rfl⟩ := mem_gt.mp hy
  refine (drop_ok F wr p V i id h1 hi hid hl).mono ?_
  rintro e w' ⟨rfl, V', a, b, c, k⟩
  exact ⟨rfl, V', ⟨⟨F, a, h2, fun j hj => ⟨(h3 j hj).1, Nat.lt_of_lt_of_le (h3 j hj).2 k.size⟩⟩, h4.trans (k.below h2 h4.size)⟩, b, c, Pk.kept k (fun j hj => (h3 j hj).1)⟩
theorem qp_turn {w wr : World} {p : Nat} {V : List Th} {Pr : Nat → Prop} (h : Qp w wr p V Pr) (id r : Int) (hi : ∃ y ∈ V, y.1 = id) (hl : V.length ≤ 4096) :
    Calls Tryd.prog 20 #[.pointer (some ⟨p, 0, none⟩), .int .i64 id, .int .i64 r] wr fun e w' => e = .returned .nilIface ∧ Hid (∃ V', Qp w w' p V' Pr ∧ (∀ y, y ∈ V' ↔ (y.1 ≠ id ∧ y ∈ V) ∨ y = (id, r)) ∧ V'.length = V.length ∧ Pk Pr wr w') := by
  obtain ⟨⟨F, h1, h2, h3⟩, h4⟩ := h
  obtain ⟨y, hy, hid⟩ := hi
  obtain ⟨i, hi, rfl⟩ := mem_gt.mp hy
  refine (turn_ok F wr p V i id r h1 hi hid hl).mono ?_
  rintro e w' ⟨rfl, V', a, b, c, k⟩
  exact ⟨rfl, V', ⟨⟨F, a, h2, fun j hj => ⟨(h3 j hj).1, Nat.lt_of_lt_of_le (h3 j hj).2 k.size⟩⟩, h4.trans (k.below h2 h4.size)⟩, b, c, Pk.kept k (fun j hj => (h3 j hj).1)⟩
theorem qp_drop_gone {w wr : World} {p : Nat} {V : List Th} {Pr : Nat → Prop} (h : Qp w wr p V Pr) (id : Int) (ev : Value) (hn : ∀ y ∈ V, y.1 ≠ id) (he : w.cell? ⟨0, 0, none⟩ = some ev) :
    Calls Tryd.prog 19 #[.pointer (some ⟨p, 0, none⟩), .int .i64 id] wr fun e w' => e = .returned ev ∧ w' = wr := by
  obtain ⟨⟨F, h1, h2, h3⟩, h4⟩ := h
  exact drop_gone F wr p V id ev h1 hn (bcell h4 he)
theorem qp_turn_gone {w wr : World} {p : Nat} {V : List Th} {Pr : Nat → Prop} (h : Qp w wr p V Pr) (id r : Int) (ev : Value) (hn : ∀ y ∈ V, y.1 ≠ id) (he : w.cell? ⟨0, 0, none⟩ = some ev) :
    Calls Tryd.prog 20 #[.pointer (some ⟨p, 0, none⟩), .int .i64 id, .int .i64 r] wr fun e w' => e = .returned ev ∧ w' = wr := by
  obtain ⟨⟨F, h1, h2, h3⟩, h4⟩ := h
  exact turn_gone F wr p V id r ev h1 hn (bcell h4 he)
theorem qp_pop {w wr : World} {p : Nat} {V : List Th} {Pr : Nat → Prop} (h : Qp w wr p V Pr) (hl : 0 < V.length) (hl2 : V.length ≤ 4096) :
    Calls Tryd.prog 21 #[.pointer (some ⟨p, 0, none⟩)] wr fun e w' => e = .returned (.tuple #[.agg #[.int .i64 (gt V 0).1, .int .i64 (gt V 0).2], .nilIface]) ∧ Hid (∃ V', Qp w w' p V' Pr ∧ (∀ y, y ∈ V' ↔ y ∈ V ∧ y.1 ≠ (gt V 0).1) ∧ V'.length + 1 = V.length ∧ Pk Pr wr w') := by
  obtain ⟨⟨F, h1, h2, h3⟩, h4⟩ := h
  refine (pop_ok F wr p V h1 hl hl2).mono ?_
  rintro e w' ⟨rfl, V', a, b, c, k⟩
  exact ⟨rfl, V', ⟨⟨F, a, h2, fun j hj => ⟨(h3 j hj).1, Nat.lt_of_lt_of_le (h3 j hj).2 k.size⟩⟩, h4.trans (k.below h2 h4.size)⟩, b, c, Pk.kept k (fun j hj => (h3 j hj).1)⟩
theorem qp_pop_gone {w wr : World} {p : Nat} {Pr : Nat → Prop} (h : Qp w wr p [] Pr) (a : Addr) (he : w.cell? ⟨0, 0, none⟩ = some (.iface 111 (.pointer (some a)))) :
    Calls Tryd.prog 21 #[.pointer (some ⟨p, 0, none⟩)] wr fun e w' => e = .returned (.tuple #[.agg #[.int .i64 0, .int .i64 0], .iface 111 (.pointer (some a))]) ∧ Below wr.heap.size wr w' := by
  obtain ⟨⟨F, h1, h2, h3⟩, h4⟩ := h
  exact pop_gone F wr p a h1 (bcell h4 he)
theorem qp_peek_gone {w wr : World} {p : Nat} {Pr : Nat → Prop} (h : Qp w wr p [] Pr) (a : Addr) (he : w.cell? ⟨0, 0, none⟩ = some (.iface 111 (.pointer (some a)))) :
    Calls Tryd.prog 25 #[.pointer (some ⟨p, 0, none⟩)] wr fun e w' => e = .returned (.tuple #[.agg #[.int .i64 0, .int .i64 0], .iface 111 (.pointer (some a))]) ∧ Below wr.heap.size wr w' := by
  obtain ⟨⟨F, h1, h2, h3⟩, h4⟩ := h
  exact peek_gone F wr p a h1 (bcell h4 he)
theorem qp_len {w wr : World} {p : Nat} {V : List Th} {Pr : Nat → Prop} (h : Qp w wr p V Pr) :
    Calls Tryd.prog 23 #[.pointer (some ⟨p, 0, none⟩)] wr fun e w' => e = .returned (.int .i64 (V.length : Int)) ∧ w' = wr := by
  obtain ⟨⟨F, h1, h2, h3⟩, h4⟩ := h
  exact len_is F wr p V h1
theorem Qp.first {w wr : World} {p : Nat} {V : List Th} {Pr : Nat → Prop} (h : Qp w wr p V Pr) {y : Th} (hy : y ∈ V) : y = gt V 0 ∨ Ahd (gt V 0) y := by
  obtain ⟨⟨F, h1, _⟩, _⟩ := h
  exact h1.first hy
theorem Qp.inj {w wr : World} {p : Nat} {V : List Th} {Pr : Nat → Prop} (h : Qp w wr p V Pr) {x y : Th} (hx : x ∈ V) (hy : y ∈ V) (e : x.1 = y.1) : x = y := by
  obtain ⟨⟨F, h1, _⟩, _⟩ := h
  exact h1.inj hx hy e
theorem Qp.nodup {w wr : World} {p : Nat} {V : List Th} {Pr : Nat → Prop} (h : Qp w wr p V Pr) : V.Nodup := by
  obtain ⟨⟨F, h1, _⟩, _⟩ := h
  exact h1.nodup
/-- One element of a row of one's own was stored. -/
theorem own_set {w : World} {base : Nat} {e : TypeId} {n g cap : Nat} {xs : List Value} (h : w.ownsRow base e 1 (.slice (some ⟨g, 0, none⟩) n cap) n xs) (i : Nat) (v : Value) :
    (w.setCell ⟨g, i, none⟩ v).ownsRow base e 1 (.slice (some ⟨g, 0, none⟩) n cap) n (xs.set i v) := by
  refine ⟨by rw [List.length_set]; exact h.1, ?_⟩
  rcases h.2 with ⟨h0, _⟩ | ⟨g', cap', cur, h0, hb, hg, hnc, hcm, hcs, ht⟩
  · simp at h0
  · simp at h0
    obtain ⟨rfl, rfl⟩ := h0
    refine .inr ⟨g, cap, _, rfl, hb, heap_set hg, hnc, hcm, by simpa using hcs, ?_⟩
    rw [← ht]
    simp only [Array.set!_eq_setIfInBounds, Array.toList_setIfInBounds]
    rw [List.take_set]
theorem own_at {w : World} {base : Nat} {e : TypeId} {n g cap : Nat} {xs : List Value} (h : w.ownsRow base e 1 (.slice (some ⟨g, 0, none⟩) n cap) n xs) (i : Nat) (v : Value) (hv : xs[i]? = some v) : w.cell? ⟨g, i, none⟩ = some v := by
  have := h.cells (g := g) rfl i v hv
  rwa [add_none, Nat.zero_add] at this
end Go.Proofs.YtjlmkmhggkcbhaaDoor
