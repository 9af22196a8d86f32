/- What lies in memory while a stream is cut and split. -/
import Derived.Test.YtdegekoobgoekaaDoorRefSplit
import Derived.Test.YtdegekoobgoekaaDoorStreamMath
import Derived.Test.YtdegekoobgoekaaDoorOpenList
namespace Go.Proofs.YtdegekoobgoekaaDoor
open Go.ChangeShapes Go.WideShapes Go.ChangeAt Go.RowKit

theorem Lst.late {G : Nat → Prop} {base : Nat} {w w' : World} {v : Value} {ps : List (List Int)} (h : Lst G base w v ps) (hG : ∀ j, G j → j < w.heap.size) (hb : Below w.heap.size w w') : Lst G base w' v ps :=
  h.kept (kept_of_below hb) (fun j hj hge => by have := hG j hj; omega) (fun j hj hge => by obtain ⟨vs, ho, _⟩ := h; have := ho.lt j hj; omega)
theorem Lst.lt {G : Nat → Prop} {base : Nat} {w : World} {v : Value} {ps : List (List Int)} (h : Lst G base w v ps) (k : Nat) (hk : v.ownBlock = some k) : base ≤ k ∧ k < w.heap.size := by
  obtain ⟨vs, ho, _⟩ := h
  exact ho.lt k hk
theorem Lst.join {G H : Nat → Prop} {base : Nat} {w w1 : World} {gv gv1 : Value} {vs us : List Value} {ps ls : List (List Int)} (hr : RdAll G w vs ps) (hu : RdAll H w us ls) (hd : ∀ k, gv.ownBlock = some k → ¬ G k ∧ ¬ H k) (hlt : ∀ k, (G k ∨ H k) → k < w.heap.size) (hk : Kept (fun k => gv.ownBlock = some k) w w1)
    (ho : w1.ownsRow base 22 1 gv1 (ps ++ ls).length (vs ++ us)) (hat : ∀ k, gv1.ownBlock = some k → gv.ownBlock = some k ∨ w.heap.size ≤ k) : Lst (fun k => G k ∨ H k) base w1 gv1 (ps ++ ls) := by
  refine ⟨vs ++ us, ho, RdAll.kept ((hr.mono (fun k h => .inl h)).append (hu.mono (fun k h => .inr h))) hk (fun k h1 h2 => ?_), fun k h1 h2 => ?_⟩
  · rcases h1 with h1 | h1
    · exact (hd k h2).1 h1
    · exact (hd k h2).2 h1
  · rcases hat k h1 with h3 | h3
    · rcases h2 with h2 | h2
      · exact (hd k h3).1 h2
      · exact (hd k h3).2 h2
    · have := hlt k h2
      omega
/-- The stream and the payloads in it. -/
structure St1 (w wr : World) (sv tv : Value) (qs : List (List Int)) : Prop where
  bel : Below w.heap.size w wr
  s : wr.ownsRow w.heap.size 5 1 sv (Sx qs).length ((Sx qs).map (Value.int .u8))
  t : Lst (fun k => k < w.heap.size) w.heap.size wr tv qs
  st : ∀ k, sv.ownBlock = some k → tv.ownBlock ≠ some k
theorem St1.late {w wr w1 : World} {sv tv : Value} {qs : List (List Int)} (h : St1 w wr sv tv qs) (hb : Below wr.heap.size wr w1) : St1 w w1 sv tv qs :=
  ⟨h.bel.trans (hb.mono h.bel.size), own_late h.s hb, h.t.late (fun j hj => by have := h.bel.size; omega) hb, h.st⟩
/-- One frame more. -/
theorem St1.put {w wr w1 w2 w3 : World} {sv tv sv2 tv3 u : Value} {qs : List (List Int)} {p : List Int} {vs : List Value} {o : Obj} (h : St1 w wr sv tv qs) (hb : Below wr.heap.size wr w1) (hto : w1.ownsRow w.heap.size 22 1 tv qs.length vs) (htr : RdAll (fun k => k < w.heap.size) w1 vs qs)
    (hg2 : w1.grownBy w2 sv.ownBlock) (hs2 : w2.ownsRow w.heap.size 5 1 sv2 (Sx (qs ++ [p])).length ((Sx (qs ++ [p])).map (Value.int .u8))) (hat2 : sv2.ownBlock = sv.ownBlock ∨ sv2.ownBlock = some w1.heap.size)
    (hu : Rd w1 u p) (hub : 0 < p.length → ∀ k, u.ownBlock = some k → k < w.heap.size)
    (hg3 : (w2.alloc o).grownBy w3 tv.ownBlock) (ht3 : w3.ownsRow w.heap.size 22 1 tv3 (qs.length + 1) (vs ++ [u])) (hat3 : tv3.ownBlock = tv.ownBlock ∨ tv3.ownBlock = some (w2.alloc o).heap.size) : St1 w w3 sv2 tv3 (qs ++ [p]) := by
  have h1 := h.late hb
  have hw := h1.bel.size
  have hw2 := hg2.size
  have k12 : Kept (fun k => sv.ownBlock = some k) w1 w2 := Kept.grown hg2 (fun k hk => hk)
  have k23 : Kept (fun k => tv.ownBlock = some k) w2 w3 := (Kept.alloc _ w2 o).trans (Kept.grown hg3 (fun k hk => hk)) (fun i hi => .inl hi)
  have b2 : Below w.heap.size w w2 := h1.bel.grown hg2 hw (fun k hk => (h1.s.lt k hk).1)
  have b3 : Below w.heap.size w w3 := b2.trans (k23.below (fun k hk => (hto.lt k hk).1) b2.size)
  have hs2lt : ∀ k, sv2.ownBlock = some k → sv.ownBlock = some k ∨ k = w1.heap.size := fun k hk => by
    rcases hat2 with e | e
    · exact .inl (e ▸ hk)
    · rw [e] at hk; simp at hk; exact .inr hk.symm
  have hst2 : ∀ k, sv2.ownBlock = some k → tv.ownBlock ≠ some k := fun k hk ht => by
    rcases hs2lt k hk with e | e
    · exact h.st k e ht
    · have := (hto.lt k ht).2
      omega
  refine ⟨b3, own_keptV hs2 k23 hst2, ?_, fun k hk ht => ?_⟩
  · have r2 : RdAll (fun k => k < w.heap.size) w2 (vs ++ [u]) (qs ++ [p]) := RdAll.kept (htr.append ⟨⟨hu, hub⟩, trivial⟩) k12 (fun k hk h2 => by have := (h1.s.lt k h2).1; omega)
    refine ⟨vs ++ [u], by rw [List.length_append]; exact ht3, r2.kept k23 (fun k hk h2 => by have := (hto.lt k h2).1; omega), fun k hk h2 => ?_⟩
    have := (ht3.lt k hk).1
    omega
  · rcases hat3 with e | e
    · exact hst2 k hk (e ▸ ht)
    · rw [e] at ht
      have := (hs2.lt k hk).2
      simp at ht
      omega
/-- The stream, its payloads, those that came out of it and the bytes that wait. -/
structure St (w wr : World) (sv tv gv vw : Value) (qs done : List (List Int)) (wt : List Int) (G : Nat → Prop) : Prop where
  bel : Below w.heap.size w wr
  s : wr.ownsRow w.heap.size 5 1 sv (Sx qs).length ((Sx qs).map (Value.int .u8))
  t : Lst (fun k => k < w.heap.size) w.heap.size wr tv qs
  g : Lst G w.heap.size wr gv done
  v : wr.ownsRow w.heap.size 5 1 vw wt.length (wt.map (Value.int .u8))
  gb : ∀ j, G j → w.heap.size ≤ j ∧ j < wr.heap.size
  gs : ∀ j, G j → sv.ownBlock ≠ some j
  gt : ∀ j, G j → tv.ownBlock ≠ some j
  gw : ∀ j, G j → vw.ownBlock ≠ some j
  st : ∀ k, sv.ownBlock = some k → tv.ownBlock ≠ some k
  sg : ∀ k, sv.ownBlock = some k → gv.ownBlock ≠ some k
  sw : ∀ k, sv.ownBlock = some k → vw.ownBlock ≠ some k
  tg : ∀ k, tv.ownBlock = some k → gv.ownBlock ≠ some k
  tw : ∀ k, tv.ownBlock = some k → vw.ownBlock ≠ some k
  gvw : ∀ k, gv.ownBlock = some k → vw.ownBlock ≠ some k
theorem St.late {w wr w1 : World} {sv tv gv vw : Value} {qs done : List (List Int)} {wt : List Int} {G : Nat → Prop} (h : St w wr sv tv gv vw qs done wt G) (hb : Below wr.heap.size wr w1) : St w w1 sv tv gv vw qs done wt G :=
  ⟨h.bel.trans (hb.mono h.bel.size), own_late h.s hb, h.t.late (fun j hj => by have := h.bel.size; omega) hb, h.g.late (fun j hj => (h.gb j hj).2) hb, own_late h.v hb, fun j hj => ⟨(h.gb j hj).1, Nat.lt_of_lt_of_le (h.gb j hj).2 hb.size⟩, h.gs, h.gt, h.gw, h.st, h.sg, h.sw, h.tg, h.tw, h.gvw⟩
theorem St.waits {w wr w1 : World} {sv tv gv vw vw1 : Value} {qs done : List (List Int)} {wt wt1 : List Int} {G : Nat → Prop} (h : St w wr sv tv gv vw qs done wt G) (hg : wr.grownBy w1 vw.ownBlock) (ho : w1.ownsRow w.heap.size 5 1 vw1 wt1.length (wt1.map (Value.int .u8)))
    (hat : vw1.ownBlock = vw.ownBlock ∨ vw1.ownBlock = some wr.heap.size) : St w w1 sv tv gv vw1 qs done wt1 G := by
  have hk : Kept (fun k => vw.ownBlock = some k) wr w1 := Kept.grown hg (fun k hk => hk)
  have hat' : ∀ k, vw1.ownBlock = some k → vw.ownBlock = some k ∨ k = wr.heap.size := fun k hk => by
    rcases hat with e | e
    · exact .inl (e ▸ hk)
    · rw [e] at hk; simp at hk; exact .inr hk.symm
  refine ⟨h.bel.grown hg h.bel.size (fun k hk => (h.v.lt k hk).1), own_keptV h.s hk (fun k h1 h2 => h.sw k h1 h2), h.t.kept hk (fun k h1 h2 => by have := (h.v.lt k h2).1; omega) (fun k h1 h2 => h.tw k h1 h2), h.g.kept hk (fun k h1 h2 => h.gw k h1 h2) (fun k h1 h2 => h.gvw k h1 h2), ho, fun j hj => ⟨(h.gb j hj).1, Nat.lt_of_lt_of_le (h.gb j hj).2 hg.size⟩, h.gs, h.gt, fun j hj hv => ?_, h.st, h.sg, fun k h1 hv => ?_, h.tg, fun k h1 hv => ?_, fun k h1 hv => ?_⟩
  · rcases hat' j hv with e | e
    · exact h.gw j hj e
    · have := (h.gb j hj).2; omega
  · rcases hat' k hv with e | e
    · exact h.sw k h1 e
    · have := (h.s.lt k h1).2; omega
  · rcases hat' k hv with e | e
    · exact h.tw k h1 e
    · have := (h.t.lt k h1).2; omega
  · rcases hat' k hv with e | e
    · exact h.gvw k h1 e
    · have := (h.g.lt k h1).2; omega
/-- The payloads of H, which lie apart from all that was there, are put to those that came out. -/
theorem St.got {w wr w1 : World} {B : Nat} {sv tv gv vw gv1 : Value} {qs done ls : List (List Int)} {wt : List Int} {G H : Nat → Prop} {vs us : List Value} (h : St w wr sv tv gv vw qs done wt G) (hr : RdAll G wr vs done) (hu : RdAll H wr us ls)
    (hB : ∀ k, (sv.ownBlock = some k ∨ tv.ownBlock = some k ∨ gv.ownBlock = some k ∨ vw.ownBlock = some k) → k < B) (hwB : w.heap.size ≤ B) (hH : ∀ j, H j → B ≤ j ∧ j < wr.heap.size) (hd : ∀ k, gv.ownBlock = some k → ¬ G k)
    (hg : wr.grownBy w1 gv.ownBlock) (ho : w1.ownsRow w.heap.size 22 1 gv1 (done ++ ls).length (vs ++ us)) (hat : gv1.ownBlock = gv.ownBlock ∨ gv1.ownBlock = some wr.heap.size) : St w w1 sv tv gv1 vw qs (done ++ ls) wt (fun j => G j ∨ H j) := by
  have hk : Kept (fun k => gv.ownBlock = some k) wr w1 := Kept.grown hg (fun k hk => hk)
  have hat' : ∀ k, gv1.ownBlock = some k → gv.ownBlock = some k ∨ wr.heap.size ≤ k := fun k hk => by
    rcases hat with e | e
    · exact .inl (e ▸ hk)
    · rw [e] at hk; simp at hk; exact .inr (by omega)
  have hgl : ∀ j, (G j ∨ H j) → w.heap.size ≤ j ∧ j < wr.heap.size := fun j hj => hj.elim (h.gb j) (fun hj => ⟨by have := (hH j hj).1; omega, (hH j hj).2⟩)
  refine ⟨h.bel.grown hg h.bel.size (fun k hk => (h.g.lt k hk).1), own_keptV h.s hk (fun k h1 h2 => h.sg k h1 h2), h.t.kept hk (fun k h1 h2 => by have := (h.g.lt k h2).1; omega) (fun k h1 h2 => h.tg k h1 h2), Lst.join hr hu (fun k h1 => ⟨hd k h1, fun h2 => by have := hB k (.inr (.inr (.inl h1))); have := (hH k h2).1; omega⟩) (fun k h1 => (hgl k h1).2) hk ho hat', own_keptV h.v hk (fun k h1 h2 => h.gvw k h2 h1), fun j hj => ⟨(hgl j hj).1, Nat.lt_of_lt_of_le (hgl j hj).2 hg.size⟩, ?_, ?_, ?_, h.st, ?_, h.sw, ?_, h.tw, ?_⟩
  · exact fun j hj h1 => hj.elim (fun h2 => h.gs j h2 h1) (fun h2 => by have := hB j (.inl h1); have := (hH j h2).1; omega)
  · exact fun j hj h1 => hj.elim (fun h2 => h.gt j h2 h1) (fun h2 => by have := hB j (.inr (.inl h1)); have := (hH j h2).1; omega)
  · exact fun j hj h1 => hj.elim (fun h2 => h.gw j h2 h1) (fun h2 => by have := hB j (.inr (.inr (.inr h1))); have := (hH j h2).1; omega)
  · exact fun k h1 h2 => (hat' k h2).elim (h.sg k h1) (fun h3 => by have := (h.s.lt k h1).2; omega)
  · exact fun k h1 h2 => (hat' k h2).elim (h.tg k h1) (fun h3 => by have := (h.t.lt k h1).2; omega)
  · exact fun k h1 h2 => (hat' k h1).elim (fun h3 => h.gvw k h3 h2) (fun h3 => by have := (h.v.lt k h2).2; omega)
/-- Other bytes wait, in a new place. -/
theorem St.fresh {w wr w1 : World} {sv tv gv vw vw1 : Value} {qs done : List (List Int)} {wt wt1 : List Int} {G : Nat → Prop} (h : St w wr sv tv gv vw qs done wt G) (hb : Below wr.heap.size wr w1) (ho : w1.ownsRow wr.heap.size 5 1 vw1 wt1.length (wt1.map (Value.int .u8))) : St w w1 sv tv gv vw1 qs done wt1 G := by
  have h1 := h.late hb
  refine ⟨h1.bel, h1.s, h1.t, h1.g, own_weak ho h.bel.size, h1.gb, h.gs, h.gt, fun j hj hv => ?_, h.st, h.sg, fun k hk hv => ?_, h.tg, fun k hk hv => ?_, fun k hk hv => ?_⟩
  · have := (h.gb j hj).2; have := (ho.lt j hv).1; omega
  · have := (h.s.lt k hk).2; have := (ho.lt k hv).1; omega
  · have := (h.t.lt k hk).2; have := (ho.lt k hv).1; omega
  · have := (h.g.lt k hk).2; have := (ho.lt k hv).1; omega
end Go.Proofs.YtdegekoobgoekaaDoor
