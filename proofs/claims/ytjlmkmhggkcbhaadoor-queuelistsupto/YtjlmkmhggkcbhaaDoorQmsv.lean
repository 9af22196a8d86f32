/- QueueMerges: the lists that don't fall, as far as they are made. -/
import Derived.Test.YtjlmkmhggkcbhaaDoorQup
import Derived.Test.YtjlmkmhggkcbhaaDoorQmerge
import Derived.Test.YtjlmkmhggkcbhaaDoorMgMath2
import Derived.Test.YtjlmkmhggkcbhaaDoorQints
import Derived.Test.YtjlmkmhggkcbhaaDoorQlcut
namespace Go.Proofs.YtjlmkmhggkcbhaaDoor
open Go.ChangeShapes Go.WideShapes Go.ChangeAt Go.RowKit
set_option maxRecDepth 100000
set_option linter.unusedVariables false

theorem la_snoc (ss : List (List Int)) (z : List Int) (i : Nat) : la (ss ++ [z]) i = if i < ss.length then la ss i else if i = ss.length then z else [] := by
  unfold la
  simp only [List.getD, List.getElem?_append]
  by_cases h : i < ss.length
  · simp [h]
  · by_cases h2 : i = ss.length
    · subst h2; simp
    · have : 1 ≤ i - ss.length := by omega
      simp [h, h2, List.getElem?_eq_none (show [z].length ≤ i - ss.length by simpa using this)]
theorem tot_snoc (ss : List (List Int)) (z : List Int) : tot (ss ++ [z]) = tot ss + z.length := by simp [tot]
/-- The lists that don't fall, as far as they are made. -/
structure Sv (w wr : World) (sv : Value) (ss : List (List Int)) (us : List Value) : Prop where
  o : wr.ownsRow w.heap.size 36 1 sv ss.length us
  s : ∀ i, i < ss.length → Slc wr (us.getD i vnil) (la ss i)
  n : ∀ i, i < ss.length → Nf (la ss i)
  a : ∀ i, i < ss.length → ∀ k, (us.getD i vnil).ownBlock = some k → k < wr.heap.size ∧ sv.ownBlock ≠ some k
  b : Below w.heap.size w wr
theorem Slc.kept {w w' : World} {v : Value} {xs : List Int} {F : Nat → Prop} (h : Slc w v xs) (hk : Kept F w w') (hn : ∀ k, v.ownBlock = some k → ¬ F k) : Slc w' v xs := by
  obtain ⟨a, c, rfl, hc, hr⟩ := h
  refine ⟨a, c, rfl, hc, fun hp => ?_⟩
  obtain ⟨b, off, rfl, hx⟩ := hr hp
  exact ⟨b, off, rfl, fun i hi => hk.cell (hx i hi) (hn b rfl)⟩
theorem own_slc {w : World} {base : Nat} {v : Value} {xs : List Int} (h : w.ownsRow base 3 1 v xs.length (xs.map (Value.int .i64))) : Slc w v xs := by
  rcases id h.2 with ⟨rfl, h0⟩ | ⟨g, cap, cur, rfl, _, _, hnc, _⟩
  · exact ⟨none, 0, by rw [h0], by omega, fun hp => by omega⟩
  · refine ⟨_, cap, rfl, hnc, fun hp => ⟨g, 0, rfl, fun i hi => ?_⟩⟩
    rw [Nat.zero_add]
    exact own_at h i _ (by simp [List.getD, hi])
theorem Sv.late {w wr w' : World} {sv : Value} {ss : List (List Int)} {us : List Value} (h : Sv w wr sv ss us) (hb : Below wr.heap.size wr w') : Sv w w' sv ss us :=
  ⟨own_keep h.o (kept_below (fun _ => False) hb) (fun _ _ => id), fun i hi => (h.s i hi).below hb, h.n, fun i hi k hk => ⟨Nat.lt_of_lt_of_le (h.a i hi k hk).1 hb.size, (h.a i hi k hk).2⟩, h.b.trans (hb.mono h.b.size)⟩
theorem Sv.put {w wr w2 : World} {sv v2 u : Value} {ss : List (List Int)} {us : List Value} {z : List Int} (h : Sv w wr sv ss us) (hu : Slc wr u z) (hz : Nf z) (ha : ∀ k, u.ownBlock = some k → k < wr.heap.size ∧ sv.ownBlock ≠ some k)
    (ho : w2.ownsRow w.heap.size 36 1 v2 (ss.length + 1) (us ++ [u])) (hg : (wr.alloc (.cells #[u] 36)).grownBy w2 sv.ownBlock) (hat : v2.ownBlock = sv.ownBlock ∨ v2.ownBlock = some (wr.alloc (.cells #[u] 36)).heap.size) : Sv w w2 v2 (ss ++ [z]) (us ++ [u]) := by
  have hul : us.length = ss.length := by have := h.o.1; omega
  have hb1 : Below wr.heap.size wr (wr.alloc (.cells #[u] 36)) := (Below.refl _ wr).alloc (Nat.le_refl _) _
  have k2 : Kept (fun k => sv.ownBlock = some k) (wr.alloc (.cells #[u] 36)) w2 := Kept.grown hg (fun k hk => hk)
  have sz : (wr.alloc (.cells #[u] 36)).heap.size = wr.heap.size + 1 := by simp
  have s2 := k2.size
  have nb : ∀ k, k < wr.heap.size → sv.ownBlock ≠ some k → v2.ownBlock ≠ some k := fun k hk hn => by
    rcases hat with e | e
    · rw [e]; exact hn
    · rw [e, sz]; intro e'; simp at e'; omega
  have bel : Below w.heap.size w w2 := (h.b.trans (hb1.mono h.b.size)).grown hg (by have := h.b.size; omega) (fun k hk => (h.o.lt k hk).1)
  have cut : ∀ i, i < (ss ++ [z]).length → (i < ss.length ∧ (us ++ [u]).getD i vnil = us.getD i vnil ∧ la (ss ++ [z]) i = la ss i) ∨ (i = ss.length ∧ (us ++ [u]).getD i vnil = u ∧ la (ss ++ [z]) i = z) := fun i hi => by
    rw [List.length_append] at hi
    simp only [List.length_cons, List.length_nil] at hi
    by_cases hlt : i < ss.length
    · refine .inl ⟨hlt, by simp [List.getD, List.getElem?_append_left (show i < us.length by omega)], by rw [la_snoc, if_pos hlt]⟩
    · obtain rfl : i = ss.length := by omega
      refine .inr ⟨rfl, by simp [List.getD, ← hul], by rw [la_snoc, if_neg hlt, if_pos rfl]⟩
  refine ⟨by rw [List.length_append]; exact ho, fun i hi => ?_, fun i hi => ?_, fun i hi k hk => ?_, bel⟩
  · rcases cut i hi with ⟨h1, h2, h3⟩ | ⟨h1, h2, h3⟩ <;> rw [h2, h3]
    · exact ((h.s i h1).below hb1).kept k2 (fun k hk e => (h.a i h1 k hk).2 e)
    · exact (hu.below hb1).kept k2 (fun k hk e => (ha k hk).2 e)
  · rcases cut i hi with ⟨h1, h2, h3⟩ | ⟨h1, h2, h3⟩ <;> rw [h3]
    · exact h.n i h1
    · exact hz
  · rcases cut i hi with ⟨h1, h2, h3⟩ | ⟨h1, h2, h3⟩ <;> rw [h2] at hk
    · have := h.a i h1 k hk
      exact ⟨by omega, nb k this.1 this.2⟩
    · have := ha k hk
      exact ⟨by omega, nb k this.1 this.2⟩
theorem Sv.lsl {w wr : World} {sv : Value} {ss : List (List Int)} {us : List Value} (h : Sv w wr sv ss us) : Lsl wr sv ss us := by
  have hul : us.length = ss.length := by have := h.o.1; omega
  obtain ⟨a, c, e⟩ := own_shape h.o
  subst e
  refine ⟨a, c, rfl, hul, fun hp => ?_, h.s⟩
  obtain ⟨g, rfl, _⟩ := own_some h.o hp
  exact ⟨g, 0, rfl, fun i hi => by rw [Nat.zero_add]; exact own_at h.o i _ (by simp [List.getD, hul, hi])⟩
theorem Nf.snoc {z : List Int} (h : Nf z) {x : Int} (hx : z.length = 0 ∨ z.getD (z.length - 1) 0 ≤ x) : Nf (z ++ [x]) := by
  refine List.pairwise_append.mpr ⟨h, by simp, fun a ha b hb => ?_⟩
  simp at hb
  subst hb
  obtain ⟨i, hi, rfl⟩ := List.getElem_of_mem ha
  rcases hx with h0 | h1
  · omega
  · by_cases e : i = z.length - 1
    · subst e; simpa [List.getD, hi] using h1
    · have h2 := List.pairwise_iff_getElem.mp h i (z.length - 1) hi (by omega) (by omega)
      have h3 : z.getD (z.length - 1) 0 = z[z.length - 1] := by simp [List.getD, show z.length - 1 < z.length by omega]
      omega
/-- One list that doesn't fall, as far as it is made. -/
def S1 (wr wi : World) (z : Value) (zs : List Int) : Prop := wi.ownsRow wr.heap.size 3 1 z zs.length (zs.map (Value.int .i64)) ∧ Nf zs ∧ Below wr.heap.size wr wi
theorem S1.put {wr wi w2 : World} {z v2 : Value} {zs : List Int} {x : Int} (h : S1 wr wi z zs) (hx : zs.length = 0 ∨ zs.getD (zs.length - 1) 0 ≤ x)
    (ho : w2.ownsRow wr.heap.size 3 1 v2 (zs.length + 1) (zs.map (Value.int .i64) ++ [.int .i64 x])) (hg : (wi.alloc (.cells #[.int .i64 x] 3)).grownBy w2 z.ownBlock) : S1 wr w2 v2 (zs ++ [x]) := by
  obtain ⟨a, b, c⟩ := h
  have sc := c.size
  refine ⟨by rw [List.map_append, List.length_append]; exact ho, b.snoc hx, (c.alloc sc _).grown hg (by simp; omega) (fun k hk => (a.lt k hk).1)⟩
theorem src_sl1 (w : World) (a : Option Addr) (l c : Nat) : Src Tryd.prog 1 37 (.slice (some ⟨w.heap.size, 0, none⟩) 1 1) 1 [.slice a l c] (w.alloc (.cells #[.slice a l c] 36)) := by
  refine Src.ofSlice _ Tryd.underlying37 _ 1 1 _ rfl (fun j u hj => ?_) (fun u hu => by simp at hu; subst hu; rfl)
  match j, hj with
  | 0, hj => simp at hj; subst hj; rw [add_none]; simp
  | j + 1, hj => simp at hj
end Go.Proofs.YtjlmkmhggkcbhaaDoor
