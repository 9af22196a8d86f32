/- The newest area. -/
import Derived.Test.YtcbimclgodkflaaDoorWread2
namespace Go.Proofs.YtcbimclgodkflaaDoor
open Go.ChangeShapes Go.WideShapes Go.ChangeAt Go.RowKit
set_option maxRecDepth 100000

def lgen (rs : List Rc) : Nat := (rs.getLast?.map Rc.gen).getD 0
def lep (rs : List Rc) : Nat := (rs.getLast?.map Rc.epoch).getD 0
def lix (rs : List Rc) : Nat := (rs.getLast?.map Rc.index).getD 0
theorem last_any {F : Nat → Prop} (w : World) (x y z v : Value) (ts : List Rp) (h : Recs F w v ts) (hl : (ts.length : Int) ≤ 1000000000000) :
    Calls Tryd.prog 41 #[.agg #[x, y, v, z]] w fun e w' => (∃ da dn dc, e = .returned (.agg #[.int .i64 (lgen (ts.map (·.1)) : Int), .int .i64 (lep (ts.map (·.1)) : Int), .int .i64 (lix (ts.map (·.1)) : Int), .slice da dn dc])) ∧ Below w.heap.size w w' := by
  rcases List.eq_nil_or_concat ts with rfl | ⟨ts, t, rfl⟩
  · obtain ⟨a, c, rfl⟩ := h.shape
    refine (last_nil w x y z a c).mono ?_
    rintro e w' ⟨rfl, hb⟩
    exact ⟨⟨_, _, _, rfl⟩, hb⟩
  · rw [List.concat_eq_append] at *
    obtain ⟨g, cap, rfl, h0, h1, h2, h3⟩ := h.last
    refine (last_some w x y z t.1.gen t.1.epoch t.1.index _ _ _ g 0 ts.length cap (by simp at hl; omega) h0 h1 h2 h3).mono ?_
    rintro e w' ⟨rfl, hb⟩
    exact ⟨⟨t.2.1, t.1.data.length, t.2.2, by simp [lgen, lep, lix]⟩, hb⟩
/-- The newest area of n sectors: is it the second one, its records, the sector behind them. -/
noncomputable def newA (g : Int → List Int) (s : Nat) : Bool × (List Rc × Int) :=
  if 0 < (areaGo g (s + 1) [] 0 s).1.length ∧ lgen (areaGo g (s + 1) [] (s : Int) s).1 ≤ lgen (areaGo g (s + 1) [] 0 s).1 then (false, areaGo g (s + 1) [] 0 s) else (true, areaGo g (s + 1) [] (s : Int) s)
/-- Two areas in their boxes, and the answer's box. -/
structure NW (w U : World) (s b1 b2 : Nat) (v1 v2 : Value) (ts1 ts2 : List Rp) (F1 F2 : Nat → Prop) (n1 n2 : Nat) : Prop where
  one : U.heap[b1]? = some (.cells #[.int .i64 0, .int .i64 (s : Int), v1, .int .i64 (n1 : Int)] 69 (0, 0))
  two : U.heap[b2]? = some (.cells #[.int .i64 (s : Int), .int .i64 ((s : Int) + (s : Int)), v2, .int .i64 (n2 : Int)] 69 (0, 0))
  res : U.heap[w.heap.size]? = some (.cells #[.int .i64 0, .int .i64 0, .slice none 0 0, .int .i64 0] 69 (0, 0))
  r1 : Recs F1 U v1 ts1
  r2 : Recs F2 U v2 ts2
  f1 : ∀ k, F1 k → w.heap.size + 1 ≤ k
  f2 : ∀ k, F2 k → w.heap.size + 1 ≤ k
  l1 : ts1.length ≤ s
  l2 : ts2.length ≤ s
  m1 : n1 ≤ s
  m2 : s ≤ n2 ∧ n2 ≤ s + s
  bel : Below w.heap.size w U
theorem NW.below {w U U' : World} {s b1 b2 : Nat} {v1 v2 : Value} {ts1 ts2 : List Rp} {F1 F2 : Nat → Prop} {n1 n2 : Nat} (h : NW w U s b1 b2 v1 v2 ts1 ts2 F1 F2 n1 n2) (hb : Below U.heap.size U U') : NW w U' s b1 b2 v1 v2 ts1 ts2 F1 F2 n1 n2 :=
  ⟨by rw [hb.block _ (lt_of_heap h.one)]; exact h.one, by rw [hb.block _ (lt_of_heap h.two)]; exact h.two, by rw [hb.block _ (lt_of_heap h.res)]; exact h.res, h.r1.below hb, h.r2.below hb, h.f1, h.f2, h.l1, h.l2, h.m1, h.m2, h.bel.trans (hb.mono h.bel.size)⟩
/-- What newest answers. -/
def NewPost (w : World) (s : Nat) (o : Bool × (List Rc × Int)) (e : Ending) (w' : World) : Prop :=
  ∃ fr : Nat, fr = (if o.1 = true then s else 0) ∧ AreaPost w fr s o.2 e w'
theorem NW.first {w U : World} {s b1 b2 : Nat} {v1 v2 : Value} {ts1 ts2 : List Rp} {F1 F2 : Nat → Prop} {n1 n2 : Nat} (h : NW w U s b1 b2 v1 v2 ts1 ts2 F1 F2 n1 n2) (u0 u1 u2 u3 : Value) : NewPost w s (false, (ts1.map (·.1), (n1 : Int))) (.returned (.agg #[.int .i64 0, .int .i64 (s : Int), v1, .int .i64 (n1 : Int)])) ((((U.setCell ⟨w.heap.size, 0, none⟩ u0).setCell ⟨w.heap.size, 1, none⟩ u1).setCell ⟨w.heap.size, 2, none⟩ u2).setCell ⟨w.heap.size, 3, none⟩ u3) := by
  have hm := h.m1
  exact ⟨0, rfl, v1, ts1, n1, F1, by simp, rfl, h.r1.kept (kept_four (F := fun i => i = w.heap.size) (Kept.refl _ U) rfl u0 u1 u2 u3) (fun i hi e => by have := h.f1 i hi; omega), fun i hi => by have := h.f1 i hi; omega, below_four h.bel (Nat.le_refl _) _ _ _ _, Nat.zero_le _, by omega, h.l1⟩
theorem NW.second {w U : World} {s b1 b2 : Nat} {v1 v2 : Value} {ts1 ts2 : List Rp} {F1 F2 : Nat → Prop} {n1 n2 : Nat} (h : NW w U s b1 b2 v1 v2 ts1 ts2 F1 F2 n1 n2) (u0 u1 u2 u3 : Value) : NewPost w s (true, (ts2.map (·.1), (n2 : Int))) (.returned (.agg #[.int .i64 (s : Int), .int .i64 ((s : Int) + (s : Int)), v2, .int .i64 (n2 : Int)])) ((((U.setCell ⟨w.heap.size, 0, none⟩ u0).setCell ⟨w.heap.size, 1, none⟩ u1).setCell ⟨w.heap.size, 2, none⟩ u2).setCell ⟨w.heap.size, 3, none⟩ u3) := by
  have hm := h.m2
  exact ⟨s, rfl, v2, ts2, n2, F2, rfl, rfl, h.r2.kept (kept_four (F := fun i => i = w.heap.size) (Kept.refl _ U) rfl u0 u1 u2 u3) (fun i hi e => by have := h.f2 i hi; omega), fun i hi => by have := h.f2 i hi; omega, below_four h.bel (Nat.le_refl _) _ _ _ _, hm.1, hm.2, h.l2⟩
end Go.Proofs.YtcbimclgodkflaaDoor
