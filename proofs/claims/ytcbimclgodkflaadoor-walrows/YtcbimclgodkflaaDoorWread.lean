/- The records that stand in an area. -/
import Derived.Test.YtcbimclgodkflaaDoorWrecs
import Derived.Test.YtcbimclgodkflaaDoorWcell
namespace Go.Proofs.YtcbimclgodkflaaDoor
open Go.ChangeShapes Go.WideShapes Go.ChangeAt Go.RowKit
set_option maxRecDepth 100000

theorem infoRec : (Tryd.prog.info? 92).map (fun i => (i.zero, i.size, i.bytes)) = some (some (.agg #[.int .i64 0, .int .i64 0, .int .i64 0, .slice none 0 0]), 4, 48) := by kernel_rfl
/-- A round of area.read: the area in its box, the answer's box, the records so far. -/
structure AR (w wr : World) (fr N : Nat) (g : Int → List Int) (v : Value) (ts : List Rp) (F : Nat → Prop) (k nx rem : Nat) : Prop where
  box : wr.heap[w.heap.size]? = some (.cells #[.int .i64 (fr : Int), .int .i64 ((fr : Int) + (N : Int)), v, .int .i64 (nx : Int)] 69 (0, 0))
  res : wr.heap[w.heap.size + 1]? = some (.cells #[.int .i64 0, .int .i64 0, .slice none 0 0, .int .i64 0] 69 (0, 0))
  go : areaGo g (k + 1) (ts.map (·.1)) (nx : Int) rem = areaGo g (N + 1) [] (fr : Int) N
  sum : nx + rem = fr + N
  kr : rem ≤ k
  tl : ts.length + rem ≤ N
  recs : Recs F wr v ts
  ff : ∀ i, F i → w.heap.size + 2 ≤ i
  bel : Below w.heap.size w wr
theorem lt_of_heap {w : World} {p : Nat} {o : Obj} (h : w.heap[p]? = some o) : p < w.heap.size := (Array.getElem?_eq_some_iff.1 h).1
theorem AR.box' {w wr : World} {fr N : Nat} {g : Int → List Int} {v : Value} {ts : List Rp} {F : Nat → Prop} {k nx rem : Nat} (h : AR w wr fr N g v ts F k nx rem) {W : World} (hb : Below wr.heap.size wr W) : W.heap[w.heap.size]? = some (.cells #[.int .i64 (fr : Int), .int .i64 ((fr : Int) + (N : Int)), v, .int .i64 (nx : Int)] 69 (0, 0)) := by
  rw [hb.block _ (lt_of_heap h.box)]; exact h.box
theorem AR.res' {w wr : World} {fr N : Nat} {g : Int → List Int} {v : Value} {ts : List Rp} {F : Nat → Prop} {k nx rem : Nat} (h : AR w wr fr N g v ts F k nx rem) {W : World} (hb : Below wr.heap.size wr W) : W.heap[w.heap.size + 1]? = some (.cells #[.int .i64 0, .int .i64 0, .slice none 0 0, .int .i64 0] 69 (0, 0)) := by
  rw [hb.block _ (lt_of_heap h.res)]; exact h.res
theorem four_facts {W : World} {R : Nat} {t : TypeId} {a b c d : Value} (h : W.heap[R]? = some (.cells #[a, b, c, d] t (0, 0))) :
    W.cell? ⟨R, 0, none⟩ = some a ∧ W.cell? ⟨R, 1, none⟩ = some b ∧ W.cell? ⟨R, 2, none⟩ = some c ∧ W.cell? ⟨R, 3, none⟩ = some d ∧ W.frozen? ⟨R, 0, none⟩ = false ∧ W.frozen? ⟨R, 1, none⟩ = false ∧ W.frozen? ⟨R, 2, none⟩ = false ∧ W.frozen? ⟨R, 3, none⟩ = false :=
  ⟨cell_of_block h rfl, cell_of_block h rfl, cell_of_block h rfl, cell_of_block h rfl, frozen_of_block h, frozen_of_block h, frozen_of_block h, frozen_of_block h⟩
def nxOf (w : World) (R : Nat) : Nat := match w.cell? ⟨R, 3, none⟩ with
  | some (.int _ x) => x.toNat
  | _ => 0
theorem AR.nx {w wr : World} {fr N : Nat} {g : Int → List Int} {v : Value} {ts : List Rp} {F : Nat → Prop} {k nx rem : Nat} (h : AR w wr fr N g v ts F k nx rem) : nxOf wr w.heap.size = nx := by
  unfold nxOf
  rw [(four_facts h.box).2.2.2.1]
  simp
theorem AR.start (w : World) (fr N : Nat) (g : Int → List Int) : AR w ((w.alloc (.cells #[.int .i64 (fr : Int), .int .i64 ((fr : Int) + (N : Int)), .slice none 0 0, .int .i64 (fr : Int)] 69)).alloc (.cells #[.int .i64 0, .int .i64 0, .slice none 0 0, .int .i64 0] 69)) fr N g (.slice none 0 0) [] (fun _ => False) N fr N :=
  ⟨by rw [heap_alloc_old _ _ (by simp)]; exact heap_alloc_new w _, atwo_new w _ _, rfl, rfl, Nat.le_refl _, by simp, Recs.nil _, fun _ h => h.elim, ((Below.refl _ w).alloc (Nat.le_refl _) _).alloc (by simp) _⟩
/-- A record more. -/
theorem AR.push {w wr w4 w5 : World} {fr N : Nat} {g : Int → List Int} {v v5 : Value} {ts : List Rp} {F : Nat → Prop} {k nx rem m : Nat} {t : Rp} (h : AR w wr fr N g v ts F k nx rem) (hg64 : ∀ i, (g i).length = 64) (hst : stand g (nx : Int) rem = some (t.1, m)) (hgo : goesOn (ts.map (·.1)) t.1 = true)
    (hb4 : Below wr.heap.size wr w4) (hr : Rd w4 (dv t) t.1.data) (hd : ∀ i, (dv t).ownBlock = some i → wr.heap.size ≤ i ∧ i < w4.heap.size) (hown : w5.ownsRow 0 92 4 v5 (ts.length + 1) (ts.flatMap rcl ++ rcl t)) (hg : w4.grownBy w5 v.ownBlock)
    (hat : v5.ownBlock = v.ownBlock ∨ v5.ownBlock = some w4.heap.size) :
    w5.heap[w.heap.size]? = some (.cells #[.int .i64 (fr : Int), .int .i64 ((fr : Int) + (N : Int)), v, .int .i64 (nx : Int)] 69 (0, 0)) ∧ ∃ F', AR w ((w5.setCell ⟨w.heap.size, 2, none⟩ v5).setCell ⟨w.heap.size, 3, none⟩ (.int .i64 ((nx : Int) + (m : Int)))) fr N g v5 (ts ++ [t]) F' (k - 1) (nx + m) (rem - m) := by
  obtain ⟨hok, hm1, hmr⟩ := stand_fits hg64 hst
  have hs := h.bel.size
  have hs4 := hb4.size
  have hlb := lt_of_heap h.box
  have hlr := lt_of_heap h.res
  have hkr := h.kr
  have hbv : ∀ i, i < w.heap.size + 2 → some i ≠ v.ownBlock := fun i hi e => by have := h.ff i (h.recs.row i e.symm); omega
  have e5 : w5.heap[w.heap.size]? = some (.cells #[.int .i64 (fr : Int), .int .i64 ((fr : Int) + (N : Int)), v, .int .i64 (nx : Int)] 69 (0, 0)) := by
    rw [hg.block _ (by omega) (hbv _ (by omega))]; exact h.box' hb4
  have r5 : w5.heap[w.heap.size + 1]? = some (.cells #[.int .i64 0, .int .i64 0, .slice none 0 0, .int .i64 0] 69 (0, 0)) := by
    rw [hg.block _ (by omega) (hbv _ (by omega))]; exact h.res' hb4
  have hp := (h.recs.below hb4).push hown hg hat hr hok (fun i hi => ⟨(hd i hi).2, fun e => by have h1 := (hd i hi).1; have h2 := h.recs.lt i (h.recs.row i e); omega⟩)
  have kw : Kept (fun i => i = w.heap.size) w5 ((w5.setCell ⟨w.heap.size, 2, none⟩ v5).setCell ⟨w.heap.size, 3, none⟩ (.int .i64 ((nx : Int) + (m : Int)))) := kept_setc (F := fun i => i = w.heap.size) (kept_setc (F := fun i => i = w.heap.size) (Kept.refl _ w5) (p := ⟨w.heap.size, 2, none⟩) rfl _) (p := ⟨w.heap.size, 3, none⟩) rfl _
  have hff : ∀ i, (i < w5.heap.size ∧ (F i ∨ (dv t).ownBlock = some i ∨ i = w4.heap.size)) → w.heap.size + 2 ≤ i := by
    rintro i ⟨_, a | a | a⟩
    · exact h.ff i a
    · have := (hd i a).1; omega
    · omega
  refine ⟨e5, _, ⟨?_, ?_, ?_, ?_, ?_, ?_, hp.kept kw (fun i hi e => by have := hff i hi; omega), hff, ?_⟩⟩
  · rw [heap_set (heap_set e5)]
    simp
  · rw [kw.block _ (lt_of_heap r5) (by omega)]; exact r5
  · rw [← h.go, areaGo_more hst hgo, show k - 1 + 1 = k by omega]
    simp
  · have := h.sum; omega
  · omega
  · have := h.tl; rw [List.length_append]; simp; omega
  · have b5 : Below w.heap.size w w5 := (h.bel.trans (hb4.mono hs)).grown hg (by omega) (fun i hi => by have := h.ff i (h.recs.row i hi); omega)
    exact (b5.setCell (p := ⟨w.heap.size, 2, none⟩) (Nat.le_refl _) _).setCell (p := ⟨w.heap.size, 3, none⟩) (Nat.le_refl _) _
/-- What area.read answers. -/
def AreaPost (w : World) (fr N : Nat) (o : List Rc × Int) (e : Ending) (w' : World) : Prop :=
  ∃ (v : Value) (ts : List Rp) (nx : Nat) (F : Nat → Prop), e = .returned (.agg #[.int .i64 (fr : Int), .int .i64 ((fr : Int) + (N : Int)), v, .int .i64 (nx : Int)]) ∧ o = (ts.map (·.1), (nx : Int)) ∧ Recs F w' v ts ∧ (∀ k, F k → w.heap.size ≤ k) ∧ Below w.heap.size w w' ∧ fr ≤ nx ∧ nx ≤ fr + N ∧ ts.length ≤ N
theorem AR.end {w wr W : World} {fr N : Nat} {g : Int → List Int} {v : Value} {ts : List Rp} {F : Nat → Prop} {k nx rem : Nat} (h : AR w wr fr N g v ts F k nx rem) (he : areaGo g (k + 1) (ts.map (·.1)) (nx : Int) rem = (ts.map (·.1), (nx : Int))) (hb : Below wr.heap.size wr W) (v0 v1 v2 v3 : Value) :
    AreaPost w fr N (areaGo g (N + 1) [] (fr : Int) N) (.returned (.agg #[.int .i64 (fr : Int), .int .i64 ((fr : Int) + (N : Int)), v, .int .i64 (nx : Int)])) ((((W.setCell ⟨w.heap.size + 1, 0, none⟩ v0).setCell ⟨w.heap.size + 1, 1, none⟩ v1).setCell ⟨w.heap.size + 1, 2, none⟩ v2).setCell ⟨w.heap.size + 1, 3, none⟩ v3) := by
  have hs := h.sum
  have ht := h.tl
  refine ⟨v, ts, nx, F, rfl, by rw [← h.go]; exact he, (h.recs.below hb).kept (kept_four (F := fun i => i = w.heap.size + 1) (Kept.refl _ W) rfl v0 v1 v2 v3) (fun i hi e => by have := h.ff i hi; omega), fun i hi => by have := h.ff i hi; omega, below_four (h.bel.trans (hb.mono h.bel.size)) (Nat.le_succ _) _ _ _ _, by omega, by omega, by omega⟩
end Go.Proofs.YtcbimclgodkflaaDoor
