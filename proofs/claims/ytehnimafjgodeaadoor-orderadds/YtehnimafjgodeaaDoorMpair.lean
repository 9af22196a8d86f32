/- Numbers by pairs of numbers, in a map. -/
import Derived.Test.YtehnimafjgodeaaDoorOlast
import Derived.Test.YtehnimafjgodeaaDoorOpenEn2
import Derived.DeepKeys3
import Derived.Laws.StructEq
import Derived.MapKept
namespace Go.Proofs.YtehnimafjgodeaaDoor
open Go.ChangeMaps Go.ChangeShapes Go.WideShapes Go.ChangeAt Go.RowKit
set_option maxRecDepth 100000

abbrev Pr := Int × Int
abbrev vK (k : Pr) : Value := .agg #[.int .i64 k.1, .int .i64 k.2]
theorem vK_inj {a b : Pr} (h : vK a = vK b) : a = b := by
  obtain ⟨a1, a2⟩ := a
  obtain ⟨b1, b2⟩ := b
  simpa using h
def keyP : Value → Option Pr
  | .agg #[.int .i64 a, .int .i64 b] => some (a, b)
  | _ => none
theorem keyP_vK (k : Pr) : keyP (vK k) = some k := rfl
def lookP : List MapEntry → Pr → Option Value
  | [], _ => none
  | e :: r, k => if keyP e.key = some k then some e.val else lookP r k
def PairKeys (l : List MapEntry) : Prop := ∀ e ∈ l, ∃ x, e.key = vK x
theorem eqP (w : World) (s t : Pr) : (Op.equal 71 (vK s) (vK t)).run Tryd.prog w = .ok (decide (s = t)) w := by
  obtain ⟨a, b⟩ := s; obtain ⟨d, e⟩ := t
  have u3 := Tryd.underlying3
  have a3 := Tryd.isAgg3
  have z3 := Tryd.sizeOf3
  show (Op.equalIn 10000 71 (vK (a, b)) (vK (d, e))).run Tryd.prog w = _
  rw [show (10000 : Nat) = 9999 + 1 from rfl, Op.equalIn]
  simp only [Sem.run_bind, run_underlying Tryd.underlying71, Result.andThen_ok]
  simp only [Std.Legacy.Range.forIn_eq_forIn_range', Std.Legacy.Range.size, Nat.sub_zero, Nat.add_sub_cancel, Nat.div_one, List.range'_succ, List.range'_zero, List.forIn_cons, List.forIn_nil]
  go_simp
  by_cases h0 : a = d
  case neg => simp [h0]
  by_cases h1 : b = e
  case neg => simp [h0, h1]
  simp [h0, h1]
def I2 (s : Pr) : Prop := In64 s.1 ∧ In64 s.2
theorem wf_of_in {x : Int} (h : In64 x) : (Lit.int .i64 x).wf = true := by
  obtain ⟨h1, h2⟩ := h
  simp [Lit.wf, IntKind.min, IntKind.max, IntKind.signed, IntKind.bits]
  omega
theorem cells_pair : Tryd.prog.cellsOf 71 = 2 := by kernel_rfl
theorem checkP (w : World) (c : Bool) (s : Pr) (h : I2 s) : (Instr.checkKey c 10000 71 (vK s)).run Tryd.prog w = .ok () w := by
  obtain ⟨a, b⟩ := s
  obtain ⟨h1, h2⟩ := h
  refine run_checkKey_deep c 9998 2 71 (by kernel_rfl) w 3 (vK (a, b)) [.int .i64 a, .int .i64 b] (by kernel_rfl) ?_
  have e1 := wf_of_in h1
  have e2 := wf_of_in h2
  simp only at e1 e2
  simp [Program.keyLits, Tryd.underlying71, Tryd.underlying3, cells_pair, cellsInt, Value.cells, e1, e2, List.mapM, List.mapM.loop, List.range, List.range.loop]
theorem findPA (k : Pr) (w : World) : ∀ (l : List MapEntry) (i : Nat), PairKeys l →
    (lookP l k = none ∧ (Instr.findAsking 71 (vK k) l i).run Tryd.prog w = .ok none w) ∨
    (∃ j v, lookP l k = some v ∧ (Instr.findAsking 71 (vK k) l i).run Tryd.prog w = .ok (some (i + j, v)) w ∧ (∃ e, l[j]? = some e ∧ e.key = vK k) ∧ (∀ val k', lookP (l.modify j (fun e => { e with key := vK k, val := val })) k' = if k' = k then some val else lookP l k'))
  | [], i, _ => .inl ⟨rfl, by simp [Instr.findAsking]⟩
  | e :: r, i, hi => by
    obtain ⟨x, hx⟩ := hi e (by simp)
    by_cases h : k = x
    · subst h
      refine .inr ⟨0, e.val, by simp [lookP, hx, keyP_vK], by simp [Instr.findAsking, hx, eqP], ⟨e, rfl, hx⟩, fun val k' => ?_⟩
      by_cases h' : k' = k
      · simp [lookP, keyP_vK, h']
      · have : ¬ k = k' := fun e => h' e.symm
        simp [lookP, keyP_vK, hx, this, h']
    · have hne : ¬ x = k := fun e => h e.symm
      rcases findPA k w r (i + 1) (fun e he => hi e (by simp [he])) with ⟨h1, h2⟩ | ⟨j, v, h1, h2, h4, h3⟩
      · exact .inl ⟨by simp [lookP, hx, keyP_vK, hne, h1], by simp [Instr.findAsking, hx, eqP, h, h2]⟩
      · refine .inr ⟨j + 1, v, by simp [lookP, hx, keyP_vK, hne, h1], by simp [Instr.findAsking, hx, eqP, h, h2]; omega, by simpa using h4, fun val k' => ?_⟩
        by_cases h' : k' = x
        · subst h'; simp [lookP, keyP_vK, hx, hne]
        · have : ¬ x = k' := fun e => h' e.symm
          simp [lookP, keyP_vK, hx, this, h3]
theorem lookP_push {l : List MapEntry} {k : Pr} (h : lookP l k = none) (val : Value) (born : Nat) (k' : Pr) : lookP (l ++ [⟨vK k, val, born⟩]) k' = if k' = k then some val else lookP l k' := by
  induction l with
  | nil =>
    by_cases h' : k' = k
    · simp [lookP, keyP_vK, h']
    · have : ¬ k = k' := fun e => h' e.symm
      simp [lookP, keyP_vK, h', this]
  | cons e r ih =>
    simp only [lookP] at h
    split at h
    · simp at h
    · rename_i hn
      simp only [List.cons_append, lookP]
      split
      · rename_i h2
        rw [if_neg (fun e2 => hn (by rw [h2, e2]))]
      · exact ih h
theorem findPK (k : Pr) (w : World) (l : List MapEntry) (hl : PairKeys l) :
    (lookP l k = none ∧ (Instr.findKey 71 (vK k) l).run Tryd.prog w = .ok none w) ∨
    (∃ j v, lookP l k = some v ∧ (Instr.findKey 71 (vK k) l).run Tryd.prog w = .ok (some (j, v)) w ∧ (∃ e, l[j]? = some e ∧ e.key = vK k) ∧ (∀ val k', lookP (l.modify j (fun e => { e with key := vK k, val := val })) k' = if k' = k then some val else lookP l k')) := by
  have hk : (Instr.findKey 71 (vK k) l).run Tryd.prog w = (Instr.findAsking 71 (vK k) l 0).run Tryd.prog w := by
    cases l with
    | nil => simp [Instr.findKey, Instr.findNow, run_underlying Tryd.underlying71, Instr.findAsking]
    | cons e r =>
      obtain ⟨x, hx⟩ := hl e (by simp)
      simp [Instr.findKey, Instr.findNow, Instr.sameNow, run_underlying Tryd.underlying71]
  rw [hk]
  rcases findPA k w l 0 hl with ⟨h1, h2⟩ | ⟨j, v, h1, h2, h3⟩
  · exact .inl ⟨h1, h2⟩
  · exact .inr ⟨j, v, h1, by rw [Nat.zero_add] at h2; exact h2, h3⟩
theorem lookP_none {l : List MapEntry} {k : Pr} (h : lookP l k = none) : ∀ e ∈ l, e.key ≠ vK k := by
  induction l with
  | nil => intro e he; simp at he
  | cons a r ih =>
    intro e he hk
    unfold lookP at h
    split at h
    · simp at h
    · rename_i h1
      rcases List.mem_cons.mp he with rfl | he
      · exact h1 (by rw [hk]; rfl)
      · exact ih h e he hk
def upP (m : Pr → Option Int) (k : Pr) (i : Int) : Pr → Option Int := fun k' => if k' = k then some i else m k'
/-- The numbers m lie in the map of block b. -/
def Mp (w : World) (b : Nat) (m : Pr → Option Int) : Prop :=
  ∃ es clock, w.heap[b]? = some (.map es clock) ∧ PairKeys es.toList ∧ (es.toList.map (·.key)).Nodup ∧ Born es.toList clock ∧ ∀ k, lookP es.toList k = (m k).map (Value.int .i64)
theorem Mp.kept {F : Nat → Prop} {w w' : World} {b : Nat} {m : Pr → Option Int} (h : Mp w b m) (hk : Kept F w w') (hn : ¬ F b) : Mp w' b m := by
  obtain ⟨es, clock, hb, hr⟩ := h
  exact ⟨es, clock, by rw [hk.block b (Array.getElem?_eq_some_iff.1 hb).1 hn]; exact hb, hr⟩
theorem Mp.lt {w : World} {b : Nat} {m : Pr → Option Int} (h : Mp w b m) : b < w.heap.size := by
  obtain ⟨es, clock, hb, _⟩ := h
  exact (Array.getElem?_eq_some_iff.1 hb).1
theorem Mp.below {w w' : World} {b : Nat} {m : Pr → Option Int} (h : Mp w b m) (hb : Below w.heap.size w w') : Mp w' b m := h.kept (kept_of_below hb) (by have := h.lt; omega)
theorem Mp.get {w : World} {b : Nat} {m : Pr → Option Int} (h : Mp w b m) (k : Pr) (hi2 : I2 k) : (Instr.lookup 70 (.map (some b)) (vK k) true).run Tryd.prog w = .ok (.tuple #[.int .i64 ((m k).getD 0), .bool (m k).isSome]) w := by
  obtain ⟨es, clock, hb, hi, _, _, hf⟩ := h
  have hk := hf k
  have hc : ∀ c, (Instr.checkKey c 10000 71 (vK k)).run Tryd.prog w = .ok () w := fun c => checkP w c k hi2
  rcases findPK k w es.toList hi with ⟨h1, h2⟩ | ⟨j, v, h1, h2, _⟩
  · rw [h1] at hk
    have hm : m k = none := by cases hm : m k <;> simp [hm] at hk ⊢
    simp [Instr.lookup, run_underlying Tryd.underlying70, MapKept.run_getObj_map hb, hc, h2, hm]
  · rw [h1] at hk
    obtain ⟨i, hm, hv⟩ : ∃ i, m k = some i ∧ v = .int .i64 i := by
      cases hm : m k with
      | none => rw [hm] at hk; simp at hk
      | some i => rw [hm] at hk; exact ⟨i, rfl, by simpa using hk⟩
    simp [Instr.lookup, run_underlying Tryd.underlying70, MapKept.run_getObj_map hb, hc, h2, hm, hv]
theorem bits_same (k : Pr) : Instr.sameBits 10000 (vK k) (vK k) = true := by
  obtain ⟨a, b⟩ := k
  rw [show (10000 : Nat) = 9999 + 1 from rfl]
  simp [Instr.sameBits]
theorem Mp.put {w : World} {b : Nat} {m : Pr → Option Int} (h : Mp w b m) (k : Pr) (hi2 : I2 k) (i : Int) : ∃ w', (Instr.mapUpdate 70 (.map (some b)) (vK k) (.int .i64 i)).run Tryd.prog w = .ok () w' ∧ Mp w' b (upP m k i) ∧ Kept (fun j => j = b) w w' := by
  obtain ⟨es, clock, hb, hi, hd, hbn, hf⟩ := h
  have hc : (Instr.checkKey false 10000 71 (vK k)).run Tryd.prog w = .ok () w := checkP w false k hi2
  have kept : ∀ o, Kept (fun j => j = b) w (setBlock w b o) := fun o => ⟨rfl, rfl, rfl, by simp [setBlock], fun i _ hi => heap_setBlock_other hb _ hi⟩
  rcases findPK k w es.toList hi with ⟨h1, h2⟩ | ⟨j, v, h1, h2, ⟨e0, hj, hke⟩, h3⟩
  · refine ⟨setBlock w b (.map (es.push ⟨vK k, .int .i64 i, clock⟩) (clock + 1)), ?_, ⟨_, _, heap_setBlock_same hb _, ?_, ?_, ?_, fun k' => ?_⟩, kept _⟩
    · simp [Instr.mapUpdate, run_underlying Tryd.underlying70, MapKept.run_getObj_map hb, hc, h2, MapKept.run_setObj_map _ hb, Result.andThen, setBlock]
    · intro e he
      simp at he
      rcases he with he | rfl
      · exact hi e (by simpa using he)
      · exact ⟨k, rfl⟩
    · rw [Array.toList_push, List.map_append, List.nodup_append]
      refine ⟨hd, by simp, ?_⟩
      intro a ha b hb' e
      obtain ⟨x, hx, rfl⟩ := List.mem_map.mp ha
      simp at hb'
      exact lookP_none h1 x hx (e.trans hb')
    · refine ⟨fun e he => ?_, ?_⟩
      · simp at he
        rcases he with he | rfl
        · have := hbn.1 e (by simpa using he); omega
        · exact Nat.lt_succ_self _
      · rw [Array.toList_push, List.map_append, List.nodup_append]
        refine ⟨hbn.2, by simp, ?_⟩
        intro a ha b hb' e
        obtain ⟨x, hx, rfl⟩ := List.mem_map.mp ha
        simp at hb'
        have := hbn.1 x hx
        omega
    · rw [Array.toList_push, lookP_push h1]
      unfold upP
      split
      · rfl
      · exact hf k'
  · refine ⟨setBlock w b (.map (es.modify j (fun e => { e with key := vK k, val := .int .i64 i })) clock), ?_, ⟨_, _, heap_setBlock_same hb _, ?_, ?_, ?_, fun k' => ?_⟩, kept _⟩
    · have hj' : es[j]? = some e0 := by simpa using hj
      simp [Instr.mapUpdate, run_underlying Tryd.underlying70, MapKept.run_getObj_map hb, hc, h2, hj', hke, Instr.keyThatStays, bits_same, MapKept.run_setObj_map _ hb, Result.andThen, setBlock]
    · intro e he
      rw [Array.toList_modify] at he
      obtain ⟨n, hn, rfl⟩ := List.getElem_of_mem he
      rw [List.getElem_modify]
      split
      · exact ⟨k, rfl⟩
      · exact hi _ (List.getElem_mem _)
    · have : (es.modify j (fun e => { e with key := vK k, val := .int .i64 i })).toList.map (·.key) = es.toList.map (·.key) := by
        rw [Array.toList_modify]
        refine List.ext_getElem (by simp) (fun n h1 h2 => ?_)
        simp only [List.getElem_map, List.getElem_modify]
        split
        · rename_i e
          subst e
          have hj2 := (List.getElem?_eq_some_iff.mp hj).2
          rw [hj2, hke]
        · rfl
      rw [this]
      exact hd
    · refine ⟨fun e he => ?_, ?_⟩
      · rw [Array.toList_modify] at he
        obtain ⟨n, hn, rfl⟩ := List.getElem_of_mem he
        rw [List.getElem_modify]
        split
        · have hn' : n < es.toList.length := by simpa using hn
          exact hbn.1 (es.toList[n]'hn') (List.getElem_mem _)
        · exact hbn.1 _ (List.getElem_mem _)
      · have : (es.modify j (fun e => { e with key := vK k, val := .int .i64 i })).toList.map (·.born) = es.toList.map (·.born) := by
          rw [Array.toList_modify]
          refine List.ext_getElem (by simp) (fun n h1 h2 => ?_)
          simp only [List.getElem_map, List.getElem_modify]
          split <;> rfl
        rw [this]
        exact hbn.2
    · rw [Array.toList_modify, h3]
      unfold upP
      split
      · rfl
      · exact hf k'
theorem lookP_mem {l : List MapEntry} (hi : PairKeys l) (hd : (l.map (·.key)).Nodup) {e : MapEntry} (he : e ∈ l) {k : Pr} (hk : e.key = vK k) : lookP l k = some e.val := by
  induction l with
  | nil => simp at he
  | cons a r ih =>
    simp only [List.map_cons, List.nodup_cons] at hd
    rcases List.mem_cons.mp he with rfl | he
    · simp [lookP, hk, keyP_vK]
    · obtain ⟨x, hx⟩ := hi a (by simp)
      have hne : ¬ x = k := fun e2 => hd.1 (by rw [hx, e2, ← hk]; exact List.mem_map.mpr ⟨e, he, rfl⟩)
      simp only [lookP, hx, keyP_vK, Option.some.injEq, hne, if_false]
      exact ih (fun e' he' => hi e' (by simp [he'])) hd.2 he
/-- A round of a loop over a map: nothing is left, or an entry of the map comes. -/
theorem mapP_step {W wr : World} {B r b clock : Nat} {es : Array MapEntry} {seen : Array Nat} {m : Pr → Option Int} (hr : wr.heap[r]? = some (.mapIter (some b) clock seen clock)) (hb : wr.heap[b]? = some (.map es clock)) (hi : PairKeys es.toList) (hd : (es.toList.map (·.key)).Nodup) (hbn : Born es.toList clock) (hf : ∀ k, lookP es.toList k = (m k).map (Value.int .i64)) (hB : Below B W wr) (hBr : B ≤ r) (hbr : b ≠ r) :
    (∀ ty, (Instr.next (.pointer (some ⟨r, 0, none⟩)) false ty).run Tryd.prog wr = .ok (.tuple #[.bool false]) wr) ∨
    (∃ (k : Pr) (n : Int) (w4 : World) (seen' : Array Nat), m k = some n ∧ (∀ ty, (Instr.next (.pointer (some ⟨r, 0, none⟩)) false ty).run Tryd.prog wr = .ok (.tuple #[.bool true, vK k, .int .i64 n]) w4) ∧ (Instr.entry (.pointer (some ⟨r, 0, none⟩))).run Tryd.prog w4 = .ok (.tuple #[vK k, .int .i64 n]) w4 ∧ w4.heap[r]? = some (.mapIter (some b) clock seen' clock) ∧ w4.heap[b]? = some (.map es clock) ∧ Below B W w4 ∧ (leftOf es (w4.iterSeen r)).size < (leftOf es (wr.iterSeen r)).size) := by
  rcases run_next_at (P := Tryd.prog) wr 0 r b clock clock seen es clock hr hb hbn.1 (Nat.le_refl _) with ⟨_, hrun⟩ | ⟨e, he, w3, hw3, hrun⟩
  · exact .inl (fun _ => hrun)
  · obtain ⟨k, hk⟩ := hi e (mem_left he).1
    have hl := lookP_mem hi hd (mem_left he).1 hk
    rw [hf k] at hl
    obtain ⟨n, hn, hv⟩ : ∃ n, m k = some n ∧ e.val = .int .i64 n := by
      cases hm : m k with
      | none => rw [hm] at hl; simp at hl
      | some n => rw [hm] at hl; exact ⟨n, rfl, by simpa using hl.symm⟩
    rw [hk, hv] at hrun
    have hr3 : w3.heap[r]? = some (.mapIter (some b) clock seen clock) := by rcases hw3 with rfl | rfl <;> exact hr
    have hb3 : w3.heap[b]? = some (.map es clock) := by rcases hw3 with rfl | rfl <;> exact hb
    have hB3 : Below B W w3 := by
      rcases hw3 with rfl | rfl
      · exact hB
      · exact hB.drew
    have hr4 := setB_same hr3 (.mapIter (some b) clock (seen.push e.born) clock)
    have hb4 := (setB_other w3 hbr (.mapIter (some b) clock (seen.push e.born) clock)).trans hb3
    have hen := run_entry_at (P := Tryd.prog) _ r b clock seen es clock e hr4 hb4 (mem_left he).1 hbn.2
    rw [hk, hv] at hen
    exact .inr ⟨k, n, _, seen.push e.born, hn, fun _ => hrun, hen, hr4, hb4, below_setB hB3 hBr _, by rw [iter_of hr, iter_of hr4]; exact left_shrinks es seen e he⟩
end Go.Proofs.YtehnimafjgodeaaDoor
