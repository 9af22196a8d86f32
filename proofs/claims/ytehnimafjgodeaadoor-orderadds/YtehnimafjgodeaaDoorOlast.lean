/- Numbers by number, in a map; the greatest number of each client: Last. -/
import Derived.Test.YtehnimafjgodeaaDoorOadd
import Derived.ChangeMaps5
import Derived.Maps.Keyed
import Derived.Maps.RangeRun
namespace Go.Proofs.YtehnimafjgodeaaDoor
open Go.ChangeMaps Go.ChangeShapes Go.WideShapes Go.ChangeAt Go.RowKit
set_option maxRecDepth 100000
attribute [local go_sem] World.cell?_alloc_some frozen_alloc_some

/-- What a number has in a list of entries. -/
def keyNum : Value → Option Int
  | .int .i64 x => some x
  | _ => none
def look : List MapEntry → Int → Option Value
  | [], _ => none
  | e :: r, k => if keyNum e.key = some k then some e.val else look r k
def IntKeys (l : List MapEntry) : Prop := ∀ e ∈ l, ∃ x, e.key = .int .i64 x
theorem look_none {l : List MapEntry} {k : Int} (h : look l k = none) : ∀ e ∈ l, e.key ≠ .int .i64 k := by
  induction l with
  | nil => intro e he; simp at he
  | cons a r ih =>
    intro e he hk
    unfold look at h
    split at h
    · simp at h
    · rename_i h1
      rcases List.mem_cons.mp he with rfl | he
      · exact h1 (by rw [hk]; rfl)
      · exact ih h e he hk
theorem find_look (k : Int) : ∀ (l : List MapEntry) (i : Nat), IntKeys l →
    (look l k = none ∧ Instr.findNow (.int .i64) (.int .i64 k) l i = some none ∧ ∀ val born k', look (l ++ [⟨.int .i64 k, val, born⟩]) k' = if k' = k then some val else look l k') ∨
    (∃ j v, look l k = some v ∧ Instr.findNow (.int .i64) (.int .i64 k) l i = some (some (i + j, v)) ∧ (∃ e, l[j]? = some e ∧ e.key = .int .i64 k) ∧ (∀ val k', look (l.modify j (fun e => { e with key := .int .i64 k, val := val })) k' = if k' = k then some val else look l k') ∧
      ((l.map (·.key)).Nodup → ∀ k', look (l.eraseIdx j) k' = if k' = k then none else look l k'))
  | [], i, _ => by
    refine .inl ⟨rfl, rfl, fun val born k' => ?_⟩
    by_cases h : k' = k
    · simp [look, keyNum, h]
    · have : ¬ k = k' := fun e => h e.symm
      simp [look, keyNum, h, this]
  | e :: r, i, hi => by
    obtain ⟨x, hx⟩ := hi e (by simp)
    by_cases h : x = k
    · subst h
      refine .inr ⟨0, e.val, by simp [look, keyNum, hx], by simp [Instr.findNow, Instr.sameNow, hx], ⟨e, rfl, hx⟩, fun val k' => ?_, fun hn k' => ?_⟩
      · by_cases h' : k' = x
        · simp [look, keyNum, h']
        · have : ¬ x = k' := fun e => h' e.symm
          simp [look, keyNum, hx, this, h']
      · simp only [List.eraseIdx_cons_zero]
        by_cases h' : k' = x
        · subst h'
          rw [if_pos rfl]
          simp only [List.map_cons, List.nodup_cons] at hn
          have h0 := hn.1
          clear hn
          induction r with
          | nil => rfl
          | cons a r ih =>
            simp only [List.map_cons, List.mem_cons, not_or] at h0
            obtain ⟨y, hy⟩ := hi a (by simp)
            have : ¬ y = k' := fun e => h0.1 (by rw [hx, hy, e])
            simp only [look, hy, keyNum, Option.some.injEq, this, if_false]
            exact ih (fun e' he' => by rcases List.mem_cons.mp he' with h1 | h1; exact ⟨k', h1 ▸ hx⟩; exact hi e' (by simp [h1])) h0.2
        · have : ¬ x = k' := fun e => h' e.symm
          simp [look, keyNum, hx, this, h']
    · have hne : ¬ k = x := fun e => h e.symm
      have hbe : (k == x) = false := by simpa using hne
      rcases find_look k r (i + 1) (fun e he => hi e (by simp [he])) with ⟨h1, h2, h3⟩ | ⟨j, v, h1, h2, h4, h3, h5⟩
      · refine .inl ⟨by simp [look, keyNum, hx, h, h1], by simp [Instr.findNow, Instr.sameNow, hx, hbe, h2], fun val born k' => ?_⟩
        by_cases h' : k' = x
        · subst h'; simp [look, keyNum, hx, h]
        · have : ¬ x = k' := fun e => h' e.symm
          simp [look, keyNum, hx, this, h3]
      · refine .inr ⟨j + 1, v, by simp [look, keyNum, hx, h, h1], by simp [Instr.findNow, Instr.sameNow, hx, hbe, h2]; omega, by simpa using h4, fun val k' => ?_, fun hn k' => ?_⟩
        · by_cases h' : k' = x
          · subst h'; simp [look, keyNum, hx, h]
          · have : ¬ x = k' := fun e => h' e.symm
            simp [look, keyNum, hx, this, h3]
        · have h6 := h5 (by simp only [List.map_cons, List.nodup_cons] at hn; exact hn.2) k'
          by_cases h' : k' = x
          · subst h'; simp [look, keyNum, hx, h]
          · have : ¬ x = k' := fun e => h' e.symm
            simp [look, keyNum, hx, this, h6]
def upn (m : Int → Option Int) (k i : Int) : Int → Option Int := fun k' => if k' = k then some i else m k'
def Born (l : List MapEntry) (c : Nat) : Prop := (∀ e ∈ l, e.born < c) ∧ (l.map (·.born)).Nodup
/-- The numbers m lie in the map of block b. -/
def Mj (w : World) (b : Nat) (m : Int → Option Int) : Prop :=
  ∃ es clock, w.heap[b]? = some (.map es clock) ∧ IntKeys es.toList ∧ (es.toList.map (·.key)).Nodup ∧ Born es.toList clock ∧ ∀ k, look es.toList k = (m k).map (Value.int .i64)
theorem Mj.kept {F : Nat → Prop} {w w' : World} {b : Nat} {m : Int → Option Int} (h : Mj w b m) (hk : Kept F w w') (hn : ¬ F b) : Mj w' b m := by
  obtain ⟨es, clock, hb, hr⟩ := h
  exact ⟨es, clock, by rw [hk.block b (Array.getElem?_eq_some_iff.1 hb).1 hn]; exact hb, hr⟩
theorem Mj.lt {w : World} {b : Nat} {m : Int → Option Int} (h : Mj w b m) : b < w.heap.size := by
  obtain ⟨es, clock, hb, _⟩ := h
  exact (Array.getElem?_eq_some_iff.1 hb).1
theorem Mj.below {w w' : World} {b : Nat} {m : Int → Option Int} (h : Mj w b m) (hb : Below w.heap.size w w') : Mj w' b m := h.kept (kept_of_below hb) (by have := h.lt; omega)
theorem Mj.get {w : World} {b : Nat} {m : Int → Option Int} (h : Mj w b m) (k : Int) : (Instr.lookup 65 (.map (some b)) (.int .i64 k) true).run Tryd.prog w = .ok (.tuple #[.int .i64 ((m k).getD 0), .bool (m k).isSome]) w := by
  obtain ⟨es, clock, hb, hi, _, _, hf⟩ := h
  have hk := hf k
  have hc : ∀ c, (Instr.checkKey c 10000 3 (.int .i64 k)).run Tryd.prog w = .ok () w := by
    intro c
    exact MapKept.run_checkKey Tryd.underlying3 (by trivial) c 9999
  rcases find_look k es.toList 0 hi with ⟨h1, h2, _⟩ | ⟨j, v, h1, h2, _⟩
  · rw [h1] at hk
    have hm : m k = none := by cases hm : m k <;> simp [hm] at hk ⊢
    simp [Instr.lookup, run_underlying Tryd.underlying65, MapKept.run_getObj_map hb, hc, Instr.findKey, run_underlying Tryd.underlying3, h2, hm]
  · rw [h1] at hk
    obtain ⟨i, hm, hv⟩ : ∃ i, m k = some i ∧ v = .int .i64 i := by
      cases hm : m k with
      | none => rw [hm] at hk; simp at hk
      | some i => rw [hm] at hk; exact ⟨i, rfl, by simpa using hk⟩
    simp [Instr.lookup, run_underlying Tryd.underlying65, MapKept.run_getObj_map hb, hc, Instr.findKey, run_underlying Tryd.underlying3, h2, hm, hv]
theorem Mj.get1 {w : World} {b : Nat} {m : Int → Option Int} (h : Mj w b m) (k : Int) : (Instr.lookup 65 (.map (some b)) (.int .i64 k) false).run Tryd.prog w = .ok (.int .i64 ((m k).getD 0)) w := by
  obtain ⟨es, clock, hb, hi, _, _, hf⟩ := h
  have hk := hf k
  have hc : ∀ c, (Instr.checkKey c 10000 3 (.int .i64 k)).run Tryd.prog w = .ok () w := by
    intro c
    exact MapKept.run_checkKey Tryd.underlying3 (by trivial) c 9999
  rcases find_look k es.toList 0 hi with ⟨h1, h2, _⟩ | ⟨j, v, h1, h2, _⟩
  · rw [h1] at hk
    have hm : m k = none := by cases hm : m k <;> simp [hm] at hk ⊢
    simp [Instr.lookup, run_underlying Tryd.underlying65, MapKept.run_getObj_map hb, hc, Instr.findKey, run_underlying Tryd.underlying3, h2, hm]
  · rw [h1] at hk
    obtain ⟨i, hm, hv⟩ : ∃ i, m k = some i ∧ v = .int .i64 i := by
      cases hm : m k with
      | none => rw [hm] at hk; simp at hk
      | some i => rw [hm] at hk; exact ⟨i, rfl, by simpa using hk⟩
    simp [Instr.lookup, run_underlying Tryd.underlying65, MapKept.run_getObj_map hb, hc, Instr.findKey, run_underlying Tryd.underlying3, h2, hm, hv]
theorem Mj.put {w : World} {b : Nat} {m : Int → Option Int} (h : Mj w b m) (k : Int) (i : Int) : ∃ w', (Instr.mapUpdate 65 (.map (some b)) (.int .i64 k) (.int .i64 i)).run Tryd.prog w = .ok () w' ∧ Mj w' b (upn m k i) ∧ Kept (fun j => j = b) w w' := by
  obtain ⟨es, clock, hb, hi, hd, hbn, hf⟩ := h
  have hc : (Instr.checkKey false 10000 3 (.int .i64 k)).run Tryd.prog w = .ok () w := by
    exact MapKept.run_checkKey Tryd.underlying3 (by trivial) false 9999
  have kept : ∀ o, Kept (fun j => j = b) w (setBlock w b o) := fun o => ⟨rfl, rfl, rfl, by simp [setBlock], fun i _ hi => heap_setBlock_other hb _ hi⟩
  rcases find_look k es.toList 0 hi with ⟨h1, h2, h3⟩ | ⟨j, v, h1, h2, ⟨e0, hj, hke⟩, h3, _⟩
  · refine ⟨setBlock w b (.map (es.push ⟨.int .i64 k, .int .i64 i, clock⟩) (clock + 1)), ?_, ⟨_, _, heap_setBlock_same hb _, ?_, ?_, ?_, fun k' => ?_⟩, kept _⟩
    · simp [Instr.mapUpdate, run_underlying Tryd.underlying65, MapKept.run_getObj_map hb, hc, Instr.findKey, run_underlying Tryd.underlying3, h2, MapKept.run_setObj_map _ hb, Result.andThen, setBlock]
    · intro e he
      simp at he
      rcases he with he | rfl
      · exact hi e (by simpa using he)
      · exact ⟨k, rfl⟩
    · rw [Array.toList_push, List.map_append, List.nodup_append]
      refine ⟨hd, by simp, ?_⟩
      intro a ha b hb' e
      obtain ⟨x, hx, rfl⟩ := List.mem_map.mp ha
      simp at hb'
      exact look_none h1 x hx (e.trans hb')
    · refine ⟨fun e he => ?_, ?_⟩
      · simp at he
        rcases he with he | rfl
        · have := hbn.1 e (by simpa using he); omega
        · exact Nat.lt_succ_self _
      · rw [Array.toList_push, List.map_append, List.nodup_append]
        refine ⟨hbn.2, by simp, ?_⟩
        intro a ha b hb' e
        obtain ⟨x, hx, rfl⟩ := List.mem_map.mp ha
        simp at hb'
        have := hbn.1 x hx
        omega
    · rw [Array.toList_push, h3]
      unfold upn
      split
      · rfl
      · exact hf k'
  · refine ⟨setBlock w b (.map (es.modify j (fun e => { e with key := .int .i64 k, val := .int .i64 i })) clock), ?_, ⟨_, _, heap_setBlock_same hb _, ?_, ?_, ?_, fun k' => ?_⟩, kept _⟩
    · have hj' : es[j]? = some e0 := by simpa using hj
      simp [Instr.mapUpdate, run_underlying Tryd.underlying65, MapKept.run_getObj_map hb, hc, Instr.findKey, run_underlying Tryd.underlying3, h2, hj', hke, Instr.keyThatStays, Instr.sameBits, MapKept.run_setObj_map _ hb, Result.andThen, setBlock]
    · intro e he
      rw [Array.toList_modify] at he
      obtain ⟨n, hn, rfl⟩ := List.getElem_of_mem he
      rw [List.getElem_modify]
      split
      · exact ⟨k, rfl⟩
      · exact hi _ (List.getElem_mem _)
    · have : (es.modify j (fun e => { e with key := .int .i64 k, val := .int .i64 i })).toList.map (·.key) = es.toList.map (·.key) := by
        rw [Array.toList_modify]
        refine List.ext_getElem (by simp) (fun n h1 h2 => ?_)
        simp only [List.getElem_map, List.getElem_modify]
        split
        · rename_i e
          subst e
          have hj2 := (List.getElem?_eq_some_iff.mp hj).2
          rw [hj2, hke]
        · rfl
      rw [this]
      exact hd
    · refine ⟨fun e he => ?_, ?_⟩
      · rw [Array.toList_modify] at he
        obtain ⟨n, hn, rfl⟩ := List.getElem_of_mem he
        rw [List.getElem_modify]
        split
        · have hn' : n < es.toList.length := by simpa using hn
          exact hbn.1 (es.toList[n]'hn') (List.getElem_mem _)
        · exact hbn.1 _ (List.getElem_mem _)
      · have : (es.modify j (fun e => { e with key := .int .i64 k, val := .int .i64 i })).toList.map (·.born) = es.toList.map (·.born) := by
          rw [Array.toList_modify]
          refine List.ext_getElem (by simp) (fun n h1 h2 => ?_)
          simp only [List.getElem_map, List.getElem_modify]
          split <;> rfl
        rw [this]
        exact hbn.2
    · rw [Array.toList_modify, h3]
      unfold upn
      split
      · rfl
      · exact hf k'
theorem look_mem {l : List MapEntry} (hi : IntKeys l) (hd : (l.map (·.key)).Nodup) {e : MapEntry} (he : e ∈ l) {k : Int} (hk : e.key = .int .i64 k) : look l k = some e.val := by
  induction l with
  | nil => simp at he
  | cons a r ih =>
    simp only [List.map_cons, List.nodup_cons] at hd
    rcases List.mem_cons.mp he with rfl | he
    · simp [look, hk, keyNum]
    · obtain ⟨x, hx⟩ := hi a (by simp)
      have hne : ¬ x = k := fun e2 => hd.1 (by rw [hx, e2, ← hk]; exact List.mem_map.mpr ⟨e, he, rfl⟩)
      simp only [look, hx, keyNum, Option.some.injEq, hne, if_false]
      exact ih (fun e' he' => hi e' (by simp [he'])) hd.2 he
theorem setB_same {w : World} {r : Nat} {o0 : Obj} (hr : w.heap[r]? = some o0) (o : Obj) : (setBlock w r o).heap[r]? = some o := by
  have := (Array.getElem?_eq_some_iff.1 hr).1
  simp [setBlock, this]
theorem setB_other (w : World) {r k : Nat} (hk : k ≠ r) (o : Obj) : (setBlock w r o).heap[k]? = w.heap[k]? := by
  simp only [setBlock]
  exact Array.getElem?_setIfInBounds_ne (fun e => hk e.symm)
theorem below_setB {B : Nat} {w w' : World} (h : Below B w w') {r : Nat} (hB : B ≤ r) (o : Obj) : Below B w (setBlock w' r o) :=
  ⟨h.os, h.tape, h.output, by simp [setBlock]; exact h.size, fun k hk => by rw [setB_other w' (by omega) o]; exact h.block k hk⟩
theorem iter_of {w : World} {r : Nat} {a : Option Nat} {m n : Nat} {s : Array Nat} (h : w.heap[r]? = some (.mapIter a m s n)) : w.iterSeen r = s := by
  unfold World.iterSeen
  rw [h]
/-- A round of a loop over a map: nothing is left, or an entry of the map comes. -/
theorem map_step {W wr : World} {B r b clock : Nat} {es : Array MapEntry} {seen : Array Nat} {m : Int → Option Int} (hr : wr.heap[r]? = some (.mapIter (some b) clock seen clock)) (hb : wr.heap[b]? = some (.map es clock)) (hi : IntKeys es.toList) (hd : (es.toList.map (·.key)).Nodup) (hbn : Born es.toList clock) (hf : ∀ k, look es.toList k = (m k).map (Value.int .i64)) (hB : Below B W wr) (hBr : B ≤ r) (hbr : b ≠ r) :
    (∀ ty, (Instr.next (.pointer (some ⟨r, 0, none⟩)) false ty).run Tryd.prog wr = .ok (.tuple #[.bool false]) wr) ∨
    (∃ (k n : Int) (w4 : World) (seen' : Array Nat), m k = some n ∧ (∀ ty, (Instr.next (.pointer (some ⟨r, 0, none⟩)) false ty).run Tryd.prog wr = .ok (.tuple #[.bool true, .int .i64 k, .int .i64 n]) w4) ∧ (Instr.entry (.pointer (some ⟨r, 0, none⟩))).run Tryd.prog w4 = .ok (.tuple #[.int .i64 k, .int .i64 n]) w4 ∧ w4.heap[r]? = some (.mapIter (some b) clock seen' clock) ∧ w4.heap[b]? = some (.map es clock) ∧ Below B W w4 ∧ (leftOf es (w4.iterSeen r)).size < (leftOf es (wr.iterSeen r)).size) := by
  rcases run_next_at (P := Tryd.prog) wr 0 r b clock clock seen es clock hr hb hbn.1 (Nat.le_refl _) with ⟨_, hrun⟩ | ⟨e, he, w3, hw3, hrun⟩
  · exact .inl (fun _ => hrun)
  · obtain ⟨k, hk⟩ := hi e (mem_left he).1
    have hl := look_mem hi hd (mem_left he).1 hk
    rw [hf k] at hl
    obtain ⟨n, hn, hv⟩ : ∃ n, m k = some n ∧ e.val = .int .i64 n := by
      cases hm : m k with
      | none => rw [hm] at hl; simp at hl
      | some n => rw [hm] at hl; exact ⟨n, rfl, by simpa using hl.symm⟩
    rw [hk, hv] at hrun
    have hr3 : w3.heap[r]? = some (.mapIter (some b) clock seen clock) := by rcases hw3 with rfl | rfl <;> exact hr
    have hb3 : w3.heap[b]? = some (.map es clock) := by rcases hw3 with rfl | rfl <;> exact hb
    have hB3 : Below B W w3 := by
      rcases hw3 with rfl | rfl
      · exact hB
      · exact hB.drew
    have hr4 := setB_same hr3 (.mapIter (some b) clock (seen.push e.born) clock)
    have hb4 := (setB_other w3 hbr (.mapIter (some b) clock (seen.push e.born) clock)).trans hb3
    have hen := run_entry_at (P := Tryd.prog) _ r b clock seen es clock e hr4 hb4 (mem_left he).1 hbn.2
    rw [hk, hv] at hen
    exact .inr ⟨k, n, _, seen.push e.born, hn, fun _ => hrun, hen, hr4, hb4, below_setB hB3 hBr _, by rw [iter_of hr, iter_of hr4]; exact left_shrinks es seen e he⟩
/-- The greatest number of each client. -/
def lastF (m : Int → Option Int) (e : En) : Int → Option Int := match m e.cl with
  | none => upn m e.cl e.nu
  | some n => if n < e.nu then upn m e.cl e.nu else m
def lastOf (l : List En) : Int → Option Int := l.foldl lastF (fun _ => none)
theorem lastOf_snoc (l : List En) (e : En) : lastOf (l ++ [e]) = lastF (lastOf l) e := by simp [lastOf, List.foldl_append]
theorem lastF_cl (m : Int → Option Int) (e : En) : ∃ n, lastF m e e.cl = some n ∧ e.nu ≤ n := by
  unfold lastF
  cases h : m e.cl with
  | none => exact ⟨e.nu, by simp [upn], Int.le_refl _⟩
  | some n =>
    by_cases hn : n < e.nu
    · simp only [hn, if_true]; exact ⟨e.nu, by simp [upn], Int.le_refl _⟩
    · simp only [hn, if_false]; exact ⟨n, h, by omega⟩
theorem lastF_grow (m : Int → Option Int) (e : En) {c n : Int} (h : m c = some n) : ∃ k, lastF m e c = some k ∧ n ≤ k := by
  unfold lastF
  cases hm : m e.cl with
  | none =>
    have : ¬ c = e.cl := fun e2 => by rw [e2, hm] at h; cases h
    exact ⟨n, by simp [upn, this, h], Int.le_refl _⟩
  | some k =>
    by_cases hk : k < e.nu
    · simp only [hk, if_true]
      by_cases hc : c = e.cl
      · rw [hc, hm] at h; simp at h; exact ⟨e.nu, by simp [upn, hc], by omega⟩
      · exact ⟨n, by simp [upn, hc, h], Int.le_refl _⟩
    · simp only [hk, if_false]; exact ⟨n, h, Int.le_refl _⟩
theorem lastF_from (m : Int → Option Int) (e : En) {c n : Int} (h : lastF m e c = some n) : m c = some n ∨ (c = e.cl ∧ n = e.nu) := by
  unfold lastF at h
  have hu : upn m e.cl e.nu c = some n → m c = some n ∨ (c = e.cl ∧ n = e.nu) := fun h => by
    unfold upn at h
    by_cases hc : c = e.cl
    · rw [if_pos hc] at h; simp at h; exact .inr ⟨hc, h.symm⟩
    · rw [if_neg hc] at h; exact .inl h
  cases hm : m e.cl with
  | none => rw [hm] at h; exact hu h
  | some k =>
    rw [hm] at h
    by_cases hk : k < e.nu
    · simp only [hk, if_true] at h; exact hu h
    · simp only [hk, if_false] at h; exact .inl h
theorem snoc_indE {M : List En → Prop} (h0 : M []) (h1 : ∀ l x, M l → M (l ++ [x])) (l : List En) : M l := by
  have : ∀ n (l : List En), l.length = n → M l := by
    intro n
    induction n with
    | zero => intro l hl; rw [List.length_eq_zero_iff.mp hl]; exact h0
    | succ n ih =>
      intro l hl
      have hne : l ≠ [] := fun e => by rw [e] at hl; simp at hl
      rw [← List.dropLast_concat_getLast hne]
      exact h1 _ _ (ih _ (by simp [hl]))
  exact this _ l rfl
theorem lastOf_ge (l : List En) : ∀ e ∈ l, ∃ n, lastOf l e.cl = some n ∧ e.nu ≤ n := by
  refine snoc_indE (M := fun l => ∀ e ∈ l, ∃ n, lastOf l e.cl = some n ∧ e.nu ≤ n) (by simp) (fun l x ih e he => ?_) l
  rw [lastOf_snoc]
  rcases List.mem_append.mp he with m | m
  · obtain ⟨n, h1, h2⟩ := ih e m
    obtain ⟨k, h3, h4⟩ := lastF_grow (lastOf l) x h1
    exact ⟨k, h3, by omega⟩
  · simp at m; subst m; exact lastF_cl _ _
theorem lastOf_from (l : List En) : ∀ c n, lastOf l c = some n → ∃ e ∈ l, e.cl = c ∧ e.nu = n := by
  refine snoc_indE (M := fun l => ∀ c n, lastOf l c = some n → ∃ e ∈ l, e.cl = c ∧ e.nu = n) (fun c n h => by simp [lastOf] at h) (fun l x ih c n h => ?_) l
  rw [lastOf_snoc] at h
  rcases lastF_from _ _ h with h | ⟨h1, h2⟩
  · obtain ⟨e, he, h3⟩ := ih c n h
    exact ⟨e, List.mem_append_left _ he, h3⟩
  · exact ⟨x, by simp, h1.symm, h2.symm⟩
theorem plis_there {l : List En} {c n : Int} {k : Nat} (h : PlIs l c n k) (he : ∃ e ∈ l, e.cl = c ∧ e.nu = n) : 0 < k := by
  rcases h with ⟨rfl, h⟩ | ⟨j, e, rfl, _⟩
  · obtain ⟨e, hm, hh⟩ := he
    obtain ⟨i, hi, rfl⟩ := List.getElem_of_mem hm
    exact absurd hh (h i _ (List.getElem?_eq_getElem hi))
  · omega
set_option maxHeartbeats 12800000 in
theorem last_any (w : World) (v : Value) (ps : List Ep) (h : Ens w v ps) : Calls Tryd.prog 33 #[v] w fun r w' => r = .returned (.map (some w.heap.size)) ∧ Mj w' w.heap.size (lastOf (fs1 ps)) ∧ Below w.heap.size w w' := by
  obtain ⟨a, cap, rfl, hl0, _⟩ := id h
  have HE := mkHid h
  clear h
  have hmm := @run_makeMap Tryd.prog
  go_enter Tryd.func33, Tryd.ntmps33
  go_wp2
  clear hmm
  go_loopw [11] (fun iv wr => ∃ j : Nat, iv = .int .i64 (j : Int) ∧ j ≤ ps.length ∧ Hid (Mj wr w.heap.size (lastOf ((fs1 ps).take j)) ∧ Below w.heap.size w wr)) (fun iv _ => ps.length - (intOf iv).toNat)
  case atStart => exact ⟨0, rfl, Nat.zero_le _, mkHid ⟨⟨#[], 0, heap_alloc_new w _, by intro e he; simp at he, by simp, ⟨by intro e he; simp at he, by simp⟩, fun k => by simp [look, lastOf]⟩, ba (Below.refl _ w) _⟩⟩
  case round =>
    obtain ⟨j, rfl, hj, HI⟩ := hrel
    by_cases hlt : j < ps.length
    · obtain ⟨b, off, ⟨e, ta, tc⟩, rfl, hxj, hat, _⟩ := HE.out.at HI.out.2 j hlt
      obtain ⟨q0, q1, q2, q3, q4, q5, q6, q7, q8, q9⟩ := hat.ten
      simp only [tv] at q0 q1 q2 q3 q4 q5 q6 q7 q8 q9
      have hji : (j : Int) < ps.length := by omega
      obtain ⟨m, hm⟩ : ∃ m, m = lastOf ((fs1 ps).take j) := ⟨_, rfl⟩
      have HM : Hid (Mj (wr.alloc (oE e (.slice ta e.ts.length tc))) w.heap.size m) := mkHid (by rw [hm]; exact HI.out.1.below (ba (Below.refl _ wr) _))
      have HST : Hid (lastOf ((fs1 ps).take (j + 1)) = lastF m e) := mkHid (by rw [List.take_add_one, fs1_at hxj, hm]; exact lastOf_snoc _ _)
      have hlk := HM.out.get e.cl
      obtain ⟨wu, hput, hMu, hKu⟩ := HM.out.put e.cl e.nu
      have HMU := mkHid (And.intro hMu hKu)
      clear hxj hat hm hMu hKu
      cases hmc : m e.cl with
      | none =>
        rw [hmc] at hlk
        simp only [Option.getD_none, Option.isSome_none] at hlk
        have HMC := mkHid hmc
        clear hmc
        go_wp2
        go_roundw
        case rel => exact ⟨j + 1, by go_num, by omega, mkHid ⟨by rw [HST.out]; unfold lastF; rw [HMC.out]; exact HMU.out.1, (ba HI.out.2 _).trans (HMU.out.2.below (fun k e => by omega) (by have := HI.out.2.size; simp; omega))⟩⟩
        case measure => simp [intOf]; omega
      | some n =>
        rw [hmc] at hlk
        simp only [Option.getD_some, Option.isSome_some] at hlk
        have HMC := mkHid hmc
        clear hmc
        by_cases hn : n < e.nu
        · have HN := mkHid hn
          go_wp2
          go_roundw
          case rel => exact ⟨j + 1, by go_num, by omega, mkHid ⟨by rw [HST.out]; unfold lastF; rw [HMC.out]; simp only [HN.out, if_true]; exact HMU.out.1, (ba HI.out.2 _).trans (HMU.out.2.below (fun k e => by omega) (by have := HI.out.2.size; simp; omega))⟩⟩
          case measure => simp [intOf]; omega
        · have HN := mkHid hn
          clear hput
          go_wp2
          go_roundw
          case rel => exact ⟨j + 1, by go_num, by omega, mkHid ⟨by rw [HST.out]; unfold lastF; rw [HMC.out]; simp only [HN.out, if_false]; exact HM.out, ba HI.out.2 _⟩⟩
          case measure => simp [intOf]; omega
    · obtain rfl : j = ps.length := by omega
      have hq := HI.out
      rw [List.take_of_length_le (by simp)] at hq
      have HQ := mkHid hq
      clear hq
      go_wp2
      go_ret
      exact ⟨rfl, HQ.out.1, HQ.out.2⟩
end Go.Proofs.YtehnimafjgodeaaDoor
