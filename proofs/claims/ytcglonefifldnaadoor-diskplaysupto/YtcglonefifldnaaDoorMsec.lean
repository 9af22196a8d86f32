/- Sectors of 64 bytes by number, in a map. -/
import Derived.Test.YtcglonefifldnaaDoorRd
import Derived.Deep.MidRow
import Derived.ChangeMaps5
import Derived.Maps.Keyed
namespace Go.Proofs.YtcglonefifldnaaDoor
open Go.ChangeMaps Go.ChangeShapes Go.WideShapes Go.ChangeAt Go.RowKit

def zeros : List Int := List.replicate 64 0
def scells (s : List Int) : List Value := s.map (Value.int .u8)
/-- A sector's value. -/
def sec (s : List Int) : Value := .agg (scells s).toArray
structure Sec (s : List Int) : Prop where
  len : s.length = 64
  byts : Byts s
theorem zeros_sec : Sec zeros := ⟨rfl, fun b hb => by have := List.eq_of_mem_replicate hb; omega⟩
theorem Sec.slen {s : List Int} (h : Sec s) : (scells s).length = 64 := by rw [scells, List.length_map]; exact h.len
theorem scells_one (s : List Int) : ∀ v ∈ scells s, v.oneCell' = true := by
  intro v hv
  obtain ⟨n, _, rfl⟩ := List.mem_map.mp hv
  rfl
/-- What a number has in a list of entries. -/
def keyNum : Value → Option Int
  | .int .i64 x => some x
  | _ => none
def look : List MapEntry → Int → Option Value
  | [], _ => none
  | e :: r, k => if keyNum e.key = some k then some e.val else look r k
def IntKeys (l : List MapEntry) : Prop := ∀ e ∈ l, ∃ x, e.key = .int .i64 x
theorem find_look (k : Int) : ∀ (l : List MapEntry) (i : Nat), IntKeys l →
    (look l k = none ∧ Instr.findNow (.int .i64) (.int .i64 k) l i = some none ∧ ∀ val born k', look (l ++ [⟨.int .i64 k, val, born⟩]) k' = if k' = k then some val else look l k') ∨
    (∃ j v, look l k = some v ∧ Instr.findNow (.int .i64) (.int .i64 k) l i = some (some (i + j, v)) ∧ (∃ e, l[j]? = some e ∧ e.key = .int .i64 k) ∧ ∀ val k', look (l.modify j (fun e => { e with key := .int .i64 k, val := val })) k' = if k' = k then some val else look l k')
  | [], i, _ => by
    refine .inl ⟨rfl, rfl, fun val born k' => ?_⟩
    by_cases h : k' = k
    · simp [look, keyNum, h]
    · have : ¬ k = k' := fun e => h e.symm
      simp [look, keyNum, h, this]
  | e :: r, i, hi => by
    obtain ⟨x, hx⟩ := hi e (by simp)
    by_cases h : x = k
    · subst h
      refine .inr ⟨0, e.val, by simp [look, keyNum, hx], by simp [Instr.findNow, Instr.sameNow, hx], ⟨e, rfl, hx⟩, fun val k' => ?_⟩
      by_cases h' : k' = x
      · simp [look, keyNum, h']
      · have : ¬ x = k' := fun e => h' e.symm
        simp [look, keyNum, hx, this, h']
    · have hne : ¬ k = x := fun e => h e.symm
      have hbe : (k == x) = false := by simpa using hne
      rcases find_look k r (i + 1) (fun e he => hi e (by simp [he])) with ⟨h1, h2, h3⟩ | ⟨j, v, h1, h2, h4, h3⟩
      · refine .inl ⟨by simp [look, keyNum, hx, h, h1], by simp [Instr.findNow, Instr.sameNow, hx, hbe, h2], fun val born k' => ?_⟩
        by_cases h' : k' = x
        · subst h'; simp [look, keyNum, hx, h]
        · have : ¬ x = k' := fun e => h' e.symm
          simp [look, keyNum, hx, this, h3]
      · refine .inr ⟨j + 1, v, by simp [look, keyNum, hx, h, h1], by simp [Instr.findNow, Instr.sameNow, hx, hbe, h2]; omega, by simpa using h4, fun val k' => ?_⟩
        by_cases h' : k' = x
        · subst h'; simp [look, keyNum, hx, h]
        · have : ¬ x = k' := fun e => h' e.symm
          simp [look, keyNum, hx, this, h3]
/-- The sectors f lie in the map of block b. -/
def Ms (w : World) (b : Nat) (f : Int → List Int) : Prop :=
  (∀ k, Sec (f k)) ∧ ∃ es clock, w.heap[b]? = some (.map es clock) ∧ IntKeys es.toList ∧ ∀ k, (look es.toList k).getD (sec zeros) = sec (f k)
theorem Ms.kept {F : Nat → Prop} {w w' : World} {b : Nat} {f : Int → List Int} (h : Ms w b f) (hk : Kept F w w') (hn : ¬ F b) : Ms w' b f := by
  obtain ⟨hs, es, clock, hb, hr⟩ := h
  exact ⟨hs, es, clock, by rw [hk.block b (Array.getElem?_eq_some_iff.1 hb).1 hn]; exact hb, hr⟩
theorem Ms.lt {w : World} {b : Nat} {f : Int → List Int} (h : Ms w b f) : b < w.heap.size := by
  obtain ⟨_, es, clock, hb, _⟩ := h
  exact (Array.getElem?_eq_some_iff.1 hb).1
theorem info65 : (Tryd.prog.info? 65).map (fun i => (i.zero, i.size, i.bytes)) = some (some (sec zeros), 64, 64) := by kernel_rfl
theorem zero65 (w : World) : (zeroValue 65).run Tryd.prog w = .ok (sec zeros) w := by
  obtain ⟨i, hi, h1, h2, h3⟩ := info_parts info65
  simp [zeroValue, typeInfo, hi, h1]
theorem Ms.get {w : World} {b : Nat} {f : Int → List Int} (h : Ms w b f) (k : Int) : (Instr.lookup 55 (.map (some b)) (.int .i64 k) false).run Tryd.prog w = .ok (sec (f k)) w := by
  obtain ⟨_, es, clock, hb, hi, hf⟩ := h
  have hk := hf k
  have hc : ∀ c, (Instr.checkKey c 10000 3 (.int .i64 k)).run Tryd.prog w = .ok () w := by
    intro c
    exact MapKept.run_checkKey Tryd.underlying3 (by trivial) c 9999
  rcases find_look k es.toList 0 hi with ⟨h1, h2, _⟩ | ⟨j, v, h1, h2, _⟩
  · rw [h1] at hk
    simp [Instr.lookup, run_underlying Tryd.underlying55, MapKept.run_getObj_map hb, hc, Instr.findKey, run_underlying Tryd.underlying3, h2]
    exact hk
  · rw [h1] at hk
    simp [Instr.lookup, run_underlying Tryd.underlying55, MapKept.run_getObj_map hb, hc, Instr.findKey, run_underlying Tryd.underlying3, h2]
    exact hk
def updI (f : Int → List Int) (k : Int) (s : List Int) : Int → List Int := fun j => if j = k then s else f j
theorem Ms.put {w : World} {b : Nat} {f : Int → List Int} (h : Ms w b f) (k : Int) (s : List Int) (hs : Sec s) : ∃ w', (Instr.mapUpdate 55 (.map (some b)) (.int .i64 k) (sec s)).run Tryd.prog w = .ok () w' ∧ Ms w' b (updI f k s) ∧ Kept (fun j => j = b) w w' := by
  obtain ⟨hS, es, clock, hb, hi, hf⟩ := h
  have hc : (Instr.checkKey false 10000 3 (.int .i64 k)).run Tryd.prog w = .ok () w := by
    exact MapKept.run_checkKey Tryd.underlying3 (by trivial) false 9999
  have hS' : ∀ j, Sec (updI f k s j) := fun j => by unfold updI; split; exact hs; exact hS j
  have kept : ∀ o, Kept (fun j => j = b) w (setBlock w b o) := fun o => ⟨rfl, rfl, rfl, by simp [setBlock], fun i _ hi => heap_setBlock_other hb _ hi⟩
  rcases find_look k es.toList 0 hi with ⟨h1, h2, h3⟩ | ⟨j, v, h1, h2, ⟨e0, hj, hke⟩, h3⟩
  · refine ⟨setBlock w b (.map (es.push ⟨.int .i64 k, sec s, clock⟩) (clock + 1)), ?_, ⟨hS', _, _, heap_setBlock_same hb _, ?_, fun k' => ?_⟩, kept _⟩
    · simp [Instr.mapUpdate, run_underlying Tryd.underlying55, MapKept.run_getObj_map hb, hc, Instr.findKey, run_underlying Tryd.underlying3, h2, MapKept.run_setObj_map _ hb, Result.andThen, setBlock]
    · intro e he
      simp at he
      rcases he with he | rfl
      · exact hi e (by simpa using he)
      · exact ⟨k, rfl⟩
    · rw [Array.toList_push, h3]
      unfold updI
      split
      · rfl
      · exact hf k'
  · refine ⟨setBlock w b (.map (es.modify j (fun e => { e with key := .int .i64 k, val := sec s })) clock), ?_, ⟨hS', _, _, heap_setBlock_same hb _, ?_, fun k' => ?_⟩, kept _⟩
    · have hj' : es[j]? = some e0 := by simpa using hj
      simp [Instr.mapUpdate, run_underlying Tryd.underlying55, MapKept.run_getObj_map hb, hc, Instr.findKey, run_underlying Tryd.underlying3, h2, hj', hke, Instr.keyThatStays, Instr.sameBits, MapKept.run_setObj_map _ hb, Result.andThen, setBlock]
    · intro e he
      rw [Array.toList_modify] at he
      obtain ⟨n, hn, rfl⟩ := List.getElem_of_mem he
      rw [List.getElem_modify]
      split
      · exact ⟨k, rfl⟩
      · exact hi _ (List.getElem_mem _)
    · rw [Array.toList_modify, h3]
      unfold updI
      split
      · rfl
      · exact hf k'
end Go.Proofs.YtcglonefifldnaaDoor
