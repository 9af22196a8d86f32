/- The law GuestSpaces. -/
import Derived.Test.YthncfkeoephipaaDoorGs9
import Derived.ChangeMaps5
import Derived.Maps.Keyed
import Derived.Maps.RangeRun
namespace Go.Proofs.YthncfkeoephipaaDoor
open Go.ChangeMaps Go.ChangeShapes Go.WideShapes Go.ChangeAt Go.RowKit
attribute [local go_sem] World.cell?_alloc_some frozen_alloc_some

/-- What a number has in a list of entries. -/
def keyNum : Value → Option Int
  | .int .i64 x => some x
  | _ => none
def look : List MapEntry → Int → Option Value
  | [], _ => none
  | e :: r, k => if keyNum e.key = some k then some e.val else look r k
def IntKeys (l : List MapEntry) : Prop := ∀ e ∈ l, ∃ x, e.key = .int .i64 x
theorem look_none {l : List MapEntry} {k : Int} (h : look l k = none) : ∀ e ∈ l, e.key ≠ .int .i64 k := by
  induction l with
  | nil => intro e he; simp at he
  | cons a r ih =>
    intro e he hk
    unfold look at h
    split at h
    · simp at h
    · rename_i h1
      rcases List.mem_cons.mp he with rfl | he
      · exact h1 (by rw [hk]; rfl)
      · exact ih h e he hk
theorem find_look (k : Int) : ∀ (l : List MapEntry) (i : Nat), IntKeys l →
    (look l k = none ∧ Instr.findNow (.int .i64) (.int .i64 k) l i = some none ∧ ∀ val born k', look (l ++ [⟨.int .i64 k, val, born⟩]) k' = if k' = k then some val else look l k') ∨
    (∃ j v, look l k = some v ∧ Instr.findNow (.int .i64) (.int .i64 k) l i = some (some (i + j, v)) ∧ (∃ e, l[j]? = some e ∧ e.key = .int .i64 k) ∧ (∀ val k', look (l.modify j (fun e => { e with key := .int .i64 k, val := val })) k' = if k' = k then some val else look l k') ∧
      ((l.map (·.key)).Nodup → ∀ k', look (l.eraseIdx j) k' = if k' = k then none else look l k'))
  | [], i, _ => by
    refine .inl ⟨rfl, rfl, fun val born k' => ?_⟩
    by_cases h : k' = k
    · simp [look, keyNum, h]
    · have : ¬ k = k' := fun e => h e.symm
      simp [look, keyNum, h, this]
  | e :: r, i, hi => by
    obtain ⟨x, hx⟩ := hi e (by simp)
    by_cases h : x = k
    · subst h
      refine .inr ⟨0, e.val, by simp [look, keyNum, hx], by simp [Instr.findNow, Instr.sameNow, hx], ⟨e, rfl, hx⟩, fun val k' => ?_, fun hn k' => ?_⟩
      · by_cases h' : k' = x
        · simp [look, keyNum, h']
        · have : ¬ x = k' := fun e => h' e.symm
          simp [look, keyNum, hx, this, h']
      · simp only [List.eraseIdx_cons_zero]
        by_cases h' : k' = x
        · subst h'
          rw [if_pos rfl]
          simp only [List.map_cons, List.nodup_cons] at hn
          have h0 := hn.1
          clear hn
          induction r with
          | nil => rfl
          | cons a r ih =>
            simp only [List.map_cons, List.mem_cons, not_or] at h0
            obtain ⟨y, hy⟩ := hi a (by simp)
            have : ¬ y = k' := fun e => h0.1 (by rw [hx, hy, e])
            simp only [look, hy, keyNum, Option.some.injEq, this, if_false]
            exact ih (fun e' he' => by rcases List.mem_cons.mp he' with h1 | h1; exact ⟨k', h1 ▸ hx⟩; exact hi e' (by simp [h1])) h0.2
        · have : ¬ x = k' := fun e => h' e.symm
          simp [look, keyNum, hx, this, h']
    · have hne : ¬ k = x := fun e => h e.symm
      have hbe : (k == x) = false := by simpa using hne
      rcases find_look k r (i + 1) (fun e he => hi e (by simp [he])) with ⟨h1, h2, h3⟩ | ⟨j, v, h1, h2, h4, h3, h5⟩
      · refine .inl ⟨by simp [look, keyNum, hx, h, h1], by simp [Instr.findNow, Instr.sameNow, hx, hbe, h2], fun val born k' => ?_⟩
        by_cases h' : k' = x
        · subst h'; simp [look, keyNum, hx, h]
        · have : ¬ x = k' := fun e => h' e.symm
          simp [look, keyNum, hx, this, h3]
      · refine .inr ⟨j + 1, v, by simp [look, keyNum, hx, h, h1], by simp [Instr.findNow, Instr.sameNow, hx, hbe, h2]; omega, by simpa using h4, fun val k' => ?_, fun hn k' => ?_⟩
        · by_cases h' : k' = x
          · subst h'; simp [look, keyNum, hx, h]
          · have : ¬ x = k' := fun e => h' e.symm
            simp [look, keyNum, hx, this, h3]
        · have h6 := h5 (by simp only [List.map_cons, List.nodup_cons] at hn; exact hn.2) k'
          by_cases h' : k' = x
          · subst h'; simp [look, keyNum, hx, h]
          · have : ¬ x = k' := fun e => h' e.symm
            simp [look, keyNum, hx, this, h6]
def upn (m : Int → Option Int) (k i : Int) : Int → Option Int := fun k' => if k' = k then some i else m k'
def Born (l : List MapEntry) (c : Nat) : Prop := (∀ e ∈ l, e.born < c) ∧ (l.map (·.born)).Nodup
/-- The numbers m lie in the map of block b. -/
def Mj (w : World) (b : Nat) (m : Int → Option Int) : Prop :=
  ∃ es clock, w.heap[b]? = some (.map es clock) ∧ IntKeys es.toList ∧ (es.toList.map (·.key)).Nodup ∧ Born es.toList clock ∧ ∀ k, look es.toList k = (m k).map (Value.int .i64)
theorem Mj.kept {F : Nat → Prop} {w w' : World} {b : Nat} {m : Int → Option Int} (h : Mj w b m) (hk : Kept F w w') (hn : ¬ F b) : Mj w' b m := by
  obtain ⟨es, clock, hb, hr⟩ := h
  exact ⟨es, clock, by rw [hk.block b (Array.getElem?_eq_some_iff.1 hb).1 hn]; exact hb, hr⟩
theorem Mj.lt {w : World} {b : Nat} {m : Int → Option Int} (h : Mj w b m) : b < w.heap.size := by
  obtain ⟨es, clock, hb, _⟩ := h
  exact (Array.getElem?_eq_some_iff.1 hb).1
theorem Mj.below {w w' : World} {b : Nat} {m : Int → Option Int} (h : Mj w b m) (hb : Below w.heap.size w w') : Mj w' b m := h.kept (kept_of_below hb) (by have := h.lt; omega)
theorem Mj.get {w : World} {b : Nat} {m : Int → Option Int} (h : Mj w b m) (k : Int) : (Instr.lookup 58 (.map (some b)) (.int .i64 k) true).run Tryd.prog w = .ok (.tuple #[.int .i64 ((m k).getD 0), .bool (m k).isSome]) w := by
  obtain ⟨es, clock, hb, hi, _, _, hf⟩ := h
  have hk := hf k
  have hc : ∀ c, (Instr.checkKey c 10000 3 (.int .i64 k)).run Tryd.prog w = .ok () w := by
    intro c
    exact MapKept.run_checkKey Tryd.underlying3 (by trivial) c 9999
  rcases find_look k es.toList 0 hi with ⟨h1, h2, _⟩ | ⟨j, v, h1, h2, _⟩
  · rw [h1] at hk
    have hm : m k = none := by cases hm : m k <;> simp [hm] at hk ⊢
    simp [Instr.lookup, run_underlying Tryd.underlying58, MapKept.run_getObj_map hb, hc, Instr.findKey, run_underlying Tryd.underlying3, h2, hm]
  · rw [h1] at hk
    obtain ⟨i, hm, hv⟩ : ∃ i, m k = some i ∧ v = .int .i64 i := by
      cases hm : m k with
      | none => rw [hm] at hk; simp at hk
      | some i => rw [hm] at hk; exact ⟨i, rfl, by simpa using hk⟩
    simp [Instr.lookup, run_underlying Tryd.underlying58, MapKept.run_getObj_map hb, hc, Instr.findKey, run_underlying Tryd.underlying3, h2, hm, hv]
theorem Mj.get1 {w : World} {b : Nat} {m : Int → Option Int} (h : Mj w b m) (k : Int) : (Instr.lookup 58 (.map (some b)) (.int .i64 k) false).run Tryd.prog w = .ok (.int .i64 ((m k).getD 0)) w := by
  obtain ⟨es, clock, hb, hi, _, _, hf⟩ := h
  have hk := hf k
  have hc : ∀ c, (Instr.checkKey c 10000 3 (.int .i64 k)).run Tryd.prog w = .ok () w := by
    intro c
    exact MapKept.run_checkKey Tryd.underlying3 (by trivial) c 9999
  rcases find_look k es.toList 0 hi with ⟨h1, h2, _⟩ | ⟨j, v, h1, h2, _⟩
  · rw [h1] at hk
    have hm : m k = none := by cases hm : m k <;> simp [hm] at hk ⊢
    simp [Instr.lookup, run_underlying Tryd.underlying58, MapKept.run_getObj_map hb, hc, Instr.findKey, run_underlying Tryd.underlying3, h2, hm]
  · rw [h1] at hk
    obtain ⟨i, hm, hv⟩ : ∃ i, m k = some i ∧ v = .int .i64 i := by
      cases hm : m k with
      | none => rw [hm] at hk; simp at hk
      | some i => rw [hm] at hk; exact ⟨i, rfl, by simpa using hk⟩
    simp [Instr.lookup, run_underlying Tryd.underlying58, MapKept.run_getObj_map hb, hc, Instr.findKey, run_underlying Tryd.underlying3, h2, hm, hv]
theorem Mj.put {w : World} {b : Nat} {m : Int → Option Int} (h : Mj w b m) (k : Int) (i : Int) : ∃ w', (Instr.mapUpdate 58 (.map (some b)) (.int .i64 k) (.int .i64 i)).run Tryd.prog w = .ok () w' ∧ Mj w' b (upn m k i) ∧ Kept (fun j => j = b) w w' := by
  obtain ⟨es, clock, hb, hi, hd, hbn, hf⟩ := h
  have hc : (Instr.checkKey false 10000 3 (.int .i64 k)).run Tryd.prog w = .ok () w := by
    exact MapKept.run_checkKey Tryd.underlying3 (by trivial) false 9999
  have kept : ∀ o, Kept (fun j => j = b) w (setBlock w b o) := fun o => ⟨rfl, rfl, rfl, by simp [setBlock], fun i _ hi => heap_setBlock_other hb _ hi⟩
  rcases find_look k es.toList 0 hi with ⟨h1, h2, h3⟩ | ⟨j, v, h1, h2, ⟨e0, hj, hke⟩, h3, _⟩
  · refine ⟨setBlock w b (.map (es.push ⟨.int .i64 k, .int .i64 i, clock⟩) (clock + 1)), ?_, ⟨_, _, heap_setBlock_same hb _, ?_, ?_, ?_, fun k' => ?_⟩, kept _⟩
    · simp [Instr.mapUpdate, run_underlying Tryd.underlying58, MapKept.run_getObj_map hb, hc, Instr.findKey, run_underlying Tryd.underlying3, h2, MapKept.run_setObj_map _ hb, Result.andThen, setBlock]
    · intro e he
      simp at he
      rcases he with he | rfl
      · exact hi e (by simpa using he)
      · exact ⟨k, rfl⟩
    · rw [Array.toList_push, List.map_append, List.nodup_append]
      refine ⟨hd, by simp, ?_⟩
      intro a ha b hb' e
      obtain ⟨x, hx, rfl⟩ := List.mem_map.mp ha
      simp at hb'
      exact look_none h1 x hx (e.trans hb')
    · refine ⟨fun e he => ?_, ?_⟩
      · simp at he
        rcases he with he | rfl
        · have := hbn.1 e (by simpa using he); omega
        · exact Nat.lt_succ_self _
      · rw [Array.toList_push, List.map_append, List.nodup_append]
        refine ⟨hbn.2, by simp, ?_⟩
        intro a ha b hb' e
        obtain ⟨x, hx, rfl⟩ := List.mem_map.mp ha
        simp at hb'
        have := hbn.1 x hx
        omega
    · rw [Array.toList_push, h3]
      unfold upn
      split
      · rfl
      · exact hf k'
  · refine ⟨setBlock w b (.map (es.modify j (fun e => { e with key := .int .i64 k, val := .int .i64 i })) clock), ?_, ⟨_, _, heap_setBlock_same hb _, ?_, ?_, ?_, fun k' => ?_⟩, kept _⟩
    · have hj' : es[j]? = some e0 := by simpa using hj
      simp [Instr.mapUpdate, run_underlying Tryd.underlying58, MapKept.run_getObj_map hb, hc, Instr.findKey, run_underlying Tryd.underlying3, h2, hj', hke, Instr.keyThatStays, Instr.sameBits, MapKept.run_setObj_map _ hb, Result.andThen, setBlock]
    · intro e he
      rw [Array.toList_modify] at he
      obtain ⟨n, hn, rfl⟩ := List.getElem_of_mem he
      rw [List.getElem_modify]
      split
      · exact ⟨k, rfl⟩
      · exact hi _ (List.getElem_mem _)
    · have : (es.modify j (fun e => { e with key := .int .i64 k, val := .int .i64 i })).toList.map (·.key) = es.toList.map (·.key) := by
        rw [Array.toList_modify]
        refine List.ext_getElem (by simp) (fun n h1 h2 => ?_)
        simp only [List.getElem_map, List.getElem_modify]
        split
        · rename_i e
          subst e
          have hj2 := (List.getElem?_eq_some_iff.mp hj).2
          rw [hj2, hke]
        · rfl
      rw [this]
      exact hd
    · refine ⟨fun e he => ?_, ?_⟩
      · rw [Array.toList_modify] at he
        obtain ⟨n, hn, rfl⟩ := List.getElem_of_mem he
        rw [List.getElem_modify]
        split
        · have hn' : n < es.toList.length := by simpa using hn
          exact hbn.1 (es.toList[n]'hn') (List.getElem_mem _)
        · exact hbn.1 _ (List.getElem_mem _)
      · have : (es.modify j (fun e => { e with key := .int .i64 k, val := .int .i64 i })).toList.map (·.born) = es.toList.map (·.born) := by
          rw [Array.toList_modify]
          refine List.ext_getElem (by simp) (fun n h1 h2 => ?_)
          simp only [List.getElem_map, List.getElem_modify]
          split <;> rfl
        rw [this]
        exact hbn.2
    · rw [Array.toList_modify, h3]
      unfold upn
      split
      · rfl
      · exact hf k'
/-- Errors that are told apart. -/
structure Ed (W : World) (a : Nat → Addr) : Prop where
  n1 : ∀ w, (binOp .neq 32 (vE (a 1)) (vE (a 1))).run Tryd.prog w = .ok (.bool false) w
  n2 : ∀ w, (binOp .neq 32 (vE (a 2)) (vE (a 2))).run Tryd.prog w = .ok (.bool false) w
  n3 : ∀ w, (binOp .neq 32 (vE (a 3)) (vE (a 3))).run Tryd.prog w = .ok (.bool false) w
  d21 : ∀ w, Below W.heap.size W w → (binOp .neq 32 (vE (a 2)) (vE (a 1))).run Tryd.prog w = .ok (.bool true) w
  d31 : ∀ w, Below W.heap.size W w → (binOp .neq 32 (vE (a 3)) (vE (a 1))).run Tryd.prog w = .ok (.bool true) w
  d32 : ∀ w, Below W.heap.size W w → (binOp .neq 32 (vE (a 3)) (vE (a 2))).run Tryd.prog w = .ok (.bool true) w
theorem Err.lt15 {w : World} {g : Nat} {s : List UInt8} {a : Addr} (h : Err w g s a) : a.block < w.heap.size := by
  obtain ⟨_, ⟨t, h2, _⟩, _⟩ := h
  exact World.block_lt_of_cell? w _ h2
theorem Err.apart {W : World} {g h : Nat} {s t : List UInt8} {a b : Addr} (ha : Err W g s a) (hb : Err W h t b) (hn : s ≠ t) (w : World) (hw : Below W.heap.size W w) : (binOp .neq 32 (vE a) (vE b)).run Tryd.prog w = .ok (.bool true) w := by
  obtain ⟨i, hi, hc⟩ := Option.map_eq_some_iff.mp comp79
  obtain ⟨j, hj, hs⟩ := Option.map_eq_some_iff.mp size96
  obtain ⟨_, _, c0, t0, h0⟩ := id ha
  obtain ⟨_, _, c1, t1, h1⟩ := id hb
  simp only [binOp]
  simp [Op.equal, Op.maxDepth, run_equalIn_iface_ptr_other w 9998 Tryd.underlying32 Tryd.underlying79 hi hc hj (by rw [hs]; decide) (ha.ne hb hn) ((hw.block _ ha.lt15).trans h0) ((hw.block _ hb.lt15).trans h1)]
/-- What the map says of the releases that were taken. -/
def Lm (s : Gt) (m : Int → Option Int) : Prop := ∀ k r, m k = some r → 0 ≤ r ∧ ∃ (i : Nat) (x : Tq), k = (i : Int) ∧ s.xs[i]? = some x ∧ r + x.1.2.1 ≤ x.2
theorem Lm.put {s : Gt} {m : Int → Option Int} (h : Lm s m) {i : Nat} {x : Tq} {now ticks : Int} (hx : s.xs[i]? = some x) (n0 : 0 ≤ now) : Lm (s.put i x now ticks) (upn m i now) := by
  have hi := (List.getElem?_eq_some_iff.mp hx).1
  intro k r hk
  unfold upn at hk
  have hset : ∀ m, (s.put i x now ticks).xs[m]? = if m = i then some (x.1, now + x.1.2.1) else s.xs[m]? := by
    intro m
    show (s.xs.set i _)[m]? = _
    rw [List.getElem?_set]
    by_cases e : i = m
    · subst e; simp [hi]
    · rw [if_neg e, if_neg (fun q => e q.symm)]
  split at hk
  · rename_i e
    have := Option.some.inj hk
    subst this
    exact ⟨n0, i, (x.1, now + x.1.2.1), e, by rw [hset, if_pos rfl], Int.le_refl _⟩
  · rename_i e
    obtain ⟨h0, i2, y, rfl, hy, hr⟩ := h k r hk
    have hne : ¬ i2 = i := fun q => e (by rw [q])
    exact ⟨h0, i2, y, rfl, by rw [hset, if_neg hne]; exact hy, hr⟩
theorem op5_cells {w : World} {k : Nat} {c0 c1 c2 c3 c4 : Value} {t : TypeId} (h : w.heap[k]? = some (.cells #[c0, c1, c2, c3, c4] t (0, 0))) : w.cell? ⟨k, 0, none⟩ = some c0 ∧ w.cell? ⟨k, 1, none⟩ = some c1 ∧ w.cell? ⟨k, 2, none⟩ = some c2 ∧ w.cell? ⟨k, 3, none⟩ = some c3 ∧ w.cell? ⟨k, 4, none⟩ = some c4 := ⟨cell_of_block h rfl, cell_of_block h rfl, cell_of_block h rfl, cell_of_block h rfl, cell_of_block h rfl⟩
set_option maxRecDepth 100000 in
set_option maxHeartbeats 3200000 in
theorem spaces_no (W : World) (p : Int) (tv sv : Value) (ts : List Tk) (a : Nat → Addr) (E : Eg W a) (hT : Tks W tv ts) (hsv : ∃ x n c, sv = .slice x n c) (h : ¬ okG p ts) : Calls Tryd.prog 7 #[vC p tv sv] W fun e w' => e = .returned (.bool true) ∧ Below W.heap.size W w' := by
  have HE := mkHid E
  have HO := mkHid h
  have HT := mkHid hT
  obtain ⟨ta, tc, rfl, _, _⟩ := hT
  obtain ⟨sa, sn, sc, rfl⟩ := hsv
  clear E h
  go_enter Tryd.func7, Tryd.ntmps7
  go_wp2_with (first | (go_at_call 8; refine (alive15 _ a (HE.out.late (ba (Below.refl _ _) _))).mono ?_; rintro e w1 ⟨rfl, b1⟩; have hr := (cb_new W p (.slice ta ts.length tc) (.slice sa sn sc)).late b1; have HR1 := mkHid hr; have HB1 := mkHid (bt (ba (Below.refl _ _) _) b1); have x0 := hr.c0; have x1 := hr.c1; clear b1 hr) | (go_at_call 9; refine (new_no _ _ p ts _ (HT.out.below HB1.out) HO.out (HE.out.late HB1.out).task).mono ?_; rintro e w2 ⟨rfl, b2⟩; have HB2 := mkHid (bt HB1.out b2); have hr := HR1.out.late b2; clear x0 x1; have x0 := hr.c0; have x1 := hr.c1; clear b2 hr) | (go_at_call 10; obtain ⟨lb, hlb, hcl⟩ := legalGuest_is w2 _ p ts (HT.out.below HB2.out); have hlf : lb = false := (by cases lb; rfl; exact absurd (hlb.mp rfl) HO.out); subst hlf; refine hcl.mono ?_; rintro e w3 ⟨rfl, b3⟩; have HB3 := mkHid (bt HB2.out b3); clear b3 hcl hlb))
  go_ret
  exact ⟨rfl, HB3.out⟩
set_option maxRecDepth 100000 in
set_option maxHeartbeats 12800000 in
theorem spaces_yes (W : World) (p : Int) (tv sv : Value) (ts : List Tk) (os : List Op5) (a : Nat → Addr) (E : Eg W a) (D : Ed W a) (hT : Tks W tv ts) (hS : Ops W sv os) (h : okG p ts) : Calls Tryd.prog 7 #[vC p tv sv] W fun e w' => e = .returned (.bool true) ∧ Below W.heap.size W w' := by
  have HE := mkHid E
  have HD := mkHid D
  have HO := mkHid h
  have HT := mkHid hT
  have HS := mkHid hS
  have h8 := h.2.2.1
  obtain ⟨ta, tc, rfl, _, _⟩ := hT
  obtain ⟨sa, sc, rfl, _⟩ := RowIn.shape hS
  clear E D h hS
  have hmm := @run_makeMap Tryd.prog
  go_enter Tryd.func7, Tryd.ntmps7
  go_wp2_with (first | (go_at_call 8; refine (alive15 _ a (HE.out.late (ba (Below.refl _ _) _))).mono ?_; rintro e w1 ⟨rfl, b1⟩; have hr := (cb_new W p (.slice ta ts.length tc) (.slice sa os.length sc)).late b1; have HR1 := mkHid hr; have HB1 := mkHid (bt (ba (Below.refl _ _) _) b1); have x0 := hr.c0; have x1 := hr.c1; clear b1 hr) | (go_at_call 9; refine (new_ok _ _ p ts (HT.out.below HB1.out) HO.out).mono ?_; rintro e w2 ⟨b, xv, rfl, hg2, b2⟩; have HL2 : Hid (LG W w2 W.heap.size w1.heap.size b p (.slice ta ts.length tc) (.slice sa os.length sc) xv (.slice none 0 0) ts ⟨ts.map (fun t => (t, 0)), []⟩) := mkHid ⟨bt HB1.out b2, Nat.le_refl _, HR1.out.lt, HR1.out.late b2, hg2, start_ok HO.out.1 HO.out.2.1 HO.out.2.2.1 HO.out.2.2.2, start_ts ts⟩; clear x0 x1 b2 hg2; generalize w1.heap.size = B at *; have x0 := HL2.out.cb.c0; have x1 := HL2.out.cb.c1; have x2 := HL2.out.cb.c2))
  clear x0 x1 x2 hmm
  have HL3 := mkHid (HL2.out.alloc (.map #[] 0))
  have HM3 : Hid (Mj (w2.alloc (.map #[] 0)) w2.heap.size (fun _ => none) ∧ ¬ Ft xv (.slice none 0 0) b w2.heap.size ∧ W.heap.size < w2.heap.size) := mkHid ⟨⟨#[], 0, heap_alloc_new w2 _, by intro e he; simp at he, by simp, ⟨by intro e he; simp at he, by simp⟩, fun k => by simp [look]⟩, fun f => by have := (HL2.out.gb.foot f).2; omega, HL2.out.cb.lt⟩
  obtain ⟨R, hR⟩ : ∃ R, R = W.heap.size := ⟨_, rfl⟩
  rw [← hR] at HL3 HM3 ⊢
  clear hR HL2
  generalize w2.heap.size = M at *
  go_loopw [38] (fun iv wr => ∃ (i : Nat) (jv : Value) (s : Gt) (m : Int → Option Int), iv = .int .i64 (i : Int) ∧ i ≤ os.length ∧ i ≤ 1501 ∧ Hid (LG W wr R B b p (.slice ta ts.length tc) (.slice sa os.length sc) xv jv ts s) ∧ Hid (Mj wr M m ∧ ¬ Ft xv jv b M ∧ R < M) ∧ Hid (Lm s m)) (fun iv _ => os.length - (intOf iv).toNat)
  case atStart => exact ⟨0, _, _, _, rfl, by omega, by omega, HL3, HM3, mkHid (fun k r e => by cases e)⟩
  case round =>
    clear HL3 HM3
    obtain ⟨i, jv, s, m, rfl, hi, hi2, HL, HM, HLM⟩ := hrel
    by_cases hlt : i < os.length
    · obtain ⟨sb, off, o, rfl, ho, o0, o1, o2, o3, o4⟩ := HS.out.cells HL.out.bel i hlt
      have hli : (i : Int) < os.length := by omega
      clear ho
      obtain ⟨kd, wh, tk, nw, tkk⟩ := o
      simp only at o0 o1 o2 o3 o4
      by_cases hle : i ≤ 1500
      · have hlj : (i : Int) ≤ 1500 := by omega
        have hl64 := HL.out.ok.l
        by_cases hk1 : kd = 1
        · subst hk1
          rcases relC_cases s tk nw with ⟨e, hc⟩ | ⟨n0, n1, i5, x, rfl, hi5, hx, ⟨e, h1⟩ | ⟨e, h1, h2⟩ | ⟨e, h1, h2⟩⟩
          · have HEC := mkHid e
            have HL3 := mkHid (HL.out.alloc (.cells #[.int .i64 1, .int .i64 wh, .int .i64 tk, .int .i64 nw, .int .i64 tkk] 40))
            have HM3 : Hid (Mj (wr.alloc (.cells #[.int .i64 1, .int .i64 wh, .int .i64 tk, .int .i64 nw, .int .i64 tkk] 40)) M m ∧ ¬ Ft xv jv b M ∧ R < M) := mkHid ⟨HM.out.1.below (ba (Below.refl _ _) _), HM.out.2⟩
            have HL364 := mkHid hl64
            have HL564 := mkHid hl64
            have HX3 : Hid ((wr.alloc (.cells #[.int .i64 1, .int .i64 wh, .int .i64 tk, .int .i64 nw, .int .i64 tkk] 40)).heap[wr.heap.size]? = some (.cells #[.int .i64 1, .int .i64 wh, .int .i64 tk, .int .i64 nw, .int .i64 tkk] 40)) := mkHid (heap_alloc_new wr _)
            have HXF : Hid (¬ Ft xv jv b wr.heap.size) := mkHid (fun f => by have := (HL.out.gb.foot f).2; omega)
            clear e
            go_wp2_with (first | (go_at_call 19; (with_reducible refine (jobs_is B _ b p xv _ _ HL3.out.gb HL364.out).mono ?_); rintro e w4 ⟨law4, lcw4, rfl, ho4, b4⟩; have HL4 := mkHid (HL3.out.late b4); have HM4 := mkHid (And.intro (HM3.out.1.below b4) HM3.out.2); obtain ⟨v0, v1, v2, v3, v4⟩ := op5_cells (blk_late HX3.out b4); have HX4 := mkHid (And.intro (blk_late HX3.out b4) HXF.out); clear ho4 b4) | (go_at_call 13; refine (release_is B w4 b p xv jv s tk nw tkk a HL4.out.gb HL4.out.ok (HE.out.late HL4.out.bel)).mono ?_; rintro e w5 ⟨he, jv5, hg5, hk5, hv5⟩; rw [HEC.out] at he; rw [rel_no (by rw [HEC.out]; decide)] at hg5; simp only [eg] at he; simp only [Int.reduceEq, if_true, if_false] at he; subst he; have HL5 := mkHid (HL4.out.call hg5 hk5 HL4.out.ok rfl); have HM5 : Hid (Mj w5 M m ∧ ¬ Ft xv jv5 b M ∧ R < M) := mkHid (by obtain ⟨es, cl, hb, hr⟩ := HM4.out.1; obtain ⟨q1, q2⟩ := HL4.out.box hk5 hv5 hb HM4.out.2.1; exact ⟨⟨es, cl, q1, hr⟩, q2, HM4.out.2.2⟩); have hlk := HM5.out.1.get tk; have hx5 := (HL4.out.box (jv' := jv5) hk5 hv5 HX4.out.1 HX4.out.2).1; clear v0 v1 v2 v3 v4; obtain ⟨v0, v1, v2, v3, v4⟩ := op5_cells hx5; clear hg5 hk5 hv5 hx5) | (go_at_call 19; (with_reducible refine (jobs_is B _ b p xv _ _ HL5.out.gb HL564.out).mono ?_); rintro e w6 ⟨law6, lcw6, rfl, ho4, b4⟩; have HL6 := mkHid (HL5.out.late b4); have HM6 := mkHid (And.intro (HM5.out.1.below b4) HM5.out.2); have en1 := HD.out.n1 w6; have en2 := HD.out.n2 w6; have en3 := HD.out.n3 w6; have ed21 := HD.out.d21 w6 HL6.out.bel; have ed31 := HD.out.d31 w6 HL6.out.bel; have ed32 := HD.out.d32 w6 HL6.out.bel; have EE := HE.out.late HL6.out.bel; have ec1 := EE.num; have ec2 := EE.busy; have ec3 := EE.full; clear EE; clear ho4 b4))
            go_roundw
            case rel => exact ⟨i + 1, jv5, s, m, by go_num, by omega, by omega, HL6, HM6, HLM⟩
            case measure => simp [intOf]; omega
          · have HEC := mkHid e
            have HL3 := mkHid (HL.out.alloc (.cells #[.int .i64 1, .int .i64 wh, .int .i64 (i5 : Int), .int .i64 nw, .int .i64 tkk] 40))
            have HM3 : Hid (Mj (wr.alloc (.cells #[.int .i64 1, .int .i64 wh, .int .i64 (i5 : Int), .int .i64 nw, .int .i64 tkk] 40)) M m ∧ ¬ Ft xv jv b M ∧ R < M) := mkHid ⟨HM.out.1.below (ba (Below.refl _ _) _), HM.out.2⟩
            have HL364 := mkHid hl64
            have HL564 := mkHid hl64
            have HX3 : Hid ((wr.alloc (.cells #[.int .i64 1, .int .i64 wh, .int .i64 (i5 : Int), .int .i64 nw, .int .i64 tkk] 40)).heap[wr.heap.size]? = some (.cells #[.int .i64 1, .int .i64 wh, .int .i64 (i5 : Int), .int .i64 nw, .int .i64 tkk] 40)) := mkHid (heap_alloc_new wr _)
            have HXF : Hid (¬ Ft xv jv b wr.heap.size) := mkHid (fun f => by have := (HL.out.gb.foot f).2; omega)
            clear e
            go_wp2_with (first | (go_at_call 19; (with_reducible refine (jobs_is B _ b p xv _ _ HL3.out.gb HL364.out).mono ?_); rintro e w4 ⟨law4, lcw4, rfl, ho4, b4⟩; have HL4 := mkHid (HL3.out.late b4); have HM4 := mkHid (And.intro (HM3.out.1.below b4) HM3.out.2); obtain ⟨v0, v1, v2, v3, v4⟩ := op5_cells (blk_late HX3.out b4); have HX4 := mkHid (And.intro (blk_late HX3.out b4) HXF.out); clear ho4 b4) | (go_at_call 13; refine (release_is B w4 b p xv jv s (i5 : Int) nw tkk a HL4.out.gb HL4.out.ok (HE.out.late HL4.out.bel)).mono ?_; rintro e w5 ⟨he, jv5, hg5, hk5, hv5⟩; rw [HEC.out] at he; rw [rel_no (by rw [HEC.out]; decide)] at hg5; simp only [eg] at he; simp only [Int.reduceEq, if_true, if_false] at he; subst he; have HL5 := mkHid (HL4.out.call hg5 hk5 HL4.out.ok rfl); have HM5 : Hid (Mj w5 M m ∧ ¬ Ft xv jv5 b M ∧ R < M) := mkHid (by obtain ⟨es, cl, hb, hr⟩ := HM4.out.1; obtain ⟨q1, q2⟩ := HL4.out.box hk5 hv5 hb HM4.out.2.1; exact ⟨⟨es, cl, q1, hr⟩, q2, HM4.out.2.2⟩); have hlk := HM5.out.1.get (i5 : Int); have hx5 := (HL4.out.box (jv' := jv5) hk5 hv5 HX4.out.1 HX4.out.2).1; clear v0 v1 v2 v3 v4; obtain ⟨v0, v1, v2, v3, v4⟩ := op5_cells hx5; clear hg5 hk5 hv5 hx5) | (go_at_call 19; (with_reducible refine (jobs_is B _ b p xv _ _ HL5.out.gb HL564.out).mono ?_); rintro e w6 ⟨law6, lcw6, rfl, ho4, b4⟩; have HL6 := mkHid (HL5.out.late b4); have HM6 := mkHid (And.intro (HM5.out.1.below b4) HM5.out.2); have en1 := HD.out.n1 w6; have en2 := HD.out.n2 w6; have en3 := HD.out.n3 w6; have ed21 := HD.out.d21 w6 HL6.out.bel; have ed31 := HD.out.d31 w6 HL6.out.bel; have ed32 := HD.out.d32 w6 HL6.out.bel; have EE := HE.out.late HL6.out.bel; have ec1 := EE.num; have ec2 := EE.busy; have ec3 := EE.full; clear EE; clear ho4 b4))
            go_roundw
            case rel => exact ⟨i + 1, jv5, s, m, by go_num, by omega, by omega, HL6, HM6, HLM⟩
            case measure => simp [intOf]; omega
          · have HEC := mkHid e
            have HL3 := mkHid (HL.out.alloc (.cells #[.int .i64 1, .int .i64 wh, .int .i64 (i5 : Int), .int .i64 nw, .int .i64 tkk] 40))
            have HM3 : Hid (Mj (wr.alloc (.cells #[.int .i64 1, .int .i64 wh, .int .i64 (i5 : Int), .int .i64 nw, .int .i64 tkk] 40)) M m ∧ ¬ Ft xv jv b M ∧ R < M) := mkHid ⟨HM.out.1.below (ba (Below.refl _ _) _), HM.out.2⟩
            have HL364 := mkHid hl64
            have HL564 := mkHid hl64
            have HX3 : Hid ((wr.alloc (.cells #[.int .i64 1, .int .i64 wh, .int .i64 (i5 : Int), .int .i64 nw, .int .i64 tkk] 40)).heap[wr.heap.size]? = some (.cells #[.int .i64 1, .int .i64 wh, .int .i64 (i5 : Int), .int .i64 nw, .int .i64 tkk] 40)) := mkHid (heap_alloc_new wr _)
            have HXF : Hid (¬ Ft xv jv b wr.heap.size) := mkHid (fun f => by have := (HL.out.gb.foot f).2; omega)
            clear e
            go_wp2_with (first | (go_at_call 19; (with_reducible refine (jobs_is B _ b p xv _ _ HL3.out.gb HL364.out).mono ?_); rintro e w4 ⟨law4, lcw4, rfl, ho4, b4⟩; have HL4 := mkHid (HL3.out.late b4); have HM4 := mkHid (And.intro (HM3.out.1.below b4) HM3.out.2); obtain ⟨v0, v1, v2, v3, v4⟩ := op5_cells (blk_late HX3.out b4); have HX4 := mkHid (And.intro (blk_late HX3.out b4) HXF.out); clear ho4 b4) | (go_at_call 13; refine (release_is B w4 b p xv jv s (i5 : Int) nw tkk a HL4.out.gb HL4.out.ok (HE.out.late HL4.out.bel)).mono ?_; rintro e w5 ⟨he, jv5, hg5, hk5, hv5⟩; rw [HEC.out] at he; rw [rel_no (by rw [HEC.out]; decide)] at hg5; simp only [eg] at he; simp only [Int.reduceEq, if_true, if_false] at he; subst he; have HL5 := mkHid (HL4.out.call hg5 hk5 HL4.out.ok rfl); have HM5 : Hid (Mj w5 M m ∧ ¬ Ft xv jv5 b M ∧ R < M) := mkHid (by obtain ⟨es, cl, hb, hr⟩ := HM4.out.1; obtain ⟨q1, q2⟩ := HL4.out.box hk5 hv5 hb HM4.out.2.1; exact ⟨⟨es, cl, q1, hr⟩, q2, HM4.out.2.2⟩); have hlk := HM5.out.1.get (i5 : Int); have hx5 := (HL4.out.box (jv' := jv5) hk5 hv5 HX4.out.1 HX4.out.2).1; clear v0 v1 v2 v3 v4; obtain ⟨v0, v1, v2, v3, v4⟩ := op5_cells hx5; clear hg5 hk5 hv5 hx5) | (go_at_call 19; (with_reducible refine (jobs_is B _ b p xv _ _ HL5.out.gb HL564.out).mono ?_); rintro e w6 ⟨law6, lcw6, rfl, ho4, b4⟩; have HL6 := mkHid (HL5.out.late b4); have HM6 := mkHid (And.intro (HM5.out.1.below b4) HM5.out.2); have en1 := HD.out.n1 w6; have en2 := HD.out.n2 w6; have en3 := HD.out.n3 w6; have ed21 := HD.out.d21 w6 HL6.out.bel; have ed31 := HD.out.d31 w6 HL6.out.bel; have ed32 := HD.out.d32 w6 HL6.out.bel; have EE := HE.out.late HL6.out.bel; have ec1 := EE.num; have ec2 := EE.busy; have ec3 := EE.full; clear EE; clear ho4 b4))
            go_roundw
            case rel => exact ⟨i + 1, jv5, s, m, by go_num, by omega, by omega, HL6, HM6, HLM⟩
            case measure => simp [intOf]; omega
          · have hxt : ts[i5]? = some x.1 := by rw [← HL.out.e]; exact ts_at hx
            have hok := HL.out.ok.ok x (List.mem_of_getElem? hx)
            have hag := HL.out.ok.ag x (List.mem_of_getElem? hx)
            obtain ⟨k1, k2, k3, k4, k5, k6⟩ := hok
            obtain ⟨tb, toff, tc1, tc2, tc3, tc4, rfl, htt, t0, t1, t2, t3⟩ := HT.out.at (Below.refl _ _) i5 (List.getElem?_eq_some_iff.mp hxt).1
            have htx : x.1 = (tc1, tc2, tc3, tc4) := by rw [hxt] at htt; exact Option.some.inj htt
            have hjt : (i5 : Int) < ts.length := by have := (List.getElem?_eq_some_iff.mp hxt).1; omega
            have HX := mkHid hx
            have HE0 := mkHid e
            have HS2 : Hid ((s.rel i5 nw tkk) = s.put i5 x nw tkk) := mkHid (rel_yes e hx)
            have HN : Hid ((s.rel i5 nw tkk).js.length = s.js.length + 1) := mkHid (by rw [HS2.out]; simp [Gt.put])
            have en : IntKind.i64.wrap ((s.js.length : Int) + 1) = (s.js.length : Int) + 1 := wfit (by omega) (by omega)
            have hn64 : decide (64 < (s.js.length : Int) + 1) = false := decide_eq_false (by omega)
            have hn65 : ¬ (64 < (s.js.length : Int) + 1) := by omega
            have hn66 : (s.js.length : Int) < 64 := by omega
            have HN0 := mkHid n0
            cases hmk : m (i5 : Int) with
            | none =>
              have HMK := mkHid hmk
              clear hx hxt htt htx t0 t2 t3 hmk h1 e
              have HL3 := mkHid (HL.out.alloc (.cells #[.int .i64 1, .int .i64 wh, .int .i64 (i5 : Int), .int .i64 nw, .int .i64 tkk] 40))
              have HM3 : Hid (Mj (wr.alloc (.cells #[.int .i64 1, .int .i64 wh, .int .i64 (i5 : Int), .int .i64 nw, .int .i64 tkk] 40)) M m ∧ ¬ Ft xv jv b M ∧ R < M) := mkHid ⟨HM.out.1.below (ba (Below.refl _ _) _), HM.out.2⟩
              have HL364 := mkHid hl64
              have HX3 : Hid ((wr.alloc (.cells #[.int .i64 1, .int .i64 wh, .int .i64 (i5 : Int), .int .i64 nw, .int .i64 tkk] 40)).heap[wr.heap.size]? = some (.cells #[.int .i64 1, .int .i64 wh, .int .i64 (i5 : Int), .int .i64 nw, .int .i64 tkk] 40) ∧ ¬ Ft xv jv b wr.heap.size) := mkHid ⟨heap_alloc_new wr _, fun f => by have := (HL.out.gb.foot f).2; omega⟩
              go_wp2_with (first | (go_at_call 19; (with_reducible refine (jobs_is B _ b p xv _ _ HL3.out.gb HL364.out).mono ?_); rintro e w4 ⟨law4, lcw4, rfl, ho4, b4⟩; have HL4 := mkHid (HL3.out.late b4); have HM4 := mkHid (And.intro (HM3.out.1.below b4) HM3.out.2); have HX4 := mkHid (And.intro (blk_late HX3.out.1 b4) HX3.out.2); obtain ⟨v0, v1, v2, v3, v4⟩ := op5_cells HX4.out.1; clear ho4 b4) | (go_at_call 13; refine (release_is B w4 b p xv jv s (i5 : Int) nw tkk a HL4.out.gb HL4.out.ok (HE.out.late HL4.out.bel)).mono ?_; rintro e w5 ⟨he, jv5, hg5, hk5, hv5⟩; rw [HE0.out] at he; simp only [eg] at he; simp only [Int.reduceEq, if_false] at he; subst he; have HL5 := mkHid (HL4.out.call hg5 hk5 (HL4.out.ok.rel _ _ _) (rel_ts s _ _ _)); have HL564 : Hid ((s.rel i5 nw tkk).js.length ≤ 64) := mkHid HL5.out.ok.l; have HM5 : Hid (Mj w5 M m ∧ ¬ Ft xv jv5 b M ∧ R < M) := mkHid (by obtain ⟨es, cl, hb, hr⟩ := HM4.out.1; obtain ⟨q1, q2⟩ := HL4.out.box hk5 hv5 hb HM4.out.2.1; exact ⟨⟨es, cl, q1, hr⟩, q2, HM4.out.2.2⟩); have HX5 := mkHid (HL4.out.box (jv' := jv5) hk5 hv5 HX4.out.1 HX4.out.2); have hlk : (Instr.lookup 58 (.map (some M)) (.int .i64 (i5 : Int)) true).run Tryd.prog w5 = .ok (.tuple #[.int .i64 0, .bool false]) w5 := (by have := HM5.out.1.get (i5 : Int); rw [HMK.out] at this; exact this); clear hg5 hk5 hv5 v0 v1 v2 v3 v4; obtain ⟨v0, v1, v2, v3, v4⟩ := op5_cells HX5.out.1; have x1 := HL5.out.cb.c1; have y1 := kc t1 HL5.out.bel))
              clear hlk
              have HCJ : Hid (∀ W', Below w5.heap.size w5 W' → Calls Tryd.prog 19 #[.pointer (some ⟨b, 0, none⟩)] W' fun r w' => ∃ a2 c2, r = .returned (.slice a2 (s.js.length + 1) c2) ∧ Below W'.heap.size W' w') := mkHid (fun W' hW' => by
                refine (jobs_is B W' b p xv jv5 (s.rel i5 nw tkk) (HL5.out.late hW').gb HL564.out).mono ?_
                rintro r w' ⟨a2, c2, rfl, _, hb⟩
                rw [HN.out]
                exact ⟨a2, c2, rfl, hb⟩)
              have HB5 : Hid (Below w5.heap.size w5 w5) := mkHid (Below.refl _ _)
              generalize wr.heap.size = X at *
              refine wp_region_held_drew (S := fun w' => w'.cell? ⟨X, 2, none⟩ = some (.int .i64 (i5 : Int)) ∧ w'.cell? ⟨X, 3, none⟩ = some (.int .i64 nw) ∧ w'.cell? ⟨R, 1, none⟩ = some (.slice (some ⟨tb, toff, none⟩) ts.length tc) ∧ w'.cell? ⟨tb, toff + i5 * 4 + 1, none⟩ = some (.int .i64 tc2)) (by kernel_rfl) ⟨v2, v3, x1, y1⟩ (fun hHeld => ?_)
              refine takeD 0 68 (.bool false) rfl rfl (by kernel_rfl) (by kernel_rfl) (by kernel_rfl) (fun _ _ _ h => h) (Or.inl ⟨by kernel_rfl, by intro w hSw; (try dsimp only at hSw); go_simp⟩) hHeld ?_
              simp only [List.set_cons_zero, List.set_cons_succ]
              refine takeD 1 69 (.bool false) rfl rfl (by kernel_rfl) (by kernel_rfl) (by kernel_rfl) (fun _ _ _ h => h) (Or.inl ⟨by kernel_rfl, by intro w hSw; (try dsimp only at hSw); go_simp⟩) hHeld ?_
              simp only [List.set_cons_zero, List.set_cons_succ]
              refine takeD 2 70 (undef) rfl rfl (by kernel_rfl) (by kernel_rfl) (by kernel_rfl) (fun _ _ _ h => h) (Or.inr ⟨by kernel_rfl, rfl⟩) hHeld ?_
              simp only [List.set_cons_zero, List.set_cons_succ]
              refine takeD 3 71 (undef) rfl rfl (by kernel_rfl) (by kernel_rfl) (by kernel_rfl) (fun _ _ _ h => h) (Or.inr ⟨by kernel_rfl, rfl⟩) hHeld ?_
              simp only [List.set_cons_zero, List.set_cons_succ]
              refine takeD 4 72 (undef) rfl rfl (by kernel_rfl) (by kernel_rfl) (by kernel_rfl) (fun _ _ _ h => h) (Or.inr ⟨by kernel_rfl, rfl⟩) hHeld ?_
              simp only [List.set_cons_zero, List.set_cons_succ]
              refine takeD 5 73 (undef) rfl rfl (by kernel_rfl) (by kernel_rfl) (by kernel_rfl) (fun _ _ _ h => h) (Or.inr ⟨by kernel_rfl, rfl⟩) hHeld ?_
              simp only [List.set_cons_zero, List.set_cons_succ]
              refine takeD 6 74 (undef) rfl rfl (by kernel_rfl) (by kernel_rfl) (by kernel_rfl) (fun _ _ _ h => h) (Or.inr ⟨by kernel_rfl, rfl⟩) hHeld ?_
              simp only [List.set_cons_zero, List.set_cons_succ]
              refine takeD 7 75 (undef) rfl rfl (by kernel_rfl) (by kernel_rfl) (by kernel_rfl) (fun _ _ _ h => h) (Or.inr ⟨by kernel_rfl, rfl⟩) hHeld ?_
              simp only [List.set_cons_zero, List.set_cons_succ]
              refine takeD 8 76 (undef) rfl rfl (by kernel_rfl) (by kernel_rfl) (by kernel_rfl) (fun _ _ _ h => h) (Or.inr ⟨by kernel_rfl, rfl⟩) hHeld ?_
              simp only [List.set_cons_zero, List.set_cons_succ]
              refine takeD 9 77 (undef) rfl rfl (by kernel_rfl) (by kernel_rfl) (by kernel_rfl) (fun _ _ _ h => h) (Or.inr ⟨by kernel_rfl, rfl⟩) hHeld ?_
              simp only [List.set_cons_zero, List.set_cons_succ]
              refine takeD 10 78 (undef) rfl rfl (by kernel_rfl) (by kernel_rfl) (by kernel_rfl) (fun _ _ _ h => h) (Or.inr ⟨by kernel_rfl, rfl⟩) hHeld ?_
              simp only [List.set_cons_zero, List.set_cons_succ]
              refine takeD 11 79 (undef) rfl rfl (by kernel_rfl) (by kernel_rfl) (by kernel_rfl) (fun _ _ _ h => h) (Or.inr ⟨by kernel_rfl, rfl⟩) hHeld ?_
              simp only [List.set_cons_zero, List.set_cons_succ]
              refine takeD 12 80 (undef) rfl rfl (by kernel_rfl) (by kernel_rfl) (by kernel_rfl) (fun _ _ _ h => h) (Or.inr ⟨by kernel_rfl, rfl⟩) hHeld ?_
              simp only [List.set_cons_zero, List.set_cons_succ]
              refine takeD 13 81 (undef) rfl rfl (by kernel_rfl) (by kernel_rfl) (by kernel_rfl) (fun _ _ _ h => h) (Or.inr ⟨by kernel_rfl, rfl⟩) hHeld ?_
              simp only [List.set_cons_zero, List.set_cons_succ]
              refine takeD 14 82 (.bool false) rfl rfl (by kernel_rfl) (by kernel_rfl) (by kernel_rfl) (fun _ _ _ h => h) (Or.inl ⟨by kernel_rfl, by intro w hSw; (try dsimp only at hSw); go_simp⟩) hHeld ?_
              simp only [List.set_cons_zero, List.set_cons_succ]
              refine takeD 15 83 (.bool false) rfl rfl (by kernel_rfl) (by kernel_rfl) (by kernel_rfl) (fun _ _ _ h => h) (Or.inl ⟨by kernel_rfl, by intro w hSw; (try dsimp only at hSw); go_simp⟩) hHeld ?_
              simp only [List.set_cons_zero, List.set_cons_succ]
              refine takeD 16 84 (.pointer (some ⟨b, 0, none⟩)) rfl rfl (by kernel_rfl) (by kernel_rfl) (by kernel_rfl) (fun _ _ _ h => h) (Or.inl ⟨by kernel_rfl, by intro w hSw; (try dsimp only at hSw); go_simp⟩) hHeld ?_
              simp only [List.set_cons_zero, List.set_cons_succ]
              refine takeD 19 87 (.int .i64 (s.js.length : Int)) rfl rfl (by kernel_rfl) (by kernel_rfl) (by kernel_rfl) (fun _ _ _ h => h) (Or.inl ⟨by kernel_rfl, by intro w hSw; (try dsimp only at hSw); go_simp⟩) hHeld ?_
              simp only [List.set_cons_zero, List.set_cons_succ]
              refine takeD 20 88 (.int .i64 ((s.js.length : Int) + 1)) rfl rfl (by kernel_rfl) (by kernel_rfl) (by kernel_rfl) (fun _ _ _ h => h) (Or.inl ⟨by kernel_rfl, by intro w hSw; (try dsimp only at hSw); go_simp⟩) hHeld ?_
              simp only [List.set_cons_zero, List.set_cons_succ]
              refine wpAnyH_ready (rs := [17]) (by kernel_rfl) (by simp) (AllReadyH.cons rfl (fun K hK => ?_) AllReadyH.nil)
              go_simp
              refine (HCJ.out w5.drew (HB5.out.drew)).mono ?_
              rintro e w6 ⟨la6, lc6, rfl, bw6⟩
              have fw6_0 : w6.cell? ⟨X, 2, none⟩ = some (.int .i64 (i5 : Int)) := kc (show w5.drew.cell? _ = _ from v2) bw6
              have fw6_1 : w6.cell? ⟨X, 3, none⟩ = some (.int .i64 nw) := kc (show w5.drew.cell? _ = _ from v3) bw6
              have fw6_2 : w6.cell? ⟨R, 1, none⟩ = some (.slice (some ⟨tb, toff, none⟩) ts.length tc) := kc (show w5.drew.cell? _ = _ from x1) bw6
              have fw6_3 : w6.cell? ⟨tb, toff + i5 * 4 + 1, none⟩ = some (.int .i64 tc2) := kc (show w5.drew.cell? _ = _ from y1) bw6
              have HB6 := mkHid (bt HB5.out.drew bw6)
              clear bw6 hHeld
              refine hK.out _ _ ⟨fw6_0, fw6_1, fw6_2, fw6_3⟩ (fun hHeld => ?_)
              clear hK K
              refine takeD 18 86 (.int .i64 ((s.js.length : Int) + 1)) rfl rfl (by kernel_rfl) (by kernel_rfl) (by kernel_rfl) (fun _ _ _ h => h) (Or.inl ⟨by kernel_rfl, by intro w hSw; (try dsimp only at hSw); go_simp⟩) hHeld ?_
              simp only [List.set_cons_zero, List.set_cons_succ]
              refine takeD 21 89 (.bool false) rfl rfl (by kernel_rfl) (by kernel_rfl) (by kernel_rfl) (fun _ _ _ h => h) (Or.inl ⟨by kernel_rfl, by intro w hSw; (try dsimp only at hSw); go_simp⟩) hHeld ?_
              simp only [List.set_cons_zero, List.set_cons_succ]
              refine takeD 22 90 (.bool false) rfl rfl (by kernel_rfl) (by kernel_rfl) (by kernel_rfl) (fun _ _ _ h => h) (Or.inl ⟨by kernel_rfl, by intro w hSw; (try dsimp only at hSw); go_simp⟩) hHeld ?_
              simp only [List.set_cons_zero, List.set_cons_succ]
              refine takeD 23 91 (.bool false) rfl rfl (by kernel_rfl) (by kernel_rfl) (by kernel_rfl) (fun _ _ _ h => h) (Or.inl ⟨by kernel_rfl, by intro w hSw; (try dsimp only at hSw); go_simp⟩) hHeld ?_
              simp only [List.set_cons_zero, List.set_cons_succ]
              refine takeD 24 92 (.int .i64 (s.js.length : Int)) rfl rfl (by kernel_rfl) (by kernel_rfl) (by kernel_rfl) (fun _ _ _ h => h) (Or.inl ⟨by kernel_rfl, by intro w hSw; (try dsimp only at hSw); go_simp⟩) hHeld ?_
              simp only [List.set_cons_zero, List.set_cons_succ]
              refine takeD 25 93 (.int .i64 ((s.js.length : Int) + 1)) rfl rfl (by kernel_rfl) (by kernel_rfl) (by kernel_rfl) (fun _ _ _ h => h) (Or.inl ⟨by kernel_rfl, by intro w hSw; (try dsimp only at hSw); go_simp⟩) hHeld ?_
              simp only [List.set_cons_zero, List.set_cons_succ]
              refine takeD 26 94 (.bool false) rfl rfl (by kernel_rfl) (by kernel_rfl) (by kernel_rfl) (fun _ _ _ h => h) (Or.inl ⟨by kernel_rfl, by intro w hSw; (try dsimp only at hSw); go_simp⟩) hHeld ?_
              simp only [List.set_cons_zero, List.set_cons_succ]
              refine takeD 27 95 (.bool false) rfl rfl (by kernel_rfl) (by kernel_rfl) (by kernel_rfl) (fun _ _ _ h => h) (Or.inl ⟨by kernel_rfl, by intro w hSw; (try dsimp only at hSw); go_simp⟩) hHeld ?_
              simp only [List.set_cons_zero, List.set_cons_succ]
              refine wpAnyH_done (by kernel_rfl) ?_ _
              have HL6 := mkHid (HL5.out.late HB6.out)
              have HM6 := mkHid (HM5.out.1.below HB6.out)
              obtain ⟨wu, hput, hMu, hKu⟩ := HM6.out.put (i5 : Int) nw
              have HL7 := mkHid (HL6.out.off hKu HM5.out.2.2 HM5.out.2.1)
              have HM7 := mkHid hMu
              clear hMu hKu
              go_wp2
              go_roundw
              case rel => exact ⟨i + 1, jv5, _, _, by go_num, by omega, by omega, HL7, mkHid ⟨HM7.out, HM5.out.2⟩, mkHid (by rw [HS2.out]; exact HLM.out.put HX.out HN0.out)⟩
              case measure => simp [intOf]; omega
            | some was =>
              obtain ⟨r0, i6, y, e6, hy, hr⟩ := HLM.out _ _ hmk
              have e6' : i5 = i6 := by omega
              subst e6'
              have hyx : x = y := by rw [hx] at hy; exact Option.some.inj hy
              subst hyx
              have hp : x.1.2.1 = tc2 := by rw [htx]
              have ew : IntKind.i64.wrap (nw - was) = nw - was := wfit (by omega) (by omega)
              have hd : decide (nw - was < tc2) = false := decide_eq_false (by omega)
              have hd2 : ¬ nw - was < tc2 := by omega
              have HMK := mkHid hmk
              clear hx hy hxt htt htx t0 t2 t3 hmk h1 e hr hp e6
              have HL3 := mkHid (HL.out.alloc (.cells #[.int .i64 1, .int .i64 wh, .int .i64 (i5 : Int), .int .i64 nw, .int .i64 tkk] 40))
              have HM3 : Hid (Mj (wr.alloc (.cells #[.int .i64 1, .int .i64 wh, .int .i64 (i5 : Int), .int .i64 nw, .int .i64 tkk] 40)) M m ∧ ¬ Ft xv jv b M ∧ R < M) := mkHid ⟨HM.out.1.below (ba (Below.refl _ _) _), HM.out.2⟩
              have HL364 := mkHid hl64
              have HX3 : Hid ((wr.alloc (.cells #[.int .i64 1, .int .i64 wh, .int .i64 (i5 : Int), .int .i64 nw, .int .i64 tkk] 40)).heap[wr.heap.size]? = some (.cells #[.int .i64 1, .int .i64 wh, .int .i64 (i5 : Int), .int .i64 nw, .int .i64 tkk] 40) ∧ ¬ Ft xv jv b wr.heap.size) := mkHid ⟨heap_alloc_new wr _, fun f => by have := (HL.out.gb.foot f).2; omega⟩
              go_wp2_with (first | (go_at_call 19; (with_reducible refine (jobs_is B _ b p xv _ _ HL3.out.gb HL364.out).mono ?_); rintro e w4 ⟨law4, lcw4, rfl, ho4, b4⟩; have HL4 := mkHid (HL3.out.late b4); have HM4 := mkHid (And.intro (HM3.out.1.below b4) HM3.out.2); have HX4 := mkHid (And.intro (blk_late HX3.out.1 b4) HX3.out.2); obtain ⟨v0, v1, v2, v3, v4⟩ := op5_cells HX4.out.1; clear ho4 b4) | (go_at_call 13; refine (release_is B w4 b p xv jv s (i5 : Int) nw tkk a HL4.out.gb HL4.out.ok (HE.out.late HL4.out.bel)).mono ?_; rintro e w5 ⟨he, jv5, hg5, hk5, hv5⟩; rw [HE0.out] at he; simp only [eg] at he; simp only [Int.reduceEq, if_false] at he; subst he; have HL5 := mkHid (HL4.out.call hg5 hk5 (HL4.out.ok.rel _ _ _) (rel_ts s _ _ _)); have HL564 : Hid ((s.rel i5 nw tkk).js.length ≤ 64) := mkHid HL5.out.ok.l; have HM5 : Hid (Mj w5 M m ∧ ¬ Ft xv jv5 b M ∧ R < M) := mkHid (by obtain ⟨es, cl, hb, hr⟩ := HM4.out.1; obtain ⟨q1, q2⟩ := HL4.out.box hk5 hv5 hb HM4.out.2.1; exact ⟨⟨es, cl, q1, hr⟩, q2, HM4.out.2.2⟩); have HX5 := mkHid (HL4.out.box (jv' := jv5) hk5 hv5 HX4.out.1 HX4.out.2); have hlk : (Instr.lookup 58 (.map (some M)) (.int .i64 (i5 : Int)) true).run Tryd.prog w5 = .ok (.tuple #[.int .i64 was, .bool true]) w5 := (by have := HM5.out.1.get (i5 : Int); rw [HMK.out] at this; exact this); clear hg5 hk5 hv5 v0 v1 v2 v3 v4; obtain ⟨v0, v1, v2, v3, v4⟩ := op5_cells HX5.out.1; have x1 := HL5.out.cb.c1; have y1 := kc t1 HL5.out.bel))
              clear hlk
              have HCJ : Hid (∀ W', Below w5.heap.size w5 W' → Calls Tryd.prog 19 #[.pointer (some ⟨b, 0, none⟩)] W' fun r w' => ∃ a2 c2, r = .returned (.slice a2 (s.js.length + 1) c2) ∧ Below W'.heap.size W' w') := mkHid (fun W' hW' => by
                refine (jobs_is B W' b p xv jv5 (s.rel i5 nw tkk) (HL5.out.late hW').gb HL564.out).mono ?_
                rintro r w' ⟨a2, c2, rfl, _, hb⟩
                rw [HN.out]
                exact ⟨a2, c2, rfl, hb⟩)
              have HB5 : Hid (Below w5.heap.size w5 w5) := mkHid (Below.refl _ _)
              generalize wr.heap.size = X at *
              refine wp_region_held_drew (S := fun w' => w'.cell? ⟨X, 2, none⟩ = some (.int .i64 (i5 : Int)) ∧ w'.cell? ⟨X, 3, none⟩ = some (.int .i64 nw) ∧ w'.cell? ⟨R, 1, none⟩ = some (.slice (some ⟨tb, toff, none⟩) ts.length tc) ∧ w'.cell? ⟨tb, toff + i5 * 4 + 1, none⟩ = some (.int .i64 tc2)) (by kernel_rfl) ⟨v2, v3, x1, y1⟩ (fun hHeld => ?_)
              refine takeD 0 68 (.bool true) rfl rfl (by kernel_rfl) (by kernel_rfl) (by kernel_rfl) (fun _ _ _ h => h) (Or.inl ⟨by kernel_rfl, by intro w hSw; (try dsimp only at hSw); go_simp⟩) hHeld ?_
              simp only [List.set_cons_zero, List.set_cons_succ]
              refine takeD 1 69 (.bool true) rfl rfl (by kernel_rfl) (by kernel_rfl) (by kernel_rfl) (fun _ _ _ h => h) (Or.inl ⟨by kernel_rfl, by intro w hSw; (try dsimp only at hSw); go_simp⟩) hHeld ?_
              simp only [List.set_cons_zero, List.set_cons_succ]
              refine takeD 2 70 (.pointer (some ⟨X, 3, none⟩)) rfl rfl (by kernel_rfl) (by kernel_rfl) (by kernel_rfl) (fun _ _ _ h => h) (Or.inl ⟨by kernel_rfl, by intro w hSw; (try dsimp only at hSw); go_simp⟩) hHeld ?_
              simp only [List.set_cons_zero, List.set_cons_succ]
              refine takeD 3 71 (.int .i64 nw) rfl rfl (by kernel_rfl) (by kernel_rfl) (by kernel_rfl) (fun _ _ _ h => h) (Or.inl ⟨by kernel_rfl, by intro w hSw; (try dsimp only at hSw); go_simp⟩) hHeld ?_
              simp only [List.set_cons_zero, List.set_cons_succ]
              refine takeD 4 72 (.int .i64 was) rfl rfl (by kernel_rfl) (by kernel_rfl) (by kernel_rfl) (fun _ _ _ h => h) (Or.inl ⟨by kernel_rfl, by intro w hSw; (try dsimp only at hSw); go_simp⟩) hHeld ?_
              simp only [List.set_cons_zero, List.set_cons_succ]
              refine takeD 5 73 (.int .i64 (nw - was)) rfl rfl (by kernel_rfl) (by kernel_rfl) (by kernel_rfl) (fun _ _ _ h => h) (Or.inl ⟨by kernel_rfl, by intro w hSw; (try dsimp only at hSw); go_simp⟩) hHeld ?_
              simp only [List.set_cons_zero, List.set_cons_succ]
              refine takeD 6 74 (.pointer (some ⟨R, 1, none⟩)) rfl rfl (by kernel_rfl) (by kernel_rfl) (by kernel_rfl) (fun _ _ _ h => h) (Or.inl ⟨by kernel_rfl, by intro w hSw; (try dsimp only at hSw); go_simp⟩) hHeld ?_
              simp only [List.set_cons_zero, List.set_cons_succ]
              refine takeD 7 75 (.slice (some ⟨tb, toff, none⟩) ts.length tc) rfl rfl (by kernel_rfl) (by kernel_rfl) (by kernel_rfl) (fun _ _ _ h => h) (Or.inl ⟨by kernel_rfl, by intro w hSw; (try dsimp only at hSw); go_simp⟩) hHeld ?_
              simp only [List.set_cons_zero, List.set_cons_succ]
              refine takeD 8 76 (.pointer (some ⟨X, 2, none⟩)) rfl rfl (by kernel_rfl) (by kernel_rfl) (by kernel_rfl) (fun _ _ _ h => h) (Or.inl ⟨by kernel_rfl, by intro w hSw; (try dsimp only at hSw); go_simp⟩) hHeld ?_
              simp only [List.set_cons_zero, List.set_cons_succ]
              refine takeD 9 77 (.int .i64 (i5 : Int)) rfl rfl (by kernel_rfl) (by kernel_rfl) (by kernel_rfl) (fun _ _ _ h => h) (Or.inl ⟨by kernel_rfl, by intro w hSw; (try dsimp only at hSw); go_simp⟩) hHeld ?_
              simp only [List.set_cons_zero, List.set_cons_succ]
              refine takeD 10 78 (.pointer (some ⟨tb, toff + i5 * 4, none⟩)) rfl rfl (by kernel_rfl) (by kernel_rfl) (by kernel_rfl) (fun _ _ _ h => h) (Or.inl ⟨by kernel_rfl, by intro w hSw; (try dsimp only at hSw); go_simp⟩) hHeld ?_
              simp only [List.set_cons_zero, List.set_cons_succ]
              refine takeD 11 79 (.pointer (some ⟨tb, toff + i5 * 4 + 1, none⟩)) rfl rfl (by kernel_rfl) (by kernel_rfl) (by kernel_rfl) (fun _ _ _ h => h) (Or.inl ⟨by kernel_rfl, by intro w hSw; (try dsimp only at hSw); go_simp⟩) hHeld ?_
              simp only [List.set_cons_zero, List.set_cons_succ]
              refine takeD 12 80 (.int .i64 tc2) rfl rfl (by kernel_rfl) (by kernel_rfl) (by kernel_rfl) (fun _ _ _ h => h) (Or.inl ⟨by kernel_rfl, by intro w hSw; (try dsimp only at hSw); go_simp⟩) hHeld ?_
              simp only [List.set_cons_zero, List.set_cons_succ]
              refine takeD 13 81 (.bool false) rfl rfl (by kernel_rfl) (by kernel_rfl) (by kernel_rfl) (fun _ _ _ h => h) (Or.inl ⟨by kernel_rfl, by intro w hSw; (try dsimp only at hSw); go_simp⟩) hHeld ?_
              simp only [List.set_cons_zero, List.set_cons_succ]
              refine takeD 14 82 (.bool false) rfl rfl (by kernel_rfl) (by kernel_rfl) (by kernel_rfl) (fun _ _ _ h => h) (Or.inl ⟨by kernel_rfl, by intro w hSw; (try dsimp only at hSw); go_simp⟩) hHeld ?_
              simp only [List.set_cons_zero, List.set_cons_succ]
              refine takeD 15 83 (.bool false) rfl rfl (by kernel_rfl) (by kernel_rfl) (by kernel_rfl) (fun _ _ _ h => h) (Or.inl ⟨by kernel_rfl, by intro w hSw; (try dsimp only at hSw); go_simp⟩) hHeld ?_
              simp only [List.set_cons_zero, List.set_cons_succ]
              refine takeD 16 84 (.pointer (some ⟨b, 0, none⟩)) rfl rfl (by kernel_rfl) (by kernel_rfl) (by kernel_rfl) (fun _ _ _ h => h) (Or.inl ⟨by kernel_rfl, by intro w hSw; (try dsimp only at hSw); go_simp⟩) hHeld ?_
              simp only [List.set_cons_zero, List.set_cons_succ]
              refine takeD 19 87 (.int .i64 (s.js.length : Int)) rfl rfl (by kernel_rfl) (by kernel_rfl) (by kernel_rfl) (fun _ _ _ h => h) (Or.inl ⟨by kernel_rfl, by intro w hSw; (try dsimp only at hSw); go_simp⟩) hHeld ?_
              simp only [List.set_cons_zero, List.set_cons_succ]
              refine takeD 20 88 (.int .i64 ((s.js.length : Int) + 1)) rfl rfl (by kernel_rfl) (by kernel_rfl) (by kernel_rfl) (fun _ _ _ h => h) (Or.inl ⟨by kernel_rfl, by intro w hSw; (try dsimp only at hSw); go_simp⟩) hHeld ?_
              simp only [List.set_cons_zero, List.set_cons_succ]
              refine wpAnyH_ready (rs := [17]) (by kernel_rfl) (by simp) (AllReadyH.cons rfl (fun K hK => ?_) AllReadyH.nil)
              go_simp
              refine (HCJ.out w5.drew (HB5.out.drew)).mono ?_
              rintro e w6 ⟨la6, lc6, rfl, bw6⟩
              have fw6_0 : w6.cell? ⟨X, 2, none⟩ = some (.int .i64 (i5 : Int)) := kc (show w5.drew.cell? _ = _ from v2) bw6
              have fw6_1 : w6.cell? ⟨X, 3, none⟩ = some (.int .i64 nw) := kc (show w5.drew.cell? _ = _ from v3) bw6
              have fw6_2 : w6.cell? ⟨R, 1, none⟩ = some (.slice (some ⟨tb, toff, none⟩) ts.length tc) := kc (show w5.drew.cell? _ = _ from x1) bw6
              have fw6_3 : w6.cell? ⟨tb, toff + i5 * 4 + 1, none⟩ = some (.int .i64 tc2) := kc (show w5.drew.cell? _ = _ from y1) bw6
              have HB6 := mkHid (bt HB5.out.drew bw6)
              clear bw6 hHeld
              refine hK.out _ _ ⟨fw6_0, fw6_1, fw6_2, fw6_3⟩ (fun hHeld => ?_)
              clear hK K
              refine takeD 18 86 (.int .i64 ((s.js.length : Int) + 1)) rfl rfl (by kernel_rfl) (by kernel_rfl) (by kernel_rfl) (fun _ _ _ h => h) (Or.inl ⟨by kernel_rfl, by intro w hSw; (try dsimp only at hSw); go_simp⟩) hHeld ?_
              simp only [List.set_cons_zero, List.set_cons_succ]
              refine takeD 21 89 (.bool false) rfl rfl (by kernel_rfl) (by kernel_rfl) (by kernel_rfl) (fun _ _ _ h => h) (Or.inl ⟨by kernel_rfl, by intro w hSw; (try dsimp only at hSw); go_simp⟩) hHeld ?_
              simp only [List.set_cons_zero, List.set_cons_succ]
              refine takeD 22 90 (.bool false) rfl rfl (by kernel_rfl) (by kernel_rfl) (by kernel_rfl) (fun _ _ _ h => h) (Or.inl ⟨by kernel_rfl, by intro w hSw; (try dsimp only at hSw); go_simp⟩) hHeld ?_
              simp only [List.set_cons_zero, List.set_cons_succ]
              refine takeD 23 91 (.bool false) rfl rfl (by kernel_rfl) (by kernel_rfl) (by kernel_rfl) (fun _ _ _ h => h) (Or.inl ⟨by kernel_rfl, by intro w hSw; (try dsimp only at hSw); go_simp⟩) hHeld ?_
              simp only [List.set_cons_zero, List.set_cons_succ]
              refine takeD 24 92 (.int .i64 (s.js.length : Int)) rfl rfl (by kernel_rfl) (by kernel_rfl) (by kernel_rfl) (fun _ _ _ h => h) (Or.inl ⟨by kernel_rfl, by intro w hSw; (try dsimp only at hSw); go_simp⟩) hHeld ?_
              simp only [List.set_cons_zero, List.set_cons_succ]
              refine takeD 25 93 (.int .i64 ((s.js.length : Int) + 1)) rfl rfl (by kernel_rfl) (by kernel_rfl) (by kernel_rfl) (fun _ _ _ h => h) (Or.inl ⟨by kernel_rfl, by intro w hSw; (try dsimp only at hSw); go_simp⟩) hHeld ?_
              simp only [List.set_cons_zero, List.set_cons_succ]
              refine takeD 26 94 (.bool false) rfl rfl (by kernel_rfl) (by kernel_rfl) (by kernel_rfl) (fun _ _ _ h => h) (Or.inl ⟨by kernel_rfl, by intro w hSw; (try dsimp only at hSw); go_simp⟩) hHeld ?_
              simp only [List.set_cons_zero, List.set_cons_succ]
              refine takeD 27 95 (.bool false) rfl rfl (by kernel_rfl) (by kernel_rfl) (by kernel_rfl) (fun _ _ _ h => h) (Or.inl ⟨by kernel_rfl, by intro w hSw; (try dsimp only at hSw); go_simp⟩) hHeld ?_
              simp only [List.set_cons_zero, List.set_cons_succ]
              refine wpAnyH_done (by kernel_rfl) ?_ _
              have HL6 := mkHid (HL5.out.late HB6.out)
              have HM6 := mkHid (HM5.out.1.below HB6.out)
              obtain ⟨wu, hput, hMu, hKu⟩ := HM6.out.put (i5 : Int) nw
              have HL7 := mkHid (HL6.out.off hKu HM5.out.2.2 HM5.out.2.1)
              have HM7 := mkHid hMu
              clear hMu hKu
              go_wp2
              go_roundw
              case rel => exact ⟨i + 1, jv5, _, _, by go_num, by omega, by omega, HL7, mkHid ⟨HM7.out, HM5.out.2⟩, mkHid (by rw [HS2.out]; exact HLM.out.put HX.out HN0.out)⟩
              case measure => simp [intOf]; omega
        · have hk2 : (kd == 1) = false := by simpa using hk1
          go_wp2
          go_roundw
          case rel => exact ⟨i + 1, jv, s, m, by go_num, by omega, by omega, mkHid (HL.out.alloc _), mkHid ⟨HM.out.1.below (ba (Below.refl _ _) _), HM.out.2⟩, HLM⟩
          case measure => simp [intOf]; omega
      · have hlj : (1500 : Int) < i := by omega
        go_wp2
        go_ret
        exact ⟨rfl, (HL.out.alloc _).bel⟩
    · obtain rfl : i = os.length := by omega
      go_wp2
      go_ret
      exact ⟨rfl, HL.out.bel⟩
end Go.Proofs.YthncfkeoephipaaDoor
