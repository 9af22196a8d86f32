/- Counts of servers in a map. -/
import Derived.Test.YtgmkhhaieolndaaDoorPlErr
import Derived.Test.YtgmkhhaieolndaaDoorSrc
import Derived.DeepKeys3
import Derived.Laws.StructEq
import Derived.MapKept
import Derived.ChangeMaps5
namespace Go.Proofs.YtgmkhhaieolndaaDoor
open Go.ChangeMaps Go.ChangeShapes Go.WideShapes Go.ChangeAt Go.RowKit

/-- How often, one by one. -/
def getc : List (Sv × Nat) → Sv → Nat
  | [], _ => 0
  | x :: r, s => if s = x.1 then x.2 else getc r s
def bump : List (Sv × Nat) → Sv → List (Sv × Nat)
  | [], s => [(s, 1)]
  | x :: r, s => if s = x.1 then (x.1, x.2 + 1) :: r else x :: bump r s
def sumc : List (Sv × Nat) → Nat
  | [] => 0
  | x :: r => x.2 + sumc r
theorem getc_bump (L : List (Sv × Nat)) (s u : Sv) : getc (bump L s) u = if u = s then getc L u + 1 else getc L u := by
  induction L with
  | nil => simp [bump, getc]
  | cons x r ih =>
    unfold bump
    by_cases h : s = x.1
    · rw [if_pos h]
      simp only [getc]
      by_cases h2 : u = x.1
      · rw [if_pos h2, if_pos h2, if_pos (h2.trans h.symm)]
      · rw [if_neg h2, if_neg h2, if_neg (fun e => h2 (e.trans h))]
    · rw [if_neg h]
      simp only [getc]
      by_cases h2 : u = x.1
      · rw [if_pos h2, if_pos h2, if_neg (fun e => h (e.symm.trans h2))]
      · rw [if_neg h2, if_neg h2]
        exact ih
theorem sumc_bump (L : List (Sv × Nat)) (s : Sv) : sumc (bump L s) = sumc L + 1 := by
  induction L with
  | nil => rfl
  | cons x r ih =>
    unfold bump
    split
    · simp only [sumc]; omega
    · simp only [sumc]; omega
theorem getc_le (L : List (Sv × Nat)) (s : Sv) : getc L s ≤ sumc L := by
  induction L with
  | nil => exact Nat.le_refl _
  | cons x r ih => simp only [getc, sumc]; split <;> omega
def cnts (xs : List Sv) : List (Sv × Nat) := xs.foldl bump []
theorem cnts_snoc (xs : List Sv) (x : Sv) : cnts (xs ++ [x]) = bump (cnts xs) x := by simp [cnts, List.foldl_append]
theorem cnts_ind {M : List Sv → Prop} (h0 : M []) (h1 : ∀ l x, M l → M (l ++ [x])) (l : List Sv) : M l := snoc_ind h0 h1 l
theorem sumc_cnts (xs : List Sv) : sumc (cnts xs) = xs.length := by
  refine cnts_ind (M := fun l => sumc (cnts l) = l.length) rfl (fun l x ih => ?_) xs
  rw [cnts_snoc, sumc_bump, ih]
  simp
theorem getc_cnts (xs : List Sv) (s : Sv) : getc (cnts xs) s = xs.count s := by
  refine cnts_ind (M := fun l => getc (cnts l) s = l.count s) rfl (fun l x ih => ?_) xs
  rw [cnts_snoc, getc_bump, ih, List.count_append]
  by_cases h : s = x
  · subst h; simp
  · rw [if_neg h]
    have : List.count s [x] = 0 := List.count_eq_zero.mpr (by simpa using h)
    omega
/-- The map's entries. -/
def ents : Nat → List (Sv × Nat) → List MapEntry
  | _, [] => []
  | i, x :: r => ⟨vS x.1, .int .i64 (x.2 : Int), i⟩ :: ents (i + 1) r
theorem ents_len (L : List (Sv × Nat)) : ∀ i, (ents i L).length = L.length := by
  induction L with
  | nil => intro i; rfl
  | cons x r ih => intro i; simp [ents, ih]
theorem ents_snoc (L : List (Sv × Nat)) (x : Sv × Nat) : ∀ i, ents i (L ++ [x]) = ents i L ++ [⟨vS x.1, .int .i64 (x.2 : Int), i + L.length⟩] := by
  induction L with
  | nil => intro i; simp [ents]
  | cons y r ih => intro i; simp only [List.cons_append, ents, ih, List.length_cons]; simp; omega
theorem beqS (s t : Sv) : decide (s = t) = ((s.1 == t.1) && ((s.2.1 == t.2.1) && (s.2.2 == t.2.2))) := by
  obtain ⟨a, b, c⟩ := s; obtain ⟨d, e, f⟩ := t
  rw [Bool.eq_iff_iff]; simp
theorem eqS (w : World) (s t : Sv) : (Op.equal 23 (vS s) (vS t)).run Tryd.prog w = .ok (decide (s = t)) w := by
  rw [beqS]
  obtain ⟨a, b, c⟩ := s; obtain ⟨d, e, f⟩ := t
  by_cases h1 : a = d <;> by_cases h2 : b = e <;> by_cases h3 : c = f <;> simp [Op.equal, Op.maxDepth, go_sem, h1, h2, h3]
def I3 (s : Sv) : Prop := I64 s.1 ∧ I64 s.2.1 ∧ I64 s.2.2
theorem wf_of_i64 {x : Int} (h : I64 x) : (Lit.int .i64 x).wf = true := by
  have := h.lo; have := h.hi
  simp [Lit.wf, IntKind.min, IntKind.max, IntKind.signed, IntKind.bits]
  omega
theorem cells_server : Tryd.prog.cellsOf 23 = 3 := by kernel_rfl
theorem cells_int : Tryd.prog.cellsOf 3 = 1 := by kernel_rfl
theorem checkS (w : World) (c : Bool) (s : Sv) (h : I3 s) : (Instr.checkKey c 10000 23 (vS s)).run Tryd.prog w = .ok () w := by
  obtain ⟨a, b, d⟩ := s
  obtain ⟨h1, h2, h3⟩ := h
  refine run_checkKey_deep c 9998 2 23 (by kernel_rfl) w 3 (vS (a, b, d)) [.int .i64 a, .int .i64 b, .int .i64 d] (by kernel_rfl) ?_
  have e1 := wf_of_i64 h1
  have e2 := wf_of_i64 h2
  have e3 := wf_of_i64 h3
  simp only at e1 e2 e3
  simp [Program.keyLits, Tryd.underlying23, Tryd.underlying3, cells_server, cells_int, Value.cells, e1, e2, e3]
/-- Where a server stands. -/
def pos : List (Sv × Nat) → Sv → Option Nat
  | [], _ => none
  | x :: r, s => if s = x.1 then some 0 else (pos r s).map (· + 1)
theorem findA (s : Sv) (w : World) (L : List (Sv × Nat)) : ∀ i, (Instr.findAsking 23 (vS s) (ents i L) i).run Tryd.prog w = .ok ((pos L s).map fun j => (i + j, .int .i64 (getc L s : Int))) w := by
  induction L with
  | nil => intro i; simp [ents, Instr.findAsking, pos]
  | cons x r ih =>
    intro i
    simp only [ents, Instr.findAsking, Sem.run_bind, eqS, Result.andThen_ok]
    by_cases h : s = x.1
    · simp [h, pos, getc]
    · simp only [h, decide_false, Bool.false_eq_true, if_false, pos, getc, ih]
      cases pos r s with
      | none => simp
      | some j => simp; omega
theorem findK (s : Sv) (w : World) (L : List (Sv × Nat)) : (Instr.findKey 23 (vS s) (ents 0 L)).run Tryd.prog w = .ok ((pos L s).map fun j => (j, .int .i64 (getc L s : Int))) w := by
  cases L with
  | nil => simp [Instr.findKey, ents, Instr.findNow, run_underlying Tryd.underlying23, pos]
  | cons x r =>
    have := findA s w (x :: r) 0
    simp only [Nat.zero_add] at this
    simp [Instr.findKey, ents, Instr.findNow, Instr.sameNow, run_underlying Tryd.underlying23]
    simpa [ents] using this
/-- The counts L lie in the map of block b. -/
def Mc (w : World) (b : Nat) (L : List (Sv × Nat)) : Prop := ∃ es, w.heap[b]? = some (.map es L.length) ∧ es.toList = ents 0 L
theorem pos_none {L : List (Sv × Nat)} {s : Sv} (h : pos L s = none) : getc L s = 0 ∧ bump L s = L ++ [(s, 1)] ∧ ∀ c, getc (L ++ [(s, c)]) s = c := by
  induction L with
  | nil => exact ⟨rfl, rfl, fun c => by simp [getc]⟩
  | cons x r ih =>
    simp only [pos] at h
    split at h
    · simp at h
    · rename_i hn
      obtain ⟨h1, h2, h3⟩ := ih (by simpa using h)
      refine ⟨by simp only [getc, if_neg hn]; exact h1, by simp only [bump, if_neg hn, h2, List.cons_append], fun c => by simp only [List.cons_append, getc, if_neg hn]; exact h3 c⟩
theorem pos_some {L : List (Sv × Nat)} {s : Sv} : ∀ {j : Nat}, pos L s = some j → j < L.length ∧ L[j]? = some (s, getc L s) ∧ bump L s = L.modify j (fun x => (x.1, getc L s + 1)) := by
  induction L with
  | nil => intro j h; simp [pos] at h
  | cons x r ih =>
    intro j h
    simp only [pos] at h
    split at h
    · rename_i hs
      simp at h
      subst h
      subst hs
      refine ⟨by simp, by simp [getc], by simp [bump, getc]⟩
    · rename_i hn
      cases hp : pos r s with
      | none => rw [hp] at h; simp at h
      | some k =>
        rw [hp] at h
        simp at h
        subst h
        obtain ⟨h1, h2, h3⟩ := ih hp
        refine ⟨by simp; omega, by simp only [getc, if_neg hn]; simpa using h2, by simp only [bump, getc, if_neg hn, h3]; simp⟩
theorem modify_last {α : Type} (L : List α) (x : α) (f : α → α) : (L ++ [x]).modify L.length f = L ++ [f x] := by
  induction L with
  | nil => simp
  | cons y r ih => simp [ih]
theorem Mc.get {w : World} {b : Nat} {L : List (Sv × Nat)} (h : Mc w b L) (s : Sv) (hs : I3 s) : (Instr.lookup 49 (.map (some b)) (vS s) false).run Tryd.prog w = .ok (.int .i64 (getc L s : Int)) w := by
  obtain ⟨es, hb, he⟩ := h
  cases hp : pos L s with
  | none => simp [Instr.lookup, run_underlying Tryd.underlying49, MapKept.run_getObj_map hb, checkS w _ s hs, he, findK, hp, (pos_none hp).1, go_sem]
  | some j => simp [Instr.lookup, run_underlying Tryd.underlying49, MapKept.run_getObj_map hb, checkS w _ s hs, he, findK, hp]
theorem ents_modify (f : Value) (c : Nat) (hf : f = .int .i64 (c : Int)) (L : List (Sv × Nat)) : ∀ i j, (ents i L).modify j (fun e => { e with val := f }) = ents i (L.modify j (fun x => (x.1, c))) := by
  subst hf
  induction L with
  | nil => intro i j; simp [ents]
  | cons x r ih =>
    intro i j
    cases j with
    | zero => simp [ents]
    | succ j => simp [ents, ih]
theorem ents_find (L : List (Sv × Nat)) : ∀ i j, j < L.length → (ents i L).findIdx? (fun e => (e.born : Int) == ((i + j : Nat) : Int)) = some j := by
  induction L with
  | nil => intro i j h; simp at h
  | cons x r ih =>
    intro i j h
    cases j with
    | zero => simp [ents, List.findIdx?_cons]
    | succ j =>
      have := ih (i + 1) j (by simpa using h)
      have e : i + 1 + j = i + (j + 1) := by omega
      rw [e] at this
      have hne : ((i : Int) == ((i + (j + 1) : Nat) : Int)) = false := by simp; omega
      simp only [ents, List.findIdx?_cons, hne, Bool.false_eq_true, if_false, this]
      rfl
theorem ents_get (L : List (Sv × Nat)) : ∀ (i j : Nat) (x : Sv × Nat), L[j]? = some x → (ents i L)[j]? = some (⟨vS x.1, .int .i64 (x.2 : Int), i + j⟩ : MapEntry) := by
  induction L with
  | nil => intro i j x h; simp at h
  | cons y r ih =>
    intro i j x h
    cases j with
    | zero => simp at h; subst h; simp [ents]
    | succ j =>
      simp at h
      have := ih (i + 1) j x h
      simp [ents, this]
      omega
theorem ents_key (L : List (Sv × Nat)) (s : Sv) : ∀ i j c, L[j]? = some (s, c) → (ents i L).modify j (fun e => { e with key := vS s }) = ents i L := by
  induction L with
  | nil => intro i j c h; simp at h
  | cons y r ih =>
    intro i j c h
    cases j with
    | zero => simp at h; subst h; simp [ents]
    | succ j =>
      simp at h
      simp [ents, ih (i + 1) j c h]
theorem Mc.store {w : World} {b : Nat} {L : List (Sv × Nat)} (h : Mc w b L) (j c : Nat) (hj : j < L.length) (ty : TypeId) : ∃ w', (Instr.entryStore ty (.map (some b)) (.int .i64 (j : Int)) (.int .i64 (c : Int))).run Tryd.prog w = .ok () w' ∧ Mc w' b (L.modify j (fun x => (x.1, c))) ∧ Kept (fun j => j = b) w w' := by
  obtain ⟨es, hb, he⟩ := h
  refine ⟨setBlock w b (.map (es.modify j (fun e => { e with val := .int .i64 (c : Int) })) L.length), ?_, ⟨_, by rw [List.length_modify]; exact heap_setBlock_same hb _, ?_⟩, ⟨rfl, rfl, rfl, by simp [setBlock], fun i _ hi => heap_setBlock_other hb _ hi⟩⟩
  · have hf := ents_find L 0 j hj
    rw [← he] at hf
    simp only [Nat.zero_add] at hf
    have hf2 : es.findIdx? (fun e => (e.born : Int) == (j : Int)) = some j := by obtain ⟨l⟩ := es; simpa using hf
    simp [Instr.entryStore, MapKept.run_getObj_map hb, asInt, asIntOf, hf2, MapKept.run_setObj_map _ hb, Result.andThen, setBlock]
  · rw [Array.toList_modify, he]
    exact ents_modify _ c rfl L 0 j
/-- The entry of a server: it is there, or it is made; and it is found again. -/
theorem Mc.entry {w : World} {b : Nat} {L : List (Sv × Nat)} (h : Mc w b L) (s : Sv) (hs : I3 s) : ∃ w1 v j L1, (Instr.mapEntry 49 (.map (some b)) (vS s)).run Tryd.prog w = .ok (.tuple #[v, .int .i64 ((j : Nat) : Int)]) w1 ∧ Mc w1 b L1 ∧ j < L1.length ∧ getc L1 s = getc L s ∧ L1.modify j (fun x => (x.1, getc L s + 1)) = bump L s ∧ Kept (fun j => j = b) w w1 := by
  obtain ⟨es, hb, he⟩ := h
  have kept : ∀ o, Kept (fun j => j = b) w (setBlock w b o) := fun o => ⟨rfl, rfl, rfl, by simp [setBlock], fun i _ hi => heap_setBlock_other hb _ hi⟩
  cases hp : pos L s with
  | none =>
    obtain ⟨h1, h2, h3⟩ := pos_none hp
    refine ⟨setBlock w b (.map (es.push ⟨vS s, .int .i64 0, L.length⟩) (L.length + 1)), .int .i64 0, L.length, L ++ [(s, 0)], ?_, ⟨_, by rw [List.length_append]; exact heap_setBlock_same hb _, ?_⟩, by simp, by rw [h3, h1], ?_, kept _⟩
    · simp [Instr.mapEntry, run_underlying Tryd.underlying49, MapKept.run_getObj_map hb, checkS w _ s hs, he, findK, hp, MapKept.run_setObj_map _ hb, Result.andThen, setBlock, go_sem, goInt]
    · rw [Array.toList_push, he, ents_snoc]
      simp
    · rw [h1, h2]
      exact modify_last L _ _
  | some j =>
    obtain ⟨h1, h2, h3⟩ := pos_some hp
    have hg := ents_get L 0 j _ h2
    have hg' : es[j]? = some ⟨vS s, .int .i64 (getc L s : Int), j⟩ := by rw [← he] at hg; simpa using hg
    refine ⟨setBlock w b (.map (es.modify j (fun e => { e with key := vS s })) L.length), .int .i64 (getc L s : Int), j, L, ?_, ⟨_, heap_setBlock_same hb _, ?_⟩, h1, rfl, h3.symm, kept _⟩
    · simp [Instr.mapEntry, run_underlying Tryd.underlying49, MapKept.run_getObj_map hb, checkS w _ s hs, he, findK, hp, hg', Instr.keyThatStays, Instr.sameBits, MapKept.run_setObj_map _ hb, Result.andThen, setBlock, goInt]
    · rw [Array.toList_modify, he]
      exact ents_key L s 0 j _ h2
end Go.Proofs.YtgmkhhaieolndaaDoor
