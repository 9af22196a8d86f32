/- The ledger of bytes: Read. -/
import Derived.Test.YtjocjkfllicjdaaDoorOwrite
namespace Go.Proofs.YtjocjkfllicjdaaDoor
open Go.ChangeShapes Go.WideShapes Go.ChangeAt Go.RowKit
set_option maxRecDepth 100000
attribute [local go_sem] World.cell?_alloc_some frozen_alloc_some

theorem chunk_free {e f : En} (he : inF e) (hf : inF f) {r s : List Int} (h : chunk e ++ r = chunk f ++ s) : e = f ∧ r = s := by
  unfold chunk at h
  rw [List.append_assoc, List.append_assoc] at h
  obtain ⟨h1, h2⟩ := enc_free _ _ _ _ h
  obtain ⟨h3, h4⟩ := List.append_inj h2 h1
  exact ⟨bytesE_inj he hf h3, h4⟩
/-- What was read is the beginning. -/
theorem chunks_pre : ∀ (es fs : List En) (rest : List Int), (∀ e ∈ es, inF e) → (∀ e ∈ fs, inF e) → es.length ≤ fs.length → es.flatMap chunk ++ rest = fs.flatMap chunk → rest = (fs.drop es.length).flatMap chunk ∧ es = fs.take es.length
  | [], fs, rest, _, _, _, h => by simpa using h
  | e :: es, [], rest, _, _, hl, _ => by simp at hl
  | e :: es, f :: fs, rest, he, hf, hl, h => by
    rw [List.flatMap_cons, List.flatMap_cons, List.append_assoc] at h
    obtain ⟨rfl, h2⟩ := chunk_free (he e (by simp)) (hf f (by simp)) h
    obtain ⟨h3, h4⟩ := chunks_pre es fs rest (fun x hx => he x (by simp [hx])) (fun x hx => hf x (by simp [hx])) (by simpa using hl) h2
    exact ⟨by simpa using h3, by simp [← h4]⟩
/-- No ledger has these bytes. -/
def NoL (bs : List Int) : Prop := ∀ l : List En, l.length ≤ 64 → (∀ e ∈ l, inF e) → bs ≠ bytesL l
/-- A round of Read: what was read. -/
structure RL (bs : List Int) (N i : Nat) (es : List En) : Prop where
  n64 : N ≤ 64
  all : ∀ e ∈ es, inF e
  eq : bs = enc N ++ es.flatMap chunk ++ bs.drop i
theorem RL.rest {bs : List Int} {N i : Nat} {es l : List En} (h : RL bs N i es) (hl : ∀ e ∈ l, inF e) (hj : es.length ≤ N) (e : bs = bytesL l) : l.length = N ∧ bs.drop i = (l.drop es.length).flatMap chunk ∧ es = l.take es.length := by
  have h1 : enc l.length ++ l.flatMap chunk = enc N ++ (es.flatMap chunk ++ bs.drop i) := by
    rw [← bytesL_eq, ← e, ← List.append_assoc]
    exact h.eq
  obtain ⟨h2, h3⟩ := enc_free _ _ _ _ h1
  have h4 := chunks_pre es l _ h.all hl (by omega) h3.symm
  exact ⟨h2, h4.1, h4.2⟩
theorem RL.no_piece {bs : List Int} {N i : Nat} {es : List En} (h : RL bs N i es) (hi : i ≤ bs.length) (hj : es.length < N) (hp : PieceNo bs i ((bs.length : Int) - i)) : NoL bs := by
  intro l hl hall e
  obtain ⟨h1, h2, _⟩ := h.rest hall (by omega) e
  have hlt : es.length < l.length := by omega
  rw [List.drop_eq_getElem_cons hlt, List.flatMap_cons, chunk, List.append_assoc] at h2
  refine hp _ _ ⟨h2, ?_, by rw [List.length_append]; omega⟩
  have := congrArg List.length h2
  simp only [List.length_drop, List.length_append] at this
  omega
theorem RL.no_get {bs : List Int} {N i M : Nat} {es : List En} {r : List Int} (h : RL bs N i es) (hj : es.length < N) (hp : bs.drop i = enc M ++ r) (hg : ∀ e, inF e → r.take M ≠ bytesE e) : NoL bs := by
  intro l hl hall e
  obtain ⟨h1, h2, _⟩ := h.rest hall (by omega) e
  have hlt : es.length < l.length := by omega
  rw [List.drop_eq_getElem_cons hlt, List.flatMap_cons, chunk, List.append_assoc, hp] at h2
  obtain ⟨rfl, rfl⟩ := enc_free _ _ _ _ h2
  exact hg _ (hall _ (List.getElem_mem hlt)) (by simp)
theorem RL.no_end {bs : List Int} {N i : Nat} {es : List En} (h : RL bs N i es) (hi : i < bs.length) (hj : es.length = N) : NoL bs := by
  intro l hl hall e
  obtain ⟨h1, h2, _⟩ := h.rest hall (by omega) e
  have h3 : l.drop es.length = [] := List.drop_of_length_le (by omega)
  rw [h3] at h2
  have := congrArg List.length h2
  simp only [List.length_drop, List.flatMap_nil, List.length_nil] at this
  omega
theorem RL.push {bs : List Int} {N i M : Nat} {es : List En} {r : List Int} {e : En} (h : RL bs N i es) (hp : bs.drop i = enc M ++ r) (hm : M ≤ r.length) (he : inF e) (hb : r.take M = bytesE e) : RL bs N (i + (enc M).length + M) (es ++ [e]) := by
  have hM : (bytesE e).length = M := by rw [← hb, List.length_take]; omega
  refine ⟨h.n64, fun x hx => ?_, ?_⟩
  · rcases List.mem_append.mp hx with m | m
    · exact h.all x m
    · simp at m; subst m; exact he
  · have h1 := h.eq
    have h2 : bs.drop i = chunk e ++ bs.drop (i + (enc M).length + M) := by
      rw [← List.drop_drop, ← List.drop_drop, hp, List.drop_left, chunk, hM, ← hb, List.append_assoc, List.take_append_drop]
    rw [h2] at h1
    rw [List.flatMap_append]
    simpa using h1
theorem RL.done {bs : List Int} {N i : Nat} {es : List En} (h : RL bs N i es) (hi : i = bs.length) (hj : es.length = N) : bs = bytesL es := by
  have := h.eq
  rw [List.drop_of_length_le (by omega), List.append_nil] at this
  rw [bytesL_eq, hj]
  exact this
/-- What Read answers. -/
def ReadPost (w : World) (bs : List Int) (ea : Addr) (r : Ending) (w' : World) : Prop :=
  Below w.heap.size w w' ∧ ((∃ v qs, (∀ t ∈ qs, inF t.1) ∧ qs.length ≤ 64 ∧ bs = bytesL (fs1 qs) ∧ r = .returned (.tuple #[v, .nilIface]) ∧ Led w.heap.size w' v qs) ∨ (NoL bs ∧ r = .returned (.tuple #[.slice none 0 0, vErr ea])))
theorem Led.up {b c : Nat} {w : World} {v : Value} {ps : List Ep} (h : Led c w v ps) (hb : b ≤ c) : Led b w v ps :=
  ⟨⟨h.own.1, h.own.2.imp id fun ⟨g, cap, cur, e1, hg, rest⟩ => ⟨g, cap, cur, e1, Nat.le_trans hb hg, rest⟩⟩, fun t ht => own_up4 (h.tk t ht) hb, h.ne⟩
end Go.Proofs.YtjocjkfllicjdaaDoor
