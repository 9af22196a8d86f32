/- What the law GuestRuns keeps of a guest: the jobs of each task, with all their ticks, and how long the first of them has run. -/
import Derived.Test.YthncfkeoephipaaDoorGsMath
namespace Go.Proofs.YthncfkeoephipaaDoor

/-- A job as it was released. -/
def tot (j : Jb) : Jb := ⟨j.tk, j.rl, j.dl, j.lf + j.dn, 0⟩
def ofT (js : List Jb) (k : Nat) : List Jb := js.filter (fun j => decide (j.tk = k))
def wantOf (js : List Jb) (k : Nat) : List Jb := (ofT js k).map tot
def ranOf (js : List Jb) (k : Nat) : Int := ((ofT js k)[0]?.map (·.dn)).getD 0
theorem ofT_snoc_same (js : List Jb) (j : Jb) : ofT (js ++ [j]) j.tk = ofT js j.tk ++ [j] := by simp [ofT, List.filter_append]
theorem ofT_snoc_other (js : List Jb) (j : Jb) {k : Nat} (h : ¬ j.tk = k) : ofT (js ++ [j]) k = ofT js k := by simp [ofT, List.filter_append, h]
theorem tot_new (t : Tk) (k : Nat) (now ticks : Int) : tot (newJ t k now ticks) = newJ t k now ticks := by simp [tot, newJ]
/-- A release puts a job behind those of its task. -/
theorem want_put {s : Gt} {i : Nat} {x : Tq} {now ticks : Int} : wantOf (s.put i x now ticks).js i = wantOf s.js i ++ [newJ x.1 i now ticks] ∧ (∀ k, ¬ k = i → wantOf (s.put i x now ticks).js k = wantOf s.js k) ∧ ∀ k, ranOf (s.put i x now ticks).js k = ranOf s.js k := by
  have e : (s.put i x now ticks).js = s.js ++ [newJ x.1 i now ticks] := rfl
  have ht : (newJ x.1 i now ticks).tk = i := rfl
  refine ⟨?_, fun k hk => ?_, fun k => ?_⟩
  · have h := ofT_snoc_same s.js (newJ x.1 i now ticks)
    rw [ht] at h
    rw [e, wantOf, h, List.map_append]
    simp [tot_new, wantOf]
  · rw [e, wantOf, ofT_snoc_other _ _ (by rw [ht]; exact fun q => hk q.symm)]
    rfl
  · by_cases hk : k = i
    · subst hk
      unfold ranOf
      have h := ofT_snoc_same s.js (newJ x.1 k now ticks)
      rw [ht] at h
      rw [e, h]
      cases ofT s.js k with
      | nil => simp [newJ]
      | cons a r => simp
    · unfold ranOf
      rw [e, ofT_snoc_other _ _ (by rw [ht]; exact fun q => hk q.symm)]
/-- A list parted at a place. -/
theorem split_at {α : Type} {l : List α} {i : Nat} {x : α} (h : l[i]? = some x) : l = l.take i ++ x :: l.drop (i + 1) := by
  have hi := (List.getElem?_eq_some_iff.mp h)
  rw [← hi.2, List.getElem_cons_drop, List.take_append_drop]
/-- The next job is the first of its task. -/
theorem Gt.Ok.head {p : Int} {s : Gt} (h : s.Ok p) {j : Jb} (hj : s.js[nx p s.ts s.js]? = some j) : ∃ r, ofT s.js j.tk = j :: r ∧ r = ofT (s.js.drop (nx p s.ts s.js + 1)) j.tk ∧ ofT (s.js.take (nx p s.ts s.js)) j.tk = [] := by
  have hf := h.first hj
  have e1 : ofT (s.js.take (nx p s.ts s.js)) j.tk = [] := by
    unfold ofT
    rw [List.filter_eq_nil_iff]
    intro a ha
    obtain ⟨m, hm, rfl⟩ := List.getElem_of_mem ha
    rw [List.length_take] at hm
    have := hf m (s.js.take (nx p s.ts s.js))[m] (by omega) (by rw [List.getElem_take]; exact List.getElem?_eq_getElem (by omega))
    simpa using this
  refine ⟨_, ?_, rfl, e1⟩
  conv => lhs; rw [split_at hj]
  unfold ofT at *
  rw [List.filter_append, e1]
  simp
theorem runL_split {js : List Jb} {i : Nat} {j : Jb} (h : js[i]? = some j) : runL i j js = js.take i ++ (if j.lf = 1 then [] else [j.ran]) ++ js.drop (i + 1) := by
  have hi := (List.getElem?_eq_some_iff.mp h).1
  unfold runL
  split
  · rw [List.append_nil, List.eraseIdx_eq_take_drop_succ]
  · rw [List.set_eq_take_append_cons_drop, if_pos hi]
    simp
theorem tot_ran (j : Jb) : tot j.ran = tot j := by simp only [tot, Jb.ran, Jb.mk.injEq, true_and, and_true]; omega
/-- What a run leaves of the jobs of each task. -/
theorem want_run {p : Int} {s : Gt} (h : s.Ok p) {j : Jb} (hj : s.js[nx p s.ts s.js]? = some j) : ∃ r, wantOf s.js j.tk = tot j :: r ∧ ranOf s.js j.tk = j.dn ∧ (∀ k, ¬ k = j.tk → wantOf (runL (nx p s.ts s.js) j s.js) k = wantOf s.js k ∧ ranOf (runL (nx p s.ts s.js) j s.js) k = ranOf s.js k) ∧
    (j.lf = 1 → wantOf (runL (nx p s.ts s.js) j s.js) j.tk = r ∧ ranOf (runL (nx p s.ts s.js) j s.js) j.tk = 0) ∧ (¬ j.lf = 1 → wantOf (runL (nx p s.ts s.js) j s.js) j.tk = tot j :: r ∧ ranOf (runL (nx p s.ts s.js) j s.js) j.tk = j.dn + 1) := by
  obtain ⟨r, e1, er, e2⟩ := h.head hj
  have hs := runL_split hj
  have hT : ∀ k, ofT (runL (nx p s.ts s.js) j s.js) k = ofT (s.js.take (nx p s.ts s.js)) k ++ ofT (if j.lf = 1 then [] else [j.ran]) k ++ ofT (s.js.drop (nx p s.ts s.js + 1)) k := by
    intro k
    rw [hs]
    simp [ofT, List.filter_append]
  have hjT : ∀ k, ofT s.js k = ofT (s.js.take (nx p s.ts s.js)) k ++ ofT [j] k ++ ofT (s.js.drop (nx p s.ts s.js + 1)) k := by
    intro k
    conv => lhs; rw [split_at hj]
    simp [ofT, List.filter_append, List.filter_cons]
    split <;> simp
  have hrd : ∀ a ∈ r, a.dn = 0 := by
    intro a ha
    rw [er] at ha
    unfold ofT at ha
    obtain ⟨ha1, ha2⟩ := List.mem_filter.mp ha
    obtain ⟨m, hm, rfl⟩ := List.getElem_of_mem ha1
    rw [List.length_drop] at hm
    obtain ⟨x, hx, _⟩ := h.j _ _ hj
    have hm2 : s.js[nx p s.ts s.js + 1 + m]? = some (s.js.drop (nx p s.ts s.js + 1))[m] := by
      rw [List.getElem_drop]; exact List.getElem?_eq_getElem (by omega)
    exact (h.o _ _ j _ x (by omega) hj hm2 (by have := ha2; simp at this; simp [this]) hx).2
  have hr0 : ranOf (runL (nx p s.ts s.js) j s.js) j.tk = if j.lf = 1 then 0 else j.dn + 1 := by
    unfold ranOf
    rw [hT, e2, ← er]
    by_cases hl : j.lf = 1
    · simp only [if_pos hl]
      cases r with
      | nil => simp [ofT]
      | cons a t => simp [ofT]; exact hrd a (by simp)
    · simp only [if_neg hl]
      simp [ofT, Jb.ran]
  refine ⟨r.map tot, by rw [wantOf, e1]; rfl, by simp [ranOf, e1], fun k hk => ?_, fun hl => ⟨?_, by rw [hr0, if_pos hl]⟩, fun hl => ⟨?_, by rw [hr0, if_neg hl]⟩⟩
  · have hz : ofT (if j.lf = 1 then [] else [j.ran]) k = [] ∧ ofT [j] k = [] := by
      constructor
      · split
        · rfl
        · simp [ofT, Jb.ran]; exact fun q => hk q.symm
      · simp [ofT]; exact fun q => hk q.symm
    have he : ofT (runL (nx p s.ts s.js) j s.js) k = ofT s.js k := by rw [hT, hjT, hz.1, hz.2]
    exact ⟨by rw [wantOf, he]; rfl, by rw [ranOf, he]; rfl⟩
  · rw [wantOf, hT, e2, if_pos hl, ← er]
    simp [ofT]
  · rw [wantOf, hT, e2, if_neg hl, ← er]
    simp [ofT, Jb.ran, tot]
    omega
end Go.Proofs.YthncfkeoephipaaDoor
