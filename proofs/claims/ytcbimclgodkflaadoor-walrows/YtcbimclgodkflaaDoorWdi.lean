/- A disk with a log on it: what stays so behind every call and crash. -/
import Derived.Test.YtcbimclgodkflaaDoorWmath2
namespace Go.Proofs.YtcbimclgodkflaaDoor
open Go.ChangeShapes Go.WideShapes Go.ChangeAt Go.RowKit
set_option maxRecDepth 100000

/-- A disk of n sectors, its areas of s each: the heads of all sectors, the claimed epoch's cell, and the first record of the area from fr on. -/
structure DI (n s E G I fr nx : Nat) (f : Int → List Int) (c : List (Int × List Int)) : Prop where
  two : 2 * s + 2 = n
  one : 1 ≤ s
  hd : ∀ i, Sec (f i)
  sc : ∀ x ∈ c, Sec x.2
  head : ∀ i : Int, 0 ≤ i → i < 2 * (s : Int) → HeadOk E G I (f i)
  hc : ∀ x ∈ c, 0 ≤ x.1 ∧ x.1 < 2 * (s : Int) ∧ HeadOk E G I x.2
  eb : E ≤ 1099511627776
  cell : f (((n - 2 + E % 2 : Nat) : Int)) = cellS E
  cel2 : cellN (f (((n - 2 + (E + 1) % 2 : Nat) : Int))) ≤ E
  frs : fr = 0 ∨ fr = s
  st : ∃ r m, stand f (fr : Int) s = some (r, m) ∧ goesOn [] r = true ∧ fr + m ≤ nx ∧ ∀ x ∈ c, ¬ ((fr : Int) ≤ x.1 ∧ x.1 < (fr : Int) + (m : Int))
  nxl : nx ≤ fr + s
theorem seen_mem (f : Int → List Int) (c : List (Int × List Int)) (i : Int) : seenOf f c i = f i ∨ ∃ x ∈ c, x.1 = i ∧ seenOf f c i = x.2 := by
  unfold seenOf
  cases h : c.reverse.find? (fun x => x.1 == i) with
  | none => exact .inl rfl
  | some x => exact .inr ⟨x, by simpa using List.mem_of_find?_eq_some h, by simpa using List.find?_some h, rfl⟩
theorem seen_other (f : Int → List Int) (c : List (Int × List Int)) (i : Int) (h : ∀ x ∈ c, x.1 ≠ i) : seenOf f c i = f i := by
  rcases seen_mem f c i with a | ⟨x, hx, e, _⟩
  · exact a
  · exact absurd e (h x hx)
theorem snoc_ind {α : Type} {M : List α → Prop} (h0 : M []) (h1 : ∀ l x, M l → M (l ++ [x])) (l : List α) : M l := by
  have : ∀ r : List α, M r.reverse := by
    intro r
    induction r with
    | nil => simpa using h0
    | cons a r ih => rw [List.reverse_cons]; exact h1 _ _ ih
  simpa using this l.reverse
theorem flushed_snoc1 (f : Int → List Int) (c : List (Int × List Int)) (x : Int × List Int) : flushed f (c ++ [x]) = lay1 (flushed f c) x := by simp [flushed]
theorem flushed_is (f : Int → List Int) (hf : ∀ k, Sec (f k)) (c : List (Int × List Int)) (hc : ∀ x ∈ c, Sec x.2) : (∀ i, Sec (flushed f c i)) ∧ ∀ i, flushed f c i = seenOf f c i := by
  revert hc
  refine snoc_ind (M := fun c => (∀ x ∈ c, Sec x.2) → (∀ i, Sec (flushed f c i)) ∧ ∀ i, flushed f c i = seenOf f c i) ?_ ?_ c
  · intro _; exact ⟨hf, fun _ => rfl⟩
  · intro c x ih hc
    obtain ⟨h1, h2⟩ := ih (fun y hy => hc y (by simp [hy]))
    have hx := hc x (by simp)
    rw [flushed_snoc1]
    have e : ∀ i, lay1 (flushed f c) x i = if i = x.1 then x.2 else flushed f c i := fun i => by
      unfold lay1 updI
      split
      · unfold laid; rw [hx.len, List.drop_eq_nil_of_le (by rw [(h1 _).len]; exact Nat.le_refl _), List.append_nil]
      · rfl
    refine ⟨fun i => ?_, fun i => ?_⟩
    · rw [e]; split
      · exact hx
      · exact h1 i
    · rw [e]
      unfold seenOf
      rw [List.reverse_append, List.reverse_singleton, List.singleton_append, List.find?_cons]
      by_cases hi : i = x.1
      · subst hi; simp
      · have : (x.1 == i) = false := by simpa using Ne.symm hi
        rw [if_neg hi, this]
        have := h2 i
        unfold seenOf at this
        exact this
theorem DI.seen {n s E G I fr nx : Nat} {f : Int → List Int} {c : List (Int × List Int)} (h : DI n s E G I fr nx f c) : (∀ i, Sec (seenOf f c i)) ∧ (∀ i : Int, 0 ≤ i → i < 2 * (s : Int) → HeadOk E G I (seenOf f c i)) ∧ (∀ i : Int, 2 * (s : Int) ≤ i → seenOf f c i = f i) := by
  refine ⟨fun i => ?_, fun i h0 h1 => ?_, fun i hi => seen_other _ _ _ (fun x hx e => ?_)⟩
  · rcases seen_mem f c i with a | ⟨x, hx, _, e⟩
    · rw [a]; exact h.hd i
    · rw [e]; exact h.sc x hx
  · rcases seen_mem f c i with a | ⟨x, hx, _, e⟩
    · rw [a]; exact h.head i h0 h1
    · rw [e]; exact (h.hc x hx).2.2
  · have := h.hc x hx; omega
theorem DI.stands {n s E G I fr nx : Nat} {f : Int → List Int} {c : List (Int × List Int)} (h : DI n s E G I fr nx f c) : ∃ r m, stand (seenOf f c) (fr : Int) s = some (r, m) ∧ goesOn [] r = true := by
  obtain ⟨r, m, h1, h2, _, h4⟩ := h.st
  refine ⟨r, m, stand_same (fun i => (h.hd i).len) h1 (fun i hi => seen_other _ _ _ (fun x hx e => h4 x hx (by omega))), h2⟩
/-- The newest area of such a disk has a record, its records' numbers are within their bounds, and its epoch is the claimed one. -/
theorem DI.newest {n s E G I fr nx : Nat} {f : Int → List Int} {c : List (Int × List Int)} (h : DI n s E G I fr nx f c) : (newA (seenOf f c) s).2.1 ≠ [] ∧ (∀ r ∈ (newA (seenOf f c) s).2.1, r.epoch ≤ E ∧ r.gen ≤ G ∧ r.index ≤ I) ∧ topEp (seenOf f c) n (newA (seenOf f c) s).2.1 = E := by
  obtain ⟨hs, hh, hcl⟩ := h.seen
  obtain ⟨r, m, h1, h2⟩ := h.stands
  have hlen := fun i => (hs i).len
  have hA : ∀ (p : Int), 0 ≤ p → p + (s : Int) ≤ 2 * (s : Int) → ∀ r ∈ (areaGo (seenOf f c) (s + 1) [] p s).1, r.epoch ≤ E ∧ r.gen ≤ G ∧ r.index ≤ I := fun p p0 p1 =>
    area_all (fun r => r.epoch ≤ E ∧ r.gen ≤ G ∧ r.index ≤ I) hlen 0 (2 * (s : Int)) (fun q n' m r q0 q1 hq => stand_head (hlen q) hq (hh q q0 q1)) (s + 1) [] p s p0 p1 (fun _ hr => by simp at hr)
  have hne : (newA (seenOf f c) s).2.1 ≠ [] := by
    unfold newA
    split
    · rename_i hc
      exact fun e => by rw [e] at hc; simp at hc
    · rename_i hc
      rcases h.frs with e | e
      · subst e
        have h3 := area_some (k := s) (show stand (seenOf f c) 0 s = some (r, m) from h1) h2
        intro e2
        refine hc ⟨List.length_pos_iff.mpr h3, ?_⟩
        simp only at e2
        rw [e2]; exact Nat.zero_le _
      · subst e
        exact area_some h1 h2
  have hall : ∀ r ∈ (newA (seenOf f c) s).2.1, r.epoch ≤ E ∧ r.gen ≤ G ∧ r.index ≤ I := by
    unfold newA
    split
    · exact hA 0 (by omega) (by omega)
    · exact hA s (by omega) (by omega)
  refine ⟨hne, hall, ?_⟩
  have hl : lep (newA (seenOf f c) s).2.1 ≤ E := by
    unfold lep
    rw [List.getLast?_eq_some_getLast hne]
    exact (hall _ (List.getLast_mem hne)).1
  have hn2 := h.two
  have c1 : seenOf f c (((n - 2 + E % 2 : Nat) : Int)) = cellS E := by rw [hcl _ (by omega)]; exact h.cell
  have c2 : cellN (seenOf f c (((n - 2 + (E + 1) % 2 : Nat) : Int))) ≤ E := by rw [hcl _ (by omega)]; exact h.cel2
  have c3 : cellN (cellS E) = E := cellN_cellS h.eb
  unfold topEp
  by_cases hp : E % 2 = 0
  · have a : (((n - 2 + E % 2 : Nat) : Int)) = (n : Int) - 2 := by omega
    have b : (((n - 2 + (E + 1) % 2 : Nat) : Int)) = (n : Int) - 1 := by omega
    rw [a] at c1; rw [b] at c2
    rw [c1, c3]; omega
  · have a : (((n - 2 + E % 2 : Nat) : Int)) = (n : Int) - 1 := by omega
    have b : (((n - 2 + (E + 1) % 2 : Nat) : Int)) = (n : Int) - 2 := by omega
    rw [a] at c1; rw [b] at c2
    rw [c1, c3]; omega
/-- A crash. -/
theorem DI.crash {n s E G I fr nx : Nat} {f : Int → List Int} {c : List (Int × List Int)} (h : DI n s E G I fr nx f c) (kb : Nat → Bool) (t : Int) (j : Nat) : DI n s E G I fr nx (crashedTo kb t f c j) [] := by
  have hn2 := h.two
  have hall := crashed_all (fun i x => 0 ≤ i → i < 2 * (s : Int) → HeadOk E G I x) kb t f c (fun i => ⟨h.hd i, h.head i⟩) (fun x hx => ⟨h.sc x hx, fun _ _ => (h.hc x hx).2.2, fun old _ _ _ => head_torn (h.sc x hx) (h.hc x hx).2.2⟩) j
  have ho : ∀ i : Int, 2 * (s : Int) ≤ i → crashedTo kb t f c j i = f i := fun i hi => crashed_other kb t f c i (fun x hx e => by have := h.hc x hx; omega) j
  obtain ⟨r, m, h1, h2, h3, h4⟩ := h.st
  refine ⟨h.two, h.one, fun i => (hall i).1, fun _ hx => by simp at hx, fun i h0 h1 => (hall i).2 h0 h1, fun _ hx => by simp at hx, h.eb, by rw [ho _ (by omega)]; exact h.cell, by rw [ho _ (by omega)]; exact h.cel2, h.frs, ⟨r, m, stand_same (fun i => (h.hd i).len) h1 (fun i hi => crashed_other kb t f c _ (fun x hx e => h4 x hx (by omega)) j), h2, h3, fun _ hx => by simp at hx⟩, h.nxl⟩
/-- An opening. -/
theorem DI.opens {n s E G I fr nx : Nat} {f : Int → List Int} {c : List (Int × List Int)} (h : DI n s E G I fr nx f c) (hE : E + 1 ≤ 1099511627776) (fr2 nx2 : Nat) (hfr : fr2 = (if (newA (seenOf f c) s).1 = true then s else 0)) (hnx : (newA (seenOf f c) s).2.2 = (nx2 : Int)) (hle : nx2 ≤ fr2 + s) :
    DI n s (E + 1) G I fr2 nx2 (flushed f (c ++ [(((n - 2 + (E + 1) % 2 : Nat) : Int), cellS (E + 1))])) [] := by
  have hn2 := h.two
  obtain ⟨hs, hh, hcl⟩ := h.seen
  have hsec : ∀ x ∈ c ++ [(((n - 2 + (E + 1) % 2 : Nat) : Int), cellS (E + 1))], Sec x.2 := fun x hx => by
    rcases List.mem_append.mp hx with a | a
    · exact h.sc x a
    · simp at a; subst a; exact cellS_sec hE
  obtain ⟨q1, q2⟩ := flushed_is f h.hd _ hsec
  have hat : ∀ i : Int, i ≠ (((n - 2 + (E + 1) % 2 : Nat) : Int)) → flushed f (c ++ [(((n - 2 + (E + 1) % 2 : Nat) : Int), cellS (E + 1))]) i = seenOf f c i := fun i hi => by
    rw [q2]
    unfold seenOf
    rw [List.reverse_append, List.reverse_singleton, List.singleton_append, List.find?_cons, show ((((n - 2 + (E + 1) % 2 : Nat) : Int)) == i) = false by simpa using Ne.symm hi]
  have hself : flushed f (c ++ [(((n - 2 + (E + 1) % 2 : Nat) : Int), cellS (E + 1))]) (((n - 2 + (E + 1) % 2 : Nat) : Int)) = cellS (E + 1) := by
    rw [q2]
    unfold seenOf
    rw [List.reverse_append, List.reverse_singleton, List.singleton_append, List.find?_cons]
    simp
  obtain ⟨hne, _, _⟩ := h.newest
  have hfirst : ∃ r m, stand (seenOf f c) (fr2 : Int) s = some (r, m) ∧ goesOn [] r = true ∧ fr2 + m ≤ nx2 := by
    unfold newA at hne hfr hnx
    split at hne
    · rename_i hc
      rw [if_pos hc] at hfr hnx
      simp at hfr
      subst hfr
      obtain ⟨r, m, a, b, d⟩ := area_first hne
      exact ⟨r, m, a, b, by simp only at hnx d; rw [hnx] at d; omega⟩
    · rename_i hc
      rw [if_neg hc] at hfr hnx
      simp at hfr
      subst hfr
      obtain ⟨r, m, a, b, d⟩ := area_first hne
      exact ⟨r, m, a, b, by simp only at hnx d; rw [hnx] at d; omega⟩
  obtain ⟨r, m, a1, a2, a3⟩ := hfirst
  obtain ⟨_, _, hmn⟩ := stand_fits (fun i => (hs i).len) a1
  have hf2 : fr2 = 0 ∨ fr2 = s := by rw [hfr]; split <;> simp
  refine ⟨h.two, h.one, q1, fun _ hx => by simp at hx, fun i h0 h1 => ?_, fun _ hx => by simp at hx, hE, hself, ?_, hf2, ⟨r, m, stand_same (fun i => (hs i).len) a1 (fun i hi => hat _ (by rcases hf2 with e | e <;> omega)), a2, a3, fun _ hx => by simp at hx⟩, hle⟩
  · rw [hat i (by omega)]; exact (hh i h0 h1).mono (by omega) (Nat.le_refl _) (Nat.le_refl _)
  · rw [show (E + 1 + 1) % 2 = E % 2 by omega, hat _ (by omega), hcl _ (by omega), h.cell, cellN_cellS h.eb]; omega
/-- An append. -/
theorem DI.append {n s E G I fr nx : Nat} {f : Int → List Int} {c : List (Int × List Int)} (h : DI n s E G I fr nx f c) (r : Rc) (hr : r.ok) (hd : r.data.length ≤ 32000) (hE : r.epoch ≤ E) (hG : r.gen ≤ G) (hI : r.index ≤ I + 1) (hB : ∀ j, Sec (sect (markOf j) (frm r) j)) (hfit : nx + npc (frm r).length ≤ fr + s) : DI n s E G (I + 1) fr (nx + npc (frm r).length) f (c ++ writesOf (frm r) (nx : Int) (npc (frm r).length)) := by
  obtain ⟨r0, m, h1, h2, h3, h4⟩ := h.st
  have hf2 := h.frs
  refine ⟨h.two, h.one, h.hd, fun x hx => ?_, fun i a b => (h.head i a b).mono (Nat.le_refl _) (Nat.le_refl _) (by omega), fun x hx => ?_, h.eb, h.cell, h.cel2, h.frs, ⟨r0, m, h1, h2, by omega, fun x hx => ?_⟩, by omega⟩
  · rcases List.mem_append.mp hx with a | a
    · exact h.sc x a
    · unfold writesOf at a
      obtain ⟨j, _, rfl⟩ := List.mem_map.mp a
      exact hB j
  · rcases List.mem_append.mp hx with a | a
    · exact ⟨(h.hc x a).1, (h.hc x a).2.1, (h.hc x a).2.2.mono (Nat.le_refl _) (Nat.le_refl _) (by omega)⟩
    · have hw := writes_at _ _ _ x a
      have hx2 := writes_head (E := E) (G := G) (I := I + 1) hr hd hE hG hI _ _ x a
      refine ⟨by omega, ?_, hx2⟩
      rcases hf2 with e | e <;> omega
  · rcases List.mem_append.mp hx with a | a
    · exact h4 x a
    · have hw := writes_at _ _ _ x a
      omega
theorem seen_snoc (f : Int → List Int) (c : List (Int × List Int)) (x : Int × List Int) (i : Int) : seenOf f (c ++ [x]) i = if x.1 = i then x.2 else seenOf f c i := by
  unfold seenOf
  rw [List.reverse_append, List.reverse_singleton, List.singleton_append, List.find?_cons]
  by_cases hi : x.1 = i
  · simp [hi]
  · have : (x.1 == i) = false := by simpa using hi
    rw [this, if_neg hi]
theorem seen_writes (f : Int → List Int) (c : List (Int × List Int)) (fr : List Int) (p : Int) (k : Nat) : (∀ i : Nat, i < k → seenOf f (c ++ writesOf fr p k) (p + (i : Int)) = sect (markOf i) fr i) ∧ ∀ q : Int, (q < p ∨ p + (k : Int) ≤ q) → seenOf f (c ++ writesOf fr p k) q = seenOf f c q := by
  induction k with
  | zero => exact ⟨fun i hi => by omega, fun q _ => by simp [writesOf]⟩
  | succ k ih =>
    rw [writesOf_succ, ← List.append_assoc]
    refine ⟨fun i hi => ?_, fun q hq => ?_⟩
    · rw [seen_snoc]
      by_cases e : i = k
      · subst e; simp
      · rw [if_neg (by simp only; omega)]; exact ih.1 i (by omega)
    · rw [seen_snoc, if_neg (by simp only; omega)]; exact ih.2 q (by omega)
theorem sec_writes {r : Rc} (hB : ∀ j, Sec (sect (markOf j) (frm r) j)) (p : Int) (k : Nat) : ∀ x ∈ writesOf (frm r) p k, Sec x.2 := fun x hx => by
  unfold writesOf at hx
  obtain ⟨j, _, rfl⟩ := List.mem_map.mp hx
  exact hB j
/-- A checkpoint. -/
theorem DI.begin {n s E G I fr nx : Nat} {f : Int → List Int} {c : List (Int × List Int)} (h : DI n s E G I fr nx f c) (r : Rc) (hr : r.ok) (hd : r.data.length ≤ 32000) (hE : r.epoch ≤ E) (hG : r.gen ≤ G + 1) (h1 : 1 ≤ r.gen) (hI : r.index = 0) (hB : ∀ j, Sec (sect (markOf j) (frm r) j)) (fr2 : Nat) (hf2 : fr2 = 0 ∨ fr2 = s) (hfit : npc (frm r).length ≤ s) : DI n s E (G + 1) I fr2 (fr2 + npc (frm r).length) (flushed f (c ++ writesOf (frm r) (fr2 : Int) (npc (frm r).length))) [] := by
  have hn2 := h.two
  obtain ⟨hs, hh, hcl⟩ := h.seen
  obtain ⟨q1, q2⟩ := flushed_is f h.hd (c ++ writesOf (frm r) (fr2 : Int) (npc (frm r).length)) (fun x hx => by
    rcases List.mem_append.mp hx with a | a
    · exact h.sc x a
    · exact sec_writes hB _ _ x a)
  obtain ⟨w1, w2⟩ := seen_writes f c (frm r) (fr2 : Int) (npc (frm r).length)
  have hst : stand (flushed f (c ++ writesOf (frm r) (fr2 : Int) (npc (frm r).length))) (fr2 : Int) s = some (r, npc (frm r).length) := stand_written _ r _ _ hr hd hfit (fun i hi => by rw [q2]; exact w1 i hi)
  refine ⟨h.two, h.one, q1, fun _ hx => by simp at hx, fun i h0 hi => ?_, fun _ hx => by simp at hx, h.eb, ?_, ?_, hf2, ⟨r, _, hst, by simp [goesOn, hI, h1], Nat.le_refl _, fun _ hx => by simp at hx⟩, by omega⟩
  · rw [q2]
    rcases seen_mem f (c ++ writesOf (frm r) (fr2 : Int) (npc (frm r).length)) i with a | ⟨x, hx, _, e⟩
    · rw [a]; exact (h.head i h0 hi).mono (Nat.le_refl _) (by omega) (Nat.le_refl _)
    · rw [e]
      rcases List.mem_append.mp hx with a | a
      · exact (h.hc x a).2.2.mono (Nat.le_refl _) (by omega) (Nat.le_refl _)
      · exact writes_head hr hd hE hG (by omega) _ _ x a
  · rw [q2, w2 _ (by rcases hf2 with e | e <;> omega), hcl _ (by omega)]; exact h.cell
  · rw [q2, w2 _ (by rcases hf2 with e | e <;> omega), hcl _ (by omega)]; exact h.cel2
theorem stand_zero (n : Nat) (p : Int) : stand (fun _ => zeros) p n = none := by
  cases h : stand (fun _ => zeros) p n with
  | none => rfl
  | some x =>
    obtain ⟨_, _, hm, _⟩ := stand_mark (r := x.1) (m := x.2) h
    simp [zeros] at hm
theorem newA_zero (s : Nat) : newA (fun _ => zeros) s = (true, ([], (s : Int))) := by
  unfold newA
  rw [areaGo_end (stand_zero _ _), areaGo_end (stand_zero _ _)]
  simp
theorem cellN_zeros : cellN zeros = 0 := by
  refine cellN_no (fun _ N _ h => ?_)
  have := enc_len_pos N
  rw [← h] at this
  revert this
  decide
/-- A log is begun on a disk of zeros. -/
theorem DI.fresh {n s : Nat} (hn2 : 2 * s + 2 = n) (h1 : 1 ≤ s) (r : Rc) (hr : r.ok) (hd : r.data.length ≤ 32000) (hE : r.epoch = 1) (hG : r.gen = 1) (hI : r.index = 0) (hB : ∀ j, Sec (sect (markOf j) (frm r) j)) (hfit : npc (frm r).length ≤ s) : DI n s 1 1 0 0 (0 + npc (frm r).length) (flushed (flushed (fun _ => zeros) ([] ++ [(((n - 2 + 1 % 2 : Nat) : Int), cellS 1)])) ([] ++ writesOf (frm r) ((0 : Nat) : Int) (npc (frm r).length))) [] := by
  have hz : Sec zeros := zeros_sec
  obtain ⟨p1, p2⟩ := flushed_is (fun _ => zeros) (fun _ => hz) ([] ++ [(((n - 2 + 1 % 2 : Nat) : Int), cellS 1)]) (fun x hx => by simp at hx; subst hx; exact cellS_sec (by omega))
  obtain ⟨q1, q2⟩ := flushed_is _ p1 ([] ++ writesOf (frm r) ((0 : Nat) : Int) (npc (frm r).length)) (fun x hx => sec_writes hB _ _ x (by simpa using hx))
  obtain ⟨w1, w2⟩ := seen_writes (flushed (fun _ => zeros) ([] ++ [(((n - 2 + 1 % 2 : Nat) : Int), cellS 1)])) [] (frm r) ((0 : Nat) : Int) (npc (frm r).length)
  have e0 : ∀ i : Int, flushed (fun _ => zeros) ([] ++ [(((n - 2 + 1 % 2 : Nat) : Int), cellS 1)]) i = if (((n - 2 + 1 % 2 : Nat) : Int)) = i then cellS 1 else zeros := fun i => by rw [p2, seen_snoc]; rfl
  have hst : stand (flushed (flushed (fun _ => zeros) ([] ++ [(((n - 2 + 1 % 2 : Nat) : Int), cellS 1)])) ([] ++ writesOf (frm r) ((0 : Nat) : Int) (npc (frm r).length))) ((0 : Nat) : Int) s = some (r, npc (frm r).length) := stand_written _ r _ _ hr hd hfit (fun i hi => by rw [q2]; exact w1 i hi)
  refine ⟨hn2, h1, q1, fun _ hx => by simp at hx, fun i h0 hi => ?_, fun _ hx => by simp at hx, by omega, ?_, ?_, .inl rfl, ⟨r, _, hst, by simp [goesOn, hI, hG], by omega, fun _ hx => by simp at hx⟩, by omega⟩
  · rw [q2]
    rcases seen_mem (flushed (fun _ => zeros) ([] ++ [(((n - 2 + 1 % 2 : Nat) : Int), cellS 1)])) ([] ++ writesOf (frm r) ((0 : Nat) : Int) (npc (frm r).length)) i with a | ⟨x, hx, _, e⟩
    · rw [a, e0, if_neg (by omega)]; exact head_zero _ _ _
    · rw [e]; exact writes_head hr hd (by omega) (by omega) (by omega) _ _ x (by simpa using hx)
  · rw [q2, w2 _ (.inr (by omega))]
    show flushed (fun _ => zeros) ([] ++ [(((n - 2 + 1 % 2 : Nat) : Int), cellS 1)]) _ = _
    rw [e0, if_pos rfl]
  · rw [q2, w2 _ (.inr (by omega))]
    show cellN (flushed (fun _ => zeros) ([] ++ [(((n - 2 + 1 % 2 : Nat) : Int), cellS 1)]) _) ≤ _
    rw [e0, if_neg (by omega), cellN_zeros]; omega
end Go.Proofs.YtcbimclgodkflaaDoor
