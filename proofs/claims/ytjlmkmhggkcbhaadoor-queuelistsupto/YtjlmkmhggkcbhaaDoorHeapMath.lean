/- A heap as a list of things (a number and a rank), with the places of the numbers. -/
import Derived.Test.YtjlmkmhggkcbhaaDoorRows
namespace Go.Proofs.YtjlmkmhggkcbhaaDoor

abbrev Th := Int × Int
/-- a stands ahead of b: the lesser rank, of one rank the lesser number. -/
def Ahd (a b : Th) : Prop := a.2 < b.2 ∨ a.2 = b.2 ∧ a.1 < b.1
/-- The same as a test. -/
def ahb (a b : Th) : Bool := decide (a.2 < b.2) || (decide (a.2 = b.2) && decide (a.1 < b.1))
theorem ahb_iff {a b : Th} : ahb a b = true ↔ Ahd a b := by simp [ahb, Ahd]
theorem ahb_true {a b : Th} (h : Ahd a b) : ahb a b = true := ahb_iff.mpr h
theorem ahb_false {a b : Th} (h : ¬ Ahd a b) : ahb a b = false := by
  cases e : ahb a b with
  | false => rfl
  | true => exact absurd (ahb_iff.mp e) h
theorem Ahd.asymm {a b : Th} (h : Ahd a b) : ¬ Ahd b a := by unfold Ahd at *; omega
theorem Ahd.irrefl (a : Th) : ¬ Ahd a a := by unfold Ahd; omega
theorem Ahd.trans {a b c : Th} (h : Ahd a b) (k : Ahd b c) : Ahd a c := by unfold Ahd at *; omega
theorem not_ahd_trans {a b c : Th} (h : ¬ Ahd a b) (k : ¬ Ahd b c) : ¬ Ahd a c := by unfold Ahd at *; omega
theorem ahd_of_ne {a b : Th} (h : ¬ Ahd a b) (k : a ≠ b) : Ahd b a := by
  unfold Ahd at *
  have : ¬ (a.1 = b.1 ∧ a.2 = b.2) := fun ⟨e1, e2⟩ => k (Prod.ext e1 e2)
  omega
def gt (xs : List Th) (i : Nat) : Th := xs.getD i (0, 0)
theorem gt_set (xs : List Th) (i j : Nat) (v : Th) (hi : i < xs.length) : gt (xs.set i v) j = if i = j then v else gt xs j := by
  unfold gt
  simp only [List.getD_eq_getElem?_getD, List.getElem?_set]
  split
  · rfl
  · rfl
theorem gt_at {xs : List Th} {i : Nat} (h : i < xs.length) : xs[i]? = some (gt xs i) := by simp [gt, List.getD, h]
theorem gt_ext {xs ys : List Th} (hl : xs.length = ys.length) (h : ∀ i, i < xs.length → gt xs i = gt ys i) : xs = ys := by
  refine List.ext_getElem hl (fun i h1 h2 => ?_)
  have := h i h1
  simpa [gt, List.getD, h1, h2] using this
theorem mem_gt {xs : List Th} {x : Th} : x ∈ xs ↔ ∃ i, i < xs.length ∧ gt xs i = x := by
  constructor
  · intro h
    obtain ⟨i, hi, e⟩ := List.getElem_of_mem h
    exact ⟨i, hi, by simpa [gt, List.getD, hi] using e⟩
  · rintro ⟨i, hi, e⟩
    have : gt xs i = xs[i] := by simp [gt, List.getD, hi]
    rw [← e, this]
    exact List.getElem_mem hi
def swp (xs : List Th) (i j : Nat) : List Th := (xs.set i (gt xs j)).set j (gt xs i)
theorem swp_len (xs : List Th) (i j : Nat) : (swp xs i j).length = xs.length := by simp [swp]
theorem gt_swp {xs : List Th} {i j : Nat} (hi : i < xs.length) (hj : j < xs.length) (k : Nat) : gt (swp xs i j) k = if j = k then gt xs i else if i = k then gt xs j else gt xs k := by
  unfold swp
  rw [gt_set _ _ _ _ (by simpa using hj), gt_set _ _ _ _ hi]
theorem mem_swp {xs : List Th} {i j : Nat} (hi : i < xs.length) (hj : j < xs.length) (x : Th) : x ∈ swp xs i j ↔ x ∈ xs := by
  rw [mem_gt, mem_gt, swp_len]
  constructor
  · rintro ⟨k, hk, e⟩
    rw [gt_swp hi hj] at e
    split at e
    · exact ⟨i, hi, e⟩
    · split at e
      · exact ⟨j, hj, e⟩
      · exact ⟨k, hk, e⟩
  · rintro ⟨k, hk, e⟩
    by_cases h1 : k = i
    · subst h1
      exact ⟨j, hj, by rw [gt_swp hi hj, if_pos rfl]; exact e⟩
    · by_cases h2 : k = j
      · subst h2
        refine ⟨i, hi, ?_⟩
        rw [gt_swp hi hj]
        split
        · rename_i h; exact absurd h h1
        · rw [if_pos rfl]; exact e
      · refine ⟨k, hk, ?_⟩
        rw [gt_swp hi hj, if_neg (fun h => h2 h.symm), if_neg (fun h => h1 h.symm)]
        exact e
/-- No thing stands ahead of its parent. -/
def Heap (xs : List Th) : Prop := ∀ i, 0 < i → i < xs.length → ¬ Ahd (gt xs i) (gt xs ((i - 1) / 2))
/-- The same but for what the thing at p has to do with its parent and its kids. -/
def HeapEx (xs : List Th) (p : Nat) : Prop :=
  (∀ i, 0 < i → i < xs.length → i ≠ p → (i - 1) / 2 ≠ p → ¬ Ahd (gt xs i) (gt xs ((i - 1) / 2))) ∧
  (∀ i, 0 < p → 0 < i → i < xs.length → (i - 1) / 2 = p → ¬ Ahd (gt xs i) (gt xs ((p - 1) / 2)))
theorem HeapEx.of_heap {xs : List Th} (h : Heap xs) (p : Nat) (v : Th) (hp : p < xs.length) : HeapEx (xs.set p v) p := by
  refine ⟨fun i h0 hi hn hm => ?_, fun i h0 h1 hi hm => ?_⟩
  · rw [gt_set _ _ _ _ hp, gt_set _ _ _ _ hp, if_neg (fun e => hn e.symm), if_neg (fun e => hm e.symm)]
    exact h i h0 (by simpa using hi)
  · have hi' : i < xs.length := by simpa using hi
    rw [gt_set _ _ _ _ hp, gt_set _ _ _ _ hp, if_neg (by omega), if_neg (by omega)]
    have h2 := h p h0 hp
    have h3 := h i h1 hi'
    rw [hm] at h3
    exact not_ahd_trans h3 h2
theorem HeapEx.of_put {xs : List Th} (h : Heap xs) (v : Th) : HeapEx (xs ++ [v]) xs.length := by
  have e : ∀ i, i < xs.length → gt (xs ++ [v]) i = gt xs i := fun i hi => by simp [gt, List.getD, List.getElem?_append_left hi]
  refine ⟨fun i h0 hi hn hm => ?_, fun i h0 h1 hi hm => ?_⟩
  · simp at hi
    rw [e i (by omega), e _ (by omega)]
    exact h i h0 (by omega)
  · simp at hi
    omega
theorem Heap.take {xs : List Th} (h : Heap xs) (n : Nat) (hn : n ≤ xs.length) : Heap (xs.take n) := by
  have e : ∀ i, i < n → gt (xs.take n) i = gt xs i := fun i hi => by simp [gt, List.getD, hi]
  intro i h0 hi
  rw [List.length_take] at hi
  rw [e i (by omega), e _ (by omega)]
  exact h i h0 (by omega)
theorem swp_to {xs : List Th} {i j : Nat} (hi : i < xs.length) (hj : j < xs.length) : gt (swp xs i j) j = gt xs i := by rw [gt_swp hi hj, if_pos rfl]
theorem swp_from {xs : List Th} {i j : Nat} (hi : i < xs.length) (hj : j < xs.length) (hn : i ≠ j) : gt (swp xs i j) i = gt xs j := by rw [gt_swp hi hj, if_neg (fun e => hn e.symm), if_pos rfl]
theorem swp_else {xs : List Th} {i j k : Nat} (hi : i < xs.length) (hj : j < xs.length) (h1 : k ≠ i) (h2 : k ≠ j) : gt (swp xs i j) k = gt xs k := by rw [gt_swp hi hj, if_neg (fun e => h2 e.symm), if_neg (fun e => h1 e.symm)]
theorem HeapEx.up {xs : List Th} {p : Nat} (h : HeapEx xs p) (h0 : 0 < p) (hp : p < xs.length) : HeapEx (swp xs p ((p - 1) / 2)) ((p - 1) / 2) := by
  have hq : (p - 1) / 2 < xs.length := by omega
  refine ⟨fun i hi0 hi hn hm => ?_, fun i hq0 hi0 hi hm => ?_⟩
  · rw [swp_len] at hi
    by_cases e : i = p
    · subst e; exact absurd rfl hm
    · rw [swp_else hp hq e hn]
      by_cases e2 : (i - 1) / 2 = p
      · rw [e2, swp_from hp hq (by omega)]
        exact h.2 i h0 hi0 hi e2
      · rw [swp_else hp hq e2 hm]
        exact h.1 i hi0 hi e e2
  · rw [swp_len] at hi
    have hup : ¬ Ahd (gt xs ((p - 1) / 2)) (gt xs (((p - 1) / 2 - 1) / 2)) := h.1 _ hq0 hq (by omega) (by omega)
    rw [swp_else hp hq (k := ((p - 1) / 2 - 1) / 2) (by omega) (by omega)]
    by_cases e : i = p
    · rw [e, swp_from hp hq (by omega)]; exact hup
    · rw [swp_else hp hq e (by omega)]
      have := h.1 i hi0 hi e (by omega)
      rw [hm] at this
      exact not_ahd_trans this hup
/-- The thing at p doesn't stand ahead of its parent. -/
def UpOk (xs : List Th) (p : Nat) : Prop := 0 < p → ¬ Ahd (gt xs p) (gt xs ((p - 1) / 2))
theorem HeapEx.down {xs : List Th} {p k : Nat} (h : HeapEx xs p) (hk : k < xs.length) (hk0 : 0 < k) (hkp : (k - 1) / 2 = p) (ha : Ahd (gt xs k) (gt xs p))
    (hs : ∀ s, 0 < s → s < xs.length → (s - 1) / 2 = p → ¬ Ahd (gt xs s) (gt xs k)) : HeapEx (swp xs p k) k ∧ UpOk (swp xs p k) k := by
  have hp : p < xs.length := by omega
  have hpk : p ≠ k := by omega
  refine ⟨⟨fun i hi0 hi hn hm => ?_, fun i hq0 hi0 hi hm => ?_⟩, fun _ => ?_⟩
  · rw [swp_len] at hi
    by_cases e : i = p
    · rw [e] at hi0 hm ⊢
      rw [swp_from hp hk hpk, swp_else hp hk (by omega) hm]
      exact h.2 k (by omega) hk0 hk hkp
    · rw [swp_else hp hk e hn]
      by_cases e2 : (i - 1) / 2 = p
      · rw [e2, swp_from hp hk hpk]
        exact hs i hi0 hi e2
      · rw [swp_else hp hk e2 hm]
        exact h.1 i hi0 hi e e2
  · rw [swp_len] at hi
    rw [hkp, swp_from hp hk hpk, swp_else hp hk (by omega) (by omega)]
    have := h.1 i hi0 hi (by omega) (by omega)
    rw [hm] at this
    exact this
  · rw [hkp, swp_to hp hk, swp_from hp hk hpk]
    exact ha.asymm
theorem HeapEx.done {xs : List Th} {p : Nat} (h : HeapEx xs p) (hu : UpOk xs p) (hs : ∀ s, 0 < s → s < xs.length → (s - 1) / 2 = p → ¬ Ahd (gt xs s) (gt xs p)) : Heap xs := by
  intro i h0 hi
  by_cases e : i = p
  · subst e; exact hu h0
  · by_cases e2 : (i - 1) / 2 = p
    · rw [e2]; exact hs i h0 hi e2
    · exact h.1 i h0 hi e e2
/-- The first thing of a heap stands ahead of all others. -/
theorem Heap.first {xs : List Th} (h : Heap xs) : ∀ i, i < xs.length → ¬ Ahd (gt xs i) (gt xs 0) := by
  intro i
  induction i using Nat.strongRecOn with
  | _ i ih =>
    intro hi
    by_cases e : i = 0
    · subst e; exact Ahd.irrefl _
    · exact not_ahd_trans (h i (by omega) hi) (ih ((i - 1) / 2) (by omega) (by omega))
/-- The places of the numbers. -/
def Idx (xs : List Th) (m : Int → Option Nat) : Prop := ∀ k i, m k = some i ↔ i < xs.length ∧ (gt xs i).1 = k
/-- The same but for the thing at p. -/
def IdxEx (xs : List Th) (p : Nat) (m : Int → Option Nat) : Prop :=
  (∀ i, i < xs.length → (gt xs i).1 = (gt xs p).1 → i = p) ∧ ∀ k i, k ≠ (gt xs p).1 → (m k = some i ↔ i < xs.length ∧ (gt xs i).1 = k)
def upn (m : Int → Option Nat) (k : Int) (i : Nat) : Int → Option Nat := fun j => if j = k then some i else m j
def del (m : Int → Option Nat) (k : Int) : Int → Option Nat := fun j => if j = k then none else m j
theorem Idx.inj {xs : List Th} {m : Int → Option Nat} (h : Idx xs m) {i j : Nat} (hi : i < xs.length) (hj : j < xs.length) (e : (gt xs i).1 = (gt xs j).1) : i = j := by
  have h1 := (h (gt xs i).1 i).mpr ⟨hi, rfl⟩
  have h2 := (h (gt xs i).1 j).mpr ⟨hj, e.symm⟩
  rw [h1] at h2
  simpa using h2
theorem IdxEx.swap {xs : List Th} {p q : Nat} {m : Int → Option Nat} (h : IdxEx xs p m) (hp : p < xs.length) (hq : q < xs.length) (hn : p ≠ q) : IdxEx (swp xs p q) q (upn m (gt xs q).1 p) := by
  have hqid : (gt xs q).1 ≠ (gt xs p).1 := fun e => hn (h.1 q hq e).symm
  have hg : gt (swp xs p q) q = gt xs p := by rw [gt_swp hp hq, if_pos rfl]
  refine ⟨fun i hi e => ?_, fun k i hk => ?_⟩
  · rw [swp_len] at hi
    rw [hg, gt_swp hp hq] at e
    split at e
    · rename_i h1; exact h1.symm
    · split at e
      · exact absurd e hqid
      · rename_i h1 h2
        exact absurd (h.1 i hi e).symm h2
  · rw [hg] at hk
    rw [swp_len, gt_swp hp hq]
    unfold upn
    by_cases e : k = (gt xs q).1
    · rw [if_pos e]
      constructor
      · intro h1
        have : p = i := by simpa using h1
        subst this
        exact ⟨hp, by rw [if_neg (fun h => hn h.symm), if_pos rfl]; exact e.symm⟩
      · rintro ⟨hi, h1⟩
        split at h1
        · exact absurd h1.symm hk
        · split at h1
          · rename_i h2; rw [h2]
          · rename_i h2 h3
            exfalso
            have a := (h.2 k i hk).mpr ⟨hi, h1⟩
            have b := (h.2 k q hk).mpr ⟨hq, e.symm⟩
            rw [a] at b
            exact h2 (by simpa using b.symm)
    · rw [if_neg e, h.2 k i hk]
      constructor
      · rintro ⟨hi, h1⟩
        refine ⟨hi, ?_⟩
        by_cases e1 : q = i
        · subst e1; exact absurd h1.symm e
        · by_cases e2 : p = i
          · subst e2; exact absurd h1.symm hk
          · rw [if_neg e1, if_neg e2]; exact h1
      · rintro ⟨hi, h1⟩
        split at h1
        · exact absurd h1.symm hk
        · split at h1
          · exact absurd h1.symm e
          · exact ⟨hi, h1⟩
theorem IdxEx.done {xs : List Th} {p : Nat} {m : Int → Option Nat} (h : IdxEx xs p m) (hp : p < xs.length) : Idx xs (upn m (gt xs p).1 p) := by
  intro k i
  unfold upn
  by_cases e : k = (gt xs p).1
  · rw [if_pos e]
    constructor
    · intro h1
      have : p = i := by simpa using h1
      subst this
      exact ⟨hp, e.symm⟩
    · rintro ⟨hi, h1⟩
      rw [h.1 i hi (h1.trans e)]
  · rw [if_neg e]
    exact h.2 k i e
theorem IdxEx.of_put {xs : List Th} {m : Int → Option Nat} (h : Idx xs m) (v : Th) (hn : m v.1 = none) : IdxEx (xs ++ [v]) xs.length m := by
  have e : ∀ i, i < xs.length → gt (xs ++ [v]) i = gt xs i := fun i hi => by simp [gt, List.getD, List.getElem?_append_left hi]
  have e1 : gt (xs ++ [v]) xs.length = v := by simp [gt, List.getD]
  refine ⟨fun i hi he => ?_, fun k i hk => ?_⟩
  · rw [e1] at he
    simp at hi
    by_cases h1 : i < xs.length
    · rw [e i h1] at he
      have := (h v.1 i).mpr ⟨h1, he⟩
      rw [hn] at this
      simp at this
    · omega
  · rw [e1] at hk
    rw [h k i]
    constructor
    · rintro ⟨hi, h1⟩
      exact ⟨by simp; omega, by rw [e i hi]; exact h1⟩
    · rintro ⟨hi, h1⟩
      simp at hi
      by_cases h2 : i < xs.length
      · rw [e i h2] at h1; exact ⟨h2, h1⟩
      · have : i = xs.length := by omega
        subst this
        rw [e1] at h1
        exact absurd h1.symm hk
theorem IdxEx.of_turn {xs : List Th} {m : Int → Option Nat} (h : Idx xs m) (p : Nat) (r : Int) (hp : p < xs.length) : IdxEx (xs.set p ((gt xs p).1, r)) p m := by
  have e : ∀ i, (gt (xs.set p ((gt xs p).1, r)) i).1 = (gt xs i).1 := fun i => by
    rw [gt_set _ _ _ _ hp]
    split
    · rename_i h1; rw [h1]
    · rfl
  refine ⟨fun i hi he => ?_, fun k i hk => ?_⟩
  · rw [e, e] at he
    exact h.inj (by simpa using hi) hp he
  · rw [h k i, e]
    simp
/-- Without the thing at p; the last one in its place. -/
theorem IdxEx.of_take {xs : List Th} {m : Int → Option Nat} (h : Idx xs m) (p n : Nat) (hn : xs.length = n + 1) (hp : p < n) : IdxEx ((xs.take n).set p (gt xs n)) p (del m (gt xs p).1) := by
  have hl : (xs.take n).length = n := by rw [List.length_take]; omega
  have e : ∀ i, i < n → gt (xs.take n) i = gt xs i := fun i hi => by simp [gt, List.getD, hi]
  have e2 : ∀ i, i < n → gt ((xs.take n).set p (gt xs n)) i = if p = i then gt xs n else gt xs i := fun i hi => by
    rw [gt_set _ _ _ _ (by omega), e i hi]
  refine ⟨fun i hi he => ?_, fun k i hk => ?_⟩
  · rw [List.length_set, hl] at hi
    rw [e2 i hi, e2 p hp, if_pos rfl] at he
    split at he
    · rename_i h1; exact h1.symm
    · have := h.inj (by omega) (by omega) he
      omega
  · rw [List.length_set, hl]
    rw [e2 p hp, if_pos rfl] at hk
    unfold del
    by_cases ek : k = (gt xs p).1
    · rw [if_pos ek]
      constructor
      · intro h1; simp at h1
      · rintro ⟨hi, h1⟩
        rw [e2 i hi] at h1
        split at h1
        · exact absurd h1.symm hk
        · rename_i h2
          exact absurd (h.inj (by omega) (by omega) (h1.trans ek)).symm h2
    · rw [if_neg ek, h k i]
      constructor
      · rintro ⟨hi, h1⟩
        have hin : i ≠ n := fun e => hk (by rw [← h1, e])
        have hip : p ≠ i := fun e => ek (by rw [← h1, e])
        exact ⟨by omega, by rw [e2 i (by omega), if_neg hip]; exact h1⟩
      · rintro ⟨hi, h1⟩
        rw [e2 i hi] at h1
        split at h1
        · exact absurd h1.symm hk
        · exact ⟨by omega, h1⟩
theorem Idx.of_last {xs : List Th} {m : Int → Option Nat} (h : Idx xs m) (n : Nat) (hn : xs.length = n + 1) : Idx (xs.take n) (del m (gt xs n).1) := by
  have hl : (xs.take n).length = n := by rw [List.length_take]; omega
  have e : ∀ i, i < n → gt (xs.take n) i = gt xs i := fun i hi => by simp [gt, List.getD, hi]
  intro k i
  rw [hl]
  unfold del
  by_cases ek : k = (gt xs n).1
  · rw [if_pos ek]
    constructor
    · intro h1; simp at h1
    · rintro ⟨hi, h1⟩
      rw [e i hi] at h1
      have := h.inj (i := i) (j := n) (by omega) (by omega) (h1.trans ek)
      omega
  · rw [if_neg ek, h k i]
    constructor
    · rintro ⟨hi, h1⟩
      have hin : i ≠ n := fun e => ek (by rw [← h1, e])
      exact ⟨by omega, by rw [e i (by omega)]; exact h1⟩
    · rintro ⟨hi, h1⟩
      rw [e i hi] at h1
      exact ⟨by omega, h1⟩
/-- What is there without the thing at p. -/
theorem mem_taken {xs : List Th} {m : Int → Option Nat} (h : Idx xs m) (p n : Nat) (hn : xs.length = n + 1) (hp : p < n) (x : Th) : x ∈ (xs.take n).set p (gt xs n) ↔ x ∈ xs ∧ x.1 ≠ (gt xs p).1 := by
  have hl : (xs.take n).length = n := by rw [List.length_take]; omega
  have e : ∀ i, i < n → gt (xs.take n) i = gt xs i := fun i hi => by simp [gt, List.getD, hi]
  have e2 : ∀ i, i < n → gt ((xs.take n).set p (gt xs n)) i = if p = i then gt xs n else gt xs i := fun i hi => by
    rw [gt_set _ _ _ _ (by omega), e i hi]
  rw [mem_gt, mem_gt, List.length_set, hl]
  constructor
  · rintro ⟨i, hi, h1⟩
    rw [e2 i hi] at h1
    split at h1
    · refine ⟨⟨n, by omega, h1⟩, fun h2 => ?_⟩
      rw [← h1] at h2
      have := h.inj (by omega) (by omega) h2
      omega
    · rename_i h2
      refine ⟨⟨i, by omega, h1⟩, fun h3 => ?_⟩
      rw [← h1] at h3
      exact h2 (h.inj (by omega) (by omega) h3).symm
  · rintro ⟨⟨i, hi, h1⟩, h2⟩
    have hip : p ≠ i := fun e => h2 (by rw [← h1, e])
    by_cases e3 : i = n
    · exact ⟨p, hp, by rw [e2 p hp, if_pos rfl, ← h1, e3]⟩
    · exact ⟨i, by omega, by rw [e2 i (by omega), if_neg hip]; exact h1⟩
theorem mem_last {xs : List Th} {m : Int → Option Nat} (h : Idx xs m) (n : Nat) (hn : xs.length = n + 1) (x : Th) : x ∈ xs.take n ↔ x ∈ xs ∧ x.1 ≠ (gt xs n).1 := by
  have hl : (xs.take n).length = n := by rw [List.length_take]; omega
  have e : ∀ i, i < n → gt (xs.take n) i = gt xs i := fun i hi => by simp [gt, List.getD, hi]
  rw [mem_gt, mem_gt, hl]
  constructor
  · rintro ⟨i, hi, h1⟩
    rw [e i hi] at h1
    refine ⟨⟨i, by omega, h1⟩, fun h3 => ?_⟩
    rw [← h1] at h3
    have := h.inj (by omega) (by omega) h3
    omega
  · rintro ⟨⟨i, hi, h1⟩, h2⟩
    have hin : i ≠ n := fun e => h2 (by rw [← h1, e])
    exact ⟨i, by omega, by rw [e i (by omega)]; exact h1⟩
theorem mem_turned {xs : List Th} {m : Int → Option Nat} (h : Idx xs m) (p : Nat) (r : Int) (hp : p < xs.length) (x : Th) : x ∈ xs.set p ((gt xs p).1, r) ↔ (x.1 ≠ (gt xs p).1 ∧ x ∈ xs) ∨ x = ((gt xs p).1, r) := by
  rw [mem_gt, mem_gt, List.length_set]
  constructor
  · rintro ⟨i, hi, h1⟩
    rw [gt_set _ _ _ _ hp] at h1
    split at h1
    · exact .inr h1.symm
    · rename_i h2
      refine .inl ⟨fun h3 => ?_, i, hi, h1⟩
      rw [← h1] at h3
      exact h2 (h.inj hi hp h3).symm
  · rintro (⟨h2, i, hi, h1⟩ | h1)
    · have hip : p ≠ i := fun e => h2 (by rw [← h1, e])
      exact ⟨i, hi, by rw [gt_set _ _ _ _ hp, if_neg hip]; exact h1⟩
    · exact ⟨p, hp, by rw [gt_set _ _ _ _ hp, if_pos rfl, h1]⟩
/-- The list in memory is the list that is meant, but for the place p. -/
def Hol (xs V : List Th) (p : Nat) : Prop := xs.length = V.length ∧ ∀ i, i ≠ p → gt xs i = gt V i
theorem Hol.step {xs V : List Th} {p q : Nat} (h : Hol xs V p) (hp : p < V.length) (hq : q < V.length) (hn : p ≠ q) : Hol (xs.set p (gt V q)) (swp V p q) q := by
  refine ⟨by rw [List.length_set, swp_len]; exact h.1, fun i hi => ?_⟩
  rw [gt_set _ _ _ _ (by rw [h.1]; exact hp)]
  by_cases e : p = i
  · rw [if_pos e, ← e, swp_from hp hq hn]
  · rw [if_neg e, swp_else hp hq (fun x => e x.symm) hi]
    exact h.2 i (fun x => e x.symm)
theorem Hol.done {xs V : List Th} {p : Nat} (h : Hol xs V p) (hp : p < V.length) : xs.set p (gt V p) = V := by
  refine gt_ext (by rw [List.length_set]; exact h.1) (fun i hi => ?_)
  rw [gt_set _ _ _ _ (by rw [h.1]; exact hp)]
  split
  · rename_i e; rw [e]
  · rename_i h1
    exact h.2 i (fun e => h1 e.symm)
end Go.Proofs.YtjlmkmhggkcbhaaDoor
