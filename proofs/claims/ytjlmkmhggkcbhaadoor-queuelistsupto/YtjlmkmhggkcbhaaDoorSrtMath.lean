/- Lists of things in order. -/
import Derived.Test.YtjlmkmhggkcbhaaDoorHeapMath
namespace Go.Proofs.YtjlmkmhggkcbhaaDoor

/-- None stands ahead of an earlier one. -/
def Srt (ys : List Th) : Prop := ∀ i j, i < j → j < ys.length → ¬ Ahd (gt ys j) (gt ys i)
theorem gt_get {xs : List Th} {i : Nat} (h : i < xs.length) : gt xs i = xs[i] := by simp [gt, List.getD, h]
theorem Srt.pairwise {ys : List Th} (h : Srt ys) : ys.Pairwise (fun a b => ¬ Ahd b a) := by
  rw [List.pairwise_iff_getElem]
  intro i j hi hj hij
  have := h i j hij hj
  rwa [gt_get hi, gt_get hj] at this
theorem Srt.of_pairwise {ys : List Th} (h : ys.Pairwise (fun a b => ¬ Ahd b a)) : Srt ys := by
  rw [List.pairwise_iff_getElem] at h
  intro i j hij hj
  rw [gt_get (show i < ys.length by omega), gt_get hj]
  exact h i j _ hj hij
/-- There is one order. -/
theorem srt_one {ys zs : List Th} (hp : ys.Perm zs) (hy : Srt ys) (hz : Srt zs) : ys = zs := by
  refine List.Perm.eq_of_pairwise (fun a b _ _ h1 h2 => ?_) hy.pairwise hz.pairwise hp
  by_cases e : a = b
  · exact e
  · exact absurd (ahd_of_ne h2 e) h1
theorem Srt.tail {y : Th} {ys : List Th} (h : Srt (y :: ys)) : Srt ys := Srt.of_pairwise (List.pairwise_cons.mp h.pairwise).2
theorem Srt.head {y : Th} {ys : List Th} (h : Srt (y :: ys)) : ∀ z ∈ ys, ¬ Ahd z y := (List.pairwise_cons.mp h.pairwise).1
theorem Srt.drop {ys : List Th} (h : Srt ys) (i : Nat) : Srt (ys.drop i) := Srt.of_pairwise (h.pairwise.sublist (List.drop_sublist i ys))
/-- The first thing is the least one. -/
theorem first_is {V ys : List Th} {y : Th} (hp : V.Perm (y :: ys)) (hs : Srt (y :: ys)) (hf : ∀ z ∈ V, z = gt V 0 ∨ Ahd (gt V 0) z) : gt V 0 = y := by
  have hl : 0 < V.length := by rw [hp.length_eq]; simp
  have hy : y ∈ V := hp.mem_iff.mpr (by simp)
  rcases hf y hy with e | e
  · exact e.symm
  · have h0 : gt V 0 ∈ V := mem_gt.mpr ⟨0, hl, rfl⟩
    rcases List.mem_cons.mp (hp.mem_iff.mp h0) with h | h
    · exact h
    · exact absurd e (hs.head _ h)
/-- Without it the rest is left. -/
theorem rest_is {V V' ys : List Th} {y : Th} (hp : V.Perm (y :: ys)) (hn : V'.Nodup) (hnv : V.Nodup) (hinj : ∀ a ∈ V, ∀ b ∈ V, a.1 = b.1 → a = b) (hm : ∀ z, z ∈ V' ↔ z ∈ V ∧ z.1 ≠ y.1) : V'.Perm ys := by
  have hny : (y :: ys).Nodup := hp.nodup_iff.mp hnv
  have hyv : y ∈ V := hp.mem_iff.mpr (by simp)
  refine (List.perm_ext_iff_of_nodup hn (List.nodup_cons.mp hny).2).mpr (fun z => ?_)
  rw [hm z, hp.mem_iff]
  constructor
  · rintro ⟨h1, h2⟩
    rcases List.mem_cons.mp h1 with h | h
    · exact absurd (by rw [h]) h2
    · exact h
  · intro h
    refine ⟨List.mem_cons_of_mem _ h, fun e => ?_⟩
    have hz : z ∈ V := hp.mem_iff.mpr (List.mem_cons_of_mem _ h)
    have := hinj z hz y hyv e
    subst this
    exact (List.nodup_cons.mp hny).1 h
/-- The ranks of a list with their places. -/
def prs (rs : List Int) : List Th := (List.range rs.length).map (fun i : Nat => ((i : Int), rs.getD i 0))
theorem prs_len (rs : List Int) : (prs rs).length = rs.length := by simp [prs]
theorem prs_at {rs : List Int} {i : Nat} (h : i < rs.length) : gt (prs rs) i = ((i : Int), rs.getD i 0) := by
  rw [gt_get (by rw [prs_len]; exact h)]
  simp [prs]
theorem prs_mem {rs : List Int} {x : Th} : x ∈ prs rs ↔ ∃ k : Nat, k < rs.length ∧ x.1 = (k : Int) ∧ x.2 = rs.getD k 0 := by
  unfold prs
  rw [List.mem_map]
  constructor
  · rintro ⟨k, hk, rfl⟩
    exact ⟨k, by simpa using hk, rfl, rfl⟩
  · rintro ⟨k, hk, a, b⟩
    exact ⟨k, by simpa using hk, Prod.ext a.symm b.symm⟩
theorem prs_nodup (rs : List Int) : (prs rs).Nodup := by
  rw [List.nodup_iff_pairwise_ne, List.pairwise_iff_getElem]
  intro i j hi hj hij e
  rw [prs_len] at hi hj
  have := prs_at hi
  have h2 := prs_at hj
  rw [gt_get (by rw [prs_len]; exact hi)] at this
  rw [gt_get (by rw [prs_len]; exact hj)] at h2
  rw [this, h2] at e
  have := congrArg Prod.fst e
  simp at this
  omega
/-- A list in order. -/
def srtd (xs : List Th) : List Th := xs.mergeSort (fun x y => !ahb y x)
theorem srtd_perm (xs : List Th) : (srtd xs).Perm xs := List.mergeSort_perm _ _
theorem srtd_srt (xs : List Th) : Srt (srtd xs) := by
  refine Srt.of_pairwise ?_
  have := List.pairwise_mergeSort (le := fun x y => !ahb y x) (fun a b c h1 h2 => ?_) (fun a b => ?_) xs
  · refine this.imp (fun {a b} h => ?_)
    intro k
    rw [ahb_true k] at h
    simp at h
  · simp only [Bool.not_eq_true'] at *
    have k1 : ¬ Ahd b a := fun k => by rw [ahb_true k] at h1; simp at h1
    have k2 : ¬ Ahd c b := fun k => by rw [ahb_true k] at h2; simp at h2
    exact ahb_false (not_ahd_trans k2 k1)
  · by_cases h : Ahd b a
    · rw [ahb_true h, ahb_false h.asymm]; rfl
    · rw [ahb_false h]; rfl
theorem srtd_is {xs ys : List Th} (hp : ys.Perm xs) (hs : Srt ys) : ys = srtd xs := srt_one (hp.trans (srtd_perm xs).symm) hs (srtd_srt xs)
theorem srtd_len (xs : List Th) : (srtd xs).length = xs.length := (srtd_perm xs).length_eq
theorem srtd_congr {xs ys : List Th} (h : xs.Perm ys) : srtd xs = srtd ys := srtd_is ((srtd_perm xs).trans h) (srtd_srt xs)
end Go.Proofs.YtjlmkmhggkcbhaaDoor
