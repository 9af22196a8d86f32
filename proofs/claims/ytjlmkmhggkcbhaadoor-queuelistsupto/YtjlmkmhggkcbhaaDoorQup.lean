/- How much a list of lists is, by the datum's bulk. -/
import Derived.Test.YtjlmkmhggkcbhaaDoorQlsts
import Derived.Test.YtjlmkmhggkcbhaaDoorQopen
import Derived.Test.YtjlmkmhggkcbhaaDoorRows
namespace Go.Proofs.YtjlmkmhggkcbhaaDoor
open Go.ChangeShapes Go.WideShapes Go.ChangeAt Go.RowKit
set_option maxRecDepth 100000
set_option linter.unusedVariables false

theorem bulk_one {H : Type} (d : DataW H) : 1 ≤ Rows.uptoBulk d := by
  cases d with
  | lit l => cases l <;> simp [Rows.uptoBulk]
  | _ => simp [Rows.uptoBulk]
theorem bulk_len {H : Type} (l : List (DataW H)) : l.length ≤ Rows.uptoBulkAll l := by
  induction l with
  | nil => simp
  | cons x r ih =>
    have := bulk_one x
    simp only [Rows.uptoBulkAll, List.length_cons]; omega
theorem bulk_mem {H : Type} {d : DataW H} {l : List (DataW H)} (h : d ∈ l) : Rows.uptoBulk d ≤ Rows.uptoBulkAll l := by
  induction l with
  | nil => cases h
  | cons x r ih =>
    simp only [Rows.uptoBulkAll]
    rcases List.mem_cons.1 h with e | e
    · subst e; omega
    · have := ih e; omega
theorem bulk_part {H : Type} {l : List (DataW H)} (hk : Rows.uptoSmall H l = true) {d : DataW H} (h : d ∈ l) : Rows.uptoBulk d ≤ 1048576 := by
  have h1 : Rows.uptoBulkAll l ≤ 1048576 := of_decide_eq_true hk
  have h2 := bulk_mem h
  omega
theorem bulk_sum {H : Type} (l : List Nat) (f : Nat → List Int) (D : Nat → DataW H) (h : ∀ i ∈ l, (f i).length ≤ Rows.uptoBulk (D i)) : tot (l.map f) ≤ Rows.uptoBulkAll (l.map D) := by
  induction l with
  | nil => simp [tot]
  | cons x l ih =>
    have h1 := h x (List.mem_cons_self ..)
    have h2 := ih (fun i hi => h i (List.mem_cons_of_mem _ hi))
    unfold tot at h2 ⊢
    simp only [List.map_cons, List.sum_cons, Rows.uptoBulkAll]
    omega
theorem open_lists_up {H : Type} {enc : TypeId × Value → H} {W : World} {base : Nat} {v : Value} {d : DataW H} {p : List MemPlace}
    (hv : Value.okWide Tryd.prog W .any base 37 v) (h : DataW.Trod enc Tryd.prog W 0 (fun _ => true) true 37 v d p) (hd : Rows.uptoBulk d ≤ 1048576) : ∃ ps us, Lsl W v ps us ∧ ps.length ≤ 1048576 ∧ tot ps ≤ 1048576 := by
  obtain ⟨a, len, cap, rfl⟩ := okWide_slice Tryd.underlying37 hv
  obtain ⟨fuel, hf⟩ := h
  rcases Go.Deep.open_slice1 Tryd.underlying37 (show Tryd.prog.cellsOf 36 = 1 by kernel_rfl) (by simpa [Value.cells] using hf) with ⟨hcs, hx⟩ | ⟨x, l, c, m, n, V, D, Pl, hcs, _, hl, hm, hme, hx, hall⟩
  · simp at hcs
    obtain ⟨rfl, rfl, rfl⟩ := hcs
    exact ⟨[], [], ⟨none, 0, rfl, rfl, fun hp => by simp at hp, fun i hi => by simp at hi⟩, by simp, by simp [tot]⟩
  · simp at hcs
    obtain ⟨rfl, rfl, rfl⟩ := hcs
    have hlm : len ≤ m := by rw [hme]; simp; omega
    have hdd : d = .slice ((List.range len).map D) ((List.range (m - len)).map fun j => D (len + j)) := congrArg Prod.fst hx
    have hball : Rows.uptoBulkAll ((List.range len).map D) ≤ 1048576 := by
      rw [hdd] at hd
      simp only [Rows.uptoBulk] at hd
      omega
    have each : ∀ i, i < len → ∃ bs : List Int, W.cell? (x.add i) = some (V i) ∧ Slc W (V i) bs ∧ bs.length ≤ Rows.uptoBulk (D i) := by
      intro i hi
      obtain ⟨hc, ht⟩ := hall i (by omega)
      rcases open_ints Tryd.underlying36 Tryd.underlying3 (by kernel_rfl) ht with ⟨hcs, _⟩ | ⟨x1, l1, c1, zs, hcs, _, hl1, hm1, hz, hx1, hcell, hwz⟩
      · simp at hcs
        rw [hcs] at hc ⊢
        exact ⟨[], hc, ⟨none, 0, rfl, Nat.le_refl _, fun hp => by simp at hp⟩, by simp⟩
      · simp at hcs
        rw [hcs] at hc ⊢
        have hzl : l1 ≤ zs.length := by rw [hz]; split <;> omega
        have hlen : (zs.take l1).length = l1 := by rw [List.length_take]; omega
        refine ⟨zs.take l1, hc, ⟨some x1, c1, by rw [hlen], by rw [hlen]; exact hl1, fun hp => ?_⟩, ?_⟩
        · obtain ⟨b, off, rfl, hc1⟩ := ints_at hcell (by omega)
          refine ⟨b, off, rfl, fun k hk => ?_⟩
          rw [hc1 k (by omega)]
          have : k < l1 := by omega
          simp [List.getD, this]
        · have e : D i = .slice (lits .i64 (zs.take l1)) (lits .i64 (zs.drop l1)) := congrArg Prod.fst hx1
          rw [e]
          have h1 := bulk_len (H := H) (lits .i64 (zs.take l1))
          simp only [Rows.uptoBulk]
          have h2 : (lits (H := H) .i64 (zs.take l1)).length = (zs.take l1).length := by simp [lits]
          omega
    haveI : Inhabited (List Int) := ⟨[]⟩
    obtain ⟨f, hf'⟩ := Go.Deep.choose_lt each
    have hlen : ((List.range len).map f).length = len := by simp
    have hu : ∀ i, i < len → ((List.range len).map V).getD i vnil = V i := fun i hi => by simp [List.getD, hi]
    refine ⟨(List.range len).map f, (List.range len).map V, ⟨some x, cap, by rw [hlen], by simp, fun hp => ?_, fun i hi => ?_⟩, ?_, ?_⟩
    · rw [hlen] at hp
      obtain ⟨hc, _⟩ := hf' 0 hp
      obtain ⟨xb, xo, xs⟩ := x
      have hb : xs = none := by simpa [Addr.add] using World.cell?_spot hc
      subst hb
      refine ⟨xb, xo, rfl, fun i hi => ?_⟩
      rw [hlen] at hi
      obtain ⟨hc, hr⟩ := hf' i hi
      rw [add_none] at hc
      rw [hu i hi]
      exact hc
    · rw [hlen] at hi
      have : la ((List.range len).map f) i = f i := by simp [la, List.getD, hi]
      rw [this, hu i hi]
      exact (hf' i hi).2.1
    · have := bulk_len ((List.range len).map D)
      simp only [List.length_map, List.length_range] at this ⊢
      omega
    · have := bulk_sum (List.range len) f D (fun i hi => (hf' i (by simpa using hi)).2.2)
      omega
end Go.Proofs.YtjlmkmhggkcbhaaDoor
