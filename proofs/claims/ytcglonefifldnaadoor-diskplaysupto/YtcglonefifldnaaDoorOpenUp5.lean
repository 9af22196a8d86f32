/- How much a list of calls of a disk is, by the datum's bulk. -/
import Derived.Test.YtcglonefifldnaaDoorOpenOps5
import Derived.Test.YtcglonefifldnaaDoorRows
namespace Go.Proofs.YtcglonefifldnaaDoor
open Go.ChangeShapes Go.WideShapes Go.ChangeAt Go.RowKit

theorem bulk_one {H : Type} (d : DataW H) : 1 ≤ Rows.uptoBulk d := by
  cases d with
  | lit l => cases l <;> simp [Rows.uptoBulk]
  | _ => simp [Rows.uptoBulk]
theorem bulk_len {H : Type} (l : List (DataW H)) : l.length ≤ Rows.uptoBulkAll l := by
  induction l with
  | nil => simp
  | cons x r ih =>
    have := bulk_one x
    simp only [Rows.uptoBulkAll, List.length_cons]; omega
theorem bulk_mem {H : Type} {d : DataW H} {l : List (DataW H)} (h : d ∈ l) : Rows.uptoBulk d ≤ Rows.uptoBulkAll l := by
  induction l with
  | nil => cases h
  | cons x r ih =>
    simp only [Rows.uptoBulkAll]
    rcases List.mem_cons.1 h with e | e
    · subst e; omega
    · have := ih e; omega
theorem bulk_part {H : Type} {l : List (DataW H)} (hk : Rows.uptoSmall H l = true) {d : DataW H} (h : d ∈ l) : Rows.uptoBulk d ≤ 1048576 := by
  have h1 : Rows.uptoBulkAll l ≤ 1048576 := of_decide_eq_true hk
  have h2 := bulk_mem h
  omega
theorem bulk_op {H : Type} {e0 e1 e2 e3 e4 : DataW H} {bs : List Int} (h : (e4 = .nil ∧ bs = []) ∨ ∃ es ss, e4 = .slice es ss ∧ es.length = bs.length) : bs.length ≤ Rows.uptoBulk (.agg [e0, e1, e2, e3, e4]) := by
  have h3 : bs.length ≤ Rows.uptoBulk e4 := by
    rcases h with ⟨rfl, rfl⟩ | ⟨es, ss, rfl, hl⟩
    · simp
    · have := bulk_len es
      simp only [Rows.uptoBulk]
      omega
  simp only [Rows.uptoBulk, Rows.uptoBulkAll]
  omega
theorem open_ops_up {H : Type} {enc : TypeId × Value → H} {W : World} {base : Nat} {v : Value} {d : DataW H} {p : List MemPlace}
    (hv : Value.okWide Tryd.prog W .any base 22 v) (h : DataW.Trod enc Tryd.prog W 0 (fun _ => true) true 22 v d p) (hd : Rows.uptoBulk d ≤ 1048576) :
    ∃ xs, Ops W v xs ∧ xs.length ≤ 1048576 ∧ ∀ x ∈ xs, x.bs.length ≤ 1048576 := by
  obtain ⟨a, len, cap, rfl⟩ := okWide_slice Tryd.underlying22 hv
  obtain ⟨fuel, hf⟩ := h
  rcases Go.Deep.open_slice Tryd.underlying22 (by simpa [Value.cells] using hf) with ⟨hcs, hx⟩ | ⟨x, l, c, m, n, D, Pl, hcs, _, hl, hm, hme, hx, hall⟩
  · simp at hcs
    obtain ⟨rfl, rfl, rfl⟩ := hcs
    exact ⟨[], ⟨none, 0, rfl, by simp, fun hp => by simp at hp⟩, by simp, by simp⟩
  · simp at hcs
    obtain ⟨rfl, rfl, rfl⟩ := hcs
    have hlm : len ≤ m := by rw [hme]; simp; omega
    have hdd : d = .slice ((List.range len).map D) ((List.range (m - len)).map fun j => D (len + j)) := congrArg Prod.fst hx
    have hball : Rows.uptoBulkAll ((List.range len).map D) ≤ 1048576 := by
      rw [hdd] at hd
      simp only [Rows.uptoBulk] at hd
      omega
    have each : ∀ i, i < len → ∃ y : OpD, (∃ b o, x.add (i * 5) = ⟨b, o, none⟩ ∧ OpAt W b o y) ∧ y.bs.length ≤ 1048576 := by
      intro i hi
      obtain ⟨cs, hc, ht⟩ := hall i (by omega)
      rw [cellsOp] at hc
      obtain ⟨b, o, y, hx', hat, e0, e1, e2, e3, e4, he, hb⟩ := open_op hc ht
      refine ⟨y, ⟨b, o, hx', hat⟩, ?_⟩
      have h1 := bulk_op (e0 := e0) (e1 := e1) (e2 := e2) (e3 := e3) hb
      rw [← he] at h1
      have h2 := bulk_mem (d := D i) (l := (List.range len).map D) (List.mem_map.mpr ⟨i, by simpa using hi, rfl⟩)
      omega
    haveI : Inhabited OpD := ⟨⟨0, 0, 0, 0, .slice none 0 0, []⟩⟩
    obtain ⟨f, hf'⟩ := Go.Deep.choose_lt each
    have hlen : ((List.range len).map f).length = len := by simp
    refine ⟨(List.range len).map f, ⟨some x, cap, by rw [hlen], by rw [hlen]; unfold maxLen at hm; omega, fun hp => ?_⟩, ?_, fun y hy => ?_⟩
    · rw [hlen] at hp
      obtain ⟨⟨b, o, he, hat⟩, _⟩ := hf' 0 hp
      obtain ⟨xb, xo, xs⟩ := x
      simp [Addr.add] at he
      obtain ⟨rfl, rfl, rfl⟩ := he
      refine ⟨xb, xo, rfl, World.block_lt_of_cell? W _ hat.1, fun k y hk => ?_⟩
      have hkl : k < len := by
        have := (List.getElem?_eq_some_iff.mp hk).1
        simpa using this
      obtain ⟨⟨b, o, he, hat'⟩, _⟩ := hf' k hkl
      rw [add_plain] at he
      simp at he
      obtain ⟨rfl, rfl⟩ := he
      have : y = f k := by simpa [hkl] using hk.symm
      rw [this]
      exact hat'
    · have := bulk_len ((List.range len).map D)
      simp at this ⊢
      omega
    · obtain ⟨i, hi, rfl⟩ := List.mem_map.mp hy
      exact (hf' i (by simpa using hi)).2
end Go.Proofs.YtcglonefifldnaaDoor
