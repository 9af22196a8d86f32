/- Reading numbers into an array: getAll; entries and tasks of their numbers. -/
import Derived.Test.YtjocjkfllicjdaaDoorOput
import Derived.Test.YtjocjkfllicjdaaDoorPiece2
namespace Go.Proofs.YtjocjkfllicjdaaDoor
open Go.ChangeShapes Go.WideShapes Go.ChangeAt Go.RowKit
set_option maxRecDepth 100000
attribute [local go_sem] World.cell?_alloc_some frozen_alloc_some

/-- No n numbers stand at the beginning. -/
def NoN (rest : List Int) (n : Nat) : Prop := ∃ L r, L.length < n ∧ (∀ x ∈ L, amt x) ∧ rest = encL L ++ r ∧ ∀ (N : Nat) (s : List Int), (N : Int) ≤ 1099511627776 → r ≠ enc N ++ s
theorem NoN.no {rest : List Int} {n : Nat} (h : NoN rest n) {M s : List Int} (hM : ∀ x ∈ M, amt x) (hn : n ≤ M.length) : rest ≠ encL M ++ s := by
  obtain ⟨L, r, hL, ha, rfl, hr⟩ := h
  intro e
  have hx : M[L.length]? = some (M[L.length]'(by omega)) := List.getElem?_eq_getElem (by omega)
  have hp : M = M.take L.length ++ M.drop L.length := (List.take_append_drop _ _).symm
  rw [hp, encL_append, List.append_assoc] at e
  obtain ⟨_, h2⟩ := encL_free L (M.take L.length) r _ (fun n hn => (ha n hn).1) (fun n hn => (hM n (List.mem_of_mem_take hn)).1) (by simp; omega) e
  rw [List.drop_eq_getElem_cons (by omega), encL_cons, List.append_assoc] at h2
  have hm := hM _ (List.getElem_mem (l := M) (n := L.length) (by omega))
  exact hr _ _ (by have := hm.1; have := hm.2; omega) h2
def zs (n : Nat) : List Value := List.replicate n (.int .i64 0)
def arrOf (ns : List Int) (n : Nat) : Array Value := (ns.map (Value.int .i64) ++ zs (n - ns.length)).toArray
theorem arrOf_at {ns : List Int} {n : Nat} (h : ns.length < n) : (arrOf ns n)[ns.length]? = some (.int .i64 0) := by
  unfold arrOf zs
  rw [List.getElem?_toArray, List.getElem?_append_right (by simp), List.getElem?_replicate, if_pos (by simp; omega)]
theorem arrOf_set {ns : List Int} {n : Nat} (h : ns.length < n) (x : Int) : (arrOf ns n).set! ns.length (.int .i64 x) = arrOf (ns ++ [x]) n := by
  unfold arrOf zs
  rw [show n - ns.length = (n - (ns ++ [x]).length) + 1 by simp; omega, List.replicate_succ]
  simp
theorem arrOf_full {ns : List Int} {n : Nat} (h : ns.length = n) : arrOf ns n = (ns.map (Value.int .i64)).toArray := by
  unfold arrOf zs
  simp [h]
theorem num_or (rest : List Int) : ∀ n : Nat, (∃ M s, M.length = n ∧ (∀ x ∈ M, amt x) ∧ rest = encL M ++ s) ∨ NoN rest n
  | 0 => .inl ⟨[], rest, rfl, by simp, rfl⟩
  | n + 1 => by
    rcases num_or rest n with ⟨M, s, rfl, hM, rfl⟩ | ⟨L, r, hL, ha, e, hr⟩
    · by_cases h : ∃ (N : Nat) (t : List Int), (N : Int) ≤ 1099511627776 ∧ s = enc N ++ t
      · obtain ⟨N, t, hN, rfl⟩ := h
        refine .inl ⟨M ++ [(N : Int)], t, by simp, fun x hx => ?_, by simp [encL_append, encL_cons, encL_nil]⟩
        rcases List.mem_append.mp hx with hx | hx
        · exact hM x hx
        · simp at hx; subst hx; exact ⟨by omega, hN⟩
      · exact .inr ⟨M, s, by omega, hM, rfl, fun N t hN e => h ⟨N, t, hN, e⟩⟩
    · exact .inr ⟨L, r, by omega, ha, e, hr⟩
theorem sizeE : (Tryd.prog.info? 28).map (·.size) = some 10 := by kernel_rfl
theorem sizeT : (Tryd.prog.info? 45).map (·.size) = some 4 := by kernel_rfl
theorem two_of_four' (w : World) (o1 o2 o3 o4 : Obj) : ((((w.alloc o1).alloc o2).alloc o3).alloc o4).heap[w.heap.size + 1]? = some o2 := two_of_four w o1 o2 o3 o4
end Go.Proofs.YtjocjkfllicjdaaDoor
