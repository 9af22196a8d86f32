/- find, isNode, takeOut, Drop, New, Nth. -/
import Derived.Test.YtaiklaipdocdmaaDoorNt2
import Derived.Test.YtaiklaipdocdmaaDoorStoreBx
namespace Go.Proofs.YtaiklaipdocdmaaDoor
open Go.ChangeShapes Go.WideShapes Go.ChangeAt Go.RowKit
set_option maxRecDepth 100000
attribute [local go_sem] World.cell?_alloc_some frozen_alloc_some

theorem NB.ls {own : Nat → Int × Int} {i : Int} {w : World} {p : Nat} {v : Value} {ps : List Lp} {n : Nt} (h : NB own i w p v ps n) {j : Nat} {l : Lp} (hj : ps[j]? = some l) : n.ls[j]? = some l.1 := by
  rw [← h.eq, List.getElem?_map, hj]; rfl
theorem NB.ps {own : Nat → Int × Int} {i : Int} {w : World} {p : Nat} {v : Value} {ps : List Lp} {n : Nt} (h : NB own i w p v ps n) {j : Nat} {l : Lt} (hj : n.ls[j]? = some l) : ∃ x, ps[j]? = some x ∧ x.1 = l := by
  rw [← h.eq, List.getElem?_map] at hj
  obtain ⟨x, hx, e⟩ := Option.map_eq_some_iff.mp hj
  exact ⟨x, hx, e⟩
def FindP (n : Nt) (t : Int) (w : World) (eg : Addr) (e : Ending) (w' : World) : Prop :=
  Below w.heap.size w w' ∧ ((∃ K : Nat, n.find t = some K ∧ e = .returned (.tuple #[.int .i64 (K : Int), .nilIface])) ∨ (n.find t = none ∧ e = .returned (.tuple #[.int .i64 0, vE eg])))
set_option maxHeartbeats 6400000 in
theorem find_is (own : Nat → Int × Int) (i : Int) (w : World) (p : Nat) (v : Value) (ps : List Lp) (n : Nt) (h : NB own i w p v ps n) (t : Int) (eg : Addr) (he : w.cell? ⟨2, 0, none⟩ = some (vE eg)) :
    Calls Tryd.prog 39 #[.pointer (some ⟨p, 0, none⟩), .int .i64 t] w (FindP n t w eg) := by
  obtain ⟨K, hK, hlo, hhi, hc⟩ := find_cut h.ok t
  have hlen := h.len
  have hl4 : ps.length ≤ 4096 := by have := h.ok.len; omega
  obtain ⟨b, hb⟩ : ∃ b : Bool, b = true ↔ ∃ l, ps[K]? = some l ∧ l.1.nu = t := by
    by_cases hx : ∃ l, ps[K]? = some l ∧ l.1.nu = t
    · exact ⟨true, by simp [hx]⟩
    · exact ⟨false, by simp [hx]⟩
  have HBS := mkHid (fun W (hW : Below w.heap.size w W) => bsearch_is W v ps t (h.rin.below hW) hl4 K (by omega) (fun j l hj hk => hlo j l.1 (h.ls hj) hk) (fun j l hj hk => hhi j l.1 (h.ls hj) hk) b hb)
  obtain ⟨c0, _, _, _⟩ := h.cells
  obtain ⟨a, cap, rfl, _⟩ := h.shape
  have HE := mkHid he
  cases b with
  | true =>
    have hf : n.find t = some K := by
      obtain ⟨l, hl, e⟩ := hb.mp rfl
      rcases hc with ⟨hf, _⟩ | ⟨_, hn⟩
      · exact hf
      · exact absurd ⟨l.1, h.ls hl, e⟩ hn
    have HF := mkHid hf
    clear hf hb hc hlo hhi h he hlen hl4 hK
    go_enter Tryd.func39, Tryd.ntmps39
    go_wp2_with (go_at_call 69; refine (HBS.out _ (Below.refl _ _)).mono ?_; rintro r w1 ⟨rfl, b1⟩; have HB1 := mkHid b1; clear b1)
    go_ret2
    exact ⟨HB1.out, .inl ⟨K, HF.out, rfl⟩⟩
  | false =>
    have hf : n.find t = none := by
      rcases hc with ⟨_, l, hl, e⟩ | ⟨hf, _⟩
      · obtain ⟨x, hx, ex⟩ := h.ps hl
        have := hb.mpr ⟨x, hx, by rw [ex]; exact e⟩
        simp at this
      · exact hf
    have HF := mkHid hf
    clear hf hb hc hlo hhi h he hlen hl4 hK
    go_enter Tryd.func39, Tryd.ntmps39
    go_wp2_with (go_at_call 69; refine (HBS.out _ (Below.refl _ _)).mono ?_; rintro r w1 ⟨rfl, b1⟩; have HB1 := mkHid b1; have ce := kc HE.out b1; clear b1)
    go_quiet (fail)
    go_wp2
    go_ret2
    exact ⟨HB1.out.trans ⟨rfl, rfl, rfl, Nat.le_refl _, fun _ _ => rfl⟩, .inr ⟨HF.out, rfl⟩⟩
theorem isNode_is (w : World) (k : Int) : Calls Tryd.prog 37 #[.int .i64 k] w fun e w' => e = .returned (.bool (isN k)) ∧ w' = w := by
  obtain ⟨b, hb⟩ : ∃ b, b = isN k := ⟨_, rfl⟩
  rw [← hb]
  have HB := mkHid hb
  clear hb
  by_cases h0 : k < 0
  · go_enter Tryd.func37, Tryd.ntmps37
    go_wp2
    go_ret
    exact ⟨by rw [HB.out]; unfold isN; rw [decide_eq_false (by omega)]; first | rfl | simp, rfl⟩
  · have h0' : 0 ≤ k := by omega
    by_cases h1 : k < 7
    · go_enter Tryd.func37, Tryd.ntmps37
      go_wp2
      go_ret
      exact ⟨by rw [HB.out]; unfold isN; rw [decide_eq_true h0', decide_eq_true (show k ≤ 6 by omega)]; first | rfl | simp, rfl⟩
    · go_enter Tryd.func37, Tryd.ntmps37
      go_wp2
      go_ret
      exact ⟨by rw [HB.out]; unfold isN; rw [decide_eq_true h0', decide_eq_false (show ¬ k ≤ 6 by omega)]; first | rfl | simp, rfl⟩
/-- A net in new memory. -/
theorem NB.new (own : Nat → Int × Int) (i : Int) (w : World) (h1 : i ≠ 0) (hs : ∀ k, w.heap.size ≤ k → own k = (0, 0)) : NB (fun k => if k = w.heap.size then (i, 1) else own k) i (w.alloc (.cells #[.slice none 0 0, .int .i64 0] 81)) w.heap.size (.slice none 0 0) [] Nt.zero := by
  refine ⟨heap_alloc_new w _, ⟨by simp, .inl ⟨rfl, rfl⟩⟩, rfl, by simp, fun k hk => by simp [Value.ownBlock] at hk, fun l hl => by simp at hl, fun l hl => by simp at hl, fun k hk => ?_, h1, Nt.zero_ok⟩
  have : (w.alloc (.cells #[.slice none 0 0, .int .i64 0] 81)).heap.size = w.heap.size + 1 := by simp
  rw [if_neg (by omega)]
  exact hs k (by omega)
theorem nnew_is (w : World) : Calls Tryd.prog 10 #[] w fun e w' => e = .returned (.pointer (some ⟨w.heap.size, 0, none⟩)) ∧ w' = w.alloc (.cells #[.slice none 0 0, .int .i64 0] 81) := by
  go_enter Tryd.func10, Tryd.ntmps10
  go_wp2
  go_ret
  exact ⟨rfl, rfl⟩
end Go.Proofs.YtaiklaipdocdmaaDoor
