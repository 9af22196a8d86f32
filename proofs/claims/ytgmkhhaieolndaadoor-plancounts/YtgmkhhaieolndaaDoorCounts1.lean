/- Counts: how often each server stands in a list. -/
import Derived.Test.YtgmkhhaieolndaaDoorMcnt
namespace Go.Proofs.YtgmkhhaieolndaaDoor
open Go.ChangeMaps Go.ChangeShapes Go.WideShapes Go.ChangeAt Go.RowKit
attribute [local go_sem] World.cell?_alloc_some frozen_alloc_some

theorem Mc.kept {F : Nat → Prop} {w w' : World} {b : Nat} {L : List (Sv × Nat)} (h : Mc w b L) (hk : Kept F w w') (hn : ¬ F b) : Mc w' b L := by
  obtain ⟨es, hb, he⟩ := h
  exact ⟨es, by rw [hk.block b (Array.getElem?_eq_some_iff.1 hb).1 hn]; exact hb, he⟩
theorem Mc.below {w w' : World} {b : Nat} {L : List (Sv × Nat)} (h : Mc w b L) (hb : Below w.heap.size w w') : Mc w' b L := by
  obtain ⟨es, hx, he⟩ := h
  exact ⟨es, by rw [hb.block b (Array.getElem?_eq_some_iff.1 hx).1]; exact hx, he⟩
theorem Mc.new (w : World) : Mc (w.alloc (.map #[] 0)) w.heap.size [] := ⟨#[], heap_alloc_new w _, rfl⟩
theorem cnts_take {xs : List Sv} {j : Nat} {x : Sv} (hx : xs[j]? = some x) : cnts (xs.take (j + 1)) = bump (cnts (xs.take j)) x := by
  rw [List.take_add_one, hx]
  exact cnts_snoc _ _
set_option maxHeartbeats 1600000 in
theorem counts_is (w : World) (v : Value) (xs : List Sv) (h : Svs w v xs) (hi : ∀ x ∈ xs, I3 x) :
    Calls Tryd.prog 20 #[v] w fun e w' => e = .returned (.map (some w.heap.size)) ∧ Hid (Mc w' w.heap.size (cnts xs) ∧ Below w.heap.size w w') := by
  obtain ⟨a0, cap, rfl, hl, h9⟩ := id h
  have HS := mkHid h
  have HI := mkHid hi
  clear h h9 hi
  have hmm := @run_makeMap Tryd.prog
  go_enter Tryd.func20, Tryd.ntmps20
  go_wp2
  go_loopw [9] (fun iv wr => ∃ j : Nat, iv = .int .i64 (j : Int) ∧ j ≤ xs.length ∧ Hid (Mc wr w.heap.size (cnts (xs.take j)) ∧ Below w.heap.size w wr)) (fun iv _ => xs.length - (intOf iv).toNat)
  case atStart => exact ⟨0, rfl, Nat.zero_le _, mkHid ⟨by simpa [cnts] using Mc.new w, (Below.refl _ _).alloc (Nat.le_refl _) _⟩⟩
  case round =>
    obtain ⟨j, rfl, hj, HM⟩ := hrel
    by_cases hlt : j < xs.length
    · obtain ⟨b, off, k, q, t, rfl, hxj, c0, c1, c2⟩ := HS.out.at HM.out.2 j hlt
      have hji : (j : Int) < xs.length := by omega
      have hs : I3 (k, q, t) := HI.out _ (List.mem_of_getElem? hxj)
      have hx1 := cnts_take hxj
      have hm0 : Mc (wr.alloc (oS (k, q, t))).drew w.heap.size (cnts (xs.take j)) := (HM.out.1.below (ba (Below.refl _ _) _)).below (Below.refl _ _).drew
      have hg := hm0.get _ hs
      obtain ⟨w1, v1, i, L1, he, hm1, hi1, hc1, hb1, hk1⟩ := hm0.entry _ hs
      have hg1 := hm1.get _ hs
      rw [hc1] at hg1
      obtain ⟨w2, hst, hm2, hk2⟩ := hm1.store i (getc (cnts (xs.take j)) (k, q, t) + 1) hi1 49
      rw [hb1, ← hx1] at hm2
      have hle : getc (cnts (xs.take j)) (k, q, t) ≤ j := by have := getc_le (cnts (xs.take j)) (k, q, t); rw [sumc_cnts, List.length_take] at this; omega
      have hlt2 : w.heap.size < wr.heap.size := by obtain ⟨es, hb, _⟩ := HM.out.1; exact (Array.getElem?_eq_some_iff.1 hb).1
      have hbel : Below w.heap.size w (wr.alloc (oS (k, q, t))).drew := (ba HM.out.2 _).drew
      have k1 : Below w.heap.size w w1 := hbel.trans (hk1.below (fun k e => by omega) hbel.size)
      have k2 : Below w.heap.size w w2 := k1.trans (hk2.below (fun k e => by omega) k1.size)
      have HM2 := mkHid (And.intro hm2 k2)
      obtain ⟨n0, n1, n2⟩ : S3 w1 wr.heap.size (k, q, t) := by
        have hs3 : S3 (wr.alloc (oS (k, q, t))).drew wr.heap.size (k, q, t) := (S3.new wr (k, q, t)).below (Below.refl _ _).drew
        exact ⟨hk1.cell hs3.1 (by simp; omega), hk1.cell hs3.2.1 (by simp; omega), hk1.cell hs3.2.2 (by simp; omega)⟩
      generalize getc (cnts (xs.take j)) (k, q, t) = c at hg hg1 hst hle
      have hci : (c : Int) ≤ j := by omega
      push_cast at hst
      clear hxj hx1 hm0 hm1 hm2 hk1 hk2 hb1 hc1 hi1 hbel k1 k2 hmm
      simp only [vS] at hg hg1 he
      go_wp2
      go_region
      all_goals
        go_wp2
        go_roundw
        case rel => exact ⟨j + 1, by go_num, by omega, HM2⟩
        case measure => simp [intOf]; omega
    · obtain rfl : j = xs.length := by omega
      have hm := HM.out
      rw [List.take_of_length_le (Nat.le_refl _)] at hm
      have HM3 := mkHid hm
      clear hm hmm
      go_wp2
      go_ret
      exact ⟨rfl, HM3⟩
end Go.Proofs.YtgmkhhaieolndaaDoor
