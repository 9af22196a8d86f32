/- Where a letter stands: cmp.Compare, BinarySearchFunc, find; isNode. -/
import Derived.Test.YtaiklaipdocdmaaDoorNtMem
namespace Go.Proofs.YtaiklaipdocdmaaDoor
open Go.ChangeShapes Go.WideShapes Go.ChangeAt Go.RowKit
set_option maxRecDepth 100000
attribute [local go_sem] World.cell?_alloc_some frozen_alloc_some

def cmpI (x y : Int) : Int := if x < y then -1 else if y < x then 1 else 0
theorem compare_is (x y : Int) (w : World) : Calls Tryd.prog 71 #[.int .i64 x, .int .i64 y] w fun e w' => e = .returned (.int .i64 (cmpI x y)) ∧ w' = w := by
  unfold cmpI
  by_cases h1 : x < y
  · rw [if_pos h1]
    go_enter Tryd.func71, Tryd.ntmps71
    go_wp2
    go_ret
    exact ⟨rfl, rfl⟩
  · rw [if_neg h1]
    by_cases h2 : y < x
    · rw [if_pos h2]
      go_enter Tryd.func71, Tryd.ntmps71
      go_wp2
      go_ret
      exact ⟨rfl, rfl⟩
    · rw [if_neg h2]
      go_enter Tryd.func71, Tryd.ntmps71
      go_wp2
      go_ret
      exact ⟨rfl, rfl⟩
theorem find1_is (w : World) (l : Lp) (t : Int) : Calls Tryd.prog 70 #[vL l, .int .i64 t] w fun e w' => e = .returned (.int .i64 (cmpI l.1.nu t)) ∧ Below w.heap.size w w' := by
  obtain ⟨⟨nu, fr, to, bs⟩, a, c⟩ := l
  simp only [vL, bv]
  have HC := fun W => mkHid (compare_is nu t W)
  go_enter Tryd.func70, Tryd.ntmps70
  go_wp2_with (go_at_call 71; refine (HC _).out.mono ?_; rintro r w' ⟨rfl, rfl⟩)
  go_ret
  exact ⟨rfl, ba (Below.refl _ _) _⟩
abbrev fnFind : Value := .func (.func 70) #[] #[]
set_option maxHeartbeats 6400000 in
theorem bsearch_is (w : World) (v : Value) (ps : List Lp) (t : Int) (h : RowIn 4 cl w v ps) (hl : ps.length ≤ 4096) (K : Nat) (hK : K ≤ ps.length) (hlo : ∀ j l, ps[j]? = some l → j < K → l.1.nu < t) (hhi : ∀ j l, ps[j]? = some l → K ≤ j → t ≤ l.1.nu) (b : Bool) (hb : b = true ↔ ∃ l, ps[K]? = some l ∧ l.1.nu = t) :
    Calls Tryd.prog 69 #[v, .int .i64 t, fnFind] w fun e w' => e = .returned (.tuple #[.int .i64 (K : Int), .bool b]) ∧ Below w.heap.size w w' := by
  obtain ⟨a, cap, rfl, hcap⟩ := h.shape
  have HE := mkHid h
  have HLO := mkHid hlo
  have HHI := mkHid hhi
  have HBB := mkHid hb
  clear h hlo hhi hb
  simp only [fnFind]
  go_enter Tryd.func69, Tryd.ntmps69
  go_wp2
  go_loopw [9, 10, 11] (fun iv jv _ wr => ∃ i j : Nat, iv = .int .i64 (i : Int) ∧ jv = .int .i64 (j : Int) ∧ i ≤ K ∧ K ≤ j ∧ j ≤ ps.length ∧ Hid (Below w.heap.size w wr)) (fun iv jv _ _ => (intOf jv).toNat - (intOf iv).toNat)
  case atStart => exact ⟨0, ps.length, rfl, rfl, Nat.zero_le _, hK, Nat.le_refl _, mkHid (Below.refl _ _)⟩
  case round =>
    obtain ⟨i, j, rfl, rfl, hi, hj, hjl, HB⟩ := hrel
    by_cases hlt : i < j
    · have hm : (i + j) / 2 < ps.length := by omega
      obtain ⟨g, off, l, rfl, hxj, hat⟩ := HE.out.at HB.out ((i + j) / 2) hm
      have q0 := hat 0 _ (by omega) rfl
      have q1 := hat 1 _ (by omega) rfl
      have q2 := hat 2 _ (by omega) rfl
      have q3 := hat 3 _ (by omega) rfl
      obtain ⟨⟨nu, fr, to, bs⟩, la, lc⟩ := l
      simp only [bv, Nat.add_zero] at q0 q1 q2 q3
      have hlti : (i : Int) < (j : Int) := by omega
      have HC := fun W => mkHid (find1_is W (⟨nu, fr, to, bs⟩, la, lc) t)
      simp only [vL, bv] at HC
      have HXJ := mkHid hxj
      clear hat hxj
      by_cases hc : nu < t
      · have hcv : cmpI nu t = -1 := by unfold cmpI; rw [if_pos hc]
        have hk : (i + j) / 2 < K := by
          apply Decidable.byContradiction; intro hn
          have := HHI.out _ _ HXJ.out (by omega); simp only at this; omega
        rw [hcv] at HC
        go_wp2_with (go_at_call 70; refine (HC _).out.mono ?_; rintro r w' ⟨rfl, hb⟩; have HB2 := mkHid (bt HB.out hb); clear hb)
        go_roundw
        case rel => exact ⟨(i + j) / 2 + 1, j, by first | go_num | (congr 1; omega), rfl, by omega, hj, hjl, HB2⟩
        case measure => simp [intOf]; omega
      · have hcv : ¬ cmpI nu t < 0 := by unfold cmpI; rw [if_neg hc]; split <;> omega
        have hk : K ≤ (i + j) / 2 := by
          apply Decidable.byContradiction; intro hn
          have := HLO.out _ _ HXJ.out (by omega); simp only at this; omega
        obtain ⟨cv, hcv2⟩ : ∃ cv, cv = cmpI nu t := ⟨_, rfl⟩
        rw [← hcv2] at HC hcv
        clear hcv2
        go_wp2_with (go_at_call 70; refine (HC _).out.mono ?_; rintro r w' ⟨rfl, hb⟩; have HB2 := mkHid (bt HB.out hb); clear hb)
        go_roundw
        case rel => exact ⟨i, (i + j) / 2, rfl, by first | go_num | (congr 1; omega), hi, hk, by omega, HB2⟩
        case measure => simp [intOf]; omega
    · obtain rfl : i = j := by omega
      obtain rfl : i = K := by omega
      by_cases hkl : i < ps.length
      · obtain ⟨g, off, l, rfl, hxj, hat⟩ := HE.out.at HB.out i hkl
        have q0 := hat 0 _ (by omega) rfl
        have q1 := hat 1 _ (by omega) rfl
        have q2 := hat 2 _ (by omega) rfl
        have q3 := hat 3 _ (by omega) rfl
        obtain ⟨⟨nu, fr, to, bs⟩, la, lc⟩ := l
        simp only [bv, Nat.add_zero] at q0 q1 q2 q3
        have HC := fun W => mkHid (find1_is W (⟨nu, fr, to, bs⟩, la, lc) t)
        simp only [vL, bv] at HC
        have hge := HHI.out i _ hxj (Nat.le_refl _)
        simp only at hge
        have hbe : b = (cmpI nu t == 0) := by
          rw [Bool.eq_iff_iff, HBB.out, hxj]
          unfold cmpI
          rw [if_neg (by omega)]
          simp only [Option.some.injEq, exists_eq_left', beq_iff_eq]
          split <;> simp <;> omega
        have hii : (i : Int) < (ps.length : Int) := by omega
        clear hat hxj hge
        subst hbe
        clear HBB
        obtain ⟨cv, hcv2⟩ : ∃ cv, cv = cmpI nu t := ⟨_, rfl⟩
        rw [← hcv2] at HC
        have HCV := mkHid hcv2
        clear hcv2
        go_wp2_with (go_at_call 70; refine (HC _).out.mono ?_; rintro r w' ⟨rfl, hb⟩; have HB2 := mkHid (bt HB.out hb); clear hb)
        go_ret2
        exact ⟨by rw [HCV.out]; rfl, HB2.out⟩
      · have hbe : b = false := by
          rw [← Bool.not_eq_true, HBB.out]
          rintro ⟨l, hx, _⟩
          have := (List.getElem?_eq_some_iff.mp hx).1
          omega
        subst hbe
        have hii : ¬ (i : Int) < (ps.length : Int) := by omega
        go_wp2
        go_ret2
        exact ⟨rfl, HB.out⟩
end Go.Proofs.YtaiklaipdocdmaaDoor
