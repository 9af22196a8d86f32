/- What the document's Sum of a list answers: the exact sum, or that it doesn't fit. -/
import Derived.Test.YtpjlppffehjemaaBig2
import Derived.Test.YtpjlppffehjemaaSum
namespace Go.Proofs.Ytpjlppffehjemaa
open Go.ChangeShapes Go.WideShapes Go.ChangeAt Go.RowKit

theorem cell_block {w : World} {a : Addr} {v : Value} (h : w.cell? a = some v) : a.block < w.heap.size := by
  refine Nat.lt_of_not_le fun hge => ?_
  unfold World.cell? at h
  rw [Array.getElem?_eq_none hge] at h
  simp at h
theorem Reads.later {w w' : World} {v : Value} {zs : List Int} (h : Reads w v zs) (hb : Below w.heap.size w w') : Reads w' v zs := by
  obtain ⟨a, cap, rfl, hz, hr⟩ := h
  refine ⟨a, cap, rfl, hz, fun h0 => ?_⟩
  obtain ⟨b, off, rfl, hc⟩ := hr h0
  refine ⟨b, off, rfl, fun k hk => ?_⟩
  rw [hb.cell (p := ⟨b, off + k, none⟩) (cell_block (hc k hk))]
  exact hc k hk
def fu (z : Int) : Int := if z < 0 then 0 else z
def fd (z : Int) : Int := if z < 0 then -z else 0
theorem map_take_sum (f : Int → Int) (zs : List Int) (k : Nat) (h : k < zs.length) : ((zs.take (k + 1)).map f).sum = ((zs.take k).map f).sum + f (zs.getD k 0) := by
  rw [List.take_succ_eq_append_getElem h, List.map_append, List.sum_append]
  simp [List.getD, h]
theorem up_down (zs : List Int) : (zs.map fu).sum - (zs.map fd).sum = zs.sum := by
  induction zs with
  | nil => rfl
  | cons z zs ih =>
    simp only [List.map_cons, List.sum_cons]
    have : fu z - fd z = z := by unfold fu fd; split <;> omega
    omega
theorem less_is {ps qs : List Int} {va vb : Value} {w : World} {r : Bool} (ha : Num w va ps) (hb : Num w vb qs) (la : ps.length ≤ 30000000000000) (lb : qs.length ≤ 30000000000000) (hr : Hid (decide (val ps < val qs) = r)) :
    Calls Try.prog 29 #[va, vb] w fun e w' => e = .returned (.bool r) ∧ w' = w := by
  rw [← hr.out]
  exact less_any ps qs va vb w ha hb la lb
/-- The sum as far as place k: what is above 0, what is below. -/
def Sums (zs : List Int) (k : Nat) (wr : World) (uv dv : Value) : Prop :=
  ∃ us ds, Num wr uv us ∧ Num wr dv ds ∧ us.length ≤ 4 + k ∧ ds.length ≤ 4 + k ∧ val us = ((zs.take k).map fu).sum ∧ val ds = ((zs.take k).map fd).sum
set_option maxHeartbeats 1600000 in
theorem refSum_any (zs : List Int) (S : Int) (v : Value) (w : World) (hl : zs.length ≤ 20000000000000) (h : Reads w v zs) (hS : Hid (S = zs.sum)) :
    Calls Try.prog 11 #[v] w fun e w' => e = .returned (.tuple #[.int .i64 (fitN S), .bool (fitB S)]) ∧ Below w.heap.size w w' := by
  obtain ⟨a, cap, rfl, hz, hr⟩ := h
  go_enter Try.func11, Try.ntmps11
  go_wp2
  go_loopw [4, 5, 12] (fun uv dv iv wr => ∃ k : Nat, k ≤ zs.length ∧ iv = .int .i64 k ∧ Sums zs k wr uv dv ∧ Below w.heap.size w wr)
    (fun _ _ iv _ => zs.length - (intOf iv).toNat)
  case atStart =>
    refine ⟨0, Nat.zero_le _, rfl, ⟨[], [], num_empty _ _ _, num_empty _ _ _, by simp, by simp, by simp [val], by simp [val]⟩, ?_⟩
    exact ((Below.refl _ _).alloc (Nat.le_refl _) _).alloc (by simp) _
  case round =>
    obtain ⟨k, hk, rfl, ⟨us, ds, nu, nd, lu, ld, eu, ed⟩, hbel⟩ := hrel
    have HU : Hid _ := eu
    have HD : Hid _ := ed
    clear eu ed
    by_cases hlt : k < zs.length
    · obtain ⟨b, off, rfl, hc⟩ := hr (by omega)
      have hcell : wr.cell? ⟨b, off + k, none⟩ = some (.int .i64 (zs.getD k 0)) := by
        rw [hbel.cell (p := ⟨b, off + k, none⟩) (cell_block (hc k hlt))]; exact hc k hlt
      have hn : -9223372036854775808 ≤ zs.getD k 0 ∧ zs.getD k 0 ≤ 9223372036854775807 := by
        have : zs.getD k 0 ∈ zs := by simp [List.getD, hlt]
        exact hz _ this
      have HS1 : Hid (((zs.take (k + 1)).map fu).sum = ((zs.take k).map fu).sum + fu (zs.getD k 0)) := map_take_sum fu zs k hlt
      have HS2 : Hid (((zs.take (k + 1)).map fd).sum = ((zs.take k).map fd).sum + fd (zs.getD k 0)) := map_take_sum fd zs k hlt
      clear hc hz hr
      generalize zs.getD k 0 = n at *
      by_cases hneg : n < 0
      · have e1 : fu n = 0 := by unfold fu; rw [if_pos hneg]
        have e2 : fd n = -n := by unfold fd; rw [if_pos hneg]
        rw [e1] at HS1
        rw [e2] at HS2
        clear e1 e2
        go_wp2_with (first | (go_at_call 20; refine (amount_ref _ _ (by omega) (by omega)).mono ?_; rintro e wx ⟨rfl, hw⟩; rw [hw]; clear hw) | (go_at_call 26; refine (of_any _ _ (by omega) (by omega)).mono ?_; rintro e w1 ⟨v1, d1, rfl, n1, e1, l1, b1⟩) | (go_at_call 28; refine (plus_any ds d1 _ _ _ (nd.later b1) n1 (by omega) (by omega)).mono ?_; rintro e w2 ⟨v2, d2, rfl, n2, e2, l2, b2⟩))
        go_roundw
        case rel =>
          refine ⟨k + 1, by omega, by go_num, ⟨us, d2, (nu.later b1).later b2, n2, by omega, by omega, ?_, ?_⟩, hbel.trans ((b1.mono hbel.size).trans (b2.mono (Nat.le_trans hbel.size b1.size)))⟩
          · rw [HS1.out, HU.out]; omega
          · rw [HS2.out, e2, e1, HD.out]; omega
        case measure => simp [intOf]; omega
      · have e1 : fu n = n := by unfold fu; rw [if_neg hneg]
        have e2 : fd n = 0 := by unfold fd; rw [if_neg hneg]
        rw [e1] at HS1
        rw [e2] at HS2
        clear e1 e2
        go_wp2_with (first | (go_at_call 20; refine (amount_ref _ _ (by omega) (by omega)).mono ?_; rintro e wx ⟨rfl, hw⟩; rw [hw]; clear hw) | (go_at_call 26; refine (of_any _ _ (by omega) (by omega)).mono ?_; rintro e w1 ⟨v1, d1, rfl, n1, e1, l1, b1⟩) | (go_at_call 28; refine (plus_any us d1 _ _ _ (nu.later b1) n1 (by omega) (by omega)).mono ?_; rintro e w2 ⟨v2, d2, rfl, n2, e2, l2, b2⟩))
        go_roundw
        case rel =>
          refine ⟨k + 1, by omega, by go_num, ⟨d2, ds, n2, (nd.later b1).later b2, by omega, by omega, ?_, ?_⟩, hbel.trans ((b1.mono hbel.size).trans (b2.mono (Nat.le_trans hbel.size b1.size)))⟩
          · rw [HS1.out, e2, e1, HU.out]; omega
          · rw [HS2.out, HD.out]; omega
        case measure => simp [intOf]; omega
    · have hz1 : zs.take k = zs := List.take_of_length_le (by omega)
      have HT : Hid (val us - val ds = zs.sum) := by show val us - val ds = zs.sum; rw [HU.out, HD.out, hz1, up_down]
      clear HU HD hr hz hz1
      by_cases hc : val us < val ds
      · have hc' : Hid (decide (val us < val ds) = true) := decide_eq_true hc
        have hle : val us ≤ val ds := by omega
        clear hc
        go_wp2_with (first | (go_at_call 29; refine (less_is nu nd (by omega) (by omega) hc').mono ?_; rintro e wx ⟨rfl, hw⟩; rw [hw]; clear hw) | (go_at_call 30; refine (minus_any ds us _ _ _ nd nu (by omega) (by omega) hle).mono ?_; rintro e w1 ⟨v1, d1, rfl, n1, e1, l1, b1⟩) | (go_at_call 24; refine (whole_neg d1 _ _ n1 (by omega)).mono ?_; rintro e wx ⟨rfl, hw⟩; rw [hw]; clear hw))
        go_ret2
        have hs : -(val ds - val us) = S := by rw [hS.out, ← HT.out]; omega
        exact ⟨by rw [← hs]; rfl, hbel.trans (b1.mono hbel.size)⟩
      · have hc' : Hid (decide (val us < val ds) = false) := decide_eq_false hc
        have hle : val ds ≤ val us := by omega
        clear hc
        go_wp2_with (first | (go_at_call 29; refine (less_is nu nd (by omega) (by omega) hc').mono ?_; rintro e wx ⟨rfl, hw⟩; rw [hw]; clear hw) | (go_at_call 30; refine (minus_any us ds _ _ _ nu nd (by omega) (by omega) hle).mono ?_; rintro e w1 ⟨v1, d1, rfl, n1, e1, l1, b1⟩) | (go_at_call 24; refine (whole_pos d1 _ _ n1 (by omega)).mono ?_; rintro e wx ⟨rfl, hw⟩; rw [hw]; clear hw))
        go_ret2
        have hs : val us - val ds = S := by rw [hS.out]; exact HT.out
        exact ⟨by rw [← hs]; rfl, hbel.trans (b1.mono hbel.size)⟩
end Go.Proofs.Ytpjlppffehjemaa
