/- The document's Until. -/
import Derived.Test.YtilnchlnlnpkfaaDoorDm6
namespace Go.Proofs.YtilnchlnlnpkfaaDoor
open Go.ChangeShapes Go.WideShapes Go.ChangeAt Go.RowKit
set_option maxRecDepth 100000
attribute [local go_sem] World.cell?_alloc_some frozen_alloc_some

theorem treq_nums {c p d s l : Int} (h : okT (c, p, d, s)) (l0 : 0 ≤ l) (l1 : l ≤ 1099511627776) : ∃ A M, l / p = A ∧ IntKind.i64.wrap (A * p) = M ∧ 0 ≤ A ∧ A ≤ 1099511627776 ∧ ((M < l ∧ IntKind.i64.wrap ((A + 1) * c) = treq (c, p, d, s) l) ∨ (¬ M < l ∧ IntKind.i64.wrap (A * c) = treq (c, p, d, s) l)) := by
  obtain ⟨h1, h2, h3, h4, h5, h6⟩ := h
  simp only at h1 h2 h3 h4 h5 h6
  obtain ⟨A, R, a0, r0, r1, hm⟩ := parts0 (T := p) l (by omega) l0
  have a1 : A ≤ l := by have : A * 1 ≤ A * p := Int.mul_le_mul_of_nonneg_left (by omega) a0; omega
  have e1 := bgn_at r0 r1 hm
  obtain ⟨M, hM⟩ : ∃ M, M = A * p := ⟨_, rfl⟩
  have m0 : 0 ≤ M := by rw [hM]; exact Int.mul_nonneg a0 (by omega)
  rw [← hM] at hm
  refine ⟨A, M, (dm r0 r1 (by rw [← hM]; exact hm)).1, by rw [← hM]; exact wfit (by omega) (by omega), a0, by omega, ?_⟩
  have ht : treq (c, p, d, s) l = c * bgn l p := rfl
  rw [ht, e1]
  by_cases hr : R = 0
  · right
    rw [if_pos hr, Int.add_zero, Int.mul_comm c A]
    obtain ⟨p0, p1⟩ := prod_fit (q := c) h1 (by omega) a0 a1 (by omega)
    rw [Int.mul_comm] at p0 p1
    exact ⟨by omega, wfit (by omega) (by omega)⟩
  · left
    rw [if_neg hr, Int.mul_comm c (A + 1)]
    obtain ⟨p0, p1⟩ := prod_fit (q := c) (A := A + 1) (l := l + 1) h1 (by omega) (by omega) (by omega) (by omega)
    rw [Int.mul_comm] at p0 p1
    exact ⟨by omega, wfit (by omega) (by omega)⟩
set_option maxHeartbeats 3200000 in
theorem runtil_is (w : World) (v : Value) (xs : List Tk) (i : Nat) (l : Int) (h : Tks w v xs) (hx : okTs xs) (l0 : 0 ≤ l) (l1 : l ≤ 1099511627776) (hi : i < xs.length) :
    Calls Tryd.prog 26 #[v, .int .i64 (i : Int), .int .i64 l] w fun e w' => e = .returned (.int .i64 (unt xs i l)) ∧ Below w.heap.size w w' := by
  obtain ⟨a0, cap, rfl, hl, h9⟩ := id h
  have HS := mkHid h
  have HX := mkHid hx
  have hx8 : xs.length ≤ 8 := hx.1
  clear h hx h9
  go_enter Tryd.func26, Tryd.ntmps26
  go_wp2
  go_loopw [7, 8, 14] (fun nv bv iv wr => ∃ (j : Nat) (N B : Int), nv = .int .i64 N ∧ bv = .int .i64 B ∧ iv = .int .i64 (j : Int) ∧ j ≤ xs.length ∧ 0 ≤ N ∧ N ≤ 8796093026304 ∧ 0 ≤ B ∧ B ≤ 256 ∧ Hid (tot (treq · l) (xs.take (min j (i + 1))) = N) ∧ Hid (blk ((xs.drop (i + 1)).take (j - (i + 1))) = B) ∧ Hid (Below w.heap.size w wr)) (fun _ _ iv _ => xs.length - (intOf iv).toNat)
  case atStart => exact ⟨0, 0, 0, rfl, rfl, rfl, Nat.zero_le _, by omega, by omega, by omega, by omega, mkHid (by rw [Nat.zero_min]; rfl), mkHid (by rw [Nat.zero_sub]; rfl), mkHid (Below.refl _ _)⟩
  case round =>
    obtain ⟨j, N, B, rfl, rfl, rfl, hj, n0, n1, m0, m1, HN, HM, HB⟩ := hrel
    by_cases hlt : j < xs.length
    · obtain ⟨b, off, c, p, d, s, rfl, hxj, c0, c1, c2, c3⟩ := HS.out.at HB.out j hlt
      have hji : (j : Int) < xs.length := by omega
      have HO := mkHid (HX.out.2 _ (List.mem_of_getElem? hxj))
      obtain ⟨o1, o2, o3, o4, o5, o6⟩ := id HO.out
      simp only at o1 o2 o3 o4 o5 o6
      by_cases hij : i < j
      · have hiji : (i : Int) < j := by omega
        have hd : (xs.drop (i + 1))[j - (i + 1)]? = some (c, p, d, s) := by rw [List.getElem?_drop, show i + 1 + (j - (i + 1)) = j by omega]; exact hxj
        have HU := mkHid (blk_take hd)
        rw [HM.out, show j - (i + 1) + 1 = j + 1 - (i + 1) by omega] at HU
        simp only at HU
        have es : IntKind.i64.wrap (s - 1) = s - 1 := wfit (by omega) (by omega)
        have HK : Hid (tot (treq · l) (xs.take (min (j + 1) (i + 1))) = N) := mkHid (by rw [show min (j + 1) (i + 1) = min j (i + 1) by omega]; exact HN.out)
        have hc : (B < s - 1 ∧ blk ((xs.drop (i + 1)).take (j + 1 - (i + 1))) = s - 1) ∨ (¬ B < s - 1 ∧ blk ((xs.drop (i + 1)).take (j + 1 - (i + 1))) = B) := by
          have e := HU.out
          omega
        clear hd HU hxj
        rcases hc with ⟨y, hv⟩ | ⟨y, hv⟩
        · have HV := mkHid hv
          clear hv
          go_wp2
          go_roundw
          case rel => exact ⟨j + 1, N, s - 1, by go_num, by go_num, by go_num, by omega, n0, n1, by omega, by omega, HK, HV, mkHid (ba HB.out _)⟩
          case measure => simp [intOf]; omega
        · have HV := mkHid hv
          clear hv
          go_wp2
          go_roundw
          case rel => exact ⟨j + 1, N, B, by go_num, by go_num, by go_num, by omega, n0, n1, by omega, by omega, HK, HV, mkHid (ba HB.out _)⟩
          case measure => simp [intOf]; omega
      · have hiji : ¬ (i : Int) < j := by omega
        have HT := mkHid (tot_take (treq · l) hxj)
        have hf := ok_utot HX.out l0 l1 (j + 1)
        obtain ⟨A, M, f1, f2, f3, f4, f5⟩ := treq_nums HO.out l0 l1
        obtain ⟨T, hT⟩ : ∃ T, treq (c, p, d, s) l = T := ⟨_, rfl⟩
        have hN := HN.out
        rw [show min j (i + 1) = j by omega] at hN
        have HK : Hid (tot (treq · l) (xs.take (min (j + 1) (i + 1))) = N + T) := mkHid (by rw [show min (j + 1) (i + 1) = j + 1 by omega, HT.out, hN, hT])
        have hs : 0 ≤ N + T ∧ N + T ≤ 8796093026304 := by have e := HK.out; rw [show min (j + 1) (i + 1) = j + 1 by omega] at e; rw [e] at hf; exact hf
        have ew : IntKind.i64.wrap (N + T) = N + T := wfit (by omega) (by omega)
        have HV : Hid (blk ((xs.drop (i + 1)).take (j + 1 - (i + 1))) = B) := mkHid (by rw [show j + 1 - (i + 1) = 0 by omega]; have := HM.out; rw [show j - (i + 1) = 0 by omega] at this; exact this)
        have HF := mkHid f1
        have p1 : 1 ≤ p := by omega
        rw [hT] at f5
        clear hN HT hxj hf f1 hT
        have HQ : Hid (TkAt (wr.alloc (oT (c, p, d, s))) wr.heap.size 0 (c, p, d, s)) := mkHid (T4.new wr (c, p, d, s))
        rcases f5 with ⟨y, e5⟩ | ⟨y, e5⟩
        · go_wp2_with (go_at_call 36; refine (floor_is _ l p A l0 l1 p1 o4 HF).mono ?_; rintro e w1 ⟨rfl, hw⟩; rw [hw]; clear hw)
          go_roundw
          case rel => exact ⟨j + 1, N + T, B, by go_num, by go_num, by go_num, by omega, hs.1, hs.2, by omega, by omega, HK, HV, mkHid (ba HB.out _)⟩
          case measure => simp [intOf]; omega
        · go_wp2_with (go_at_call 36; refine (floor_is _ l p A l0 l1 p1 o4 HF).mono ?_; rintro e w1 ⟨rfl, hw⟩; rw [hw]; clear hw)
          go_roundw
          case rel => exact ⟨j + 1, N + T, B, by go_num, by go_num, by go_num, by omega, hs.1, hs.2, by omega, by omega, HK, HV, mkHid (ba HB.out _)⟩
          case measure => simp [intOf]; omega
    · obtain rfl : j = xs.length := by omega
      have hN := HN.out
      have hM := HM.out
      rw [show min xs.length (i + 1) = i + 1 by omega] at hN
      rw [List.take_of_length_le (by rw [List.length_drop]; exact Nat.le_refl _)] at hM
      have ht : Hid (unt xs i l = N + B) := mkHid (by unfold unt; rw [hN, hM])
      clear hN hM HN HM
      have ew : IntKind.i64.wrap (N + B) = N + B := wfit (by omega) (by omega)
      go_wp2
      go_ret
      exact ⟨by rw [ht.out]; rfl, HB.out⟩
end Go.Proofs.YtilnchlnlnpkfaaDoor
