/- The document's supply: Bound; and the chapter's example. -/
import Derived.Test.YtldfngkooilmnaaDoorSup5
namespace Go.Proofs.YtldfngkooilmnaaDoor
open Go.ChangeShapes Go.WideShapes Go.ChangeAt Go.RowKit

theorem rbound_whole (w : World) (l : Int) : Calls Tryd.prog 15 #[vS (0, 0, 0), .int .i64 l] w fun e w' => e = .returned (.int .i64 l) ∧ Below w.heap.size w w' := by
  go_enter Tryd.func15, Tryd.ntmps15
  go_wp2
  go_ret
  exact ⟨rfl, ba (Below.refl _ _) _⟩
/-- The numbers of the document's Bound: whole periods that are taken off, and what is left. -/
theorem whole_off {g d q l : Int} (hd : 0 ≤ d) (hq : 1 ≤ q) (hg : g ≤ 3 * (d + q)) (h : 4 * (d + q) < l) : ∃ p L, (l - 3 * (d + q)) / (d + q) = p ∧ L = l - p * (d + q) ∧ 0 ≤ p ∧ 0 ≤ L ∧ L ≤ 4 * (d + q) ∧ p ≤ l ∧ sb g d q l = p * q + sb g d q L := by
  obtain ⟨a, r, ha, h0, h1, h2⟩ := parts0 (T := d + q) (l - 3 * (d + q)) (by omega) (by omega)
  have hp : a * 1 ≤ a * (d + q) := Int.mul_le_mul_of_nonneg_left (by omega) ha
  refine ⟨a, l - a * (d + q), (dm h0 h1 h2).1, rfl, ha, by omega, by omega, by omega, ?_⟩
  have := sb_period (g := g) (l := l - a * (d + q)) hd hq (by omega) a ha
  rw [show l - a * (d + q) + a * (d + q) = l by omega] at this
  omega
set_option maxHeartbeats 3200000 in
theorem rbound_ok (w : World) (s : Sv) (l : Int) (h : okS s) (l0 : 0 ≤ l) (l1 : l ≤ 1099511627776) : Calls Tryd.prog 15 #[vS s, .int .i64 l] w fun e w' => e = .returned (.int .i64 (sb (gS s) (dS s) (qS s) l)) ∧ Below w.heap.size w w' := by
  obtain ⟨k, q, t⟩ := s
  obtain ⟨n1, n2, n3, n4, n5⟩ := (show okW (k, q, t) from .inr h).nums
  have HO : Hid (okW (k, q, t)) := mkHid (.inr h)
  obtain ⟨h1, h2, h3, h4, h5⟩ := h
  simp only at h1 h2 h3 h4 h5
  have hk : ¬ k = 0 := by omega
  have hd : dS (k, q, t) = t - q := by simp [dS, hk]
  have hq : qS (k, q, t) = q := by simp [qS, hk]
  have hg : gS (k, q, t) ≤ t := by simp only [gS, hk, if_false]; split <;> omega
  have HA : Hid (∀ w i, 0 ≤ i → i ≤ 1099511627776 → Calls Tryd.prog 14 #[vS (k, q, t), .int .i64 i] w fun e w' => e = .returned (.bool (sbAt (gS (k, q, t)) (dS (k, q, t)) (qS (k, q, t)) i)) ∧ Below w.heap.size w w') := mkHid (fun w i i0 i1 => at_yes w _ i HO.out i0 i1)
  clear HO
  rw [hd, hq] at *
  generalize gS (k, q, t) = G at *
  generalize hD : t - q = D at *
  have ht : D + q = t := by omega
  have HN : Hid (0 ≤ G ∧ 0 ≤ D ∧ 1 ≤ q) := mkHid ⟨by omega, by omega, by omega⟩
  have t0 : ¬ t = 0 := by omega
  have e4 : IntKind.i64.wrap (4 * t) = 4 * t := wfit (by omega) (by omega)
  have e3 : IntKind.i64.wrap (3 * t) = 3 * t := wfit (by omega) (by omega)
  by_cases hl : 4 * t < l
  · obtain ⟨p, L, f1, f2, f3, f4, f5, f6, f7⟩ := whole_off (g := G) (d := D) (q := q) (l := l) (by omega) (by omega) (by omega) (by omega)
    rw [ht] at f1 f2 f5
    have e5 : IntKind.i64.wrap (l - 3 * t) = l - 3 * t := wfit (by omega) (by omega)
    have e6 : (l - 3 * t).tdiv t = p := by rw [Int.tdiv_eq_ediv_of_nonneg (by omega), f1]
    have e7 : IntKind.i64.wrap p = p := wfit (by omega) (by omega)
    obtain ⟨N, hN⟩ : ∃ N, N = p * q := ⟨_, rfl⟩
    obtain ⟨M, hM⟩ : ∃ M, M = p * t := ⟨_, rfl⟩
    have hN0 : 0 ≤ N := by rw [hN]; exact Int.mul_nonneg f3 (by omega)
    have hN1 : N ≤ 1099511627776 * 256 := by rw [hN]; exact Int.mul_le_mul (by omega) (by omega) (by omega) (by omega)
    have e8 : IntKind.i64.wrap (p * q) = N := by rw [hN] at hN0 hN1 ⊢; exact wfit (by omega) (by omega)
    have e9 : IntKind.i64.wrap (p * t) = M := by rw [← hM]; exact wfit (by omega) (by omega)
    have e10 : IntKind.i64.wrap (l - M) = L := by rw [f2, hM]; exact wfit (by omega) (by omega)
    have HF : Hid (sb G D q l = N + sb G D q L) := mkHid (by rw [hN]; exact f7)
    obtain ⟨m, rfl⟩ := Int.eq_ofNat_of_zero_le f4
    clear f7 f2 f1 hN hM f3 f6
    go_enter Tryd.func15, Tryd.ntmps15
    go_wp2
    clear hq hd n1 n2 n3 n4 n5 hg
    go_loopw [5, 7] (fun nv iv wr => ∃ (j : Nat) (V : Int), nv = .int .i64 V ∧ iv = .int .i64 (j : Int) ∧ j ≤ m ∧ Hid (V = N + sb G D q (j : Int)) ∧ Hid (Below w.heap.size w wr) ∧ Hid (wr.heap[w.heap.size]? = some (.cells #[.int .i64 k, .int .i64 q, .int .i64 t] 23 (0, 0)))) (fun _ iv _ => m - (intOf iv).toNat)
    case atStart => exact ⟨0, N, rfl, rfl, Nat.zero_le _, mkHid (by rw [show ((0 : Nat) : Int) = 0 from rfl, sb_zero HN.out.1 HN.out.2.1 HN.out.2.2]; omega), mkHid (ba (Below.refl _ _) _), mkHid (heap_alloc_new _ _)⟩
    case round =>
      obtain ⟨j, V, rfl, rfl, hj, HV, HB, HR⟩ := hrel
      have hV0 : 0 ≤ V := by rw [HV.out]; have := sb_nonneg (g := G) (d := D) (q := q) (l := (j : Int)) HN.out.1 HN.out.2.1 HN.out.2.2; omega
      have hV1 : V ≤ 1099511627776 * 256 + 1024 := by rw [HV.out]; have := sb_room (g := G) (d := D) (q := q) (l := (j : Int)) HN.out.1 HN.out.2.1 HN.out.2.2 (by omega); omega
      by_cases hlt : j < m
      · have c0 : wr.cell? ⟨w.heap.size, 0, none⟩ = some (.int .i64 k) := cell_of_block (i := 0) HR.out rfl
        have c1 : wr.cell? ⟨w.heap.size, 1, none⟩ = some (.int .i64 q) := cell_of_block (i := 1) HR.out rfl
        have c2 : wr.cell? ⟨w.heap.size, 2, none⟩ = some (.int .i64 t) := cell_of_block (i := 2) HR.out rfl
        have hji : (j : Int) < m := by omega
        have HC := mkHid (HA.out wr (j : Int) (by omega) (by omega))
        cases hb : sbAt G D q (j : Int)
        · have HS := mkHid (sb_no HN.out.2.1 HN.out.2.2 hb)
          rw [hb] at HC
          clear hb
          go_wp2_with (go_at_call 14; refine HC.out.mono ?_; rintro e w1 ⟨rfl, b1⟩; have HB1 := mkHid b1; clear b1)
          go_roundw
          case rel => exact ⟨j + 1, V, by go_num, by go_num, by omega, mkHid (by rw [HV.out, ← HS.out]; rfl), mkHid (bt HB.out HB1.out), mkHid (by rw [HB1.out.block _ (Array.getElem?_eq_some_iff.1 HR.out).1]; exact HR.out)⟩
          case measure => simp [intOf]; omega
        · have HS := mkHid (sb_yes HN.out.2.1 HN.out.2.2 hb)
          rw [hb] at HC
          clear hb
          go_wp2_with (go_at_call 14; refine HC.out.mono ?_; rintro e w1 ⟨rfl, b1⟩; have HB1 := mkHid b1; clear b1)
          go_roundw
          case rel => exact ⟨j + 1, V + 1, by go_num, by go_num, by omega, mkHid (by rw [show ((j + 1 : Nat) : Int) = (j : Int) + 1 from rfl, HS.out]; have := HV.out; omega), mkHid (bt HB.out HB1.out), mkHid (by rw [HB1.out.block _ (Array.getElem?_eq_some_iff.1 HR.out).1]; exact HR.out)⟩
          case measure => simp [intOf]; omega
      · obtain rfl : j = m := by omega
        go_wp2
        go_ret
        exact ⟨by rw [HF.out, ← HV.out]; rfl, HB.out⟩
  · obtain ⟨m, rfl⟩ := Int.eq_ofNat_of_zero_le l0
    have hle : (m : Int) ≤ 4 * t := by omega
    have HF : Hid (sb G D q m = 0 + sb G D q m) := mkHid (by omega)
    go_enter Tryd.func15, Tryd.ntmps15
    go_wp2
    clear hq hd n1 n2 n3 n4 n5 hg
    go_loopw [5, 7] (fun nv iv wr => ∃ (j : Nat) (V : Int), nv = .int .i64 V ∧ iv = .int .i64 (j : Int) ∧ j ≤ m ∧ Hid (V = 0 + sb G D q (j : Int)) ∧ Hid (Below w.heap.size w wr) ∧ Hid (wr.heap[w.heap.size]? = some (.cells #[.int .i64 k, .int .i64 q, .int .i64 t] 23 (0, 0)))) (fun _ iv _ => m - (intOf iv).toNat)
    case atStart => exact ⟨0, 0, rfl, rfl, Nat.zero_le _, mkHid (by rw [show ((0 : Nat) : Int) = 0 from rfl, sb_zero HN.out.1 HN.out.2.1 HN.out.2.2]; omega), mkHid (ba (Below.refl _ _) _), mkHid (heap_alloc_new _ _)⟩
    case round =>
      obtain ⟨j, V, rfl, rfl, hj, HV, HB, HR⟩ := hrel
      have hV0 : 0 ≤ V := by rw [HV.out]; have := sb_nonneg (g := G) (d := D) (q := q) (l := (j : Int)) HN.out.1 HN.out.2.1 HN.out.2.2; omega
      have hV1 : V ≤ 1099511627776 * 256 + 1024 := by rw [HV.out]; have := sb_room (g := G) (d := D) (q := q) (l := (j : Int)) HN.out.1 HN.out.2.1 HN.out.2.2 (by omega); omega
      by_cases hlt : j < m
      · have c0 : wr.cell? ⟨w.heap.size, 0, none⟩ = some (.int .i64 k) := cell_of_block (i := 0) HR.out rfl
        have c1 : wr.cell? ⟨w.heap.size, 1, none⟩ = some (.int .i64 q) := cell_of_block (i := 1) HR.out rfl
        have c2 : wr.cell? ⟨w.heap.size, 2, none⟩ = some (.int .i64 t) := cell_of_block (i := 2) HR.out rfl
        have hji : (j : Int) < m := by omega
        have HC := mkHid (HA.out wr (j : Int) (by omega) (by omega))
        cases hb : sbAt G D q (j : Int)
        · have HS := mkHid (sb_no HN.out.2.1 HN.out.2.2 hb)
          rw [hb] at HC
          clear hb
          go_wp2_with (go_at_call 14; refine HC.out.mono ?_; rintro e w1 ⟨rfl, b1⟩; have HB1 := mkHid b1; clear b1)
          go_roundw
          case rel => exact ⟨j + 1, V, by go_num, by go_num, by omega, mkHid (by rw [HV.out, ← HS.out]; rfl), mkHid (bt HB.out HB1.out), mkHid (by rw [HB1.out.block _ (Array.getElem?_eq_some_iff.1 HR.out).1]; exact HR.out)⟩
          case measure => simp [intOf]; omega
        · have HS := mkHid (sb_yes HN.out.2.1 HN.out.2.2 hb)
          rw [hb] at HC
          clear hb
          go_wp2_with (go_at_call 14; refine HC.out.mono ?_; rintro e w1 ⟨rfl, b1⟩; have HB1 := mkHid b1; clear b1)
          go_roundw
          case rel => exact ⟨j + 1, V + 1, by go_num, by go_num, by omega, mkHid (by rw [show ((j + 1 : Nat) : Int) = (j : Int) + 1 from rfl, HS.out]; have := HV.out; omega), mkHid (bt HB.out HB1.out), mkHid (by rw [HB1.out.block _ (Array.getElem?_eq_some_iff.1 HR.out).1]; exact HR.out)⟩
          case measure => simp [intOf]; omega
      · obtain rfl : j = m := by omega
        go_wp2
        go_ret
        exact ⟨by rw [HF.out, ← HV.out]; rfl, HB.out⟩
/-- The document's supply, whatever the legal server. -/
theorem rbound_yes (w : World) (s : Sv) (l : Int) (h : okW s) (l0 : 0 ≤ l) (l1 : l ≤ 1099511627776) : Calls Tryd.prog 15 #[vS s, .int .i64 l] w fun e w' => e = .returned (.int .i64 (sb (gS s) (dS s) (qS s) l)) ∧ Below w.heap.size w w' := by
  rcases h with rfl | h
  · have e : sb (gS (0, 0, 0)) (dS (0, 0, 0)) (qS (0, 0, 0)) l = l := sb_whole l0
    rw [e]; exact rbound_whole w l
  · exact rbound_ok w s l h l0 l1
/-- The chapter's example. -/
theorem salive (w : World) : Calls Tryd.prog 9 #[] w fun e w' => e = .returned (.bool true) ∧ Below w.heap.size w w' := by
  have o1 : okW (3, 2, 5) := .inr (by unfold okS; decide)
  have o2 : okW (1, 2, 5) := .inr (by unfold okS; decide)
  have e1 : sb (gS (3, 2, 5)) (dS (3, 2, 5)) (qS (3, 2, 5)) 8 = 2 := by decide
  have e2 : sb (gS (1, 2, 5)) (dS (1, 2, 5)) (qS (1, 2, 5)) 8 = 1 := by decide
  have H1 : Hid (∀ w, Calls Tryd.prog 10 #[vS (3, 2, 5), .int .i64 8] w fun e w' => e = .returned (.tuple #[.int .i64 2, .nilIface]) ∧ Below w.heap.size w w') := mkHid (fun w => by rw [← e1]; exact bound_yes w (3, 2, 5) 8 o1 (by decide) (by decide))
  have H2 : Hid (∀ w, Calls Tryd.prog 10 #[vS (1, 2, 5), .int .i64 8] w fun e w' => e = .returned (.tuple #[.int .i64 1, .nilIface]) ∧ Below w.heap.size w w') := mkHid (fun w => by rw [← e2]; exact bound_yes w (1, 2, 5) 8 o2 (by decide) (by decide))
  clear e1 e2 o1 o2
  have M : Hid True := mkHid trivial
  go_enter Tryd.func9, Tryd.ntmps9
  go_wp2_with (first | (go_at_call 10; clear M; refine (H1.out _).mono ?_; rintro e w1 ⟨rfl, b1⟩; have HB1 := mkHid b1; clear b1) | (go_at_call 10; refine (H2.out _).mono ?_; rintro e w2 ⟨rfl, b2⟩; have HB2 := mkHid b2; clear b2))
  go_ret
  exact ⟨rfl, bt HB1.out HB2.out⟩
end Go.Proofs.YtldfngkooilmnaaDoor
