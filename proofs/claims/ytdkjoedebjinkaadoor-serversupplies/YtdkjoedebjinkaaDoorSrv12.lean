/- The document's supply: Gap, At, Bound. -/
import Derived.Test.YtdkjoedebjinkaaDoorSrv5
namespace Go.Proofs.YtdkjoedebjinkaaDoor
open Go.ChangeShapes Go.WideShapes Go.ChangeAt Go.RowKit

/-- Legal, or the whole. -/
def okW (s : Sv) : Prop := s = (0, 0, 0) ∨ okS s
/-- A row's silent beginning, what is not given in a period, and what is. -/
def gS (s : Sv) : Int := if s.1 = 0 then 0 else if s.1 = 3 then s.2.2 - s.2.1 else s.2.2 - 1
def dS (s : Sv) : Int := if s.1 = 0 then 0 else s.2.2 - s.2.1
def qS (s : Sv) : Int := if s.1 = 0 then 1 else s.2.1
theorem okW.nums {s : Sv} (h : okW s) : dS s ≤ gS s ∧ 0 ≤ dS s ∧ 1 ≤ qS s ∧ gS s ≤ 255 ∧ dS s + qS s ≤ 256 := by
  obtain ⟨k, q, t⟩ := s
  rcases h with h | ⟨h1, h2, h3, h4, h5⟩
  · obtain ⟨rfl, rfl, rfl⟩ := by simpa using h
    decide
  · simp only at h1 h2 h3 h4 h5
    simp only [gS, dS, qS]
    rw [if_neg (show ¬ k = 0 by omega), if_neg (show ¬ k = 0 by omega), if_neg (show ¬ k = 0 by omega)]
    split <;> omega
theorem gap_is (w : World) (s : Sv) (h : okS s) : Calls Tryd.prog 32 #[vS s] w fun e w' => e = .returned (.int .i64 (gS s)) ∧ Below w.heap.size w w' := by
  obtain ⟨k, q, t⟩ := s
  obtain ⟨h1, h2, h3, h4, h5⟩ := h
  simp only at h1 h2 h3 h4 h5
  have hk : ¬ k = 0 := by omega
  have hc : k = 3 ∨ ¬ k = 3 := by omega
  rcases hc with rfl | hc
  all_goals
    go_enter Tryd.func32, Tryd.ntmps32
    go_wp2
    go_ret
    exact ⟨by first | simp [gS, hk, hc] | simp [gS], ba (Below.refl _ _) _⟩
theorem at_whole (w : World) (i : Int) : Calls Tryd.prog 28 #[vS (0, 0, 0), .int .i64 i] w fun e w' => e = .returned (.bool true) ∧ Below w.heap.size w w' := by
  go_enter Tryd.func28, Tryd.ntmps28
  go_wp2
  go_ret
  exact ⟨rfl, ba (Below.refl _ _) _⟩
set_option maxHeartbeats 1600000 in
theorem at_ok (w : World) (s : Sv) (i : Int) (h : okS s) (i0 : 0 ≤ i) (i1 : i ≤ 1099511627776) : Calls Tryd.prog 28 #[vS s, .int .i64 i] w fun e w' => e = .returned (.bool (sbAt (gS s) (dS s) (qS s) i)) ∧ Below w.heap.size w w' := by
  obtain ⟨k, q, t⟩ := s
  obtain ⟨n1, n2, n3, n4, n5⟩ := (show okW (k, q, t) from .inr h).nums
  have HO := mkHid h
  obtain ⟨h1, h2, h3, h4, h5⟩ := h
  simp only at h1 h2 h3 h4 h5
  have hk : ¬ k = 0 := by omega
  have hd : dS (k, q, t) = t - q := by simp [dS, hk]
  have hq : qS (k, q, t) = q := by simp [qS, hk]
  have HG : Hid (∀ w, Calls Tryd.prog 32 #[vS (k, q, t)] w fun e w' => e = .returned (.int .i64 (gS (k, q, t))) ∧ Below w.heap.size w w') := mkHid (fun w => gap_is w _ HO.out)
  clear HO
  rw [hd, hq] at *
  generalize gS (k, q, t) = G at *
  have ht : t - q + q = t := by omega
  by_cases hc : i < G
  · have hs : sbAt G (t - q) q i = false := decide_eq_false (by omega)
    rw [hs]
    clear hs
    go_enter Tryd.func28, Tryd.ntmps28
    go_wp2_with (go_at_call 32; refine (HG.out _).mono ?_; rintro e w3 ⟨rfl, hb3⟩; have HB := mkHid (new_last hb3).2; clear hb3)
    go_ret
    exact ⟨rfl, HB.out⟩
  · obtain ⟨X, hX⟩ : ∃ X, X = i - G := ⟨_, rfl⟩
    obtain ⟨R, hR⟩ : ∃ R, R = X % t := ⟨_, rfl⟩
    obtain ⟨D, hD⟩ : ∃ D, D = t - q := ⟨_, rfl⟩
    have ex : IntKind.i64.wrap (i - G) = X := by rw [hX]; exact wfit (by omega) (by omega)
    have hR0 : 0 ≤ R := by rw [hR]; exact Int.emod_nonneg _ (by omega)
    have hR1 : R < t := by rw [hR]; exact Int.emod_lt_of_pos _ (by omega)
    have er : X.tmod t = R := by rw [hR]; exact Int.tmod_eq_emod_of_nonneg (by omega)
    have ew : IntKind.i64.wrap R = R := wfit (by omega) (by omega)
    have ed : IntKind.i64.wrap (t - q) = D := by rw [hD]; exact wfit (by omega) (by omega)
    have HV : Hid (sbAt G (t - q) q i = decide (D ≤ R)) := mkHid (by
      unfold sbAt
      rw [ht, ← hX, ← hR, ← hD]
      by_cases e : D ≤ R
      · rw [decide_eq_true e, decide_eq_true ⟨by omega, e⟩]
      · rw [decide_eq_false e, decide_eq_false (fun h => e h.2)])
    have t0 : ¬ t = 0 := by omega
    have hlt : G ≤ i := by omega
    clear hX hR hD ht hd hq n1 n2 n3 n4 n5 hR0 hR1 hc
    go_enter Tryd.func28, Tryd.ntmps28
    go_wp2_with (go_at_call 32; refine (HG.out _).mono ?_; rintro e w3 ⟨rfl, hb3⟩; obtain ⟨r0, hb⟩ := new_last hb3; have HB := mkHid hb; have c0 : w3.cell? ⟨w.heap.size, 0, none⟩ = some (.int .i64 k) := cell_of_block (i := 0) r0 rfl; have c1 : w3.cell? ⟨w.heap.size, 1, none⟩ = some (.int .i64 q) := cell_of_block (i := 1) r0 rfl; have c2 : w3.cell? ⟨w.heap.size, 2, none⟩ = some (.int .i64 t) := cell_of_block (i := 2) r0 rfl; clear hb3 r0 hb)
    generalize w.heap.size = B at c0 c1 c2 ⊢
    go_region_held3 (fun w' => w'.cell? ⟨B, 0, none⟩ = some (.int .i64 k) ∧ w'.cell? ⟨B, 1, none⟩ = some (.int .i64 q) ∧ w'.cell? ⟨B, 2, none⟩ = some (.int .i64 t)) (go_keep) (first | (go_at_call 32; refine (HG.out w3.drew).mono ?_; rintro e w5 ⟨rfl, hb5⟩; have HB5 := mkHid hb5; have q0 : w5.cell? ⟨B, 0, none⟩ = some (.int .i64 k) := kc (w := w3.drew) (a := ⟨B, 0, none⟩) c0 hb5; have q1 : w5.cell? ⟨B, 1, none⟩ = some (.int .i64 q) := kc (w := w3.drew) (a := ⟨B, 1, none⟩) c1 hb5; have q2 : w5.cell? ⟨B, 2, none⟩ = some (.int .i64 t) := kc (w := w3.drew) (a := ⟨B, 2, none⟩) c2 hb5; clear hb5))
    all_goals
      go_wp2
      go_ret
      exact ⟨by rw [HV.out]; rfl, bt HB.out.drew HB5.out⟩
/-- Is a tick given? Whatever the legal server. -/
theorem at_yes (w : World) (s : Sv) (i : Int) (h : okW s) (i0 : 0 ≤ i) (i1 : i ≤ 1099511627776) : Calls Tryd.prog 28 #[vS s, .int .i64 i] w fun e w' => e = .returned (.bool (sbAt (gS s) (dS s) (qS s) i)) ∧ Below w.heap.size w w' := by
  rcases h with rfl | h
  · have e : sbAt (gS (0, 0, 0)) (dS (0, 0, 0)) (qS (0, 0, 0)) i = true := decide_eq_true ⟨i0, by simp [gS, dS, qS]⟩
    rw [e]; exact at_whole w i
  · exact at_ok w s i h i0 i1
/-- The numbers of the document's Bound: whole periods that are taken off, and what is left. -/
theorem whole_off {g d q l : Int} (hd : 0 ≤ d) (hq : 1 ≤ q) (hg : g ≤ 3 * (d + q)) (h : 4 * (d + q) < l) : ∃ p L, (l - 3 * (d + q)) / (d + q) = p ∧ L = l - p * (d + q) ∧ 0 ≤ p ∧ 0 ≤ L ∧ L ≤ 4 * (d + q) ∧ p ≤ l ∧ sb g d q l = p * q + sb g d q L := by
  obtain ⟨a, r, ha, h0, h1, h2⟩ := parts0 (T := d + q) (l - 3 * (d + q)) (by omega) (by omega)
  have hp : a * 1 ≤ a * (d + q) := Int.mul_le_mul_of_nonneg_left (by omega) ha
  refine ⟨a, l - a * (d + q), (dm h0 h1 h2).1, rfl, ha, by omega, by omega, by omega, ?_⟩
  have := sb_period (g := g) (l := l - a * (d + q)) hd hq (by omega) a ha
  rw [show l - a * (d + q) + a * (d + q) = l by omega] at this
  omega
set_option maxHeartbeats 3200000 in
theorem rbound_ok (w : World) (s : Sv) (l : Int) (h : okS s) (l0 : 0 ≤ l) (l1 : l ≤ 1099511627776) : Calls Tryd.prog 25 #[vS s, .int .i64 l] w fun e w' => e = .returned (.int .i64 (sb (gS s) (dS s) (qS s) l)) ∧ Below w.heap.size w w' := by
  obtain ⟨k, q, t⟩ := s
  obtain ⟨n1, n2, n3, n4, n5⟩ := (show okW (k, q, t) from .inr h).nums
  have HO : Hid (okW (k, q, t)) := mkHid (.inr h)
  obtain ⟨h1, h2, h3, h4, h5⟩ := h
  simp only at h1 h2 h3 h4 h5
  have hk : ¬ k = 0 := by omega
  have hd : dS (k, q, t) = t - q := by simp [dS, hk]
  have hq : qS (k, q, t) = q := by simp [qS, hk]
  have hg : gS (k, q, t) ≤ t := by simp only [gS, hk, if_false]; split <;> omega
  have HA : Hid (∀ w i, 0 ≤ i → i ≤ 1099511627776 → Calls Tryd.prog 28 #[vS (k, q, t), .int .i64 i] w fun e w' => e = .returned (.bool (sbAt (gS (k, q, t)) (dS (k, q, t)) (qS (k, q, t)) i)) ∧ Below w.heap.size w w') := mkHid (fun w i i0 i1 => at_yes w _ i HO.out i0 i1)
  clear HO
  rw [hd, hq] at *
  generalize gS (k, q, t) = G at *
  generalize hD : t - q = D at *
  have ht : D + q = t := by omega
  have HN : Hid (0 ≤ G ∧ 0 ≤ D ∧ 1 ≤ q) := mkHid ⟨by omega, by omega, by omega⟩
  have t0 : ¬ t = 0 := by omega
  have e4 : IntKind.i64.wrap (4 * t) = 4 * t := wfit (by omega) (by omega)
  have e3 : IntKind.i64.wrap (3 * t) = 3 * t := wfit (by omega) (by omega)
  by_cases hl : 4 * t < l
  · obtain ⟨p, L, f1, f2, f3, f4, f5, f6, f7⟩ := whole_off (g := G) (d := D) (q := q) (l := l) (by omega) (by omega) (by omega) (by omega)
    rw [ht] at f1 f2 f5
    have e5 : IntKind.i64.wrap (l - 3 * t) = l - 3 * t := wfit (by omega) (by omega)
    have e6 : (l - 3 * t).tdiv t = p := by rw [Int.tdiv_eq_ediv_of_nonneg (by omega), f1]
    have e7 : IntKind.i64.wrap p = p := wfit (by omega) (by omega)
    obtain ⟨N, hN⟩ : ∃ N, N = p * q := ⟨_, rfl⟩
    obtain ⟨M, hM⟩ : ∃ M, M = p * t := ⟨_, rfl⟩
    have hN0 : 0 ≤ N := by rw [hN]; exact Int.mul_nonneg f3 (by omega)
    have hN1 : N ≤ 1099511627776 * 256 := by rw [hN]; exact Int.mul_le_mul (by omega) (by omega) (by omega) (by omega)
    have e8 : IntKind.i64.wrap (p * q) = N := by rw [hN] at hN0 hN1 ⊢; exact wfit (by omega) (by omega)
    have e9 : IntKind.i64.wrap (p * t) = M := by rw [← hM]; exact wfit (by omega) (by omega)
    have e10 : IntKind.i64.wrap (l - M) = L := by rw [f2, hM]; exact wfit (by omega) (by omega)
    have HF : Hid (sb G D q l = N + sb G D q L) := mkHid (by rw [hN]; exact f7)
    obtain ⟨m, rfl⟩ := Int.eq_ofNat_of_zero_le f4
    clear f7 f2 f1 hN hM f3 f6
    go_enter Tryd.func25, Tryd.ntmps25
    go_wp2
    clear hq hd n1 n2 n3 n4 n5 hg
    go_loopw [5, 7] (fun nv iv wr => ∃ (j : Nat) (V : Int), nv = .int .i64 V ∧ iv = .int .i64 (j : Int) ∧ j ≤ m ∧ Hid (V = N + sb G D q (j : Int)) ∧ Hid (Below w.heap.size w wr) ∧ Hid (wr.heap[w.heap.size]? = some (.cells #[.int .i64 k, .int .i64 q, .int .i64 t] 23 (0, 0)))) (fun _ iv _ => m - (intOf iv).toNat)
    case atStart => exact ⟨0, N, rfl, rfl, Nat.zero_le _, mkHid (by rw [show ((0 : Nat) : Int) = 0 from rfl, sb_zero HN.out.1 HN.out.2.1 HN.out.2.2]; omega), mkHid (ba (Below.refl _ _) _), mkHid (heap_alloc_new _ _)⟩
    case round =>
      obtain ⟨j, V, rfl, rfl, hj, HV, HB, HR⟩ := hrel
      have hV0 : 0 ≤ V := by rw [HV.out]; have := sb_nonneg (g := G) (d := D) (q := q) (l := (j : Int)) HN.out.1 HN.out.2.1 HN.out.2.2; omega
      have hV1 : V ≤ 1099511627776 * 256 + 1024 := by rw [HV.out]; have := sb_room (g := G) (d := D) (q := q) (l := (j : Int)) HN.out.1 HN.out.2.1 HN.out.2.2 (by omega); omega
      by_cases hlt : j < m
      · have c0 : wr.cell? ⟨w.heap.size, 0, none⟩ = some (.int .i64 k) := cell_of_block (i := 0) HR.out rfl
        have c1 : wr.cell? ⟨w.heap.size, 1, none⟩ = some (.int .i64 q) := cell_of_block (i := 1) HR.out rfl
        have c2 : wr.cell? ⟨w.heap.size, 2, none⟩ = some (.int .i64 t) := cell_of_block (i := 2) HR.out rfl
        have hji : (j : Int) < m := by omega
        have HC := mkHid (HA.out wr (j : Int) (by omega) (by omega))
        cases hb : sbAt G D q (j : Int)
        · have HS := mkHid (sb_no HN.out.2.1 HN.out.2.2 hb)
          rw [hb] at HC
          clear hb
          go_wp2_with (go_at_call 28; refine HC.out.mono ?_; rintro e w1 ⟨rfl, b1⟩; have HB1 := mkHid b1; clear b1)
          go_roundw
          case rel => exact ⟨j + 1, V, by go_num, by go_num, by omega, mkHid (by rw [HV.out, ← HS.out]; rfl), mkHid (bt HB.out HB1.out), mkHid (by rw [HB1.out.block _ (Array.getElem?_eq_some_iff.1 HR.out).1]; exact HR.out)⟩
          case measure => simp [intOf]; omega
        · have HS := mkHid (sb_yes HN.out.2.1 HN.out.2.2 hb)
          rw [hb] at HC
          clear hb
          go_wp2_with (go_at_call 28; refine HC.out.mono ?_; rintro e w1 ⟨rfl, b1⟩; have HB1 := mkHid b1; clear b1)
          go_roundw
          case rel => exact ⟨j + 1, V + 1, by go_num, by go_num, by omega, mkHid (by rw [show ((j + 1 : Nat) : Int) = (j : Int) + 1 from rfl, HS.out]; have := HV.out; omega), mkHid (bt HB.out HB1.out), mkHid (by rw [HB1.out.block _ (Array.getElem?_eq_some_iff.1 HR.out).1]; exact HR.out)⟩
          case measure => simp [intOf]; omega
      · obtain rfl : j = m := by omega
        go_wp2
        go_ret
        exact ⟨by rw [HF.out, ← HV.out]; rfl, HB.out⟩
  · obtain ⟨m, rfl⟩ := Int.eq_ofNat_of_zero_le l0
    have hle : (m : Int) ≤ 4 * t := by omega
    have HF : Hid (sb G D q m = 0 + sb G D q m) := mkHid (by omega)
    go_enter Tryd.func25, Tryd.ntmps25
    go_wp2
    clear hq hd n1 n2 n3 n4 n5 hg
    go_loopw [5, 7] (fun nv iv wr => ∃ (j : Nat) (V : Int), nv = .int .i64 V ∧ iv = .int .i64 (j : Int) ∧ j ≤ m ∧ Hid (V = 0 + sb G D q (j : Int)) ∧ Hid (Below w.heap.size w wr) ∧ Hid (wr.heap[w.heap.size]? = some (.cells #[.int .i64 k, .int .i64 q, .int .i64 t] 23 (0, 0)))) (fun _ iv _ => m - (intOf iv).toNat)
    case atStart => exact ⟨0, 0, rfl, rfl, Nat.zero_le _, mkHid (by rw [show ((0 : Nat) : Int) = 0 from rfl, sb_zero HN.out.1 HN.out.2.1 HN.out.2.2]; omega), mkHid (ba (Below.refl _ _) _), mkHid (heap_alloc_new _ _)⟩
    case round =>
      obtain ⟨j, V, rfl, rfl, hj, HV, HB, HR⟩ := hrel
      have hV0 : 0 ≤ V := by rw [HV.out]; have := sb_nonneg (g := G) (d := D) (q := q) (l := (j : Int)) HN.out.1 HN.out.2.1 HN.out.2.2; omega
      have hV1 : V ≤ 1099511627776 * 256 + 1024 := by rw [HV.out]; have := sb_room (g := G) (d := D) (q := q) (l := (j : Int)) HN.out.1 HN.out.2.1 HN.out.2.2 (by omega); omega
      by_cases hlt : j < m
      · have c0 : wr.cell? ⟨w.heap.size, 0, none⟩ = some (.int .i64 k) := cell_of_block (i := 0) HR.out rfl
        have c1 : wr.cell? ⟨w.heap.size, 1, none⟩ = some (.int .i64 q) := cell_of_block (i := 1) HR.out rfl
        have c2 : wr.cell? ⟨w.heap.size, 2, none⟩ = some (.int .i64 t) := cell_of_block (i := 2) HR.out rfl
        have hji : (j : Int) < m := by omega
        have HC := mkHid (HA.out wr (j : Int) (by omega) (by omega))
        cases hb : sbAt G D q (j : Int)
        · have HS := mkHid (sb_no HN.out.2.1 HN.out.2.2 hb)
          rw [hb] at HC
          clear hb
          go_wp2_with (go_at_call 28; refine HC.out.mono ?_; rintro e w1 ⟨rfl, b1⟩; have HB1 := mkHid b1; clear b1)
          go_roundw
          case rel => exact ⟨j + 1, V, by go_num, by go_num, by omega, mkHid (by rw [HV.out, ← HS.out]; rfl), mkHid (bt HB.out HB1.out), mkHid (by rw [HB1.out.block _ (Array.getElem?_eq_some_iff.1 HR.out).1]; exact HR.out)⟩
          case measure => simp [intOf]; omega
        · have HS := mkHid (sb_yes HN.out.2.1 HN.out.2.2 hb)
          rw [hb] at HC
          clear hb
          go_wp2_with (go_at_call 28; refine HC.out.mono ?_; rintro e w1 ⟨rfl, b1⟩; have HB1 := mkHid b1; clear b1)
          go_roundw
          case rel => exact ⟨j + 1, V + 1, by go_num, by go_num, by omega, mkHid (by rw [show ((j + 1 : Nat) : Int) = (j : Int) + 1 from rfl, HS.out]; have := HV.out; omega), mkHid (bt HB.out HB1.out), mkHid (by rw [HB1.out.block _ (Array.getElem?_eq_some_iff.1 HR.out).1]; exact HR.out)⟩
          case measure => simp [intOf]; omega
      · obtain rfl : j = m := by omega
        go_wp2
        go_ret
        exact ⟨by rw [HF.out, ← HV.out]; rfl, HB.out⟩
end Go.Proofs.YtdkjoedebjinkaaDoor
