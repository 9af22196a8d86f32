/- The document's supply: Legal, Gap, At. -/
import Derived.Test.YtldfngkooilmnaaDoorSup4
namespace Go.Proofs.YtldfngkooilmnaaDoor
open Go.ChangeShapes Go.WideShapes Go.ChangeAt Go.RowKit

theorem reflegal_ok (w : World) (s : Sv) (h : okS s) : Calls Tryd.prog 24 #[vS s] w fun e w' => e = .returned (.bool true) ∧ Below w.heap.size w w' := by
  obtain ⟨k, q, t⟩ := s
  obtain ⟨h1, h2, h3, h4, h5⟩ := h
  simp only at h1 h2 h3 h4 h5
  have hk : k = 1 ∨ (¬ k = 1 ∧ k = 2) ∨ (¬ k = 1 ∧ ¬ k = 2 ∧ k = 3) := by omega
  rcases hk with rfl | ⟨_, rfl⟩ | ⟨_, _, rfl⟩
  all_goals
    clear h1 h2
    go_enter Tryd.func24, Tryd.ntmps24
    go_wp2
    go_ret
    exact ⟨rfl, ba (Below.refl _ _) _⟩
theorem reflegal_no (w : World) (s : Sv) (h : ¬ okS s) : Calls Tryd.prog 24 #[vS s] w fun e w' => e = .returned (.bool false) ∧ Below w.heap.size w w' := by
  obtain ⟨k, q, t⟩ := s
  have hc : (¬ k = 1 ∧ ¬ k = 2 ∧ ¬ k = 3) ∨ ((k = 1 ∨ k = 2 ∨ k = 3) ∧ (q < 1 ∨ (1 ≤ q ∧ t < q) ∨ (1 ≤ q ∧ q ≤ t ∧ ¬ t ≤ 256))) := by
    refine Decidable.byContradiction fun hn => h ?_
    refine ⟨?_, ?_, ?_, ?_, ?_⟩ <;> simp only <;> omega
  clear h
  rcases hc with ⟨h1, h2, h3⟩ | ⟨rfl | rfl | rfl, h4 | ⟨h3, h4⟩ | ⟨h3, h4, h5⟩⟩
  all_goals
    go_enter Tryd.func24, Tryd.ntmps24
    go_wp2
    go_ret
    exact ⟨rfl, ba (Below.refl _ _) _⟩
theorem legal_yes (w : World) (s : Sv) (h : okW s) : Calls Tryd.prog 13 #[vS s] w fun e w' => e = .returned (.bool true) ∧ Below w.heap.size w w' := by
  rcases h with rfl | h
  · go_enter Tryd.func13, Tryd.ntmps13
    go_wp2
    go_ret
    exact ⟨rfl, ba (Below.refl _ _) _⟩
  · obtain ⟨k, q, t⟩ := s
    have HO := mkHid h
    have hk : ¬ k = 0 := by have := h.1; simp only at this; omega
    clear h
    go_enter Tryd.func13, Tryd.ntmps13
    go_wp2_with (go_at_call 24; refine (reflegal_ok _ (k, q, t) HO.out).mono ?_; rintro e w3 ⟨rfl, hb3⟩)
    go_ret
    exact ⟨rfl, (new_last hb3).2⟩
theorem legal_no (w : World) (s : Sv) (h : ¬ okW s) : Calls Tryd.prog 13 #[vS s] w fun e w' => e = .returned (.bool false) ∧ Below w.heap.size w w' := by
  obtain ⟨k, q, t⟩ := s
  have HO : Hid (¬ okS (k, q, t)) := mkHid (fun e => h (.inr e))
  have hc : ¬ k = 0 ∨ (k = 0 ∧ ¬ q = 0) ∨ (k = 0 ∧ q = 0 ∧ ¬ t = 0) := by
    refine Decidable.byContradiction fun hn => h (.inl ?_)
    simp only [Prod.mk.injEq]; omega
  clear h
  rcases hc with h1 | ⟨rfl, h1⟩ | ⟨rfl, rfl, h1⟩
  all_goals
    go_enter Tryd.func13, Tryd.ntmps13
    go_wp2_with (go_at_call 24; refine (reflegal_no _ (_, _, _) HO.out).mono ?_; rintro e w3 ⟨rfl, hb3⟩)
    go_ret
    exact ⟨rfl, (new_last hb3).2⟩
theorem gap_is (w : World) (s : Sv) (h : okS s) : Calls Tryd.prog 25 #[vS s] w fun e w' => e = .returned (.int .i64 (gS s)) ∧ Below w.heap.size w w' := by
  obtain ⟨k, q, t⟩ := s
  obtain ⟨h1, h2, h3, h4, h5⟩ := h
  simp only at h1 h2 h3 h4 h5
  have hk : ¬ k = 0 := by omega
  have hc : k = 3 ∨ ¬ k = 3 := by omega
  rcases hc with rfl | hc
  all_goals
    go_enter Tryd.func25, Tryd.ntmps25
    go_wp2
    go_ret
    exact ⟨by first | simp [gS, hk, hc] | simp [gS], ba (Below.refl _ _) _⟩
theorem at_whole (w : World) (i : Int) : Calls Tryd.prog 14 #[vS (0, 0, 0), .int .i64 i] w fun e w' => e = .returned (.bool true) ∧ Below w.heap.size w w' := by
  go_enter Tryd.func14, Tryd.ntmps14
  go_wp2
  go_ret
  exact ⟨rfl, ba (Below.refl _ _) _⟩
set_option maxHeartbeats 1600000 in
theorem at_ok (w : World) (s : Sv) (i : Int) (h : okS s) (i0 : 0 ≤ i) (i1 : i ≤ 1099511627776) : Calls Tryd.prog 14 #[vS s, .int .i64 i] w fun e w' => e = .returned (.bool (sbAt (gS s) (dS s) (qS s) i)) ∧ Below w.heap.size w w' := by
  obtain ⟨k, q, t⟩ := s
  obtain ⟨n1, n2, n3, n4, n5⟩ := (show okW (k, q, t) from .inr h).nums
  have HO := mkHid h
  obtain ⟨h1, h2, h3, h4, h5⟩ := h
  simp only at h1 h2 h3 h4 h5
  have hk : ¬ k = 0 := by omega
  have hd : dS (k, q, t) = t - q := by simp [dS, hk]
  have hq : qS (k, q, t) = q := by simp [qS, hk]
  have HG : Hid (∀ w, Calls Tryd.prog 25 #[vS (k, q, t)] w fun e w' => e = .returned (.int .i64 (gS (k, q, t))) ∧ Below w.heap.size w w') := mkHid (fun w => gap_is w _ HO.out)
  clear HO
  rw [hd, hq] at *
  generalize gS (k, q, t) = G at *
  have ht : t - q + q = t := by omega
  by_cases hc : i < G
  · have hs : sbAt G (t - q) q i = false := decide_eq_false (by omega)
    rw [hs]
    clear hs
    go_enter Tryd.func14, Tryd.ntmps14
    go_wp2_with (go_at_call 25; refine (HG.out _).mono ?_; rintro e w3 ⟨rfl, hb3⟩; have HB := mkHid (new_last hb3).2; clear hb3)
    go_ret
    exact ⟨rfl, HB.out⟩
  · obtain ⟨X, hX⟩ : ∃ X, X = i - G := ⟨_, rfl⟩
    obtain ⟨R, hR⟩ : ∃ R, R = X % t := ⟨_, rfl⟩
    obtain ⟨D, hD⟩ : ∃ D, D = t - q := ⟨_, rfl⟩
    have ex : IntKind.i64.wrap (i - G) = X := by rw [hX]; exact wfit (by omega) (by omega)
    have hR0 : 0 ≤ R := by rw [hR]; exact Int.emod_nonneg _ (by omega)
    have hR1 : R < t := by rw [hR]; exact Int.emod_lt_of_pos _ (by omega)
    have er : X.tmod t = R := by rw [hR]; exact Int.tmod_eq_emod_of_nonneg (by omega)
    have ew : IntKind.i64.wrap R = R := wfit (by omega) (by omega)
    have ed : IntKind.i64.wrap (t - q) = D := by rw [hD]; exact wfit (by omega) (by omega)
    have HV : Hid (sbAt G (t - q) q i = decide (D ≤ R)) := mkHid (by
      unfold sbAt
      rw [ht, ← hX, ← hR, ← hD]
      by_cases e : D ≤ R
      · rw [decide_eq_true e, decide_eq_true ⟨by omega, e⟩]
      · rw [decide_eq_false e, decide_eq_false (fun h => e h.2)])
    have t0 : ¬ t = 0 := by omega
    have hlt : G ≤ i := by omega
    clear hX hR hD ht hd hq n1 n2 n3 n4 n5 hR0 hR1 hc
    go_enter Tryd.func14, Tryd.ntmps14
    go_wp2_with (go_at_call 25; refine (HG.out _).mono ?_; rintro e w3 ⟨rfl, hb3⟩; obtain ⟨r0, hb⟩ := new_last hb3; have HB := mkHid hb; have c0 : w3.cell? ⟨w.heap.size, 0, none⟩ = some (.int .i64 k) := cell_of_block (i := 0) r0 rfl; have c1 : w3.cell? ⟨w.heap.size, 1, none⟩ = some (.int .i64 q) := cell_of_block (i := 1) r0 rfl; have c2 : w3.cell? ⟨w.heap.size, 2, none⟩ = some (.int .i64 t) := cell_of_block (i := 2) r0 rfl; clear hb3 r0 hb)
    generalize w.heap.size = B at c0 c1 c2 ⊢
    go_region_held3 (fun w' => w'.cell? ⟨B, 0, none⟩ = some (.int .i64 k) ∧ w'.cell? ⟨B, 1, none⟩ = some (.int .i64 q) ∧ w'.cell? ⟨B, 2, none⟩ = some (.int .i64 t)) (go_keep) (first | (go_at_call 25; refine (HG.out w3.drew).mono ?_; rintro e w5 ⟨rfl, hb5⟩; have HB5 := mkHid hb5; have q0 : w5.cell? ⟨B, 0, none⟩ = some (.int .i64 k) := kc (w := w3.drew) (a := ⟨B, 0, none⟩) c0 hb5; have q1 : w5.cell? ⟨B, 1, none⟩ = some (.int .i64 q) := kc (w := w3.drew) (a := ⟨B, 1, none⟩) c1 hb5; have q2 : w5.cell? ⟨B, 2, none⟩ = some (.int .i64 t) := kc (w := w3.drew) (a := ⟨B, 2, none⟩) c2 hb5; clear hb5))
    all_goals
      go_wp2
      go_ret
      exact ⟨by rw [HV.out]; rfl, bt HB.out.drew HB5.out⟩
/-- Is a tick given? Whatever the legal server. -/
theorem at_yes (w : World) (s : Sv) (i : Int) (h : okW s) (i0 : 0 ≤ i) (i1 : i ≤ 1099511627776) : Calls Tryd.prog 14 #[vS s, .int .i64 i] w fun e w' => e = .returned (.bool (sbAt (gS s) (dS s) (qS s) i)) ∧ Below w.heap.size w w' := by
  rcases h with rfl | h
  · have e : sbAt (gS (0, 0, 0)) (dS (0, 0, 0)) (qS (0, 0, 0)) i = true := decide_eq_true ⟨i0, by simp [gS, dS, qS]⟩
    rw [e]; exact at_whole w i
  · exact at_ok w s i h i0 i1
end Go.Proofs.YtldfngkooilmnaaDoor
