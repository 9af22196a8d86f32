import Derived.Test.YtjhekemgcmhjoaaGreatDoorAdC
import Derived.Test.YtjhekemgcmhjoaaGreatDoorPa
import Derived.Test.YtjhekemgcmhjoaaGreatDoorRfP
/- The document's admit: of, slope, line. -/
namespace Go.Proofs.YtjhekemgcmhjoaaGreatDoor
open Go.ChangeShapes Go.WideShapes Go.ChangeAt Go.RowKit
set_option maxRecDepth 100000
set_option linter.unusedVariables false
attribute [local go_sem] World.cell?_alloc_some frozen_alloc_some

/-- A number of digits in memory. -/
def BN (w : World) (v : Value) (n : Int) (L : Nat) : Prop := ∃ ds, Num w v ds ∧ val ds = n ∧ ds.length ≤ L
theorem BN.later {w w' : World} {v : Value} {n : Int} {L : Nat} (h : BN w v n L) (hb : Below w.heap.size w w') : BN w' v n L := by
  obtain ⟨ds, h1, h2, h3⟩ := h; exact ⟨ds, h1.later hb, h2, h3⟩
def BPost (w : World) (n : Int) (L : Nat) (e : Ending) (w' : World) : Prop := ∃ a k c, e = .returned (.slice a k c) ∧ BN w' (.slice a k c) n L ∧ Below w.heap.size w w'
theorem BPost.mk {w w' : World} {v : Value} {ds : List Int} {n : Int} {L : Nat} (h : Num w' v ds) (hv : val ds = n) (hl : ds.length ≤ L) (hb : Below w.heap.size w w') : BPost w n L (.returned v) w' := by
  obtain ⟨hd, a, cap, rfl, hr⟩ := id h
  exact ⟨a, _, _, rfl, ⟨ds, h, hv, hl⟩, hb⟩
theorem of_bn (w : World) (n : Int) (h0 : 0 ≤ n) (h1 : n ≤ 9223372036854775807) : Calls Tryz.prog 117 #[.int .i64 n] w (BPost w n 4) := by
  have ew : IntKind.u64.wrap n = n := by rw [IntKind.wrap_u64]; omega
  go_enter Tryz.func117, Tryz.ntmps117
  go_wp2_with (go_at_call 151; refine (of_hid n _ h0 (by omega)).mono ?_; rintro e w1 ⟨v, ds, rfl, n1, E1, l1, b1⟩)
  go_ret
  exact BPost.mk n1 E1.out (by omega) b1
theorem times_bn (w : World) (va vb : Value) (n m : Int) (L K : Nat) (ha : BN w va n L) (hb : BN w vb m K) (hL : L ≤ 1000) (hK : K ≤ 1000) : Calls Tryz.prog 116 #[va, vb] w (BPost w (n * m) (L + K + 1)) := by
  obtain ⟨ps, a1, rfl, a3⟩ := ha
  obtain ⟨qs, b1, rfl, b3⟩ := hb
  refine (times_any ps qs va vb w a1 b1 (by omega) (by omega)).mono ?_
  rintro e w' ⟨v, ds, rfl, h1, h2, h3, h4⟩
  exact BPost.mk h1 h2 (by omega) h4
theorem plus_bn (w : World) (va vb : Value) (n m : Int) (L K : Nat) (ha : BN w va n L) (hb : BN w vb m K) (hL : L ≤ 1000) (hK : K ≤ 1000) : Calls Tryz.prog 118 #[va, vb] w (BPost w (n + m) (max L K + 1)) := by
  obtain ⟨ps, a1, rfl, a3⟩ := ha
  obtain ⟨qs, b1, rfl, b3⟩ := hb
  refine (plus_any ps qs va vb w a1 b1 (by omega) (by omega)).mono ?_
  rintro e w' ⟨v, ds, rfl, h1, h2, h3, h4⟩
  exact BPost.mk h1 h2 (by omega) h4
theorem less_bn (w : World) (va vb : Value) (n m : Int) (L K : Nat) (ha : BN w va n L) (hb : BN w vb m K) (hL : L ≤ 1000) (hK : K ≤ 1000) (t : Bool) (ht : decide (n < m) = t) : Calls Tryz.prog 115 #[va, vb] w fun e w' => e = .returned (.bool t) ∧ w' = w := by
  obtain ⟨ps, a1, rfl, a3⟩ := ha
  obtain ⟨qs, b1, rfl, b3⟩ := hb
  rw [← ht]
  exact less_any ps qs va vb w a1 b1 (by omega) (by omega)
theorem wide_bn (w : World) (H L : Int) (a : Word H) (b : Word L) : Calls Tryz.prog 114 #[.agg #[.int .u64 H, .int .u64 L]] w (BPost w (wv H L) 8) := by
  refine (refOf a b).mono ?_
  rintro e w' ⟨v, ds, rfl, h1, h2, h3, h4⟩
  exact BPost.mk h1 h2.out (by omega) h4
theorem ret3 {fn : Func} {a b c : Tmp} (h : fn.results = #[.tmp a, .tmp b, .tmp c]) (tmps : Array Value) (P : Program) (w : World) : (results fn tmps).run P w = .ok (.tuple #[tmps.getD a undef, tmps.getD b undef, tmps.getD c undef]) w := by
  simp only [results, h]
  simp
theorem rslope_whole (w : World) : Calls Tryz.prog 113 #[vS (0, 0, 0)] w fun e w' => e = .returned (.tuple #[.int .i64 1, .int .i64 1, .int .i64 0]) ∧ Below w.heap.size w w' := by
  go_enter Tryz.func113, Tryz.ntmps113
  go_wp2
  exact bodyPost_ret (ret3 (a := 2) (b := 3) (c := 4) (by kernel_rfl) _ _ _) rfl ⟨rfl, ba (Below.refl _ _) _⟩
set_option maxHeartbeats 3200000 in
theorem rslope_ok (w : World) (s : Sv) (h : okS s) : Calls Tryz.prog 113 #[vS s] w fun e w' => e = .returned (.tuple #[.int .i64 (qS s), .int .i64 (dS s + qS s), .int .i64 (gS s + dS s)]) ∧ Below w.heap.size w w' := by
  obtain ⟨n1, n2, n3, n4, n5⟩ := (show okW s from .inr h).nums
  obtain ⟨e1, e2⟩ := h.nums3
  have HG : Hid (∀ w, Calls Tryz.prog 119 #[vS s] w fun e w' => e = .returned (.int .i64 (gS s)) ∧ Below w.heap.size w w') := mkHid (fun w => gap_is w _ h)
  obtain ⟨G, hG⟩ : ∃ G, gS s = G := ⟨_, rfl⟩
  obtain ⟨X, hX⟩ : ∃ X, gS s + dS s = X := ⟨_, rfl⟩
  rw [e2, hX, e1]
  obtain ⟨k, q, t⟩ := s
  obtain ⟨h1, h2, h3, h4, h5⟩ := h
  simp only at h1 h2 h3 h4 h5 e1 e2 ⊢
  have hk : ¬ k = 0 := by omega
  rw [hG] at HG n1 n4 hX
  have ew1 : IntKind.i64.wrap (G + t) = G + t := wfit (by omega) (by omega)
  have ew2 : IntKind.i64.wrap (G + t - q) = X := by rw [show G + t - q = X by omega]; exact wfit (by omega) (by omega)
  clear hG hX e1 e2 n1 n2 n3 n4 n5
  go_enter Tryz.func113, Tryz.ntmps113
  go_wp2
  obtain ⟨W, hW⟩ : ∃ W, W = w.alloc (oS (k, q, t)) := ⟨_, rfl⟩
  have HW : Hid (Below w.heap.size w W) := mkHid (by rw [hW]; exact ba (Below.refl _ _) _)
  have c0 : W.cell? ⟨w.heap.size, 0, none⟩ = some (.int .i64 k) := by rw [hW]; simp [go_sem]
  have c1 : W.cell? ⟨w.heap.size, 1, none⟩ = some (.int .i64 q) := by rw [hW]; simp [go_sem]
  have c2 : W.cell? ⟨w.heap.size, 2, none⟩ = some (.int .i64 t) := by rw [hW]; simp [go_sem]
  rw [← hW]
  clear hW
  generalize w.heap.size = B at c0 c1 c2 ⊢
  go_region_held3 (fun w' => w'.cell? ⟨B, 0, none⟩ = some (.int .i64 k) ∧ w'.cell? ⟨B, 1, none⟩ = some (.int .i64 q) ∧ w'.cell? ⟨B, 2, none⟩ = some (.int .i64 t)) (go_keep) (first | (go_at_call 119; refine (HG.out W.drew).mono ?_; rintro e w5 ⟨rfl, hb5⟩; have HB5 := mkHid hb5; have q0 : w5.cell? ⟨B, 0, none⟩ = some (.int .i64 k) := kc (w := W.drew) (a := ⟨B, 0, none⟩) c0 hb5; have q1 : w5.cell? ⟨B, 1, none⟩ = some (.int .i64 q) := kc (w := W.drew) (a := ⟨B, 1, none⟩) c1 hb5; have q2 : w5.cell? ⟨B, 2, none⟩ = some (.int .i64 t) := kc (w := W.drew) (a := ⟨B, 2, none⟩) c2 hb5; clear hb5))
  all_goals
    go_wp2
    exact bodyPost_ret (ret3 (a := 2) (b := 3) (c := 4) (by kernel_rfl) _ _ _) rfl ⟨rfl, bt HW.out.drew HB5.out⟩
theorem rslope_yes (w : World) (s : Sv) (h : okW s) : Calls Tryz.prog 113 #[vS s] w fun e w' => e = .returned (.tuple #[.int .i64 (qS s), .int .i64 (dS s + qS s), .int .i64 (gS s + dS s)]) ∧ Below w.heap.size w w' := by
  rcases h with rfl | h
  · exact rslope_whole w
  · exact rslope_ok w s h
/- The document's line. -/
set_option maxHeartbeats 25600000 in
theorem rline_no (w : World) (s : Sv) (N D more : Int) {A B C E : Int} (h : okW s) (hp : Pt (N, D) A B C E) (N0 : 0 ≤ N) (N1 : N ≤ 147573952589676412928) (D0 : 1 ≤ D) (D1 : D ≤ 18446744073709551616) (m0 : 0 ≤ more) (m1 : more ≤ 10000) (ht1 : decide (N * (dS s + qS s) < D * qS s) = false) :
    Calls Tryz.prog 71 #[vS s, vP A B C E, .int .i64 more] w fun e w' => e = .returned (.bool false) ∧ Below w.heap.size w w' := by
  obtain ⟨n1, n2, n3, n4, n5⟩ := h.nums
  have HS : Hid (∀ W, Calls Tryz.prog 113 #[vS s] W fun e w' => e = .returned (.tuple #[.int .i64 (qS s), .int .i64 (dS s + qS s), .int .i64 (gS s + dS s)]) ∧ Below W.heap.size W w') := mkHid (fun W => rslope_yes W s h)
  obtain ⟨pa, pb, pc, pe, e1, e2⟩ := hp
  simp only at e1 e2
  obtain ⟨Q, hQ⟩ : ∃ Q, Q = qS s := ⟨_, rfl⟩
  obtain ⟨T, hT⟩ : ∃ T, T = dS s + qS s := ⟨_, rfl⟩
  obtain ⟨G, hG⟩ : ∃ G, G = gS s + dS s := ⟨_, rfl⟩
  obtain ⟨M, hM⟩ : ∃ M, M = 4096 - G := ⟨_, rfl⟩
  obtain ⟨X, hX⟩ : ∃ X, X = Q * M := ⟨_, rfl⟩
  have hM0 : 0 ≤ M := by omega
  have hM1 : ¬ M < 0 := by omega
  have hX0 : 0 ≤ X := by rw [hX]; exact Int.mul_nonneg (by omega) hM0
  have hX1 : X ≤ 256 * 4096 := by rw [hX]; exact Int.mul_le_mul (by omega) (by omega) (by omega) (by omega)
  have ew1 : IntKind.i64.wrap (4096 - G) = M := by rw [hM]; exact wfit (by omega) (by omega)
  have ew2 : IntKind.i64.wrap (Q * M) = X := by rw [← hX]; exact wfit (by omega) (by omega)
  have T0 : 0 ≤ T ∧ T ≤ 256 := by omega
  have Q0 : 0 ≤ Q ∧ Q ≤ 256 := by omega
  have HT1 : Hid (decide (N * T < D * Q) = false) := mkHid (by rw [hT, hQ]; exact ht1)
  rw [← hT, ← hG, ← hQ] at HS
  have HNN := mkHid e1
  have HDD := mkHid e2
  obtain ⟨k, q, t⟩ := s
  clear ht1 hX hM hG hT hQ e1 e2 n1 n2 n3 n4 n5 h N0 N1 D0 D1
  have MK1 : Hid True := mkHid trivial
  have MK2 : Hid True := mkHid trivial
  have MK3 : Hid True := mkHid trivial
  have MK4 : Hid True := mkHid trivial
  have MK5 : Hid True := mkHid trivial
  go_enter Tryz.func71, Tryz.ntmps71
  go_wp2_with (go_at_call 113; refine (HS.out _).mono ?_; rintro e w1 ⟨rfl, b1⟩; have d0 := kc (a := ⟨w.heap.size + 1, 0, none⟩) (v := .int .u64 A) (by simp [go_sem]) b1; have d1 := kc (a := ⟨w.heap.size + 1, 1, none⟩) (v := .int .u64 B) (by simp [go_sem]) b1; have d2 := kc (a := ⟨w.heap.size + 1, 2, none⟩) (v := .int .u64 C) (by simp [go_sem]) b1; have d3 := kc (a := ⟨w.heap.size + 1, 3, none⟩) (v := .int .u64 E) (by simp [go_sem]) b1; have HB1 := mkHid (bt (ba (ba (Below.refl _ _) _) _) b1); clear b1)
  generalize w.heap.size + 1 = p1 at d0 d1 d2 d3 ⊢
  refine wp_region_held_drew (S := fun w' => w'.cell? ⟨p1, 0, none⟩ = some (.int .u64 A) ∧ w'.cell? ⟨p1, 1, none⟩ = some (.int .u64 B) ∧ w'.cell? ⟨p1, 2, none⟩ = some (.int .u64 C) ∧ w'.cell? ⟨p1, 3, none⟩ = some (.int .u64 E)) (by kernel_rfl) ⟨d0, d1, d2, d3⟩ (fun hHeld => ?_)
  refine takeD 0 20 (.pointer (some ⟨p1, 0, none⟩)) rfl rfl (by kernel_rfl) (by kernel_rfl) (by kernel_rfl) (fun _ _ _ h => h) (Or.inl ⟨by kernel_rfl, by intro w hSw; (try dsimp only at hSw); go_simp⟩) hHeld ?_
  simp only [List.set_cons_zero, List.set_cons_succ]
  refine takeD 1 21 (.agg #[.int .u64 A, .int .u64 B]) rfl rfl (by kernel_rfl) (by kernel_rfl) (by kernel_rfl) (fun _ _ _ h => h) (Or.inl ⟨by kernel_rfl, by intro w hSw; (try dsimp only at hSw); go_simp⟩) hHeld ?_
  simp only [List.set_cons_zero, List.set_cons_succ]
  refine takeD 3 23 (.pointer (some ⟨p1, 2, none⟩)) rfl rfl (by kernel_rfl) (by kernel_rfl) (by kernel_rfl) (fun _ _ _ h => h) (Or.inl ⟨by kernel_rfl, by intro w hSw; (try dsimp only at hSw); go_simp⟩) hHeld ?_
  simp only [List.set_cons_zero, List.set_cons_succ]
  refine takeD 4 24 (.agg #[.int .u64 C, .int .u64 E]) rfl rfl (by kernel_rfl) (by kernel_rfl) (by kernel_rfl) (fun _ _ _ h => h) (Or.inl ⟨by kernel_rfl, by intro w hSw; (try dsimp only at hSw); go_simp⟩) hHeld ?_
  simp only [List.set_cons_zero, List.set_cons_succ]
  refine wpAnyH_ready (rs := [2]) (by kernel_rfl) (by simp) (AllReadyH.cons rfl (fun K hK => ?_) AllReadyH.nil)
  go_simp
  refine (wide_bn w1.drew A B pa pb).mono ?_
  rintro e w2 ⟨a1, k1, c1, rfl, hv1, bw2⟩
  have fw2_0 : w2.cell? ⟨p1, 0, none⟩ = some (.int .u64 A) := kc (show w1.drew.cell? _ = _ from d0) bw2
  have fw2_1 : w2.cell? ⟨p1, 1, none⟩ = some (.int .u64 B) := kc (show w1.drew.cell? _ = _ from d1) bw2
  have fw2_2 : w2.cell? ⟨p1, 2, none⟩ = some (.int .u64 C) := kc (show w1.drew.cell? _ = _ from d2) bw2
  have fw2_3 : w2.cell? ⟨p1, 3, none⟩ = some (.int .u64 E) := kc (show w1.drew.cell? _ = _ from d3) bw2
  have HB2 := mkHid (bt HB1.out.drew bw2)
  have HV1 := mkHid hv1
  clear hv1
  clear bw2 hHeld
  refine hK.out _ _ ⟨fw2_0, fw2_1, fw2_2, fw2_3⟩ (fun hHeld => ?_)
  clear hK K
  refine wpAnyH_ready (rs := [5]) (by kernel_rfl) (by simp) (AllReadyH.cons rfl (fun K hK => ?_) AllReadyH.nil)
  go_simp
  refine (wide_bn w2 C E pc pe).mono ?_
  rintro e w3 ⟨a2, k2, c2, rfl, hv2, bw3⟩
  have fw3_0 : w3.cell? ⟨p1, 0, none⟩ = some (.int .u64 A) := kc fw2_0 bw3
  have fw3_1 : w3.cell? ⟨p1, 1, none⟩ = some (.int .u64 B) := kc fw2_1 bw3
  have fw3_2 : w3.cell? ⟨p1, 2, none⟩ = some (.int .u64 C) := kc fw2_2 bw3
  have fw3_3 : w3.cell? ⟨p1, 3, none⟩ = some (.int .u64 E) := kc fw2_3 bw3
  have HB3 := mkHid (bt HB2.out bw3)
  have HV1b := mkHid (HV1.out.later bw3)
  have HV2 := mkHid hv2
  clear hv2
  clear bw3 hHeld HV1
  refine hK.out _ _ ⟨fw3_0, fw3_1, fw3_2, fw3_3⟩ (fun hHeld => ?_)
  clear hK K
  refine takeD 6 10 (.slice a1 k1 c1) rfl rfl (by kernel_rfl) (by kernel_rfl) (by kernel_rfl) (fun _ _ _ h => h) (Or.inl ⟨by kernel_rfl, by intro w hSw; (try dsimp only at hSw); go_simp⟩) hHeld ?_
  simp only [List.set_cons_zero, List.set_cons_succ]
  refine takeD 7 11 (.slice a2 k2 c2) rfl rfl (by kernel_rfl) (by kernel_rfl) (by kernel_rfl) (fun _ _ _ h => h) (Or.inl ⟨by kernel_rfl, by intro w hSw; (try dsimp only at hSw); go_simp⟩) hHeld ?_
  simp only [List.set_cons_zero, List.set_cons_succ]
  refine wpAnyH_done (by kernel_rfl) ?_ _
  rw [HNN.out] at HV1b
  rw [HDD.out] at HV2
  clear fw3_0 fw3_1 fw3_2 fw3_3 hHeld
  go_wp2_with (first
    | (go_at_call 117; clear MK1; refine (of_bn _ (T) (by omega) (by omega)).mono ?_; rintro e w4 ⟨a3, k3, c3, rfl, hv3, bw4⟩; have V1_w4 := mkHid (HV1b.out.later bw4); have V2_w4 := mkHid (HV2.out.later bw4); have V3_w4 := mkHid hv3; have HB4 := mkHid (bt HB3.out bw4); clear hv3 bw4 HV1b HV2)
    | (go_at_call 116; clear MK2; refine (times_bn _ _ _ (N) (T) (8) (4) V1_w4.out V3_w4.out (by omega) (by omega)).mono ?_; rintro e w5 ⟨a4, k4, c4, rfl, hv4, bw5⟩; have V1_w5 := mkHid (V1_w4.out.later bw5); have V2_w5 := mkHid (V2_w4.out.later bw5); have V4_w5 := mkHid hv4; have HB5 := mkHid (bt HB4.out bw5); clear hv4 bw5 V1_w4 V2_w4 V3_w4)
    | (go_at_call 117; clear MK3; refine (of_bn _ (Q) (by omega) (by omega)).mono ?_; rintro e w6 ⟨a5, k5, c5, rfl, hv5, bw6⟩; have V1_w6 := mkHid (V1_w5.out.later bw6); have V2_w6 := mkHid (V2_w5.out.later bw6); have V4_w6 := mkHid (V4_w5.out.later bw6); have V5_w6 := mkHid hv5; have HB6 := mkHid (bt HB5.out bw6); clear hv5 bw6 V1_w5 V2_w5 V4_w5)
    | (go_at_call 116; clear MK4; refine (times_bn _ _ _ (D) (Q) (8) (4) V2_w6.out V5_w6.out (by omega) (by omega)).mono ?_; rintro e w7 ⟨a6, k6, c6, rfl, hv6, bw7⟩; have V1_w7 := mkHid (V1_w6.out.later bw7); have V2_w7 := mkHid (V2_w6.out.later bw7); have V4_w7 := mkHid (V4_w6.out.later bw7); have V6_w7 := mkHid hv6; have HB7 := mkHid (bt HB6.out bw7); clear hv6 bw7 V1_w6 V2_w6 V4_w6 V5_w6)
    | (go_at_call 115; clear MK5; refine (less_bn _ _ _ ((N) * (T)) ((D) * (Q)) (8 + 4 + 1) (8 + 4 + 1) V4_w7.out V6_w7.out (by omega) (by omega) _ HT1.out).mono ?_; rintro e w8 ⟨rfl, hww8⟩; rw [hww8]; clear hww8))
  go_ret
  exact ⟨rfl, HB7.out⟩
set_option maxHeartbeats 25600000 in
theorem rline_above (w : World) (s : Sv) (N D more : Int) {A B C E : Int} (h : okW s) (hp : Pt (N, D) A B C E) (N0 : 0 ≤ N) (N1 : N ≤ 147573952589676412928) (D0 : 1 ≤ D) (D1 : D ≤ 18446744073709551616) (m0 : 0 ≤ more) (m1 : more ≤ 10000) (ht1 : decide (N * (dS s + qS s) < D * qS s) = true) (ht2 : decide (LineP s N D more) = false) :
    Calls Tryz.prog 71 #[vS s, vP A B C E, .int .i64 more] w fun e w' => e = .returned (.bool false) ∧ Below w.heap.size w w' := by
  obtain ⟨n1, n2, n3, n4, n5⟩ := h.nums
  have HS : Hid (∀ W, Calls Tryz.prog 113 #[vS s] W fun e w' => e = .returned (.tuple #[.int .i64 (qS s), .int .i64 (dS s + qS s), .int .i64 (gS s + dS s)]) ∧ Below W.heap.size W w') := mkHid (fun W => rslope_yes W s h)
  obtain ⟨pa, pb, pc, pe, e1, e2⟩ := hp
  simp only at e1 e2
  obtain ⟨Q, hQ⟩ : ∃ Q, Q = qS s := ⟨_, rfl⟩
  obtain ⟨T, hT⟩ : ∃ T, T = dS s + qS s := ⟨_, rfl⟩
  obtain ⟨G, hG⟩ : ∃ G, G = gS s + dS s := ⟨_, rfl⟩
  obtain ⟨M, hM⟩ : ∃ M, M = 4096 - G := ⟨_, rfl⟩
  obtain ⟨X, hX⟩ : ∃ X, X = Q * M := ⟨_, rfl⟩
  have hM0 : 0 ≤ M := by omega
  have hM1 : ¬ M < 0 := by omega
  have hX0 : 0 ≤ X := by rw [hX]; exact Int.mul_nonneg (by omega) hM0
  have hX1 : X ≤ 256 * 4096 := by rw [hX]; exact Int.mul_le_mul (by omega) (by omega) (by omega) (by omega)
  have ew1 : IntKind.i64.wrap (4096 - G) = M := by rw [hM]; exact wfit (by omega) (by omega)
  have ew2 : IntKind.i64.wrap (Q * M) = X := by rw [← hX]; exact wfit (by omega) (by omega)
  have T0 : 0 ≤ T ∧ T ≤ 256 := by omega
  have Q0 : 0 ≤ Q ∧ Q ≤ 256 := by omega
  have HT1 : Hid (decide (N * T < D * Q) = true) := mkHid (by rw [hT, hQ]; exact ht1)
  have HT2 : Hid (decide (D * X < (N * 4096 + D * more) * T) = true) := mkHid (by
    rw [hX, hM, hQ, hT, hG]
    have hl : ¬ LineP s N D more := of_decide_eq_false ht2
    unfold LineP at hl
    exact decide_eq_true (by omega))
  rw [← hT, ← hG, ← hQ] at HS
  have HNN := mkHid e1
  have HDD := mkHid e2
  obtain ⟨k, q, t⟩ := s
  clear ht1 ht2 hX hM hG hT hQ e1 e2 n1 n2 n3 n4 n5 h N0 N1 D0 D1
  have MK1 : Hid True := mkHid trivial
  have MK2 : Hid True := mkHid trivial
  have MK3 : Hid True := mkHid trivial
  have MK4 : Hid True := mkHid trivial
  have MK5 : Hid True := mkHid trivial
  have MK6 : Hid True := mkHid trivial
  have MK7 : Hid True := mkHid trivial
  have MK8 : Hid True := mkHid trivial
  have MK9 : Hid True := mkHid trivial
  have MK10 : Hid True := mkHid trivial
  have MK11 : Hid True := mkHid trivial
  have MK12 : Hid True := mkHid trivial
  have MK13 : Hid True := mkHid trivial
  have MK14 : Hid True := mkHid trivial
  have MK15 : Hid True := mkHid trivial
  go_enter Tryz.func71, Tryz.ntmps71
  go_wp2_with (go_at_call 113; refine (HS.out _).mono ?_; rintro e w1 ⟨rfl, b1⟩; have d0 := kc (a := ⟨w.heap.size + 1, 0, none⟩) (v := .int .u64 A) (by simp [go_sem]) b1; have d1 := kc (a := ⟨w.heap.size + 1, 1, none⟩) (v := .int .u64 B) (by simp [go_sem]) b1; have d2 := kc (a := ⟨w.heap.size + 1, 2, none⟩) (v := .int .u64 C) (by simp [go_sem]) b1; have d3 := kc (a := ⟨w.heap.size + 1, 3, none⟩) (v := .int .u64 E) (by simp [go_sem]) b1; have HB1 := mkHid (bt (ba (ba (Below.refl _ _) _) _) b1); clear b1)
  generalize w.heap.size + 1 = p1 at d0 d1 d2 d3 ⊢
  refine wp_region_held_drew (S := fun w' => w'.cell? ⟨p1, 0, none⟩ = some (.int .u64 A) ∧ w'.cell? ⟨p1, 1, none⟩ = some (.int .u64 B) ∧ w'.cell? ⟨p1, 2, none⟩ = some (.int .u64 C) ∧ w'.cell? ⟨p1, 3, none⟩ = some (.int .u64 E)) (by kernel_rfl) ⟨d0, d1, d2, d3⟩ (fun hHeld => ?_)
  refine takeD 0 20 (.pointer (some ⟨p1, 0, none⟩)) rfl rfl (by kernel_rfl) (by kernel_rfl) (by kernel_rfl) (fun _ _ _ h => h) (Or.inl ⟨by kernel_rfl, by intro w hSw; (try dsimp only at hSw); go_simp⟩) hHeld ?_
  simp only [List.set_cons_zero, List.set_cons_succ]
  refine takeD 1 21 (.agg #[.int .u64 A, .int .u64 B]) rfl rfl (by kernel_rfl) (by kernel_rfl) (by kernel_rfl) (fun _ _ _ h => h) (Or.inl ⟨by kernel_rfl, by intro w hSw; (try dsimp only at hSw); go_simp⟩) hHeld ?_
  simp only [List.set_cons_zero, List.set_cons_succ]
  refine takeD 3 23 (.pointer (some ⟨p1, 2, none⟩)) rfl rfl (by kernel_rfl) (by kernel_rfl) (by kernel_rfl) (fun _ _ _ h => h) (Or.inl ⟨by kernel_rfl, by intro w hSw; (try dsimp only at hSw); go_simp⟩) hHeld ?_
  simp only [List.set_cons_zero, List.set_cons_succ]
  refine takeD 4 24 (.agg #[.int .u64 C, .int .u64 E]) rfl rfl (by kernel_rfl) (by kernel_rfl) (by kernel_rfl) (fun _ _ _ h => h) (Or.inl ⟨by kernel_rfl, by intro w hSw; (try dsimp only at hSw); go_simp⟩) hHeld ?_
  simp only [List.set_cons_zero, List.set_cons_succ]
  refine wpAnyH_ready (rs := [2]) (by kernel_rfl) (by simp) (AllReadyH.cons rfl (fun K hK => ?_) AllReadyH.nil)
  go_simp
  refine (wide_bn w1.drew A B pa pb).mono ?_
  rintro e w2 ⟨a1, k1, c1, rfl, hv1, bw2⟩
  have fw2_0 : w2.cell? ⟨p1, 0, none⟩ = some (.int .u64 A) := kc (show w1.drew.cell? _ = _ from d0) bw2
  have fw2_1 : w2.cell? ⟨p1, 1, none⟩ = some (.int .u64 B) := kc (show w1.drew.cell? _ = _ from d1) bw2
  have fw2_2 : w2.cell? ⟨p1, 2, none⟩ = some (.int .u64 C) := kc (show w1.drew.cell? _ = _ from d2) bw2
  have fw2_3 : w2.cell? ⟨p1, 3, none⟩ = some (.int .u64 E) := kc (show w1.drew.cell? _ = _ from d3) bw2
  have HB2 := mkHid (bt HB1.out.drew bw2)
  have HV1 := mkHid hv1
  clear hv1
  clear bw2 hHeld
  refine hK.out _ _ ⟨fw2_0, fw2_1, fw2_2, fw2_3⟩ (fun hHeld => ?_)
  clear hK K
  refine wpAnyH_ready (rs := [5]) (by kernel_rfl) (by simp) (AllReadyH.cons rfl (fun K hK => ?_) AllReadyH.nil)
  go_simp
  refine (wide_bn w2 C E pc pe).mono ?_
  rintro e w3 ⟨a2, k2, c2, rfl, hv2, bw3⟩
  have fw3_0 : w3.cell? ⟨p1, 0, none⟩ = some (.int .u64 A) := kc fw2_0 bw3
  have fw3_1 : w3.cell? ⟨p1, 1, none⟩ = some (.int .u64 B) := kc fw2_1 bw3
  have fw3_2 : w3.cell? ⟨p1, 2, none⟩ = some (.int .u64 C) := kc fw2_2 bw3
  have fw3_3 : w3.cell? ⟨p1, 3, none⟩ = some (.int .u64 E) := kc fw2_3 bw3
  have HB3 := mkHid (bt HB2.out bw3)
  have HV1b := mkHid (HV1.out.later bw3)
  have HV2 := mkHid hv2
  clear hv2
  clear bw3 hHeld HV1
  refine hK.out _ _ ⟨fw3_0, fw3_1, fw3_2, fw3_3⟩ (fun hHeld => ?_)
  clear hK K
  refine takeD 6 10 (.slice a1 k1 c1) rfl rfl (by kernel_rfl) (by kernel_rfl) (by kernel_rfl) (fun _ _ _ h => h) (Or.inl ⟨by kernel_rfl, by intro w hSw; (try dsimp only at hSw); go_simp⟩) hHeld ?_
  simp only [List.set_cons_zero, List.set_cons_succ]
  refine takeD 7 11 (.slice a2 k2 c2) rfl rfl (by kernel_rfl) (by kernel_rfl) (by kernel_rfl) (fun _ _ _ h => h) (Or.inl ⟨by kernel_rfl, by intro w hSw; (try dsimp only at hSw); go_simp⟩) hHeld ?_
  simp only [List.set_cons_zero, List.set_cons_succ]
  refine wpAnyH_done (by kernel_rfl) ?_ _
  rw [HNN.out] at HV1b
  rw [HDD.out] at HV2
  clear fw3_0 fw3_1 fw3_2 fw3_3 hHeld
  go_wp2_with (first
    | (go_at_call 117; clear MK1; refine (of_bn _ (T) (by omega) (by omega)).mono ?_; rintro e w4 ⟨a3, k3, c3, rfl, hv3, bw4⟩; have V1_w4 := mkHid (HV1b.out.later bw4); have V2_w4 := mkHid (HV2.out.later bw4); have V3_w4 := mkHid hv3; have HB4 := mkHid (bt HB3.out bw4); clear hv3 bw4 HV1b HV2)
    | (go_at_call 116; clear MK2; refine (times_bn _ _ _ (N) (T) (8) (4) V1_w4.out V3_w4.out (by omega) (by omega)).mono ?_; rintro e w5 ⟨a4, k4, c4, rfl, hv4, bw5⟩; have V1_w5 := mkHid (V1_w4.out.later bw5); have V2_w5 := mkHid (V2_w4.out.later bw5); have V4_w5 := mkHid hv4; have HB5 := mkHid (bt HB4.out bw5); clear hv4 bw5 V1_w4 V2_w4 V3_w4)
    | (go_at_call 117; clear MK3; refine (of_bn _ (Q) (by omega) (by omega)).mono ?_; rintro e w6 ⟨a5, k5, c5, rfl, hv5, bw6⟩; have V1_w6 := mkHid (V1_w5.out.later bw6); have V2_w6 := mkHid (V2_w5.out.later bw6); have V4_w6 := mkHid (V4_w5.out.later bw6); have V5_w6 := mkHid hv5; have HB6 := mkHid (bt HB5.out bw6); clear hv5 bw6 V1_w5 V2_w5 V4_w5)
    | (go_at_call 116; clear MK4; refine (times_bn _ _ _ (D) (Q) (8) (4) V2_w6.out V5_w6.out (by omega) (by omega)).mono ?_; rintro e w7 ⟨a6, k6, c6, rfl, hv6, bw7⟩; have V1_w7 := mkHid (V1_w6.out.later bw7); have V2_w7 := mkHid (V2_w6.out.later bw7); have V4_w7 := mkHid (V4_w6.out.later bw7); have V6_w7 := mkHid hv6; have HB7 := mkHid (bt HB6.out bw7); clear hv6 bw7 V1_w6 V2_w6 V4_w6 V5_w6)
    | (go_at_call 115; clear MK5; refine (less_bn _ _ _ ((N) * (T)) ((D) * (Q)) (8 + 4 + 1) (8 + 4 + 1) V4_w7.out V6_w7.out (by omega) (by omega) _ HT1.out).mono ?_; rintro e w8 ⟨rfl, hww8⟩; rw [hww8]; clear hww8)
    | (go_at_call 117; clear MK6; refine (of_bn _ (4096) (by omega) (by omega)).mono ?_; rintro e w8 ⟨a7, k7, c7, rfl, hv7, bw8⟩; have V1_w8 := mkHid (V1_w7.out.later bw8); have V2_w8 := mkHid (V2_w7.out.later bw8); have V4_w8 := mkHid (V4_w7.out.later bw8); have V6_w8 := mkHid (V6_w7.out.later bw8); have V7_w8 := mkHid hv7; have HB8 := mkHid (bt HB7.out bw8); clear hv7 bw8 V1_w7 V2_w7 V4_w7 V6_w7)
    | (go_at_call 116; clear MK7; refine (times_bn _ _ _ (N) (4096) (8) (4) V1_w8.out V7_w8.out (by omega) (by omega)).mono ?_; rintro e w9 ⟨a8, k8, c8, rfl, hv8, bw9⟩; have V2_w9 := mkHid (V2_w8.out.later bw9); have V8_w9 := mkHid hv8; have HB9 := mkHid (bt HB8.out bw9); clear hv8 bw9 V1_w8 V2_w8 V4_w8 V6_w8 V7_w8)
    | (go_at_call 117; clear MK8; refine (of_bn _ (more) (by omega) (by omega)).mono ?_; rintro e w10 ⟨a9, k9, c9, rfl, hv9, bw10⟩; have V2_w10 := mkHid (V2_w9.out.later bw10); have V8_w10 := mkHid (V8_w9.out.later bw10); have V9_w10 := mkHid hv9; have HB10 := mkHid (bt HB9.out bw10); clear hv9 bw10 V2_w9 V8_w9)
    | (go_at_call 116; clear MK9; refine (times_bn _ _ _ (D) (more) (8) (4) V2_w10.out V9_w10.out (by omega) (by omega)).mono ?_; rintro e w11 ⟨a10, k10, c10, rfl, hv10, bw11⟩; have V2_w11 := mkHid (V2_w10.out.later bw11); have V8_w11 := mkHid (V8_w10.out.later bw11); have V10_w11 := mkHid hv10; have HB11 := mkHid (bt HB10.out bw11); clear hv10 bw11 V2_w10 V8_w10 V9_w10)
    | (go_at_call 118; clear MK10; refine (plus_bn _ _ _ ((N) * (4096)) ((D) * (more)) (8 + 4 + 1) (8 + 4 + 1) V8_w11.out V10_w11.out (by omega) (by omega)).mono ?_; rintro e w12 ⟨a11, k11, c11, rfl, hv11, bw12⟩; have V2_w12 := mkHid (V2_w11.out.later bw12); have V11_w12 := mkHid hv11; have HB12 := mkHid (bt HB11.out bw12); clear hv11 bw12 V2_w11 V8_w11 V10_w11)
    | (go_at_call 117; clear MK11; refine (of_bn _ (X) (by omega) (by omega)).mono ?_; rintro e w13 ⟨a12, k12, c12, rfl, hv12, bw13⟩; have V2_w13 := mkHid (V2_w12.out.later bw13); have V11_w13 := mkHid (V11_w12.out.later bw13); have V12_w13 := mkHid hv12; have HB13 := mkHid (bt HB12.out bw13); clear hv12 bw13 V2_w12 V11_w12)
    | (go_at_call 116; clear MK12; refine (times_bn _ _ _ (D) (X) (8) (4) V2_w13.out V12_w13.out (by omega) (by omega)).mono ?_; rintro e w14 ⟨a13, k13, c13, rfl, hv13, bw14⟩; have V11_w14 := mkHid (V11_w13.out.later bw14); have V13_w14 := mkHid hv13; have HB14 := mkHid (bt HB13.out bw14); clear hv13 bw14 V2_w13 V11_w13 V12_w13)
    | (go_at_call 117; clear MK13; refine (of_bn _ (T) (by omega) (by omega)).mono ?_; rintro e w15 ⟨a14, k14, c14, rfl, hv14, bw15⟩; have V11_w15 := mkHid (V11_w14.out.later bw15); have V13_w15 := mkHid (V13_w14.out.later bw15); have V14_w15 := mkHid hv14; have HB15 := mkHid (bt HB14.out bw15); clear hv14 bw15 V11_w14 V13_w14)
    | (go_at_call 116; clear MK14; refine (times_bn _ _ _ (((N) * (4096)) + ((D) * (more))) (T) (max (8 + 4 + 1) (8 + 4 + 1) + 1) (4) V11_w15.out V14_w15.out (by omega) (by omega)).mono ?_; rintro e w16 ⟨a15, k15, c15, rfl, hv15, bw16⟩; have V13_w16 := mkHid (V13_w15.out.later bw16); have V15_w16 := mkHid hv15; have HB16 := mkHid (bt HB15.out bw16); clear hv15 bw16 V11_w15 V13_w15 V14_w15)
    | (go_at_call 115; clear MK15; refine (less_bn _ _ _ ((D) * (X)) ((((N) * (4096)) + ((D) * (more))) * (T)) (8 + 4 + 1) (max (8 + 4 + 1) (8 + 4 + 1) + 1 + 4 + 1) V13_w16.out V15_w16.out (by omega) (by omega) _ HT2.out).mono ?_; rintro e w17 ⟨rfl, hww17⟩; rw [hww17]; clear hww17))
  go_ret
  exact ⟨rfl, HB16.out⟩
set_option maxHeartbeats 25600000 in
theorem rline_yes (w : World) (s : Sv) (N D more : Int) {A B C E : Int} (h : okW s) (hp : Pt (N, D) A B C E) (N0 : 0 ≤ N) (N1 : N ≤ 147573952589676412928) (D0 : 1 ≤ D) (D1 : D ≤ 18446744073709551616) (m0 : 0 ≤ more) (m1 : more ≤ 10000) (ht1 : decide (N * (dS s + qS s) < D * qS s) = true) (ht2 : decide (LineP s N D more) = true) :
    Calls Tryz.prog 71 #[vS s, vP A B C E, .int .i64 more] w fun e w' => e = .returned (.bool true) ∧ Below w.heap.size w w' := by
  obtain ⟨n1, n2, n3, n4, n5⟩ := h.nums
  have HS : Hid (∀ W, Calls Tryz.prog 113 #[vS s] W fun e w' => e = .returned (.tuple #[.int .i64 (qS s), .int .i64 (dS s + qS s), .int .i64 (gS s + dS s)]) ∧ Below W.heap.size W w') := mkHid (fun W => rslope_yes W s h)
  obtain ⟨pa, pb, pc, pe, e1, e2⟩ := hp
  simp only at e1 e2
  obtain ⟨Q, hQ⟩ : ∃ Q, Q = qS s := ⟨_, rfl⟩
  obtain ⟨T, hT⟩ : ∃ T, T = dS s + qS s := ⟨_, rfl⟩
  obtain ⟨G, hG⟩ : ∃ G, G = gS s + dS s := ⟨_, rfl⟩
  obtain ⟨M, hM⟩ : ∃ M, M = 4096 - G := ⟨_, rfl⟩
  obtain ⟨X, hX⟩ : ∃ X, X = Q * M := ⟨_, rfl⟩
  have hM0 : 0 ≤ M := by omega
  have hM1 : ¬ M < 0 := by omega
  have hX0 : 0 ≤ X := by rw [hX]; exact Int.mul_nonneg (by omega) hM0
  have hX1 : X ≤ 256 * 4096 := by rw [hX]; exact Int.mul_le_mul (by omega) (by omega) (by omega) (by omega)
  have ew1 : IntKind.i64.wrap (4096 - G) = M := by rw [hM]; exact wfit (by omega) (by omega)
  have ew2 : IntKind.i64.wrap (Q * M) = X := by rw [← hX]; exact wfit (by omega) (by omega)
  have T0 : 0 ≤ T ∧ T ≤ 256 := by omega
  have Q0 : 0 ≤ Q ∧ Q ≤ 256 := by omega
  have HT1 : Hid (decide (N * T < D * Q) = true) := mkHid (by rw [hT, hQ]; exact ht1)
  have HT2 : Hid (decide (D * X < (N * 4096 + D * more) * T) = false) := mkHid (by
    rw [hX, hM, hQ, hT, hG]
    have hl : LineP s N D more := of_decide_eq_true ht2
    unfold LineP at hl
    exact decide_eq_false (by omega))
  rw [← hT, ← hG, ← hQ] at HS
  have HNN := mkHid e1
  have HDD := mkHid e2
  obtain ⟨k, q, t⟩ := s
  clear ht1 ht2 hX hM hG hT hQ e1 e2 n1 n2 n3 n4 n5 h N0 N1 D0 D1
  have MK1 : Hid True := mkHid trivial
  have MK2 : Hid True := mkHid trivial
  have MK3 : Hid True := mkHid trivial
  have MK4 : Hid True := mkHid trivial
  have MK5 : Hid True := mkHid trivial
  have MK6 : Hid True := mkHid trivial
  have MK7 : Hid True := mkHid trivial
  have MK8 : Hid True := mkHid trivial
  have MK9 : Hid True := mkHid trivial
  have MK10 : Hid True := mkHid trivial
  have MK11 : Hid True := mkHid trivial
  have MK12 : Hid True := mkHid trivial
  have MK13 : Hid True := mkHid trivial
  have MK14 : Hid True := mkHid trivial
  have MK15 : Hid True := mkHid trivial
  go_enter Tryz.func71, Tryz.ntmps71
  go_wp2_with (go_at_call 113; refine (HS.out _).mono ?_; rintro e w1 ⟨rfl, b1⟩; have d0 := kc (a := ⟨w.heap.size + 1, 0, none⟩) (v := .int .u64 A) (by simp [go_sem]) b1; have d1 := kc (a := ⟨w.heap.size + 1, 1, none⟩) (v := .int .u64 B) (by simp [go_sem]) b1; have d2 := kc (a := ⟨w.heap.size + 1, 2, none⟩) (v := .int .u64 C) (by simp [go_sem]) b1; have d3 := kc (a := ⟨w.heap.size + 1, 3, none⟩) (v := .int .u64 E) (by simp [go_sem]) b1; have HB1 := mkHid (bt (ba (ba (Below.refl _ _) _) _) b1); clear b1)
  generalize w.heap.size + 1 = p1 at d0 d1 d2 d3 ⊢
  refine wp_region_held_drew (S := fun w' => w'.cell? ⟨p1, 0, none⟩ = some (.int .u64 A) ∧ w'.cell? ⟨p1, 1, none⟩ = some (.int .u64 B) ∧ w'.cell? ⟨p1, 2, none⟩ = some (.int .u64 C) ∧ w'.cell? ⟨p1, 3, none⟩ = some (.int .u64 E)) (by kernel_rfl) ⟨d0, d1, d2, d3⟩ (fun hHeld => ?_)
  refine takeD 0 20 (.pointer (some ⟨p1, 0, none⟩)) rfl rfl (by kernel_rfl) (by kernel_rfl) (by kernel_rfl) (fun _ _ _ h => h) (Or.inl ⟨by kernel_rfl, by intro w hSw; (try dsimp only at hSw); go_simp⟩) hHeld ?_
  simp only [List.set_cons_zero, List.set_cons_succ]
  refine takeD 1 21 (.agg #[.int .u64 A, .int .u64 B]) rfl rfl (by kernel_rfl) (by kernel_rfl) (by kernel_rfl) (fun _ _ _ h => h) (Or.inl ⟨by kernel_rfl, by intro w hSw; (try dsimp only at hSw); go_simp⟩) hHeld ?_
  simp only [List.set_cons_zero, List.set_cons_succ]
  refine takeD 3 23 (.pointer (some ⟨p1, 2, none⟩)) rfl rfl (by kernel_rfl) (by kernel_rfl) (by kernel_rfl) (fun _ _ _ h => h) (Or.inl ⟨by kernel_rfl, by intro w hSw; (try dsimp only at hSw); go_simp⟩) hHeld ?_
  simp only [List.set_cons_zero, List.set_cons_succ]
  refine takeD 4 24 (.agg #[.int .u64 C, .int .u64 E]) rfl rfl (by kernel_rfl) (by kernel_rfl) (by kernel_rfl) (fun _ _ _ h => h) (Or.inl ⟨by kernel_rfl, by intro w hSw; (try dsimp only at hSw); go_simp⟩) hHeld ?_
  simp only [List.set_cons_zero, List.set_cons_succ]
  refine wpAnyH_ready (rs := [2]) (by kernel_rfl) (by simp) (AllReadyH.cons rfl (fun K hK => ?_) AllReadyH.nil)
  go_simp
  refine (wide_bn w1.drew A B pa pb).mono ?_
  rintro e w2 ⟨a1, k1, c1, rfl, hv1, bw2⟩
  have fw2_0 : w2.cell? ⟨p1, 0, none⟩ = some (.int .u64 A) := kc (show w1.drew.cell? _ = _ from d0) bw2
  have fw2_1 : w2.cell? ⟨p1, 1, none⟩ = some (.int .u64 B) := kc (show w1.drew.cell? _ = _ from d1) bw2
  have fw2_2 : w2.cell? ⟨p1, 2, none⟩ = some (.int .u64 C) := kc (show w1.drew.cell? _ = _ from d2) bw2
  have fw2_3 : w2.cell? ⟨p1, 3, none⟩ = some (.int .u64 E) := kc (show w1.drew.cell? _ = _ from d3) bw2
  have HB2 := mkHid (bt HB1.out.drew bw2)
  have HV1 := mkHid hv1
  clear hv1
  clear bw2 hHeld
  refine hK.out _ _ ⟨fw2_0, fw2_1, fw2_2, fw2_3⟩ (fun hHeld => ?_)
  clear hK K
  refine wpAnyH_ready (rs := [5]) (by kernel_rfl) (by simp) (AllReadyH.cons rfl (fun K hK => ?_) AllReadyH.nil)
  go_simp
  refine (wide_bn w2 C E pc pe).mono ?_
  rintro e w3 ⟨a2, k2, c2, rfl, hv2, bw3⟩
  have fw3_0 : w3.cell? ⟨p1, 0, none⟩ = some (.int .u64 A) := kc fw2_0 bw3
  have fw3_1 : w3.cell? ⟨p1, 1, none⟩ = some (.int .u64 B) := kc fw2_1 bw3
  have fw3_2 : w3.cell? ⟨p1, 2, none⟩ = some (.int .u64 C) := kc fw2_2 bw3
  have fw3_3 : w3.cell? ⟨p1, 3, none⟩ = some (.int .u64 E) := kc fw2_3 bw3
  have HB3 := mkHid (bt HB2.out bw3)
  have HV1b := mkHid (HV1.out.later bw3)
  have HV2 := mkHid hv2
  clear hv2
  clear bw3 hHeld HV1
  refine hK.out _ _ ⟨fw3_0, fw3_1, fw3_2, fw3_3⟩ (fun hHeld => ?_)
  clear hK K
  refine takeD 6 10 (.slice a1 k1 c1) rfl rfl (by kernel_rfl) (by kernel_rfl) (by kernel_rfl) (fun _ _ _ h => h) (Or.inl ⟨by kernel_rfl, by intro w hSw; (try dsimp only at hSw); go_simp⟩) hHeld ?_
  simp only [List.set_cons_zero, List.set_cons_succ]
  refine takeD 7 11 (.slice a2 k2 c2) rfl rfl (by kernel_rfl) (by kernel_rfl) (by kernel_rfl) (fun _ _ _ h => h) (Or.inl ⟨by kernel_rfl, by intro w hSw; (try dsimp only at hSw); go_simp⟩) hHeld ?_
  simp only [List.set_cons_zero, List.set_cons_succ]
  refine wpAnyH_done (by kernel_rfl) ?_ _
  rw [HNN.out] at HV1b
  rw [HDD.out] at HV2
  clear fw3_0 fw3_1 fw3_2 fw3_3 hHeld
  go_wp2_with (first
    | (go_at_call 117; clear MK1; refine (of_bn _ (T) (by omega) (by omega)).mono ?_; rintro e w4 ⟨a3, k3, c3, rfl, hv3, bw4⟩; have V1_w4 := mkHid (HV1b.out.later bw4); have V2_w4 := mkHid (HV2.out.later bw4); have V3_w4 := mkHid hv3; have HB4 := mkHid (bt HB3.out bw4); clear hv3 bw4 HV1b HV2)
    | (go_at_call 116; clear MK2; refine (times_bn _ _ _ (N) (T) (8) (4) V1_w4.out V3_w4.out (by omega) (by omega)).mono ?_; rintro e w5 ⟨a4, k4, c4, rfl, hv4, bw5⟩; have V1_w5 := mkHid (V1_w4.out.later bw5); have V2_w5 := mkHid (V2_w4.out.later bw5); have V4_w5 := mkHid hv4; have HB5 := mkHid (bt HB4.out bw5); clear hv4 bw5 V1_w4 V2_w4 V3_w4)
    | (go_at_call 117; clear MK3; refine (of_bn _ (Q) (by omega) (by omega)).mono ?_; rintro e w6 ⟨a5, k5, c5, rfl, hv5, bw6⟩; have V1_w6 := mkHid (V1_w5.out.later bw6); have V2_w6 := mkHid (V2_w5.out.later bw6); have V4_w6 := mkHid (V4_w5.out.later bw6); have V5_w6 := mkHid hv5; have HB6 := mkHid (bt HB5.out bw6); clear hv5 bw6 V1_w5 V2_w5 V4_w5)
    | (go_at_call 116; clear MK4; refine (times_bn _ _ _ (D) (Q) (8) (4) V2_w6.out V5_w6.out (by omega) (by omega)).mono ?_; rintro e w7 ⟨a6, k6, c6, rfl, hv6, bw7⟩; have V1_w7 := mkHid (V1_w6.out.later bw7); have V2_w7 := mkHid (V2_w6.out.later bw7); have V4_w7 := mkHid (V4_w6.out.later bw7); have V6_w7 := mkHid hv6; have HB7 := mkHid (bt HB6.out bw7); clear hv6 bw7 V1_w6 V2_w6 V4_w6 V5_w6)
    | (go_at_call 115; clear MK5; refine (less_bn _ _ _ ((N) * (T)) ((D) * (Q)) (8 + 4 + 1) (8 + 4 + 1) V4_w7.out V6_w7.out (by omega) (by omega) _ HT1.out).mono ?_; rintro e w8 ⟨rfl, hww8⟩; rw [hww8]; clear hww8)
    | (go_at_call 117; clear MK6; refine (of_bn _ (4096) (by omega) (by omega)).mono ?_; rintro e w8 ⟨a7, k7, c7, rfl, hv7, bw8⟩; have V1_w8 := mkHid (V1_w7.out.later bw8); have V2_w8 := mkHid (V2_w7.out.later bw8); have V4_w8 := mkHid (V4_w7.out.later bw8); have V6_w8 := mkHid (V6_w7.out.later bw8); have V7_w8 := mkHid hv7; have HB8 := mkHid (bt HB7.out bw8); clear hv7 bw8 V1_w7 V2_w7 V4_w7 V6_w7)
    | (go_at_call 116; clear MK7; refine (times_bn _ _ _ (N) (4096) (8) (4) V1_w8.out V7_w8.out (by omega) (by omega)).mono ?_; rintro e w9 ⟨a8, k8, c8, rfl, hv8, bw9⟩; have V2_w9 := mkHid (V2_w8.out.later bw9); have V8_w9 := mkHid hv8; have HB9 := mkHid (bt HB8.out bw9); clear hv8 bw9 V1_w8 V2_w8 V4_w8 V6_w8 V7_w8)
    | (go_at_call 117; clear MK8; refine (of_bn _ (more) (by omega) (by omega)).mono ?_; rintro e w10 ⟨a9, k9, c9, rfl, hv9, bw10⟩; have V2_w10 := mkHid (V2_w9.out.later bw10); have V8_w10 := mkHid (V8_w9.out.later bw10); have V9_w10 := mkHid hv9; have HB10 := mkHid (bt HB9.out bw10); clear hv9 bw10 V2_w9 V8_w9)
    | (go_at_call 116; clear MK9; refine (times_bn _ _ _ (D) (more) (8) (4) V2_w10.out V9_w10.out (by omega) (by omega)).mono ?_; rintro e w11 ⟨a10, k10, c10, rfl, hv10, bw11⟩; have V2_w11 := mkHid (V2_w10.out.later bw11); have V8_w11 := mkHid (V8_w10.out.later bw11); have V10_w11 := mkHid hv10; have HB11 := mkHid (bt HB10.out bw11); clear hv10 bw11 V2_w10 V8_w10 V9_w10)
    | (go_at_call 118; clear MK10; refine (plus_bn _ _ _ ((N) * (4096)) ((D) * (more)) (8 + 4 + 1) (8 + 4 + 1) V8_w11.out V10_w11.out (by omega) (by omega)).mono ?_; rintro e w12 ⟨a11, k11, c11, rfl, hv11, bw12⟩; have V2_w12 := mkHid (V2_w11.out.later bw12); have V11_w12 := mkHid hv11; have HB12 := mkHid (bt HB11.out bw12); clear hv11 bw12 V2_w11 V8_w11 V10_w11)
    | (go_at_call 117; clear MK11; refine (of_bn _ (X) (by omega) (by omega)).mono ?_; rintro e w13 ⟨a12, k12, c12, rfl, hv12, bw13⟩; have V2_w13 := mkHid (V2_w12.out.later bw13); have V11_w13 := mkHid (V11_w12.out.later bw13); have V12_w13 := mkHid hv12; have HB13 := mkHid (bt HB12.out bw13); clear hv12 bw13 V2_w12 V11_w12)
    | (go_at_call 116; clear MK12; refine (times_bn _ _ _ (D) (X) (8) (4) V2_w13.out V12_w13.out (by omega) (by omega)).mono ?_; rintro e w14 ⟨a13, k13, c13, rfl, hv13, bw14⟩; have V11_w14 := mkHid (V11_w13.out.later bw14); have V13_w14 := mkHid hv13; have HB14 := mkHid (bt HB13.out bw14); clear hv13 bw14 V2_w13 V11_w13 V12_w13)
    | (go_at_call 117; clear MK13; refine (of_bn _ (T) (by omega) (by omega)).mono ?_; rintro e w15 ⟨a14, k14, c14, rfl, hv14, bw15⟩; have V11_w15 := mkHid (V11_w14.out.later bw15); have V13_w15 := mkHid (V13_w14.out.later bw15); have V14_w15 := mkHid hv14; have HB15 := mkHid (bt HB14.out bw15); clear hv14 bw15 V11_w14 V13_w14)
    | (go_at_call 116; clear MK14; refine (times_bn _ _ _ (((N) * (4096)) + ((D) * (more))) (T) (max (8 + 4 + 1) (8 + 4 + 1) + 1) (4) V11_w15.out V14_w15.out (by omega) (by omega)).mono ?_; rintro e w16 ⟨a15, k15, c15, rfl, hv15, bw16⟩; have V13_w16 := mkHid (V13_w15.out.later bw16); have V15_w16 := mkHid hv15; have HB16 := mkHid (bt HB15.out bw16); clear hv15 bw16 V11_w15 V13_w15 V14_w15)
    | (go_at_call 115; clear MK15; refine (less_bn _ _ _ ((D) * (X)) ((((N) * (4096)) + ((D) * (more))) * (T)) (8 + 4 + 1) (max (8 + 4 + 1) (8 + 4 + 1) + 1 + 4 + 1) V13_w16.out V15_w16.out (by omega) (by omega) _ HT2.out).mono ?_; rintro e w17 ⟨rfl, hww17⟩; rw [hww17]; clear hww17))
  go_ret
  exact ⟨rfl, HB16.out⟩
theorem rline_is (w : World) (s : Sv) (N D more : Int) {A B C E : Int} (h : okW s) (hp : Pt (N, D) A B C E) (N0 : 0 ≤ N) (N1 : N ≤ 147573952589676412928) (D0 : 1 ≤ D) (D1 : D ≤ 18446744073709551616) (m0 : 0 ≤ more) (m1 : more ≤ 10000) (b : Bool) (hb : b = true ↔ (N * (dS s + qS s) < D * qS s ∧ LineP s N D more)) :
    Calls Tryz.prog 71 #[vS s, vP A B C E, .int .i64 more] w fun e w' => e = .returned (.bool b) ∧ Below w.heap.size w w' := by
  by_cases h1 : N * (dS s + qS s) < D * qS s
  · by_cases h2 : LineP s N D more
    · rw [hb.mpr ⟨h1, h2⟩]
      exact rline_yes w s N D more h hp N0 N1 D0 D1 m0 m1 (decide_eq_true h1) (decide_eq_true h2)
    · rw [show b = false by cases b; rfl; exact absurd (hb.mp rfl).2 h2]
      exact rline_above w s N D more h hp N0 N1 D0 D1 m0 m1 (decide_eq_true h1) (decide_eq_false h2)
  · rw [show b = false by cases b; rfl; exact absurd (hb.mp rfl).1 h1]
    exact rline_no w s N D more h hp N0 N1 D0 D1 m0 m1 (decide_eq_false h1)
end Go.Proofs.YtjhekemgcmhjoaaGreatDoor

/- The document's admit: Kids, Drain. -/
namespace Go.Proofs.YtjhekemgcmhjoaaGreatDoor
open Go.ChangeShapes Go.WideShapes Go.ChangeAt Go.RowKit
set_option maxRecDepth 100000
attribute [local go_sem] World.cell?_alloc_some frozen_alloc_some

theorem sb_few {g d q l : Int} (hg : 0 ≤ g) (hd : 0 ≤ d) (hq : 1 ≤ q) (l0 : 0 ≤ l) : 0 ≤ sb g d q l ∧ sb g d q l ≤ l := ⟨sb_nonneg hg hd hq, sb_room hg hd hq l0⟩
set_option maxHeartbeats 6400000 in
theorem rkids_fit (w : World) (s : Sv) (v : Value) (xs : List Sv) (n : Int) (h : Svs w v xs) (h1 : okW s) (h2 : ∀ x ∈ xs, okS x) (h3 : xs.length ≤ 8) (hyes : FitK (gS s) (dS s) (qS s) xs → n = 0) (hno : ¬ FitK (gS s) (dS s) (qS s) xs → n = 12) :
    Calls Tryz.prog 34 #[vS s, v] w fun e w' => e = .returned (.int .i64 n) ∧ Below w.heap.size w w' := by
  obtain ⟨A, B, C, D, hp⟩ := sh_pt (xs.map qt) (okq_all h2) (by rw [List.length_map]; exact h3)
  obtain ⟨d1, d2, d3, d4⟩ := sh_fit (xs.map qt) (okq_all h2) (by rw [List.length_map]; exact h3)
  obtain ⟨q1, q2⟩ := tot_qq8 h2 h3
  obtain ⟨n1, n2, n3, n4, n5⟩ := h1.nums
  have H1 : Hid (∀ W, Calls Tryz.prog 69 #[vS s] W fun e w' => e = .returned (.bool true) ∧ Below W.heap.size W w') := mkHid (fun W => rlegal_yes W s h1)
  have H2 : Hid (∀ W, Below w.heap.size w W → Calls Tryz.prog 70 #[v] W fun e w' => e = .returned (.tuple #[vP A B C D, .int .i64 0]) ∧ Below W.heap.size W w') := mkHid (fun W hW => refservers_ok W v xs A B C D (h.below hW) h2 h3 hp)
  have H3 : Hid (∀ W b, (b = true ↔ ((sh (xs.map qt)).1 * (dS s + qS s) < (sh (xs.map qt)).2 * qS s ∧ LineP s (sh (xs.map qt)).1 (sh (xs.map qt)).2 (2 * tot qq xs))) → Calls Tryz.prog 71 #[vS s, vP A B C D, .int .i64 (2 * tot qq xs)] W fun e w' => e = .returned (.bool b) ∧ Below W.heap.size W w') :=
    mkHid (fun W b hb => rline_is W s _ _ (2 * tot qq xs) h1 hp d3 d4 d1 d2 (by omega) (by omega) b hb)
  have H4 : Hid (∀ W i, 0 ≤ i → i ≤ 4096 → Calls Tryz.prog 72 #[vS s, .int .i64 i] W fun e w' => e = .returned (.bool (sbAt (gS s) (dS s) (qS s) i)) ∧ Below W.heap.size W w') := mkHid (fun W i i0 i1 => at_yes W s i h1 i0 (by omega))
  have H5 : Hid (∀ W l, 0 ≤ l → l ≤ 4096 → Below w.heap.size w W → Calls Tryz.prog 73 #[v, .int .i64 l] W fun e w' => e = .returned (.int .i64 (tot (sdem · l) xs)) ∧ Below W.heap.size W w') := mkHid (fun W l l0 l1 hW => rtot_sdem W v xs l (h.below hW) h2 h3 l0 (by omega))
  have HX := mkHid h2
  have HS := mkHid h
  have HY := mkHid hyes
  have HO := mkHid hno
  have HN := mkHid (And.intro n1 (And.intro n2 n3))
  have HF : Hid (∀ l, 0 ≤ l → l ≤ 4096 → 0 ≤ tot (sdem · l) xs ∧ tot (sdem · l) xs ≤ 40960) := mkHid (fun l l0 l1 => sdem_few h2 h3 l0 l1)
  obtain ⟨k, q, t⟩ := s
  obtain ⟨a0, cap, rfl, hl, h9⟩ := id h
  clear h h9 h1 h2 hyes hno hp d1 d2 d3 d4 n1 n2 n3 n4 n5
  go_enter Tryz.func34, Tryz.ntmps34
  go_wp2_with (first
    | (go_at_call 69; refine (H1.out _).mono ?_; rintro e w1 ⟨rfl, b1⟩; have c0 := kc (a := ⟨w.heap.size, 0, none⟩) (v := .int .i64 k) (by simp [go_sem]) b1; have c1 := kc (a := ⟨w.heap.size, 1, none⟩) (v := .int .i64 q) (by simp [go_sem]) b1; have c2 := kc (a := ⟨w.heap.size, 2, none⟩) (v := .int .i64 t) (by simp [go_sem]) b1; have HB1 := mkHid (bt (ba (Below.refl _ _) _) b1); clear b1)
    | (go_at_call 70; refine (H2.out _ HB1.out).mono ?_; rintro e w2 ⟨rfl, b2⟩; have d0 := kc c0 b2; have d1 := kc c1 b2; have d2 := kc c2 b2; have HB2 := mkHid (bt HB1.out b2); clear b2 c0 c1 c2))
  obtain ⟨⟨z0, z1, z2, z3⟩, _⟩ := P4.new w2 A B C D
  have e0 := kl d0 (oP A B C D)
  have e1 := kl d1 (oP A B C D)
  have e2 := kl d2 (oP A B C D)
  clear d0 d1 d2
  obtain ⟨W, hW⟩ : ∃ W, W = w2.alloc (oP A B C D) := ⟨_, rfl⟩
  have HB3 : Hid (Below w.heap.size w W) := mkHid (by rw [hW]; exact ba HB2.out _)
  rw [← hW] at z0 z1 z2 z3 e0 e1 e2 ⊢
  clear hW HB1 HB2
  generalize w2.heap.size = p at *
  obtain ⟨p1, hP1⟩ : ∃ p1, p1 = w.heap.size := ⟨_, rfl⟩
  rw [← hP1] at e0 e1 e2 ⊢
  clear hP1
  have HCE := mkHid (And.intro e0 (And.intro e1 (And.intro e2 (And.intro z0 (And.intro z1 (And.intro z2 z3))))))
  clear e0 e1 e2 z0 z1 z2 z3
  go_loopw [7, 25] (fun nv iv wr => ∃ (j : Nat) (N : Int), nv = .int .i64 N ∧ iv = .int .i64 (j : Int) ∧ j ≤ xs.length ∧ 0 ≤ N ∧ N ≤ 2048 ∧ Hid (tot qq (xs.take j) = N) ∧ Hid (Below W.heap.size W wr)) (fun _ iv _ => xs.length - (intOf iv).toNat)
  case atStart => exact ⟨0, 0, rfl, rfl, Nat.zero_le _, by omega, by omega, mkHid rfl, mkHid (Below.refl _ _)⟩
  case round =>
    obtain ⟨j, N, rfl, rfl, hj, m0, m1, HNN, HB⟩ := hrel
    by_cases hlt : j < xs.length
    · obtain ⟨b, off, kk, qx, tt, rfl, hxj, c0, c1, c2⟩ := HS.out.at (bt HB3.out HB.out) j hlt
      have hji : (j : Int) < xs.length := by omega
      have e := tot_take qq hxj
      have e2 := tot_qq8 (xs := xs.take (j + 1)) (fun x hm => HX.out x (List.mem_of_mem_take hm)) (by rw [List.length_take]; omega)
      rw [e, HNN.out] at e2
      rw [HNN.out] at e
      have eq : qq (kk, qx, tt) = qx := rfl
      rw [eq] at e e2
      have HT := mkHid e
      have hq : qx ≤ 2048 := by omega
      have ew : IntKind.i64.wrap (N + qx) = N + qx := wfit (by omega) (by omega)
      clear hxj e eq
      go_wp2
      go_roundw
      case rel => exact ⟨j + 1, N + qx, rfl, by go_num, by omega, e2.1, e2.2, HT, mkHid (ba HB.out _)⟩
      case measure => simp [intOf]; omega
    · obtain rfl : j = xs.length := by omega
      have hN := HNN.out
      rw [List.take_length] at hN
      have ew : IntKind.i64.wrap (2 * N) = 2 * N := wfit (by omega) (by omega)
      have HY2 := mkHid HY.out
      have HO2 := mkHid HO.out
      unfold FitK Fits at HY2 HO2
      rw [hN] at H3 HY2 HO2
      obtain ⟨e0, e1, e2, z0, z1, z2, z3⟩ := HCE.out
      have f0 := kc e0 HB.out
      have f1 := kc e1 HB.out
      have f2 := kc e2 HB.out
      have y0 := kc z0 HB.out
      have y1 := kc z1 HB.out
      have y2 := kc z2 HB.out
      have y3 := kc z3 HB.out
      have HB5 := mkHid (bt HB3.out HB.out)
      clear hN HNN e0 e1 e2 z0 z1 z2 z3 HCE hlt hj
      by_cases hline : ((sh (xs.map qt)).1 * (dS (k, q, t) + qS (k, q, t)) < (sh (xs.map qt)).2 * qS (k, q, t) ∧ LineP (k, q, t) (sh (xs.map qt)).1 (sh (xs.map qt)).2 (2 * N))
      · have H3t := mkHid (fun W => H3.out W true ⟨fun _ => hline, fun _ => rfl⟩)
        have HYc : Hid ((∀ l, 1 ≤ l → l ≤ 4096 → tot (sdem · l) xs ≤ sb (gS (k, q, t)) (dS (k, q, t)) (qS (k, q, t)) l) → n = 0) := mkHid (fun hc => HY2.out ⟨hline.1, hline.2, hc⟩)
        have HOc : Hid (¬ (∀ l, 1 ≤ l → l ≤ 4096 → tot (sdem · l) xs ≤ sb (gS (k, q, t)) (dS (k, q, t)) (qS (k, q, t)) l) → n = 12) := mkHid (fun hc => HO2.out (fun hf => hc hf.2.2))
        clear hline H3 HY2 HO2 HY HO
        go_wp2_with (go_at_call 71; refine (H3t.out _).mono ?_; rintro e w6 ⟨rfl, b6⟩; have g0 := kc f0 b6; have g1 := kc f1 b6; have g2 := kc f2 b6; have HB6 := mkHid (bt HB5.out b6); clear b6 f0 f1 f2 y0 y1 y2 y3)
        have HCE := mkHid (And.intro g0 (And.intro g1 g2))
        clear g0 g1 g2
        go_loopw [10, 11] (fun sv lv wr => ∃ (S l : Int), sv = .int .i64 S ∧ lv = .int .i64 l ∧ 1 ≤ l ∧ l ≤ 4097 ∧ 0 ≤ S ∧ S ≤ 4096 ∧ Hid (sb (gS (k, q, t)) (dS (k, q, t)) (qS (k, q, t)) (l - 1) = S) ∧ Hid (∀ L, 1 ≤ L → L < l → tot (sdem · L) xs ≤ sb (gS (k, q, t)) (dS (k, q, t)) (qS (k, q, t)) L) ∧ Hid (Below w6.heap.size w6 wr)) (fun _ lv _ => (4097 - intOf lv).toNat)
        case atStart => exact ⟨0, 1, rfl, rfl, by omega, by omega, by omega, by omega, mkHid (by have := HN.out; exact sb_zero (by omega) (by omega) (by omega)), mkHid (fun L a b => by omega), mkHid (Below.refl _ _)⟩
        case round =>
          obtain ⟨S, l, rfl, rfl, l0, l1, s0, s1, HSS, HCC, HBB⟩ := hrel
          obtain ⟨g0, g1, g2⟩ := HCE.out
          have f0 := kc g0 HBB.out
          have f1 := kc g1 HBB.out
          have f2 := kc g2 HBB.out
          have HB7 := mkHid (bt HB6.out HBB.out)
          clear g0 g1 g2
          by_cases hl : l ≤ 4096
          · have ewl : IntKind.i64.wrap (l - 1) = l - 1 := wfit (by omega) (by omega)
            obtain ⟨S2, hS2⟩ : ∃ S2, sb (gS (k, q, t)) (dS (k, q, t)) (qS (k, q, t)) l = S2 := ⟨_, rfl⟩
            obtain ⟨U, hU⟩ : ∃ U, tot (sdem · l) xs = U := ⟨_, rfl⟩
            have bS := sb_few (g := gS (k, q, t)) (d := dS (k, q, t)) (q := qS (k, q, t)) (l := l) (by have := HN.out; omega) HN.out.2.1 HN.out.2.2 (by omega)
            rw [hS2] at bS
            have HS2 := mkHid hS2
            have HU := mkHid hU
            obtain ⟨bt_, hat⟩ : ∃ b, sbAt (gS (k, q, t)) (dS (k, q, t)) (qS (k, q, t)) (l - 1) = b := ⟨_, rfl⟩
            have HAT := mkHid hat
            have hst : (bt_ = true ∧ S2 = S + 1) ∨ (bt_ = false ∧ S2 = S) := by
              have hs := sb_step (g := gS (k, q, t)) (d := dS (k, q, t)) (q := qS (k, q, t)) (l := l - 1) HN.out.2.1 HN.out.2.2
              rw [show l - 1 + 1 = l by omega, hS2, HSS.out, hat] at hs
              cases bt_
              · right; simp at hs; exact ⟨rfl, hs⟩
              · left; simp at hs; exact ⟨rfl, hs⟩
            have HCN : Hid (U ≤ S2 → ∀ L, 1 ≤ L → L < l + 1 → tot (sdem · L) xs ≤ sb (gS (k, q, t)) (dS (k, q, t)) (qS (k, q, t)) L) := mkHid (fun hc L a b => by
              by_cases e : L = l
              · subst e; rw [HU.out, HS2.out]; exact hc
              · exact HCC.out L a (by omega))
            clear hS2 hU hat
            rcases hst with ⟨rfl, rfl⟩ | ⟨rfl, rfl⟩
            · have ews : IntKind.i64.wrap (S + 1) = S + 1 := wfit (by omega) (by omega)
              by_cases hc : U ≤ S + 1
              · go_wp2_with (first
                  | (go_at_call 72; refine (H4.out _ (l - 1) (by omega) (by omega)).mono ?_; rw [HAT.out]; rintro e w8 ⟨rfl, b8⟩; have HB8 := mkHid (bt HB7.out b8); have HC8 := mkHid (bt HBB.out b8); clear b8 f0 f1 f2)
                  | (go_at_call 73; refine (H5.out _ l (by omega) hl HB8.out).mono ?_; rw [HU.out]; rintro e w9 ⟨rfl, b9⟩; have HB9 := mkHid (bt HB8.out b9); have HC9 := mkHid (bt HC8.out b9); clear b9))
                go_roundw
                case rel => exact ⟨S + 1, l + 1, by go_num, by go_num, by omega, by omega, by omega, by omega, mkHid (by rw [show l + 1 - 1 = l by omega]; exact HS2.out), mkHid (by first | exact HCN.out hc | exact fun L a b => Int.not_le.mpr (HCN.out hc L a b)), HC9⟩
                case measure => simp [intOf]; omega
              · have hc2 : S + 1 < U := by omega
                have HR : Hid (n = 12) := mkHid (HOc.out (fun ha => by have := ha l (by omega) hl; rw [HU.out, HS2.out] at this; omega))
                go_wp2_with (first
                  | (go_at_call 72; refine (H4.out _ (l - 1) (by omega) (by omega)).mono ?_; rw [HAT.out]; rintro e w8 ⟨rfl, b8⟩; have HB8 := mkHid (bt HB7.out b8); have HC8 := mkHid (bt HBB.out b8); clear b8 f0 f1 f2)
                  | (go_at_call 73; refine (H5.out _ l (by omega) hl HB8.out).mono ?_; rw [HU.out]; rintro e w9 ⟨rfl, b9⟩; have HB9 := mkHid (bt HB8.out b9); have HC9 := mkHid (bt HC8.out b9); clear b9))
                go_ret
                exact ⟨by rw [HR.out]; rfl, HB9.out⟩
            · by_cases hc : U ≤ S2
              · go_wp2_with (first
                  | (go_at_call 72; refine (H4.out _ (l - 1) (by omega) (by omega)).mono ?_; rw [HAT.out]; rintro e w8 ⟨rfl, b8⟩; have HB8 := mkHid (bt HB7.out b8); have HC8 := mkHid (bt HBB.out b8); clear b8 f0 f1 f2)
                  | (go_at_call 73; refine (H5.out _ l (by omega) hl HB8.out).mono ?_; rw [HU.out]; rintro e w9 ⟨rfl, b9⟩; have HB9 := mkHid (bt HB8.out b9); have HC9 := mkHid (bt HC8.out b9); clear b9))
                go_roundw
                case rel => exact ⟨S2, l + 1, by go_num, by go_num, by omega, by omega, by omega, by omega, mkHid (by rw [show l + 1 - 1 = l by omega]; exact HS2.out), mkHid (by first | exact HCN.out hc | exact fun L a b => Int.not_le.mpr (HCN.out hc L a b)), HC9⟩
                case measure => simp [intOf]; omega
              · have hc2 : S2 < U := by omega
                have HR : Hid (n = 12) := mkHid (HOc.out (fun ha => by have := ha l (by omega) hl; rw [HU.out, HS2.out] at this; omega))
                go_wp2_with (first
                  | (go_at_call 72; refine (H4.out _ (l - 1) (by omega) (by omega)).mono ?_; rw [HAT.out]; rintro e w8 ⟨rfl, b8⟩; have HB8 := mkHid (bt HB7.out b8); have HC8 := mkHid (bt HBB.out b8); clear b8 f0 f1 f2)
                  | (go_at_call 73; refine (H5.out _ l (by omega) hl HB8.out).mono ?_; rw [HU.out]; rintro e w9 ⟨rfl, b9⟩; have HB9 := mkHid (bt HB8.out b9); have HC9 := mkHid (bt HC8.out b9); clear b9))
                go_ret
                exact ⟨by rw [HR.out]; rfl, HB9.out⟩
          · have HR : Hid (n = 0) := mkHid (HYc.out (fun L a b => HCC.out L a (by omega)))
            go_wp2
            go_ret
            exact ⟨by rw [HR.out]; rfl, HB7.out⟩
      · have H3f := mkHid (fun W => H3.out W false ⟨fun e => (by cases e), fun hf => absurd hf hline⟩)
        have HR : Hid (n = 12) := mkHid (HO2.out (fun hf => hline ⟨hf.1, hf.2.1⟩))
        clear hline H3 HY2 HO2 HY HO
        go_wp2_with (go_at_call 71; refine (H3f.out _).mono ?_; rintro e w6 ⟨rfl, b6⟩; have HB6 := mkHid (bt HB5.out b6); clear b6)
        go_ret
        exact ⟨by rw [HR.out]; rfl, HB6.out⟩
set_option maxHeartbeats 3200000 in
theorem rkids_is (w : World) (s : Sv) (v : Value) (xs : List Sv) (n : Int) (h : Svs w v xs) (hk : KC s xs n) :
    Calls Tryz.prog 34 #[vS s, v] w fun e w' => e = .returned (.int .i64 n) ∧ Below w.heap.size w w' := by
  obtain ⟨k, q, t⟩ := s
  obtain ⟨a0, cap, hv, hl, h9⟩ := id h
  have HS := mkHid h
  clear h h9
  cases hk with
  | parent h1 =>
    have HO := mkHid h1
    clear h1
    subst hv
    go_enter Tryz.func34, Tryz.ntmps34
    go_wp2_with (go_at_call 69; refine (rlegal_no _ (k, q, t) HO.out).mono ?_; rintro e w1 ⟨rfl, b1⟩; have HB1 := mkHid (bt (ba (Below.refl _ _) _) b1); clear b1)
    go_ret
    exact ⟨rfl, HB1.out⟩
  | server h1 h2 =>
    have HO := mkHid h1
    have HX := mkHid h2
    clear h1 h2
    subst hv
    go_enter Tryz.func34, Tryz.ntmps34
    go_wp2_with (first
      | (go_at_call 69; refine (rlegal_yes _ (k, q, t) HO.out).mono ?_; rintro e w1 ⟨rfl, b1⟩; have HB1 := mkHid (bt (ba (Below.refl _ _) _) b1); clear b1)
      | (go_at_call 70; refine (refservers_no _ _ xs (HS.out.below HB1.out) HX.out).mono ?_; rintro e w2 ⟨rfl, b2⟩; have HB2 := mkHid (bt HB1.out b2); clear b2))
    go_ret
    exact ⟨rfl, ba HB2.out _⟩
  | full h1 h2 h3 =>
    have HO := mkHid h1
    have HX := mkHid h2
    clear h1 h2
    subst hv
    go_enter Tryz.func34, Tryz.ntmps34
    go_wp2_with (first
      | (go_at_call 69; refine (rlegal_yes _ (k, q, t) HO.out).mono ?_; rintro e w1 ⟨rfl, b1⟩; have HB1 := mkHid (bt (ba (Below.refl _ _) _) b1); clear b1)
      | (go_at_call 70; refine (refservers_full _ _ xs (HS.out.below HB1.out) HX.out h3).mono ?_; rintro e w2 ⟨rfl, b2⟩; have HB2 := mkHid (bt HB1.out b2); clear b2))
    go_ret
    exact ⟨rfl, ba HB2.out _⟩
  | tight h1 h2 h3 h4 => exact rkids_fit w (k, q, t) v xs 12 HS.out h1 h2 h3 (fun hf => absurd hf h4) (fun _ => rfl)
  | fits h1 h2 h3 h4 => exact rkids_fit w (k, q, t) v xs 0 HS.out h1 h2 h3 (fun _ => rfl) (fun hf => absurd h4 hf)
theorem rdrain_no (w : World) (s : Sv) (v : Value) (xs : List Sv) (n : Int) (h : Svs w v xs) (hk : KC s xs n) (h0 : ¬ n = 0) :
    Calls Tryz.prog 45 #[vS s, v] w fun e w' => e = .returned (.tuple #[.int .i64 0, .int .i64 n]) ∧ Below w.heap.size w w' := by
  have H1 : Hid (∀ W, Below w.heap.size w W → Calls Tryz.prog 34 #[vS s, v] W fun e w' => e = .returned (.int .i64 n) ∧ Below W.heap.size W w') := mkHid (fun W hW => rkids_is W s v xs n (h.below hW) hk)
  obtain ⟨k, q, t⟩ := s
  obtain ⟨a0, cap, rfl, hl, h9⟩ := id h
  clear h h9 hk
  go_enter Tryz.func45, Tryz.ntmps45
  go_wp2_with (go_at_call 34; refine (H1.out _ (ba (Below.refl _ _) _)).mono ?_; rintro e w1 ⟨rfl, b1⟩; have HB1 := mkHid (bt (ba (Below.refl _ _) _) b1); clear b1)
  go_ret2
  exact ⟨rfl, HB1.out⟩
set_option maxHeartbeats 6400000 in
theorem rdrain_yes (w : World) (s : Sv) (v : Value) (xs : List Sv) (r n : Int) (h : Svs w v xs) (hk : KC s xs 0) (hr : Drn (gS s) (dS s) (qS s) xs r) (hyes : ¬ r = 0 → n = 0) (hno : r = 0 → n = 12) :
    Calls Tryz.prog 45 #[vS s, v] w fun e w' => e = .returned (.tuple #[.int .i64 r, .int .i64 n]) ∧ Below w.heap.size w w' := by
  obtain ⟨h1, h2, h3, _⟩ := hk.zero rfl
  obtain ⟨n1, n2, n3, n4, n5⟩ := h1.nums
  have H1 : Hid (∀ W, Below w.heap.size w W → Calls Tryz.prog 34 #[vS s, v] W fun e w' => e = .returned (.int .i64 0) ∧ Below W.heap.size W w') := mkHid (fun W hW => rkids_is W s v xs 0 (h.below hW) hk)
  have H4 : Hid (∀ W i, 0 ≤ i → i ≤ 4096 → Calls Tryz.prog 72 #[vS s, .int .i64 i] W fun e w' => e = .returned (.bool (sbAt (gS s) (dS s) (qS s) i)) ∧ Below W.heap.size W w') := mkHid (fun W i i0 i1 => at_yes W s i h1 i0 (by omega))
  have H5 : Hid (∀ W l, 0 ≤ l → l ≤ 4096 → Below w.heap.size w W → Calls Tryz.prog 86 #[v, .int .i64 l] W fun e w' => e = .returned (.int .i64 (tot (sreq · l) xs)) ∧ Below W.heap.size W w') := mkHid (fun W l l0 l1 hW => rtot_sreq W v xs l (h.below hW) h2 h3 l0 (by omega))
  have HYc := mkHid hyes
  have HOc := mkHid hno
  have HRr := mkHid hr
  unfold Drn at HRr
  have HN := mkHid (And.intro n1 (And.intro n2 n3))
  obtain ⟨k, q, t⟩ := s
  obtain ⟨a0, cap, rfl, hl, h9⟩ := id h
  clear h h9 h1 h2 hyes hno n1 n2 n3 n4 n5 hk hr
  go_enter Tryz.func45, Tryz.ntmps45
  go_wp2_with (go_at_call 34; refine (H1.out _ (ba (Below.refl _ _) _)).mono ?_; rintro e w6 ⟨rfl, b1⟩; have c0 := kc (a := ⟨w.heap.size, 0, none⟩) (v := .int .i64 k) (by simp [go_sem]) b1; have c1 := kc (a := ⟨w.heap.size, 1, none⟩) (v := .int .i64 q) (by simp [go_sem]) b1; have c2 := kc (a := ⟨w.heap.size, 2, none⟩) (v := .int .i64 t) (by simp [go_sem]) b1; have HB6 := mkHid (bt (ba (Below.refl _ _) _) b1); clear b1)
  have HCE := mkHid (And.intro c0 (And.intro c1 c2))
  clear c0 c1 c2
  go_loopw [7, 8] (fun sv lv wr => ∃ (S l : Int), sv = .int .i64 S ∧ lv = .int .i64 l ∧ 1 ≤ l ∧ l ≤ 4097 ∧ 0 ≤ S ∧ S ≤ 4096 ∧ Hid (sb (gS (k, q, t)) (dS (k, q, t)) (qS (k, q, t)) (l - 1) = S) ∧ Hid (∀ L, 1 ≤ L → L < l → ¬ tot (sreq · L) xs ≤ sb (gS (k, q, t)) (dS (k, q, t)) (qS (k, q, t)) L) ∧ Hid (Below w6.heap.size w6 wr)) (fun _ lv _ => (4097 - intOf lv).toNat)
  case atStart => exact ⟨0, 1, rfl, rfl, by omega, by omega, by omega, by omega, mkHid (by have := HN.out; exact sb_zero (by omega) (by omega) (by omega)), mkHid (fun L a b => by omega), mkHid (Below.refl _ _)⟩
  case round =>
    obtain ⟨S, l, rfl, rfl, l0, l1, s0, s1, HSS, HCC, HBB⟩ := hrel
    obtain ⟨g0, g1, g2⟩ := HCE.out
    have f0 := kc g0 HBB.out
    have f1 := kc g1 HBB.out
    have f2 := kc g2 HBB.out
    have HB7 := mkHid (bt HB6.out HBB.out)
    clear g0 g1 g2
    by_cases hl : l ≤ 4096
    · have ewl : IntKind.i64.wrap (l - 1) = l - 1 := wfit (by omega) (by omega)
      obtain ⟨S2, hS2⟩ : ∃ S2, sb (gS (k, q, t)) (dS (k, q, t)) (qS (k, q, t)) l = S2 := ⟨_, rfl⟩
      obtain ⟨U, hU⟩ : ∃ U, tot (sreq · l) xs = U := ⟨_, rfl⟩
      have bS := sb_few (g := gS (k, q, t)) (d := dS (k, q, t)) (q := qS (k, q, t)) (l := l) (by have := HN.out; omega) HN.out.2.1 HN.out.2.2 (by omega)
      rw [hS2] at bS
      have HS2 := mkHid hS2
      have HU := mkHid hU
      obtain ⟨bt_, hat⟩ : ∃ b, sbAt (gS (k, q, t)) (dS (k, q, t)) (qS (k, q, t)) (l - 1) = b := ⟨_, rfl⟩
      have HAT := mkHid hat
      have hst : (bt_ = true ∧ S2 = S + 1) ∨ (bt_ = false ∧ S2 = S) := by
        have hs := sb_step (g := gS (k, q, t)) (d := dS (k, q, t)) (q := qS (k, q, t)) (l := l - 1) HN.out.2.1 HN.out.2.2
        rw [show l - 1 + 1 = l by omega, hS2, HSS.out, hat] at hs
        cases bt_
        · right; simp at hs; exact ⟨rfl, hs⟩
        · left; simp at hs; exact ⟨rfl, hs⟩
      have HCN : Hid (¬ U ≤ S2 → ∀ L, 1 ≤ L → L < l + 1 → ¬ tot (sreq · L) xs ≤ sb (gS (k, q, t)) (dS (k, q, t)) (qS (k, q, t)) L) := mkHid (fun hc L a b => by
        by_cases e : L = l
        · subst e; rw [HU.out, HS2.out]; exact hc
        · exact HCC.out L a (by omega))
      clear hS2 hU hat
      rcases hst with ⟨rfl, rfl⟩ | ⟨rfl, rfl⟩
      · have ews : IntKind.i64.wrap (S + 1) = S + 1 := wfit (by omega) (by omega)
        by_cases hc : U ≤ S + 1
        · have HR : Hid (r = l) := mkHid (HRr.out.un (.inr ⟨by omega, by omega, by show tot (sreq · l) xs ≤ sb (gS (k, q, t)) (dS (k, q, t)) (qS (k, q, t)) l; rw [HU.out, HS2.out]; exact hc, HCC.out⟩))
          have HRn : Hid (n = 0) := mkHid (HYc.out (by have := HR.out; omega))
          go_wp2_with (first
            | (go_at_call 72; refine (H4.out _ (l - 1) (by omega) (by omega)).mono ?_; rw [HAT.out]; rintro e w8 ⟨rfl, b8⟩; have HB8 := mkHid (bt HB7.out b8); have HC8 := mkHid (bt HBB.out b8); clear b8 f0 f1 f2)
            | (go_at_call 86; refine (H5.out _ l (by omega) hl HB8.out).mono ?_; rw [HU.out]; rintro e w9 ⟨rfl, b9⟩; have HB9 := mkHid (bt HB8.out b9); have HC9 := mkHid (bt HC8.out b9); clear b9))
          go_ret2
          exact ⟨by rw [HR.out, HRn.out]; rfl, HB9.out⟩
        · go_wp2_with (first
            | (go_at_call 72; refine (H4.out _ (l - 1) (by omega) (by omega)).mono ?_; rw [HAT.out]; rintro e w8 ⟨rfl, b8⟩; have HB8 := mkHid (bt HB7.out b8); have HC8 := mkHid (bt HBB.out b8); clear b8 f0 f1 f2)
            | (go_at_call 86; refine (H5.out _ l (by omega) hl HB8.out).mono ?_; rw [HU.out]; rintro e w9 ⟨rfl, b9⟩; have HB9 := mkHid (bt HB8.out b9); have HC9 := mkHid (bt HC8.out b9); clear b9))
          go_roundw
          case rel => exact ⟨S + 1, l + 1, by go_num, by go_num, by omega, by omega, by omega, by omega, mkHid (by rw [show l + 1 - 1 = l by omega]; exact HS2.out), mkHid (by first | exact HCN.out hc | exact fun L a b => Int.not_le.mpr (HCN.out hc L a b)), HC9⟩
          case measure => simp [intOf]; omega
      · by_cases hc : U ≤ S2
        · have HR : Hid (r = l) := mkHid (HRr.out.un (.inr ⟨by omega, by omega, by show tot (sreq · l) xs ≤ sb (gS (k, q, t)) (dS (k, q, t)) (qS (k, q, t)) l; rw [HU.out, HS2.out]; exact hc, HCC.out⟩))
          have HRn : Hid (n = 0) := mkHid (HYc.out (by have := HR.out; omega))
          go_wp2_with (first
            | (go_at_call 72; refine (H4.out _ (l - 1) (by omega) (by omega)).mono ?_; rw [HAT.out]; rintro e w8 ⟨rfl, b8⟩; have HB8 := mkHid (bt HB7.out b8); have HC8 := mkHid (bt HBB.out b8); clear b8 f0 f1 f2)
            | (go_at_call 86; refine (H5.out _ l (by omega) hl HB8.out).mono ?_; rw [HU.out]; rintro e w9 ⟨rfl, b9⟩; have HB9 := mkHid (bt HB8.out b9); have HC9 := mkHid (bt HC8.out b9); clear b9))
          go_ret2
          exact ⟨by rw [HR.out, HRn.out]; rfl, HB9.out⟩
        · go_wp2_with (first
            | (go_at_call 72; refine (H4.out _ (l - 1) (by omega) (by omega)).mono ?_; rw [HAT.out]; rintro e w8 ⟨rfl, b8⟩; have HB8 := mkHid (bt HB7.out b8); have HC8 := mkHid (bt HBB.out b8); clear b8 f0 f1 f2)
            | (go_at_call 86; refine (H5.out _ l (by omega) hl HB8.out).mono ?_; rw [HU.out]; rintro e w9 ⟨rfl, b9⟩; have HB9 := mkHid (bt HB8.out b9); have HC9 := mkHid (bt HC8.out b9); clear b9))
          go_roundw
          case rel => exact ⟨S2, l + 1, by go_num, by go_num, by omega, by omega, by omega, by omega, mkHid (by rw [show l + 1 - 1 = l by omega]; exact HS2.out), mkHid (by first | exact HCN.out hc | exact fun L a b => Int.not_le.mpr (HCN.out hc L a b)), HC9⟩
          case measure => simp [intOf]; omega
    · have HR : Hid (r = 0) := mkHid (HRr.out.un (.inl ⟨rfl, fun L a b => HCC.out L a (by omega)⟩))
      have HRn : Hid (n = 12) := mkHid (HOc.out HR.out)
      go_wp2
      go_ret2
      exact ⟨by rw [HR.out, HRn.out]; rfl, HB7.out⟩
theorem rdrain_is (w : World) (s : Sv) (v : Value) (xs : List Sv) (r n : Int) (h : Svs w v xs) (hk : DC s xs r n) :
    Calls Tryz.prog 45 #[vS s, v] w fun e w' => e = .returned (.tuple #[.int .i64 r, .int .i64 n]) ∧ Below w.heap.size w w' := by
  cases hk with
  | no n hn h0 => exact rdrain_no w s v xs n h hn h0
  | none hn hr => exact rdrain_yes w s v xs 0 12 h hn hr (fun e => absurd rfl e) (fun _ => rfl)
  | yes r hn hr h0 => exact rdrain_yes w s v xs r 0 h hn hr (fun _ => rfl) (fun e => absurd e h0)
end Go.Proofs.YtjhekemgcmhjoaaGreatDoor

