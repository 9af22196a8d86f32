/- The document's admit: of, slope, line. -/
import Derived.Test.YtnmmphnaelpjdaaDoorAd6
import Derived.Test.YtnmmphnaelpjdaaDoorParts3
import Derived.Test.YtnmmphnaelpjdaaDoorRefPl2
namespace Go.Proofs.YtnmmphnaelpjdaaDoor
open Go.ChangeShapes Go.WideShapes Go.ChangeAt Go.RowKit
set_option maxRecDepth 100000
set_option linter.unusedVariables false
attribute [local go_sem] World.cell?_alloc_some frozen_alloc_some

/-- A number of digits in memory. -/
def BN (w : World) (v : Value) (n : Int) (L : Nat) : Prop := ∃ ds, Num w v ds ∧ val ds = n ∧ ds.length ≤ L
theorem BN.later {w w' : World} {v : Value} {n : Int} {L : Nat} (h : BN w v n L) (hb : Below w.heap.size w w') : BN w' v n L := by
  obtain ⟨ds, h1, h2, h3⟩ := h; exact ⟨ds, h1.later hb, h2, h3⟩
def BPost (w : World) (n : Int) (L : Nat) (e : Ending) (w' : World) : Prop := ∃ a k c, e = .returned (.slice a k c) ∧ BN w' (.slice a k c) n L ∧ Below w.heap.size w w'
theorem BPost.mk {w w' : World} {v : Value} {ds : List Int} {n : Int} {L : Nat} (h : Num w' v ds) (hv : val ds = n) (hl : ds.length ≤ L) (hb : Below w.heap.size w w') : BPost w n L (.returned v) w' := by
  obtain ⟨hd, a, cap, rfl, hr⟩ := id h
  exact ⟨a, _, _, rfl, ⟨ds, h, hv, hl⟩, hb⟩
theorem of_bn (w : World) (n : Int) (h0 : 0 ≤ n) (h1 : n ≤ 9223372036854775807) : Calls Tryd.prog 67 #[.int .i64 n] w (BPost w n 4) := by
  have ew : IntKind.u64.wrap n = n := by rw [IntKind.wrap_u64]; omega
  go_enter Tryd.func67, Tryd.ntmps67
  go_wp2_with (go_at_call 90; refine (of_hid n _ h0 (by omega)).mono ?_; rintro e w1 ⟨v, ds, rfl, n1, E1, l1, b1⟩)
  go_ret
  exact BPost.mk n1 E1.out (by omega) b1
theorem times_bn (w : World) (va vb : Value) (n m : Int) (L K : Nat) (ha : BN w va n L) (hb : BN w vb m K) (hL : L ≤ 1000) (hK : K ≤ 1000) : Calls Tryd.prog 66 #[va, vb] w (BPost w (n * m) (L + K + 1)) := by
  obtain ⟨ps, a1, rfl, a3⟩ := ha
  obtain ⟨qs, b1, rfl, b3⟩ := hb
  refine (times_any ps qs va vb w a1 b1 (by omega) (by omega)).mono ?_
  rintro e w' ⟨v, ds, rfl, h1, h2, h3, h4⟩
  exact BPost.mk h1 h2 (by omega) h4
theorem plus_bn (w : World) (va vb : Value) (n m : Int) (L K : Nat) (ha : BN w va n L) (hb : BN w vb m K) (hL : L ≤ 1000) (hK : K ≤ 1000) : Calls Tryd.prog 68 #[va, vb] w (BPost w (n + m) (max L K + 1)) := by
  obtain ⟨ps, a1, rfl, a3⟩ := ha
  obtain ⟨qs, b1, rfl, b3⟩ := hb
  refine (plus_any ps qs va vb w a1 b1 (by omega) (by omega)).mono ?_
  rintro e w' ⟨v, ds, rfl, h1, h2, h3, h4⟩
  exact BPost.mk h1 h2 (by omega) h4
theorem less_bn (w : World) (va vb : Value) (n m : Int) (L K : Nat) (ha : BN w va n L) (hb : BN w vb m K) (hL : L ≤ 1000) (hK : K ≤ 1000) (t : Bool) (ht : decide (n < m) = t) : Calls Tryd.prog 65 #[va, vb] w fun e w' => e = .returned (.bool t) ∧ w' = w := by
  obtain ⟨ps, a1, rfl, a3⟩ := ha
  obtain ⟨qs, b1, rfl, b3⟩ := hb
  rw [← ht]
  exact less_any ps qs va vb w a1 b1 (by omega) (by omega)
theorem wide_bn (w : World) (H L : Int) (a : Word H) (b : Word L) : Calls Tryd.prog 64 #[.agg #[.int .u64 H, .int .u64 L]] w (BPost w (wv H L) 8) := by
  refine (refOf a b).mono ?_
  rintro e w' ⟨v, ds, rfl, h1, h2, h3, h4⟩
  exact BPost.mk h1 h2.out (by omega) h4
theorem ret3 {fn : Func} {a b c : Tmp} (h : fn.results = #[.tmp a, .tmp b, .tmp c]) (tmps : Array Value) (P : Program) (w : World) : (results fn tmps).run P w = .ok (.tuple #[tmps.getD a undef, tmps.getD b undef, tmps.getD c undef]) w := by
  simp only [results, h]
  simp
theorem rslope_whole (w : World) : Calls Tryd.prog 63 #[vS (0, 0, 0)] w fun e w' => e = .returned (.tuple #[.int .i64 1, .int .i64 1, .int .i64 0]) ∧ Below w.heap.size w w' := by
  go_enter Tryd.func63, Tryd.ntmps63
  go_wp2
  exact bodyPost_ret (ret3 (a := 2) (b := 3) (c := 4) (by kernel_rfl) _ _ _) rfl ⟨rfl, ba (Below.refl _ _) _⟩
set_option maxHeartbeats 3200000 in
theorem rslope_ok (w : World) (s : Sv) (h : okS s) : Calls Tryd.prog 63 #[vS s] w fun e w' => e = .returned (.tuple #[.int .i64 (qS s), .int .i64 (dS s + qS s), .int .i64 (gS s + dS s)]) ∧ Below w.heap.size w w' := by
  obtain ⟨n1, n2, n3, n4, n5⟩ := (show okW s from .inr h).nums
  obtain ⟨e1, e2⟩ := h.nums3
  have HG : Hid (∀ w, Calls Tryd.prog 61 #[vS s] w fun e w' => e = .returned (.int .i64 (gS s)) ∧ Below w.heap.size w w') := mkHid (fun w => gap_is w _ h)
  obtain ⟨G, hG⟩ : ∃ G, gS s = G := ⟨_, rfl⟩
  obtain ⟨X, hX⟩ : ∃ X, gS s + dS s = X := ⟨_, rfl⟩
  rw [e2, hX, e1]
  obtain ⟨k, q, t⟩ := s
  obtain ⟨h1, h2, h3, h4, h5⟩ := h
  simp only at h1 h2 h3 h4 h5 e1 e2 ⊢
  have hk : ¬ k = 0 := by omega
  rw [hG] at HG n1 n4 hX
  have ew1 : IntKind.i64.wrap (G + t) = G + t := wfit (by omega) (by omega)
  have ew2 : IntKind.i64.wrap (G + t - q) = X := by rw [show G + t - q = X by omega]; exact wfit (by omega) (by omega)
  clear hG hX e1 e2 n1 n2 n3 n4 n5
  go_enter Tryd.func63, Tryd.ntmps63
  go_wp2
  obtain ⟨W, hW⟩ : ∃ W, W = w.alloc (oS (k, q, t)) := ⟨_, rfl⟩
  have HW : Hid (Below w.heap.size w W) := mkHid (by rw [hW]; exact ba (Below.refl _ _) _)
  have c0 : W.cell? ⟨w.heap.size, 0, none⟩ = some (.int .i64 k) := by rw [hW]; simp [go_sem]
  have c1 : W.cell? ⟨w.heap.size, 1, none⟩ = some (.int .i64 q) := by rw [hW]; simp [go_sem]
  have c2 : W.cell? ⟨w.heap.size, 2, none⟩ = some (.int .i64 t) := by rw [hW]; simp [go_sem]
  rw [← hW]
  clear hW
  generalize w.heap.size = B at c0 c1 c2 ⊢
  go_region_held3 (fun w' => w'.cell? ⟨B, 0, none⟩ = some (.int .i64 k) ∧ w'.cell? ⟨B, 1, none⟩ = some (.int .i64 q) ∧ w'.cell? ⟨B, 2, none⟩ = some (.int .i64 t)) (go_keep) (first | (go_at_call 61; refine (HG.out W.drew).mono ?_; rintro e w5 ⟨rfl, hb5⟩; have HB5 := mkHid hb5; have q0 : w5.cell? ⟨B, 0, none⟩ = some (.int .i64 k) := kc (w := W.drew) (a := ⟨B, 0, none⟩) c0 hb5; have q1 : w5.cell? ⟨B, 1, none⟩ = some (.int .i64 q) := kc (w := W.drew) (a := ⟨B, 1, none⟩) c1 hb5; have q2 : w5.cell? ⟨B, 2, none⟩ = some (.int .i64 t) := kc (w := W.drew) (a := ⟨B, 2, none⟩) c2 hb5; clear hb5))
  all_goals
    go_wp2
    exact bodyPost_ret (ret3 (a := 2) (b := 3) (c := 4) (by kernel_rfl) _ _ _) rfl ⟨rfl, bt HW.out.drew HB5.out⟩
theorem rslope_yes (w : World) (s : Sv) (h : okW s) : Calls Tryd.prog 63 #[vS s] w fun e w' => e = .returned (.tuple #[.int .i64 (qS s), .int .i64 (dS s + qS s), .int .i64 (gS s + dS s)]) ∧ Below w.heap.size w w' := by
  rcases h with rfl | h
  · exact rslope_whole w
  · exact rslope_ok w s h
/- The document's line. -/
set_option maxHeartbeats 25600000 in
theorem rline_no (w : World) (s : Sv) (N D more : Int) {A B C E : Int} (h : okW s) (hp : Pt (N, D) A B C E) (N0 : 0 ≤ N) (N1 : N ≤ 147573952589676412928) (D0 : 1 ≤ D) (D1 : D ≤ 18446744073709551616) (m0 : 0 ≤ more) (m1 : more ≤ 10000) (ht1 : decide (N * (dS s + qS s) < D * qS s) = false) :
    Calls Tryd.prog 37 #[vS s, vP A B C E, .int .i64 more] w fun e w' => e = .returned (.bool false) ∧ Below w.heap.size w w' := by
  obtain ⟨n1, n2, n3, n4, n5⟩ := h.nums
  have HS : Hid (∀ W, Calls Tryd.prog 63 #[vS s] W fun e w' => e = .returned (.tuple #[.int .i64 (qS s), .int .i64 (dS s + qS s), .int .i64 (gS s + dS s)]) ∧ Below W.heap.size W w') := mkHid (fun W => rslope_yes W s h)
  obtain ⟨pa, pb, pc, pe, e1, e2⟩ := hp
  simp only at e1 e2
  obtain ⟨Q, hQ⟩ : ∃ Q, Q = qS s := ⟨_, rfl⟩
  obtain ⟨T, hT⟩ : ∃ T, T = dS s + qS s := ⟨_, rfl⟩
  obtain ⟨G, hG⟩ : ∃ G, G = gS s + dS s := ⟨_, rfl⟩
  obtain ⟨M, hM⟩ : ∃ M, M = 4096 - G := ⟨_, rfl⟩
  obtain ⟨X, hX⟩ : ∃ X, X = Q * M := ⟨_, rfl⟩
  have hM0 : 0 ≤ M := by omega
  have hM1 : ¬ M < 0 := by omega
  have hX0 : 0 ≤ X := by rw [hX]; exact Int.mul_nonneg (by omega) hM0
  have hX1 : X ≤ 256 * 4096 := by rw [hX]; exact Int.mul_le_mul (by omega) (by omega) (by omega) (by omega)
  have ew1 : IntKind.i64.wrap (4096 - G) = M := by rw [hM]; exact wfit (by omega) (by omega)
  have ew2 : IntKind.i64.wrap (Q * M) = X := by rw [← hX]; exact wfit (by omega) (by omega)
  have T0 : 0 ≤ T ∧ T ≤ 256 := by omega
  have Q0 : 0 ≤ Q ∧ Q ≤ 256 := by omega
  have HT1 : Hid (decide (N * T < D * Q) = false) := mkHid (by rw [hT, hQ]; exact ht1)
  rw [← hT, ← hG, ← hQ] at HS
  have HNN := mkHid e1
  have HDD := mkHid e2
  obtain ⟨k, q, t⟩ := s
  clear ht1 hX hM hG hT hQ e1 e2 n1 n2 n3 n4 n5 h N0 N1 D0 D1
  have MK1 : Hid True := mkHid trivial
  have MK2 : Hid True := mkHid trivial
  have MK3 : Hid True := mkHid trivial
  have MK4 : Hid True := mkHid trivial
  have MK5 : Hid True := mkHid trivial
  go_enter Tryd.func37, Tryd.ntmps37
  go_wp2_with (go_at_call 63; refine (HS.out _).mono ?_; rintro e w1 ⟨rfl, b1⟩; have d0 := kc (a := ⟨w.heap.size + 1, 0, none⟩) (v := .int .u64 A) (by simp [go_sem]) b1; have d1 := kc (a := ⟨w.heap.size + 1, 1, none⟩) (v := .int .u64 B) (by simp [go_sem]) b1; have d2 := kc (a := ⟨w.heap.size + 1, 2, none⟩) (v := .int .u64 C) (by simp [go_sem]) b1; have d3 := kc (a := ⟨w.heap.size + 1, 3, none⟩) (v := .int .u64 E) (by simp [go_sem]) b1; have HB1 := mkHid (bt (ba (ba (Below.refl _ _) _) _) b1); clear b1)
  generalize w.heap.size + 1 = p1 at d0 d1 d2 d3 ⊢
  refine wp_region_held_drew (S := fun w' => w'.cell? ⟨p1, 0, none⟩ = some (.int .u64 A) ∧ w'.cell? ⟨p1, 1, none⟩ = some (.int .u64 B) ∧ w'.cell? ⟨p1, 2, none⟩ = some (.int .u64 C) ∧ w'.cell? ⟨p1, 3, none⟩ = some (.int .u64 E)) (by kernel_rfl) ⟨d0, d1, d2, d3⟩ (fun hHeld => ?_)
  refine takeD 0 20 (.pointer (some ⟨p1, 0, none⟩)) rfl rfl (by kernel_rfl) (by kernel_rfl) (by kernel_rfl) (fun _ _ _ h => h) (Or.inl ⟨by kernel_rfl, by intro w hSw; (try dsimp only at hSw); go_simp⟩) hHeld ?_
  simp only [List.set_cons_zero, List.set_cons_succ]
  refine takeD 1 21 (.agg #[.int .u64 A, .int .u64 B]) rfl rfl (by kernel_rfl) (by kernel_rfl) (by kernel_rfl) (fun _ _ _ h => h) (Or.inl ⟨by kernel_rfl, by intro w hSw; (try dsimp only at hSw); go_simp⟩) hHeld ?_
  simp only [List.set_cons_zero, List.set_cons_succ]
  refine takeD 3 23 (.pointer (some ⟨p1, 2, none⟩)) rfl rfl (by kernel_rfl) (by kernel_rfl) (by kernel_rfl) (fun _ _ _ h => h) (Or.inl ⟨by kernel_rfl, by intro w hSw; (try dsimp only at hSw); go_simp⟩) hHeld ?_
  simp only [List.set_cons_zero, List.set_cons_succ]
  refine takeD 4 24 (.agg #[.int .u64 C, .int .u64 E]) rfl rfl (by kernel_rfl) (by kernel_rfl) (by kernel_rfl) (fun _ _ _ h => h) (Or.inl ⟨by kernel_rfl, by intro w hSw; (try dsimp only at hSw); go_simp⟩) hHeld ?_
  simp only [List.set_cons_zero, List.set_cons_succ]
  refine wpAnyH_ready (rs := [2]) (by kernel_rfl) (by simp) (AllReadyH.cons rfl (fun K hK => ?_) AllReadyH.nil)
  go_simp
  refine (wide_bn w1.drew A B pa pb).mono ?_
  rintro e w2 ⟨a1, k1, c1, rfl, hv1, bw2⟩
  have fw2_0 : w2.cell? ⟨p1, 0, none⟩ = some (.int .u64 A) := kc (show w1.drew.cell? _ = _ from d0) bw2
  have fw2_1 : w2.cell? ⟨p1, 1, none⟩ = some (.int .u64 B) := kc (show w1.drew.cell? _ = _ from d1) bw2
  have fw2_2 : w2.cell? ⟨p1, 2, none⟩ = some (.int .u64 C) := kc (show w1.drew.cell? _ = _ from d2) bw2
  have fw2_3 : w2.cell? ⟨p1, 3, none⟩ = some (.int .u64 E) := kc (show w1.drew.cell? _ = _ from d3) bw2
  have HB2 := mkHid (bt HB1.out.drew bw2)
  have HV1 := mkHid hv1
  clear hv1
  clear bw2 hHeld
  refine hK.out _ _ ⟨fw2_0, fw2_1, fw2_2, fw2_3⟩ (fun hHeld => ?_)
  clear hK K
  refine wpAnyH_ready (rs := [5]) (by kernel_rfl) (by simp) (AllReadyH.cons rfl (fun K hK => ?_) AllReadyH.nil)
  go_simp
  refine (wide_bn w2 C E pc pe).mono ?_
  rintro e w3 ⟨a2, k2, c2, rfl, hv2, bw3⟩
  have fw3_0 : w3.cell? ⟨p1, 0, none⟩ = some (.int .u64 A) := kc fw2_0 bw3
  have fw3_1 : w3.cell? ⟨p1, 1, none⟩ = some (.int .u64 B) := kc fw2_1 bw3
  have fw3_2 : w3.cell? ⟨p1, 2, none⟩ = some (.int .u64 C) := kc fw2_2 bw3
  have fw3_3 : w3.cell? ⟨p1, 3, none⟩ = some (.int .u64 E) := kc fw2_3 bw3
  have HB3 := mkHid (bt HB2.out bw3)
  have HV1b := mkHid (HV1.out.later bw3)
  have HV2 := mkHid hv2
  clear hv2
  clear bw3 hHeld HV1
  refine hK.out _ _ ⟨fw3_0, fw3_1, fw3_2, fw3_3⟩ (fun hHeld => ?_)
  clear hK K
  refine takeD 6 10 (.slice a1 k1 c1) rfl rfl (by kernel_rfl) (by kernel_rfl) (by kernel_rfl) (fun _ _ _ h => h) (Or.inl ⟨by kernel_rfl, by intro w hSw; (try dsimp only at hSw); go_simp⟩) hHeld ?_
  simp only [List.set_cons_zero, List.set_cons_succ]
  refine takeD 7 11 (.slice a2 k2 c2) rfl rfl (by kernel_rfl) (by kernel_rfl) (by kernel_rfl) (fun _ _ _ h => h) (Or.inl ⟨by kernel_rfl, by intro w hSw; (try dsimp only at hSw); go_simp⟩) hHeld ?_
  simp only [List.set_cons_zero, List.set_cons_succ]
  refine wpAnyH_done (by kernel_rfl) ?_ _
  rw [HNN.out] at HV1b
  rw [HDD.out] at HV2
  clear fw3_0 fw3_1 fw3_2 fw3_3 hHeld
  go_wp2_with (first
    | (go_at_call 67; clear MK1; refine (of_bn _ (T) (by omega) (by omega)).mono ?_; rintro e w4 ⟨a3, k3, c3, rfl, hv3, bw4⟩; have V1_w4 := mkHid (HV1b.out.later bw4); have V2_w4 := mkHid (HV2.out.later bw4); have V3_w4 := mkHid hv3; have HB4 := mkHid (bt HB3.out bw4); clear hv3 bw4 HV1b HV2)
    | (go_at_call 66; clear MK2; refine (times_bn _ _ _ (N) (T) (8) (4) V1_w4.out V3_w4.out (by omega) (by omega)).mono ?_; rintro e w5 ⟨a4, k4, c4, rfl, hv4, bw5⟩; have V1_w5 := mkHid (V1_w4.out.later bw5); have V2_w5 := mkHid (V2_w4.out.later bw5); have V4_w5 := mkHid hv4; have HB5 := mkHid (bt HB4.out bw5); clear hv4 bw5 V1_w4 V2_w4 V3_w4)
    | (go_at_call 67; clear MK3; refine (of_bn _ (Q) (by omega) (by omega)).mono ?_; rintro e w6 ⟨a5, k5, c5, rfl, hv5, bw6⟩; have V1_w6 := mkHid (V1_w5.out.later bw6); have V2_w6 := mkHid (V2_w5.out.later bw6); have V4_w6 := mkHid (V4_w5.out.later bw6); have V5_w6 := mkHid hv5; have HB6 := mkHid (bt HB5.out bw6); clear hv5 bw6 V1_w5 V2_w5 V4_w5)
    | (go_at_call 66; clear MK4; refine (times_bn _ _ _ (D) (Q) (8) (4) V2_w6.out V5_w6.out (by omega) (by omega)).mono ?_; rintro e w7 ⟨a6, k6, c6, rfl, hv6, bw7⟩; have V1_w7 := mkHid (V1_w6.out.later bw7); have V2_w7 := mkHid (V2_w6.out.later bw7); have V4_w7 := mkHid (V4_w6.out.later bw7); have V6_w7 := mkHid hv6; have HB7 := mkHid (bt HB6.out bw7); clear hv6 bw7 V1_w6 V2_w6 V4_w6 V5_w6)
    | (go_at_call 65; clear MK5; refine (less_bn _ _ _ ((N) * (T)) ((D) * (Q)) (8 + 4 + 1) (8 + 4 + 1) V4_w7.out V6_w7.out (by omega) (by omega) _ HT1.out).mono ?_; rintro e w8 ⟨rfl, hww8⟩; rw [hww8]; clear hww8))
  go_ret
  exact ⟨rfl, HB7.out⟩
set_option maxHeartbeats 25600000 in
theorem rline_above (w : World) (s : Sv) (N D more : Int) {A B C E : Int} (h : okW s) (hp : Pt (N, D) A B C E) (N0 : 0 ≤ N) (N1 : N ≤ 147573952589676412928) (D0 : 1 ≤ D) (D1 : D ≤ 18446744073709551616) (m0 : 0 ≤ more) (m1 : more ≤ 10000) (ht1 : decide (N * (dS s + qS s) < D * qS s) = true) (ht2 : decide (LineP s N D more) = false) :
    Calls Tryd.prog 37 #[vS s, vP A B C E, .int .i64 more] w fun e w' => e = .returned (.bool false) ∧ Below w.heap.size w w' := by
  obtain ⟨n1, n2, n3, n4, n5⟩ := h.nums
  have HS : Hid (∀ W, Calls Tryd.prog 63 #[vS s] W fun e w' => e = .returned (.tuple #[.int .i64 (qS s), .int .i64 (dS s + qS s), .int .i64 (gS s + dS s)]) ∧ Below W.heap.size W w') := mkHid (fun W => rslope_yes W s h)
  obtain ⟨pa, pb, pc, pe, e1, e2⟩ := hp
  simp only at e1 e2
  obtain ⟨Q, hQ⟩ : ∃ Q, Q = qS s := ⟨_, rfl⟩
  obtain ⟨T, hT⟩ : ∃ T, T = dS s + qS s := ⟨_, rfl⟩
  obtain ⟨G, hG⟩ : ∃ G, G = gS s + dS s := ⟨_, rfl⟩
  obtain ⟨M, hM⟩ : ∃ M, M = 4096 - G := ⟨_, rfl⟩
  obtain ⟨X, hX⟩ : ∃ X, X = Q * M := ⟨_, rfl⟩
  have hM0 : 0 ≤ M := by omega
  have hM1 : ¬ M < 0 := by omega
  have hX0 : 0 ≤ X := by rw [hX]; exact Int.mul_nonneg (by omega) hM0
  have hX1 : X ≤ 256 * 4096 := by rw [hX]; exact Int.mul_le_mul (by omega) (by omega) (by omega) (by omega)
  have ew1 : IntKind.i64.wrap (4096 - G) = M := by rw [hM]; exact wfit (by omega) (by omega)
  have ew2 : IntKind.i64.wrap (Q * M) = X := by rw [← hX]; exact wfit (by omega) (by omega)
  have T0 : 0 ≤ T ∧ T ≤ 256 := by omega
  have Q0 : 0 ≤ Q ∧ Q ≤ 256 := by omega
  have HT1 : Hid (decide (N * T < D * Q) = true) := mkHid (by rw [hT, hQ]; exact ht1)
  have HT2 : Hid (decide (D * X < (N * 4096 + D * more) * T) = true) := mkHid (by
    rw [hX, hM, hQ, hT, hG]
    have hl : ¬ LineP s N D more := of_decide_eq_false ht2
    unfold LineP at hl
    exact decide_eq_true (by omega))
  rw [← hT, ← hG, ← hQ] at HS
  have HNN := mkHid e1
  have HDD := mkHid e2
  obtain ⟨k, q, t⟩ := s
  clear ht1 ht2 hX hM hG hT hQ e1 e2 n1 n2 n3 n4 n5 h N0 N1 D0 D1
  have MK1 : Hid True := mkHid trivial
  have MK2 : Hid True := mkHid trivial
  have MK3 : Hid True := mkHid trivial
  have MK4 : Hid True := mkHid trivial
  have MK5 : Hid True := mkHid trivial
  have MK6 : Hid True := mkHid trivial
  have MK7 : Hid True := mkHid trivial
  have MK8 : Hid True := mkHid trivial
  have MK9 : Hid True := mkHid trivial
  have MK10 : Hid True := mkHid trivial
  have MK11 : Hid True := mkHid trivial
  have MK12 : Hid True := mkHid trivial
  have MK13 : Hid True := mkHid trivial
  have MK14 : Hid True := mkHid trivial
  have MK15 : Hid True := mkHid trivial
  go_enter Tryd.func37, Tryd.ntmps37
  go_wp2_with (go_at_call 63; refine (HS.out _).mono ?_; rintro e w1 ⟨rfl, b1⟩; have d0 := kc (a := ⟨w.heap.size + 1, 0, none⟩) (v := .int .u64 A) (by simp [go_sem]) b1; have d1 := kc (a := ⟨w.heap.size + 1, 1, none⟩) (v := .int .u64 B) (by simp [go_sem]) b1; have d2 := kc (a := ⟨w.heap.size + 1, 2, none⟩) (v := .int .u64 C) (by simp [go_sem]) b1; have d3 := kc (a := ⟨w.heap.size + 1, 3, none⟩) (v := .int .u64 E) (by simp [go_sem]) b1; have HB1 := mkHid (bt (ba (ba (Below.refl _ _) _) _) b1); clear b1)
  generalize w.heap.size + 1 = p1 at d0 d1 d2 d3 ⊢
  refine wp_region_held_drew (S := fun w' => w'.cell? ⟨p1, 0, none⟩ = some (.int .u64 A) ∧ w'.cell? ⟨p1, 1, none⟩ = some (.int .u64 B) ∧ w'.cell? ⟨p1, 2, none⟩ = some (.int .u64 C) ∧ w'.cell? ⟨p1, 3, none⟩ = some (.int .u64 E)) (by kernel_rfl) ⟨d0, d1, d2, d3⟩ (fun hHeld => ?_)
  refine takeD 0 20 (.pointer (some ⟨p1, 0, none⟩)) rfl rfl (by kernel_rfl) (by kernel_rfl) (by kernel_rfl) (fun _ _ _ h => h) (Or.inl ⟨by kernel_rfl, by intro w hSw; (try dsimp only at hSw); go_simp⟩) hHeld ?_
  simp only [List.set_cons_zero, List.set_cons_succ]
  refine takeD 1 21 (.agg #[.int .u64 A, .int .u64 B]) rfl rfl (by kernel_rfl) (by kernel_rfl) (by kernel_rfl) (fun _ _ _ h => h) (Or.inl ⟨by kernel_rfl, by intro w hSw; (try dsimp only at hSw); go_simp⟩) hHeld ?_
  simp only [List.set_cons_zero, List.set_cons_succ]
  refine takeD 3 23 (.pointer (some ⟨p1, 2, none⟩)) rfl rfl (by kernel_rfl) (by kernel_rfl) (by kernel_rfl) (fun _ _ _ h => h) (Or.inl ⟨by kernel_rfl, by intro w hSw; (try dsimp only at hSw); go_simp⟩) hHeld ?_
  simp only [List.set_cons_zero, List.set_cons_succ]
  refine takeD 4 24 (.agg #[.int .u64 C, .int .u64 E]) rfl rfl (by kernel_rfl) (by kernel_rfl) (by kernel_rfl) (fun _ _ _ h => h) (Or.inl ⟨by kernel_rfl, by intro w hSw; (try dsimp only at hSw); go_simp⟩) hHeld ?_
  simp only [List.set_cons_zero, List.set_cons_succ]
  refine wpAnyH_ready (rs := [2]) (by kernel_rfl) (by simp) (AllReadyH.cons rfl (fun K hK => ?_) AllReadyH.nil)
  go_simp
  refine (wide_bn w1.drew A B pa pb).mono ?_
  rintro e w2 ⟨a1, k1, c1, rfl, hv1, bw2⟩
  have fw2_0 : w2.cell? ⟨p1, 0, none⟩ = some (.int .u64 A) := kc (show w1.drew.cell? _ = _ from d0) bw2
  have fw2_1 : w2.cell? ⟨p1, 1, none⟩ = some (.int .u64 B) := kc (show w1.drew.cell? _ = _ from d1) bw2
  have fw2_2 : w2.cell? ⟨p1, 2, none⟩ = some (.int .u64 C) := kc (show w1.drew.cell? _ = _ from d2) bw2
  have fw2_3 : w2.cell? ⟨p1, 3, none⟩ = some (.int .u64 E) := kc (show w1.drew.cell? _ = _ from d3) bw2
  have HB2 := mkHid (bt HB1.out.drew bw2)
  have HV1 := mkHid hv1
  clear hv1
  clear bw2 hHeld
  refine hK.out _ _ ⟨fw2_0, fw2_1, fw2_2, fw2_3⟩ (fun hHeld => ?_)
  clear hK K
  refine wpAnyH_ready (rs := [5]) (by kernel_rfl) (by simp) (AllReadyH.cons rfl (fun K hK => ?_) AllReadyH.nil)
  go_simp
  refine (wide_bn w2 C E pc pe).mono ?_
  rintro e w3 ⟨a2, k2, c2, rfl, hv2, bw3⟩
  have fw3_0 : w3.cell? ⟨p1, 0, none⟩ = some (.int .u64 A) := kc fw2_0 bw3
  have fw3_1 : w3.cell? ⟨p1, 1, none⟩ = some (.int .u64 B) := kc fw2_1 bw3
  have fw3_2 : w3.cell? ⟨p1, 2, none⟩ = some (.int .u64 C) := kc fw2_2 bw3
  have fw3_3 : w3.cell? ⟨p1, 3, none⟩ = some (.int .u64 E) := kc fw2_3 bw3
  have HB3 := mkHid (bt HB2.out bw3)
  have HV1b := mkHid (HV1.out.later bw3)
  have HV2 := mkHid hv2
  clear hv2
  clear bw3 hHeld HV1
  refine hK.out _ _ ⟨fw3_0, fw3_1, fw3_2, fw3_3⟩ (fun hHeld => ?_)
  clear hK K
  refine takeD 6 10 (.slice a1 k1 c1) rfl rfl (by kernel_rfl) (by kernel_rfl) (by kernel_rfl) (fun _ _ _ h => h) (Or.inl ⟨by kernel_rfl, by intro w hSw; (try dsimp only at hSw); go_simp⟩) hHeld ?_
  simp only [List.set_cons_zero, List.set_cons_succ]
  refine takeD 7 11 (.slice a2 k2 c2) rfl rfl (by kernel_rfl) (by kernel_rfl) (by kernel_rfl) (fun _ _ _ h => h) (Or.inl ⟨by kernel_rfl, by intro w hSw; (try dsimp only at hSw); go_simp⟩) hHeld ?_
  simp only [List.set_cons_zero, List.set_cons_succ]
  refine wpAnyH_done (by kernel_rfl) ?_ _
  rw [HNN.out] at HV1b
  rw [HDD.out] at HV2
  clear fw3_0 fw3_1 fw3_2 fw3_3 hHeld
  go_wp2_with (first
    | (go_at_call 67; clear MK1; refine (of_bn _ (T) (by omega) (by omega)).mono ?_; rintro e w4 ⟨a3, k3, c3, rfl, hv3, bw4⟩; have V1_w4 := mkHid (HV1b.out.later bw4); have V2_w4 := mkHid (HV2.out.later bw4); have V3_w4 := mkHid hv3; have HB4 := mkHid (bt HB3.out bw4); clear hv3 bw4 HV1b HV2)
    | (go_at_call 66; clear MK2; refine (times_bn _ _ _ (N) (T) (8) (4) V1_w4.out V3_w4.out (by omega) (by omega)).mono ?_; rintro e w5 ⟨a4, k4, c4, rfl, hv4, bw5⟩; have V1_w5 := mkHid (V1_w4.out.later bw5); have V2_w5 := mkHid (V2_w4.out.later bw5); have V4_w5 := mkHid hv4; have HB5 := mkHid (bt HB4.out bw5); clear hv4 bw5 V1_w4 V2_w4 V3_w4)
    | (go_at_call 67; clear MK3; refine (of_bn _ (Q) (by omega) (by omega)).mono ?_; rintro e w6 ⟨a5, k5, c5, rfl, hv5, bw6⟩; have V1_w6 := mkHid (V1_w5.out.later bw6); have V2_w6 := mkHid (V2_w5.out.later bw6); have V4_w6 := mkHid (V4_w5.out.later bw6); have V5_w6 := mkHid hv5; have HB6 := mkHid (bt HB5.out bw6); clear hv5 bw6 V1_w5 V2_w5 V4_w5)
    | (go_at_call 66; clear MK4; refine (times_bn _ _ _ (D) (Q) (8) (4) V2_w6.out V5_w6.out (by omega) (by omega)).mono ?_; rintro e w7 ⟨a6, k6, c6, rfl, hv6, bw7⟩; have V1_w7 := mkHid (V1_w6.out.later bw7); have V2_w7 := mkHid (V2_w6.out.later bw7); have V4_w7 := mkHid (V4_w6.out.later bw7); have V6_w7 := mkHid hv6; have HB7 := mkHid (bt HB6.out bw7); clear hv6 bw7 V1_w6 V2_w6 V4_w6 V5_w6)
    | (go_at_call 65; clear MK5; refine (less_bn _ _ _ ((N) * (T)) ((D) * (Q)) (8 + 4 + 1) (8 + 4 + 1) V4_w7.out V6_w7.out (by omega) (by omega) _ HT1.out).mono ?_; rintro e w8 ⟨rfl, hww8⟩; rw [hww8]; clear hww8)
    | (go_at_call 67; clear MK6; refine (of_bn _ (4096) (by omega) (by omega)).mono ?_; rintro e w8 ⟨a7, k7, c7, rfl, hv7, bw8⟩; have V1_w8 := mkHid (V1_w7.out.later bw8); have V2_w8 := mkHid (V2_w7.out.later bw8); have V4_w8 := mkHid (V4_w7.out.later bw8); have V6_w8 := mkHid (V6_w7.out.later bw8); have V7_w8 := mkHid hv7; have HB8 := mkHid (bt HB7.out bw8); clear hv7 bw8 V1_w7 V2_w7 V4_w7 V6_w7)
    | (go_at_call 66; clear MK7; refine (times_bn _ _ _ (N) (4096) (8) (4) V1_w8.out V7_w8.out (by omega) (by omega)).mono ?_; rintro e w9 ⟨a8, k8, c8, rfl, hv8, bw9⟩; have V2_w9 := mkHid (V2_w8.out.later bw9); have V8_w9 := mkHid hv8; have HB9 := mkHid (bt HB8.out bw9); clear hv8 bw9 V1_w8 V2_w8 V4_w8 V6_w8 V7_w8)
    | (go_at_call 67; clear MK8; refine (of_bn _ (more) (by omega) (by omega)).mono ?_; rintro e w10 ⟨a9, k9, c9, rfl, hv9, bw10⟩; have V2_w10 := mkHid (V2_w9.out.later bw10); have V8_w10 := mkHid (V8_w9.out.later bw10); have V9_w10 := mkHid hv9; have HB10 := mkHid (bt HB9.out bw10); clear hv9 bw10 V2_w9 V8_w9)
    | (go_at_call 66; clear MK9; refine (times_bn _ _ _ (D) (more) (8) (4) V2_w10.out V9_w10.out (by omega) (by omega)).mono ?_; rintro e w11 ⟨a10, k10, c10, rfl, hv10, bw11⟩; have V2_w11 := mkHid (V2_w10.out.later bw11); have V8_w11 := mkHid (V8_w10.out.later bw11); have V10_w11 := mkHid hv10; have HB11 := mkHid (bt HB10.out bw11); clear hv10 bw11 V2_w10 V8_w10 V9_w10)
    | (go_at_call 68; clear MK10; refine (plus_bn _ _ _ ((N) * (4096)) ((D) * (more)) (8 + 4 + 1) (8 + 4 + 1) V8_w11.out V10_w11.out (by omega) (by omega)).mono ?_; rintro e w12 ⟨a11, k11, c11, rfl, hv11, bw12⟩; have V2_w12 := mkHid (V2_w11.out.later bw12); have V11_w12 := mkHid hv11; have HB12 := mkHid (bt HB11.out bw12); clear hv11 bw12 V2_w11 V8_w11 V10_w11)
    | (go_at_call 67; clear MK11; refine (of_bn _ (X) (by omega) (by omega)).mono ?_; rintro e w13 ⟨a12, k12, c12, rfl, hv12, bw13⟩; have V2_w13 := mkHid (V2_w12.out.later bw13); have V11_w13 := mkHid (V11_w12.out.later bw13); have V12_w13 := mkHid hv12; have HB13 := mkHid (bt HB12.out bw13); clear hv12 bw13 V2_w12 V11_w12)
    | (go_at_call 66; clear MK12; refine (times_bn _ _ _ (D) (X) (8) (4) V2_w13.out V12_w13.out (by omega) (by omega)).mono ?_; rintro e w14 ⟨a13, k13, c13, rfl, hv13, bw14⟩; have V11_w14 := mkHid (V11_w13.out.later bw14); have V13_w14 := mkHid hv13; have HB14 := mkHid (bt HB13.out bw14); clear hv13 bw14 V2_w13 V11_w13 V12_w13)
    | (go_at_call 67; clear MK13; refine (of_bn _ (T) (by omega) (by omega)).mono ?_; rintro e w15 ⟨a14, k14, c14, rfl, hv14, bw15⟩; have V11_w15 := mkHid (V11_w14.out.later bw15); have V13_w15 := mkHid (V13_w14.out.later bw15); have V14_w15 := mkHid hv14; have HB15 := mkHid (bt HB14.out bw15); clear hv14 bw15 V11_w14 V13_w14)
    | (go_at_call 66; clear MK14; refine (times_bn _ _ _ (((N) * (4096)) + ((D) * (more))) (T) (max (8 + 4 + 1) (8 + 4 + 1) + 1) (4) V11_w15.out V14_w15.out (by omega) (by omega)).mono ?_; rintro e w16 ⟨a15, k15, c15, rfl, hv15, bw16⟩; have V13_w16 := mkHid (V13_w15.out.later bw16); have V15_w16 := mkHid hv15; have HB16 := mkHid (bt HB15.out bw16); clear hv15 bw16 V11_w15 V13_w15 V14_w15)
    | (go_at_call 65; clear MK15; refine (less_bn _ _ _ ((D) * (X)) ((((N) * (4096)) + ((D) * (more))) * (T)) (8 + 4 + 1) (max (8 + 4 + 1) (8 + 4 + 1) + 1 + 4 + 1) V13_w16.out V15_w16.out (by omega) (by omega) _ HT2.out).mono ?_; rintro e w17 ⟨rfl, hww17⟩; rw [hww17]; clear hww17))
  go_ret
  exact ⟨rfl, HB16.out⟩
set_option maxHeartbeats 25600000 in
theorem rline_yes (w : World) (s : Sv) (N D more : Int) {A B C E : Int} (h : okW s) (hp : Pt (N, D) A B C E) (N0 : 0 ≤ N) (N1 : N ≤ 147573952589676412928) (D0 : 1 ≤ D) (D1 : D ≤ 18446744073709551616) (m0 : 0 ≤ more) (m1 : more ≤ 10000) (ht1 : decide (N * (dS s + qS s) < D * qS s) = true) (ht2 : decide (LineP s N D more) = true) :
    Calls Tryd.prog 37 #[vS s, vP A B C E, .int .i64 more] w fun e w' => e = .returned (.bool true) ∧ Below w.heap.size w w' := by
  obtain ⟨n1, n2, n3, n4, n5⟩ := h.nums
  have HS : Hid (∀ W, Calls Tryd.prog 63 #[vS s] W fun e w' => e = .returned (.tuple #[.int .i64 (qS s), .int .i64 (dS s + qS s), .int .i64 (gS s + dS s)]) ∧ Below W.heap.size W w') := mkHid (fun W => rslope_yes W s h)
  obtain ⟨pa, pb, pc, pe, e1, e2⟩ := hp
  simp only at e1 e2
  obtain ⟨Q, hQ⟩ : ∃ Q, Q = qS s := ⟨_, rfl⟩
  obtain ⟨T, hT⟩ : ∃ T, T = dS s + qS s := ⟨_, rfl⟩
  obtain ⟨G, hG⟩ : ∃ G, G = gS s + dS s := ⟨_, rfl⟩
  obtain ⟨M, hM⟩ : ∃ M, M = 4096 - G := ⟨_, rfl⟩
  obtain ⟨X, hX⟩ : ∃ X, X = Q * M := ⟨_, rfl⟩
  have hM0 : 0 ≤ M := by omega
  have hM1 : ¬ M < 0 := by omega
  have hX0 : 0 ≤ X := by rw [hX]; exact Int.mul_nonneg (by omega) hM0
  have hX1 : X ≤ 256 * 4096 := by rw [hX]; exact Int.mul_le_mul (by omega) (by omega) (by omega) (by omega)
  have ew1 : IntKind.i64.wrap (4096 - G) = M := by rw [hM]; exact wfit (by omega) (by omega)
  have ew2 : IntKind.i64.wrap (Q * M) = X := by rw [← hX]; exact wfit (by omega) (by omega)
  have T0 : 0 ≤ T ∧ T ≤ 256 := by omega
  have Q0 : 0 ≤ Q ∧ Q ≤ 256 := by omega
  have HT1 : Hid (decide (N * T < D * Q) = true) := mkHid (by rw [hT, hQ]; exact ht1)
  have HT2 : Hid (decide (D * X < (N * 4096 + D * more) * T) = false) := mkHid (by
    rw [hX, hM, hQ, hT, hG]
    have hl : LineP s N D more := of_decide_eq_true ht2
    unfold LineP at hl
    exact decide_eq_false (by omega))
  rw [← hT, ← hG, ← hQ] at HS
  have HNN := mkHid e1
  have HDD := mkHid e2
  obtain ⟨k, q, t⟩ := s
  clear ht1 ht2 hX hM hG hT hQ e1 e2 n1 n2 n3 n4 n5 h N0 N1 D0 D1
  have MK1 : Hid True := mkHid trivial
  have MK2 : Hid True := mkHid trivial
  have MK3 : Hid True := mkHid trivial
  have MK4 : Hid True := mkHid trivial
  have MK5 : Hid True := mkHid trivial
  have MK6 : Hid True := mkHid trivial
  have MK7 : Hid True := mkHid trivial
  have MK8 : Hid True := mkHid trivial
  have MK9 : Hid True := mkHid trivial
  have MK10 : Hid True := mkHid trivial
  have MK11 : Hid True := mkHid trivial
  have MK12 : Hid True := mkHid trivial
  have MK13 : Hid True := mkHid trivial
  have MK14 : Hid True := mkHid trivial
  have MK15 : Hid True := mkHid trivial
  go_enter Tryd.func37, Tryd.ntmps37
  go_wp2_with (go_at_call 63; refine (HS.out _).mono ?_; rintro e w1 ⟨rfl, b1⟩; have d0 := kc (a := ⟨w.heap.size + 1, 0, none⟩) (v := .int .u64 A) (by simp [go_sem]) b1; have d1 := kc (a := ⟨w.heap.size + 1, 1, none⟩) (v := .int .u64 B) (by simp [go_sem]) b1; have d2 := kc (a := ⟨w.heap.size + 1, 2, none⟩) (v := .int .u64 C) (by simp [go_sem]) b1; have d3 := kc (a := ⟨w.heap.size + 1, 3, none⟩) (v := .int .u64 E) (by simp [go_sem]) b1; have HB1 := mkHid (bt (ba (ba (Below.refl _ _) _) _) b1); clear b1)
  generalize w.heap.size + 1 = p1 at d0 d1 d2 d3 ⊢
  refine wp_region_held_drew (S := fun w' => w'.cell? ⟨p1, 0, none⟩ = some (.int .u64 A) ∧ w'.cell? ⟨p1, 1, none⟩ = some (.int .u64 B) ∧ w'.cell? ⟨p1, 2, none⟩ = some (.int .u64 C) ∧ w'.cell? ⟨p1, 3, none⟩ = some (.int .u64 E)) (by kernel_rfl) ⟨d0, d1, d2, d3⟩ (fun hHeld => ?_)
  refine takeD 0 20 (.pointer (some ⟨p1, 0, none⟩)) rfl rfl (by kernel_rfl) (by kernel_rfl) (by kernel_rfl) (fun _ _ _ h => h) (Or.inl ⟨by kernel_rfl, by intro w hSw; (try dsimp only at hSw); go_simp⟩) hHeld ?_
  simp only [List.set_cons_zero, List.set_cons_succ]
  refine takeD 1 21 (.agg #[.int .u64 A, .int .u64 B]) rfl rfl (by kernel_rfl) (by kernel_rfl) (by kernel_rfl) (fun _ _ _ h => h) (Or.inl ⟨by kernel_rfl, by intro w hSw; (try dsimp only at hSw); go_simp⟩) hHeld ?_
  simp only [List.set_cons_zero, List.set_cons_succ]
  refine takeD 3 23 (.pointer (some ⟨p1, 2, none⟩)) rfl rfl (by kernel_rfl) (by kernel_rfl) (by kernel_rfl) (fun _ _ _ h => h) (Or.inl ⟨by kernel_rfl, by intro w hSw; (try dsimp only at hSw); go_simp⟩) hHeld ?_
  simp only [List.set_cons_zero, List.set_cons_succ]
  refine takeD 4 24 (.agg #[.int .u64 C, .int .u64 E]) rfl rfl (by kernel_rfl) (by kernel_rfl) (by kernel_rfl) (fun _ _ _ h => h) (Or.inl ⟨by kernel_rfl, by intro w hSw; (try dsimp only at hSw); go_simp⟩) hHeld ?_
  simp only [List.set_cons_zero, List.set_cons_succ]
  refine wpAnyH_ready (rs := [2]) (by kernel_rfl) (by simp) (AllReadyH.cons rfl (fun K hK => ?_) AllReadyH.nil)
  go_simp
  refine (wide_bn w1.drew A B pa pb).mono ?_
  rintro e w2 ⟨a1, k1, c1, rfl, hv1, bw2⟩
  have fw2_0 : w2.cell? ⟨p1, 0, none⟩ = some (.int .u64 A) := kc (show w1.drew.cell? _ = _ from d0) bw2
  have fw2_1 : w2.cell? ⟨p1, 1, none⟩ = some (.int .u64 B) := kc (show w1.drew.cell? _ = _ from d1) bw2
  have fw2_2 : w2.cell? ⟨p1, 2, none⟩ = some (.int .u64 C) := kc (show w1.drew.cell? _ = _ from d2) bw2
  have fw2_3 : w2.cell? ⟨p1, 3, none⟩ = some (.int .u64 E) := kc (show w1.drew.cell? _ = _ from d3) bw2
  have HB2 := mkHid (bt HB1.out.drew bw2)
  have HV1 := mkHid hv1
  clear hv1
  clear bw2 hHeld
  refine hK.out _ _ ⟨fw2_0, fw2_1, fw2_2, fw2_3⟩ (fun hHeld => ?_)
  clear hK K
  refine wpAnyH_ready (rs := [5]) (by kernel_rfl) (by simp) (AllReadyH.cons rfl (fun K hK => ?_) AllReadyH.nil)
  go_simp
  refine (wide_bn w2 C E pc pe).mono ?_
  rintro e w3 ⟨a2, k2, c2, rfl, hv2, bw3⟩
  have fw3_0 : w3.cell? ⟨p1, 0, none⟩ = some (.int .u64 A) := kc fw2_0 bw3
  have fw3_1 : w3.cell? ⟨p1, 1, none⟩ = some (.int .u64 B) := kc fw2_1 bw3
  have fw3_2 : w3.cell? ⟨p1, 2, none⟩ = some (.int .u64 C) := kc fw2_2 bw3
  have fw3_3 : w3.cell? ⟨p1, 3, none⟩ = some (.int .u64 E) := kc fw2_3 bw3
  have HB3 := mkHid (bt HB2.out bw3)
  have HV1b := mkHid (HV1.out.later bw3)
  have HV2 := mkHid hv2
  clear hv2
  clear bw3 hHeld HV1
  refine hK.out _ _ ⟨fw3_0, fw3_1, fw3_2, fw3_3⟩ (fun hHeld => ?_)
  clear hK K
  refine takeD 6 10 (.slice a1 k1 c1) rfl rfl (by kernel_rfl) (by kernel_rfl) (by kernel_rfl) (fun _ _ _ h => h) (Or.inl ⟨by kernel_rfl, by intro w hSw; (try dsimp only at hSw); go_simp⟩) hHeld ?_
  simp only [List.set_cons_zero, List.set_cons_succ]
  refine takeD 7 11 (.slice a2 k2 c2) rfl rfl (by kernel_rfl) (by kernel_rfl) (by kernel_rfl) (fun _ _ _ h => h) (Or.inl ⟨by kernel_rfl, by intro w hSw; (try dsimp only at hSw); go_simp⟩) hHeld ?_
  simp only [List.set_cons_zero, List.set_cons_succ]
  refine wpAnyH_done (by kernel_rfl) ?_ _
  rw [HNN.out] at HV1b
  rw [HDD.out] at HV2
  clear fw3_0 fw3_1 fw3_2 fw3_3 hHeld
  go_wp2_with (first
    | (go_at_call 67; clear MK1; refine (of_bn _ (T) (by omega) (by omega)).mono ?_; rintro e w4 ⟨a3, k3, c3, rfl, hv3, bw4⟩; have V1_w4 := mkHid (HV1b.out.later bw4); have V2_w4 := mkHid (HV2.out.later bw4); have V3_w4 := mkHid hv3; have HB4 := mkHid (bt HB3.out bw4); clear hv3 bw4 HV1b HV2)
    | (go_at_call 66; clear MK2; refine (times_bn _ _ _ (N) (T) (8) (4) V1_w4.out V3_w4.out (by omega) (by omega)).mono ?_; rintro e w5 ⟨a4, k4, c4, rfl, hv4, bw5⟩; have V1_w5 := mkHid (V1_w4.out.later bw5); have V2_w5 := mkHid (V2_w4.out.later bw5); have V4_w5 := mkHid hv4; have HB5 := mkHid (bt HB4.out bw5); clear hv4 bw5 V1_w4 V2_w4 V3_w4)
    | (go_at_call 67; clear MK3; refine (of_bn _ (Q) (by omega) (by omega)).mono ?_; rintro e w6 ⟨a5, k5, c5, rfl, hv5, bw6⟩; have V1_w6 := mkHid (V1_w5.out.later bw6); have V2_w6 := mkHid (V2_w5.out.later bw6); have V4_w6 := mkHid (V4_w5.out.later bw6); have V5_w6 := mkHid hv5; have HB6 := mkHid (bt HB5.out bw6); clear hv5 bw6 V1_w5 V2_w5 V4_w5)
    | (go_at_call 66; clear MK4; refine (times_bn _ _ _ (D) (Q) (8) (4) V2_w6.out V5_w6.out (by omega) (by omega)).mono ?_; rintro e w7 ⟨a6, k6, c6, rfl, hv6, bw7⟩; have V1_w7 := mkHid (V1_w6.out.later bw7); have V2_w7 := mkHid (V2_w6.out.later bw7); have V4_w7 := mkHid (V4_w6.out.later bw7); have V6_w7 := mkHid hv6; have HB7 := mkHid (bt HB6.out bw7); clear hv6 bw7 V1_w6 V2_w6 V4_w6 V5_w6)
    | (go_at_call 65; clear MK5; refine (less_bn _ _ _ ((N) * (T)) ((D) * (Q)) (8 + 4 + 1) (8 + 4 + 1) V4_w7.out V6_w7.out (by omega) (by omega) _ HT1.out).mono ?_; rintro e w8 ⟨rfl, hww8⟩; rw [hww8]; clear hww8)
    | (go_at_call 67; clear MK6; refine (of_bn _ (4096) (by omega) (by omega)).mono ?_; rintro e w8 ⟨a7, k7, c7, rfl, hv7, bw8⟩; have V1_w8 := mkHid (V1_w7.out.later bw8); have V2_w8 := mkHid (V2_w7.out.later bw8); have V4_w8 := mkHid (V4_w7.out.later bw8); have V6_w8 := mkHid (V6_w7.out.later bw8); have V7_w8 := mkHid hv7; have HB8 := mkHid (bt HB7.out bw8); clear hv7 bw8 V1_w7 V2_w7 V4_w7 V6_w7)
    | (go_at_call 66; clear MK7; refine (times_bn _ _ _ (N) (4096) (8) (4) V1_w8.out V7_w8.out (by omega) (by omega)).mono ?_; rintro e w9 ⟨a8, k8, c8, rfl, hv8, bw9⟩; have V2_w9 := mkHid (V2_w8.out.later bw9); have V8_w9 := mkHid hv8; have HB9 := mkHid (bt HB8.out bw9); clear hv8 bw9 V1_w8 V2_w8 V4_w8 V6_w8 V7_w8)
    | (go_at_call 67; clear MK8; refine (of_bn _ (more) (by omega) (by omega)).mono ?_; rintro e w10 ⟨a9, k9, c9, rfl, hv9, bw10⟩; have V2_w10 := mkHid (V2_w9.out.later bw10); have V8_w10 := mkHid (V8_w9.out.later bw10); have V9_w10 := mkHid hv9; have HB10 := mkHid (bt HB9.out bw10); clear hv9 bw10 V2_w9 V8_w9)
    | (go_at_call 66; clear MK9; refine (times_bn _ _ _ (D) (more) (8) (4) V2_w10.out V9_w10.out (by omega) (by omega)).mono ?_; rintro e w11 ⟨a10, k10, c10, rfl, hv10, bw11⟩; have V2_w11 := mkHid (V2_w10.out.later bw11); have V8_w11 := mkHid (V8_w10.out.later bw11); have V10_w11 := mkHid hv10; have HB11 := mkHid (bt HB10.out bw11); clear hv10 bw11 V2_w10 V8_w10 V9_w10)
    | (go_at_call 68; clear MK10; refine (plus_bn _ _ _ ((N) * (4096)) ((D) * (more)) (8 + 4 + 1) (8 + 4 + 1) V8_w11.out V10_w11.out (by omega) (by omega)).mono ?_; rintro e w12 ⟨a11, k11, c11, rfl, hv11, bw12⟩; have V2_w12 := mkHid (V2_w11.out.later bw12); have V11_w12 := mkHid hv11; have HB12 := mkHid (bt HB11.out bw12); clear hv11 bw12 V2_w11 V8_w11 V10_w11)
    | (go_at_call 67; clear MK11; refine (of_bn _ (X) (by omega) (by omega)).mono ?_; rintro e w13 ⟨a12, k12, c12, rfl, hv12, bw13⟩; have V2_w13 := mkHid (V2_w12.out.later bw13); have V11_w13 := mkHid (V11_w12.out.later bw13); have V12_w13 := mkHid hv12; have HB13 := mkHid (bt HB12.out bw13); clear hv12 bw13 V2_w12 V11_w12)
    | (go_at_call 66; clear MK12; refine (times_bn _ _ _ (D) (X) (8) (4) V2_w13.out V12_w13.out (by omega) (by omega)).mono ?_; rintro e w14 ⟨a13, k13, c13, rfl, hv13, bw14⟩; have V11_w14 := mkHid (V11_w13.out.later bw14); have V13_w14 := mkHid hv13; have HB14 := mkHid (bt HB13.out bw14); clear hv13 bw14 V2_w13 V11_w13 V12_w13)
    | (go_at_call 67; clear MK13; refine (of_bn _ (T) (by omega) (by omega)).mono ?_; rintro e w15 ⟨a14, k14, c14, rfl, hv14, bw15⟩; have V11_w15 := mkHid (V11_w14.out.later bw15); have V13_w15 := mkHid (V13_w14.out.later bw15); have V14_w15 := mkHid hv14; have HB15 := mkHid (bt HB14.out bw15); clear hv14 bw15 V11_w14 V13_w14)
    | (go_at_call 66; clear MK14; refine (times_bn _ _ _ (((N) * (4096)) + ((D) * (more))) (T) (max (8 + 4 + 1) (8 + 4 + 1) + 1) (4) V11_w15.out V14_w15.out (by omega) (by omega)).mono ?_; rintro e w16 ⟨a15, k15, c15, rfl, hv15, bw16⟩; have V13_w16 := mkHid (V13_w15.out.later bw16); have V15_w16 := mkHid hv15; have HB16 := mkHid (bt HB15.out bw16); clear hv15 bw16 V11_w15 V13_w15 V14_w15)
    | (go_at_call 65; clear MK15; refine (less_bn _ _ _ ((D) * (X)) ((((N) * (4096)) + ((D) * (more))) * (T)) (8 + 4 + 1) (max (8 + 4 + 1) (8 + 4 + 1) + 1 + 4 + 1) V13_w16.out V15_w16.out (by omega) (by omega) _ HT2.out).mono ?_; rintro e w17 ⟨rfl, hww17⟩; rw [hww17]; clear hww17))
  go_ret
  exact ⟨rfl, HB16.out⟩
theorem rline_is (w : World) (s : Sv) (N D more : Int) {A B C E : Int} (h : okW s) (hp : Pt (N, D) A B C E) (N0 : 0 ≤ N) (N1 : N ≤ 147573952589676412928) (D0 : 1 ≤ D) (D1 : D ≤ 18446744073709551616) (m0 : 0 ≤ more) (m1 : more ≤ 10000) (b : Bool) (hb : b = true ↔ (N * (dS s + qS s) < D * qS s ∧ LineP s N D more)) :
    Calls Tryd.prog 37 #[vS s, vP A B C E, .int .i64 more] w fun e w' => e = .returned (.bool b) ∧ Below w.heap.size w w' := by
  by_cases h1 : N * (dS s + qS s) < D * qS s
  · by_cases h2 : LineP s N D more
    · rw [hb.mpr ⟨h1, h2⟩]
      exact rline_yes w s N D more h hp N0 N1 D0 D1 m0 m1 (decide_eq_true h1) (decide_eq_true h2)
    · rw [show b = false by cases b; rfl; exact absurd (hb.mp rfl).2 h2]
      exact rline_above w s N D more h hp N0 N1 D0 D1 m0 m1 (decide_eq_true h1) (decide_eq_false h2)
  · rw [show b = false by cases b; rfl; exact absurd (hb.mp rfl).1 h1]
    exact rline_no w s N D more h hp N0 N1 D0 D1 m0 m1 (decide_eq_false h1)
end Go.Proofs.YtnmmphnaelpjdaaDoor
