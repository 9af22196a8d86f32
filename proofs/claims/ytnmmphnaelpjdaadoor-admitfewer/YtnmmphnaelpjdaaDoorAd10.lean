/- The document's admit: response, Guest, Response. -/
import Derived.Test.YtnmmphnaelpjdaaDoorAd9
namespace Go.Proofs.YtnmmphnaelpjdaaDoor
open Go.ChangeShapes Go.WideShapes Go.ChangeAt Go.RowKit
set_option maxRecDepth 100000
attribute [local go_sem] World.cell?_alloc_some frozen_alloc_some

set_option maxHeartbeats 12800000 in
theorem rresp_is (w : World) (s : Sv) (v : Value) (xs : List Tk) (i : Nat) (r : Int) (h : Tks w v xs) (h1 : okW s) (h2 : okTs xs) (hi : i < xs.length) (hr : Rsp (gS s) (dS s) (qS s) xs i r) :
    Calls Tryd.prog 42 #[vS s, v, .int .i64 (i : Int)] w fun e w' => e = .returned (.int .i64 r) ∧ Below w.heap.size w w' := by
  obtain ⟨a0, cap, rfl, hl, h9⟩ := id h
  obtain ⟨D, hD⟩ : ∃ D, D = dl xs i := ⟨_, rfl⟩
  obtain ⟨b1, b2⟩ := dl_bounds h2 hi
  obtain ⟨n1, n2, n3, n4, n5⟩ := h1.nums
  rw [← hD] at b1 b2
  have H4 : Hid (∀ W l, 0 ≤ l → l ≤ 4096 → Below w.heap.size w W → Calls Tryd.prog 74 #[.slice a0 xs.length cap, .int .i64 (i : Int), .int .i64 l] W fun e w' => e = .returned (.int .i64 (untM xs i l)) ∧ Below W.heap.size W w') := mkHid (fun W l l0 l1 hW => runtil_is W _ xs i l (h.below hW) h2 l0 (by omega) hi)
  have H5 : Hid (∀ W l, 0 ≤ l → l ≤ 4096 → Calls Tryd.prog 20 #[vS s, .int .i64 l] W fun e w' => e = .returned (.int .i64 (sb (gS s) (dS s) (qS s) l)) ∧ Below W.heap.size W w') := mkHid (fun W l l0 l1 => rbound_yes W s l h1 l0 (by omega))
  have HRr := mkHid hr
  unfold Rsp at HRr
  rw [← hD] at HRr
  obtain ⟨b, off, c, p, d, sx, rfl, hxj, c0, c1, c2, c3⟩ := h.at (Below.refl _ _) i hi
  have hDd : D = d := by rw [hD]; exact dl_at hxj
  subst hDd
  obtain ⟨k, q, t⟩ := s
  have hii : (i : Int) < xs.length := by omega
  have HC2 := mkHid c2
  clear h h9 h1 h2 hr hD hxj c0 c1 c2 c3 n1 n2 n3 n4 n5
  go_enter Tryd.func42, Tryd.ntmps42
  go_wp2
  go_loopw [7] (fun lv wr => ∃ l : Int, lv = .int .i64 l ∧ 1 ≤ l ∧ l ≤ D + 1 ∧ Hid (∀ L, 1 ≤ L → L < l → ¬ untM xs i L ≤ sb (gS (k, q, t)) (dS (k, q, t)) (qS (k, q, t)) L) ∧ Hid (Below (w.alloc (oS (k, q, t))).heap.size (w.alloc (oS (k, q, t))) wr)) (fun lv _ => (D + 1 - intOf lv).toNat)
  case atStart => exact ⟨1, rfl, by omega, by omega, mkHid (fun L a b => by omega), mkHid (Below.refl _ _)⟩
  case round =>
    obtain ⟨l, rfl, l0, l1, HCC, HB⟩ := hrel
    obtain ⟨r0, hbw⟩ := new_last HB.out
    have f0 : wr.cell? ⟨w.heap.size, 0, none⟩ = some (.int .i64 k) := cell_of_block (i := 0) r0 rfl
    have f1 : wr.cell? ⟨w.heap.size, 1, none⟩ = some (.int .i64 q) := cell_of_block (i := 1) r0 rfl
    have f2 : wr.cell? ⟨w.heap.size, 2, none⟩ = some (.int .i64 t) := cell_of_block (i := 2) r0 rfl
    have e5 := kc HC2.out hbw
    have HBw := mkHid hbw
    clear r0 hbw
    by_cases hlt : l ≤ D
    · obtain ⟨U, hU⟩ : ∃ U, untM xs i l = U := ⟨_, rfl⟩
      obtain ⟨Z, hZ⟩ : ∃ Z, sb (gS (k, q, t)) (dS (k, q, t)) (qS (k, q, t)) l = Z := ⟨_, rfl⟩
      have G4 := mkHid (fun W hW => H4.out W l (by omega) (by omega) hW)
      have G5 := mkHid (fun W => H5.out W l (by omega) (by omega))
      rw [hU] at G4
      rw [hZ] at G5
      have HU := mkHid hU
      have HZ := mkHid hZ
      clear hU hZ
      by_cases hc : U ≤ Z
      · have hd : decide (U ≤ Z) = true := decide_eq_true hc
        have HR : Hid (r = l) := mkHid (HRr.out.un (.inr ⟨l0, hlt, by show untM xs i l ≤ sb (gS (k, q, t)) (dS (k, q, t)) (qS (k, q, t)) l; rw [HU.out, HZ.out]; exact hc, HCC.out⟩))
        go_wp2
        obtain ⟨p1, hp1⟩ : ∃ p1, p1 = w.heap.size := ⟨_, rfl⟩
        rw [← hp1] at f0 f1 f2 ⊢
        have HP1 := mkHid hp1
        clear hp1
        refine wp_region_held_drew (S := fun w' => w'.cell? ⟨p1, 0, none⟩ = some (.int .i64 k) ∧ w'.cell? ⟨p1, 1, none⟩ = some (.int .i64 q) ∧ w'.cell? ⟨p1, 2, none⟩ = some (.int .i64 t)) (by kernel_rfl) ⟨f0, f1, f2⟩ (fun hHeld => ?_)
        refine takeD 0 17 (.slice (some ⟨b, off, none⟩) xs.length cap) rfl rfl (by kernel_rfl) (by kernel_rfl) (by kernel_rfl) (fun _ _ _ h => h) (Or.inl ⟨by kernel_rfl, by intro w hSw; (try dsimp only at hSw); go_simp⟩) hHeld ?_
        simp only [List.set_cons_zero, List.set_cons_succ]
        refine takeD 1 18 (.int .i64 (i : Int)) rfl rfl (by kernel_rfl) (by kernel_rfl) (by kernel_rfl) (fun _ _ _ h => h) (Or.inl ⟨by kernel_rfl, by intro w hSw; (try dsimp only at hSw); go_simp⟩) hHeld ?_
        simp only [List.set_cons_zero, List.set_cons_succ]
        refine takeD 2 19 (.int .i64 l) rfl rfl (by kernel_rfl) (by kernel_rfl) (by kernel_rfl) (fun _ _ _ h => h) (Or.inl ⟨by kernel_rfl, by intro w hSw; (try dsimp only at hSw); go_simp⟩) hHeld ?_
        simp only [List.set_cons_zero, List.set_cons_succ]
        refine takeD 4 21 (.agg #[.int .i64 k, .int .i64 q, .int .i64 t]) rfl rfl (by kernel_rfl) (by kernel_rfl) (by kernel_rfl) (fun _ _ _ h => h) (Or.inl ⟨by kernel_rfl, by intro w hSw; (try dsimp only at hSw); go_simp⟩) hHeld ?_
        simp only [List.set_cons_zero, List.set_cons_succ]
        refine takeD 5 22 (.int .i64 l) rfl rfl (by kernel_rfl) (by kernel_rfl) (by kernel_rfl) (fun _ _ _ h => h) (Or.inl ⟨by kernel_rfl, by intro w hSw; (try dsimp only at hSw); go_simp⟩) hHeld ?_
        simp only [List.set_cons_zero, List.set_cons_succ]
        refine wpAnyH_ready (rs := [3]) (by kernel_rfl) (by simp) (AllReadyH.cons rfl (fun K hK => ?_) AllReadyH.nil)
        go_simp
        refine (G4.out wr.drew HBw.out.drew).mono ?_
        rintro e w4 ⟨rfl, bw4⟩
        have fw4_0 : w4.cell? ⟨p1, 0, none⟩ = some (.int .i64 k) := kc (show wr.drew.cell? _ = _ from f0) bw4
        have fw4_1 : w4.cell? ⟨p1, 1, none⟩ = some (.int .i64 q) := kc (show wr.drew.cell? _ = _ from f1) bw4
        have fw4_2 : w4.cell? ⟨p1, 2, none⟩ = some (.int .i64 t) := kc (show wr.drew.cell? _ = _ from f2) bw4
        have HB4 := mkHid (bt HBw.out.drew bw4)
        have HL4 := mkHid (bt HB.out.drew bw4)
        clear bw4 hHeld
        refine hK.out _ _ ⟨fw4_0, fw4_1, fw4_2⟩ (fun hHeld => ?_)
        clear hK K
        refine wpAnyH_ready (rs := [6]) (by kernel_rfl) (by simp) (AllReadyH.cons rfl (fun K hK => ?_) AllReadyH.nil)
        go_simp
        refine (G5.out w4).mono ?_
        rintro e w5 ⟨rfl, bw5⟩
        have fw5_0 : w5.cell? ⟨p1, 0, none⟩ = some (.int .i64 k) := kc fw4_0 bw5
        have fw5_1 : w5.cell? ⟨p1, 1, none⟩ = some (.int .i64 q) := kc fw4_1 bw5
        have fw5_2 : w5.cell? ⟨p1, 2, none⟩ = some (.int .i64 t) := kc fw4_2 bw5
        have HB5 := mkHid (bt HB4.out bw5)
        have HL5 := mkHid (bt HL4.out bw5)
        clear bw5 hHeld
        refine hK.out _ _ ⟨fw5_0, fw5_1, fw5_2⟩ (fun hHeld => ?_)
        clear hK K
        refine takeD 7 24 (.bool true) rfl rfl (by kernel_rfl) (by kernel_rfl) (by kernel_rfl) (fun _ _ _ h => h) (Or.inl ⟨by kernel_rfl, by intro w hSw; (try dsimp only at hSw); go_simp⟩) hHeld ?_
        simp only [List.set_cons_zero, List.set_cons_succ]
        refine wpAnyH_done (by kernel_rfl) ?_ _
        go_wp2
        go_ret
        exact ⟨by rw [HR.out]; rfl, HB5.out⟩
      · have hd : decide (U ≤ Z) = false := decide_eq_false hc
        go_wp2
        obtain ⟨p1, hp1⟩ : ∃ p1, p1 = w.heap.size := ⟨_, rfl⟩
        rw [← hp1] at f0 f1 f2 ⊢
        have HP1 := mkHid hp1
        clear hp1
        refine wp_region_held_drew (S := fun w' => w'.cell? ⟨p1, 0, none⟩ = some (.int .i64 k) ∧ w'.cell? ⟨p1, 1, none⟩ = some (.int .i64 q) ∧ w'.cell? ⟨p1, 2, none⟩ = some (.int .i64 t)) (by kernel_rfl) ⟨f0, f1, f2⟩ (fun hHeld => ?_)
        refine takeD 0 17 (.slice (some ⟨b, off, none⟩) xs.length cap) rfl rfl (by kernel_rfl) (by kernel_rfl) (by kernel_rfl) (fun _ _ _ h => h) (Or.inl ⟨by kernel_rfl, by intro w hSw; (try dsimp only at hSw); go_simp⟩) hHeld ?_
        simp only [List.set_cons_zero, List.set_cons_succ]
        refine takeD 1 18 (.int .i64 (i : Int)) rfl rfl (by kernel_rfl) (by kernel_rfl) (by kernel_rfl) (fun _ _ _ h => h) (Or.inl ⟨by kernel_rfl, by intro w hSw; (try dsimp only at hSw); go_simp⟩) hHeld ?_
        simp only [List.set_cons_zero, List.set_cons_succ]
        refine takeD 2 19 (.int .i64 l) rfl rfl (by kernel_rfl) (by kernel_rfl) (by kernel_rfl) (fun _ _ _ h => h) (Or.inl ⟨by kernel_rfl, by intro w hSw; (try dsimp only at hSw); go_simp⟩) hHeld ?_
        simp only [List.set_cons_zero, List.set_cons_succ]
        refine takeD 4 21 (.agg #[.int .i64 k, .int .i64 q, .int .i64 t]) rfl rfl (by kernel_rfl) (by kernel_rfl) (by kernel_rfl) (fun _ _ _ h => h) (Or.inl ⟨by kernel_rfl, by intro w hSw; (try dsimp only at hSw); go_simp⟩) hHeld ?_
        simp only [List.set_cons_zero, List.set_cons_succ]
        refine takeD 5 22 (.int .i64 l) rfl rfl (by kernel_rfl) (by kernel_rfl) (by kernel_rfl) (fun _ _ _ h => h) (Or.inl ⟨by kernel_rfl, by intro w hSw; (try dsimp only at hSw); go_simp⟩) hHeld ?_
        simp only [List.set_cons_zero, List.set_cons_succ]
        refine wpAnyH_ready (rs := [3]) (by kernel_rfl) (by simp) (AllReadyH.cons rfl (fun K hK => ?_) AllReadyH.nil)
        go_simp
        refine (G4.out wr.drew HBw.out.drew).mono ?_
        rintro e w4 ⟨rfl, bw4⟩
        have fw4_0 : w4.cell? ⟨p1, 0, none⟩ = some (.int .i64 k) := kc (show wr.drew.cell? _ = _ from f0) bw4
        have fw4_1 : w4.cell? ⟨p1, 1, none⟩ = some (.int .i64 q) := kc (show wr.drew.cell? _ = _ from f1) bw4
        have fw4_2 : w4.cell? ⟨p1, 2, none⟩ = some (.int .i64 t) := kc (show wr.drew.cell? _ = _ from f2) bw4
        have HB4 := mkHid (bt HBw.out.drew bw4)
        have HL4 := mkHid (bt HB.out.drew bw4)
        clear bw4 hHeld
        refine hK.out _ _ ⟨fw4_0, fw4_1, fw4_2⟩ (fun hHeld => ?_)
        clear hK K
        refine wpAnyH_ready (rs := [6]) (by kernel_rfl) (by simp) (AllReadyH.cons rfl (fun K hK => ?_) AllReadyH.nil)
        go_simp
        refine (G5.out w4).mono ?_
        rintro e w5 ⟨rfl, bw5⟩
        have fw5_0 : w5.cell? ⟨p1, 0, none⟩ = some (.int .i64 k) := kc fw4_0 bw5
        have fw5_1 : w5.cell? ⟨p1, 1, none⟩ = some (.int .i64 q) := kc fw4_1 bw5
        have fw5_2 : w5.cell? ⟨p1, 2, none⟩ = some (.int .i64 t) := kc fw4_2 bw5
        have HB5 := mkHid (bt HB4.out bw5)
        have HL5 := mkHid (bt HL4.out bw5)
        clear bw5 hHeld
        refine hK.out _ _ ⟨fw5_0, fw5_1, fw5_2⟩ (fun hHeld => ?_)
        clear hK K
        refine takeD 7 24 (.bool false) rfl rfl (by kernel_rfl) (by kernel_rfl) (by kernel_rfl) (fun _ _ _ h => h) (Or.inl ⟨by kernel_rfl, by intro w hSw; (try dsimp only at hSw); go_simp⟩) hHeld ?_
        simp only [List.set_cons_zero, List.set_cons_succ]
        refine wpAnyH_done (by kernel_rfl) ?_ _
        obtain rfl := HP1.out
        go_wp2
        go_roundw
        case rel =>
          refine ⟨l + 1, by go_num, by omega, by omega, mkHid (fun L a b => ?_), HL5⟩
          by_cases e : L = l
          · subst e; rw [HU.out, HZ.out]; omega
          · have := HCC.out L a (by omega); omega
        case measure => simp [intOf]; omega
    · have HR : Hid (r = 0) := mkHid (HRr.out.un (.inl ⟨rfl, fun L a b => HCC.out L a (by omega)⟩))
      go_wp2
      go_ret
      exact ⟨by rw [HR.out]; rfl, HBw.out⟩
theorem rguest_legal (w : World) (v : Value) (p : Int) (xs : List Tk) (h : Tks w v xs) (g : Bool) (hg : g = true ↔ okG p xs) :
    Calls Tryd.prog 41 #[.int .i64 p, v] w fun e w' => e = .returned (.bool g) ∧ Below w.heap.size w w' := by
  obtain ⟨b, hb, hc⟩ := legalGuest_is w v p xs h
  have : b = g := by cases b <;> cases g <;> simp_all
  subst this
  exact hc
set_option maxHeartbeats 6400000 in
theorem rguest_order (w : World) (s : Sv) (v : Value) (xs : List Tk) (n : Int) (h : Tks w v xs) (h1 : okW s) (h2 : okG 2 xs) (hyes : FitO (gS s) (dS s) (qS s) xs → n = 0) (hno : ¬ FitO (gS s) (dS s) (qS s) xs → n = 12) :
    Calls Tryd.prog 16 #[vS s, .int .i64 2, v] w fun e w' => e = .returned (.int .i64 n) ∧ Below w.heap.size w w' := by
  have H1 : Hid (∀ W, Calls Tryd.prog 22 #[vS s] W fun e w' => e = .returned (.bool true) ∧ Below W.heap.size W w') := mkHid (fun W => rlegal_yes W s h1)
  have H2 : Hid (∀ W, Below w.heap.size w W → Calls Tryd.prog 41 #[.int .i64 2, v] W fun e w' => e = .returned (.bool true) ∧ Below W.heap.size W w') := mkHid (fun W hW => rguest_legal W v 2 xs (h.below hW) true ⟨fun _ => h2, fun _ => rfl⟩)
  have H3 : Hid (∀ W i r, Below w.heap.size w W → i < xs.length → Rsp (gS s) (dS s) (qS s) xs i r → Calls Tryd.prog 42 #[vS s, v, .int .i64 (i : Int)] W fun e w' => e = .returned (.int .i64 r) ∧ Below W.heap.size W w') := mkHid (fun W i r hW hi hr => rresp_is W s v xs i r (h.below hW) h1 h2.2.2 hi hr)
  have HY := mkHid hyes
  have HO := mkHid hno
  have hl : (xs.length : Int) ≤ 8 := by have := h2.2.2.1; omega
  obtain ⟨k, q, t⟩ := s
  obtain ⟨a0, cap, rfl, _, h9⟩ := id h
  clear h h9 h1 h2 hyes hno
  go_enter Tryd.func16, Tryd.ntmps16
  go_wp2_with (first
    | (go_at_call 22; refine (H1.out _).mono ?_; rintro e w1 ⟨rfl, b1⟩; have c0 := kc (a := ⟨w.heap.size, 0, none⟩) (v := .int .i64 k) (by simp [go_sem]) b1; have c1 := kc (a := ⟨w.heap.size, 1, none⟩) (v := .int .i64 q) (by simp [go_sem]) b1; have c2 := kc (a := ⟨w.heap.size, 2, none⟩) (v := .int .i64 t) (by simp [go_sem]) b1; have HB1 := mkHid (bt (ba (Below.refl _ _) _) b1); clear b1)
    | (go_at_call 41; refine (H2.out _ HB1.out).mono ?_; rintro e w2 ⟨rfl, b2⟩; have d0 := kc c0 b2; have d1 := kc c1 b2; have d2 := kc c2 b2; have HB2 := mkHid (bt HB1.out b2); clear b2 c0 c1 c2))
  have HCE := mkHid (And.intro d0 (And.intro d1 d2))
  clear d0 d1 d2
  go_loopw [27] (fun iv wr => ∃ j : Nat, iv = .int .i64 (j : Int) ∧ j ≤ xs.length ∧ Hid (∀ i, i < j → ¬ Rsp (gS (k, q, t)) (dS (k, q, t)) (qS (k, q, t)) xs i 0) ∧ Hid (Below w2.heap.size w2 wr)) (fun iv _ => xs.length - (intOf iv).toNat)
  case atStart => exact ⟨0, rfl, Nat.zero_le _, mkHid (fun i hi => by omega), mkHid (Below.refl _ _)⟩
  case round =>
    obtain ⟨j, rfl, hj, HC, HB⟩ := hrel
    obtain ⟨g0, g1, g2⟩ := HCE.out
    have c0 := kc g0 HB.out
    have c1 := kc g1 HB.out
    have c2 := kc g2 HB.out
    have HBw := mkHid (bt HB2.out HB.out)
    clear g0 g1 g2
    by_cases hlt : j < xs.length
    · have hji : (j : Int) < xs.length := by omega
      obtain ⟨r, hr⟩ := lst_ex (fun l => untM xs j l ≤ sb (gS (k, q, t)) (dS (k, q, t)) (qS (k, q, t)) l) (dl xs j)
      have HR := mkHid hr
      clear hr
      by_cases hz : r = 0
      · subst hz
        have HV : Hid (n = 12) := mkHid (HO.out (fun hf => hf j hlt HR.out))
        go_wp2_with (go_at_call 42; refine (H3.out _ j 0 HBw.out hlt HR.out).mono ?_; rintro e w3 ⟨rfl, b3⟩; have HB3 := mkHid (bt HBw.out b3); clear b3)
        go_ret
        exact ⟨by rw [HV.out]; rfl, HB3.out⟩
      · go_wp2_with (go_at_call 42; refine (H3.out _ j r HBw.out hlt HR.out).mono ?_; rintro e w3 ⟨rfl, b3⟩; have HB3 := mkHid (bt HB.out b3); clear b3)
        go_roundw
        case rel =>
          refine ⟨j + 1, by go_num, by omega, mkHid (fun i hi hr0 => ?_), HB3⟩
          by_cases e : i = j
          · subst e; exact hz (HR.out.un hr0)
          · exact HC.out i (by omega) hr0
        case measure => simp [intOf]; omega
    · have HV : Hid (n = 0) := mkHid (HY.out (fun i hi => HC.out i (by omega)))
      obtain rfl : j = xs.length := by omega
      go_wp2
      go_ret
      exact ⟨by rw [HV.out]; rfl, HBw.out⟩
set_option maxHeartbeats 6400000 in
theorem rguest_dead (w : World) (s : Sv) (v : Value) (xs : List Tk) (n : Int) (h : Tks w v xs) (h1 : okW s) (hg : okG 1 xs) (hyes : FitT (gS s) (dS s) (qS s) xs → n = 0) (hno : ¬ FitT (gS s) (dS s) (qS s) xs → n = 12) :
    Calls Tryd.prog 16 #[vS s, .int .i64 1, v] w fun e w' => e = .returned (.int .i64 n) ∧ Below w.heap.size w w' := by
  have h2 := hg.2.2
  obtain ⟨⟨A, B, C, D, hp⟩, d1, d2, d3, d4⟩ := okT_sh h2
  obtain ⟨q1, q2⟩ := tot_cc8 h2.2 h2.1
  obtain ⟨g1, g2⟩ := gst_bounds h2.2
  obtain ⟨n1, n2, n3, n4, n5⟩ := h1.nums
  have H1 : Hid (∀ W, Calls Tryd.prog 22 #[vS s] W fun e w' => e = .returned (.bool true) ∧ Below W.heap.size W w') := mkHid (fun W => rlegal_yes W s h1)
  have H0 : Hid (∀ W, Below w.heap.size w W → Calls Tryd.prog 41 #[.int .i64 1, v] W fun e w' => e = .returned (.bool true) ∧ Below W.heap.size W w') := mkHid (fun W hW => rguest_legal W v 1 xs (h.below hW) true ⟨fun _ => hg, fun _ => rfl⟩)
  have H2 : Hid (∀ W, Below w.heap.size w W → Calls Tryd.prog 43 #[v] W fun e w' => e = .returned (.tuple #[vP A B C D, .int .i64 0]) ∧ Below W.heap.size W w') := mkHid (fun W hW => reftasks_short W v xs A B C D 0 (h.below hW) h2.1 (fun _ => ⟨hp, rfl⟩) (fun ⟨x, hm, hk⟩ => absurd (h2.2 x hm) hk))
  have H3 : Hid (∀ W b, (b = true ↔ ((sh (xs.map cp)).1 * (dS s + qS s) < (sh (xs.map cp)).2 * qS s ∧ LineP s (sh (xs.map cp)).1 (sh (xs.map cp)).2 (tot cc xs + gst xs))) → Calls Tryd.prog 37 #[vS s, vP A B C D, .int .i64 (tot cc xs + gst xs)] W fun e w' => e = .returned (.bool b) ∧ Below W.heap.size W w') :=
    mkHid (fun W b hb => rline_is W s _ _ (tot cc xs + gst xs) h1 hp d3 d4 d1 d2 (by omega) (by omega) b hb)
  have H4 : Hid (∀ W i, 0 ≤ i → i ≤ 4096 → Calls Tryd.prog 35 #[vS s, .int .i64 i] W fun e w' => e = .returned (.bool (sbAt (gS s) (dS s) (qS s) i)) ∧ Below W.heap.size W w') := mkHid (fun W i i0 i1 => at_yes W s i h1 i0 (by omega))
  have H5 : Hid (∀ W l, 0 ≤ l → l ≤ 4096 → Below w.heap.size w W → Calls Tryd.prog 21 #[v, .int .i64 l] W fun e w' => e = .returned (.int .i64 (tskM xs l)) ∧ Below W.heap.size W w') := mkHid (fun W l l0 l1 hW => rtasks_is W v xs l (h.below hW) h2 l0 (by omega))
  have HX := mkHid h2
  have HS := mkHid h
  have HY := mkHid hyes
  have HO := mkHid hno
  have HN := mkHid (And.intro n1 (And.intro n2 n3))
  have h8 : (xs.length : Int) ≤ 8 := by have := h2.1; omega
  obtain ⟨k, q, t⟩ := s
  obtain ⟨a0, cap, rfl, hl, h9⟩ := id h
  clear h h9 h1 h2 hg hyes hno hp d1 d2 d3 d4 n1 n2 n3 n4 n5
  go_enter Tryd.func16, Tryd.ntmps16
  go_wp2_with (first
    | (go_at_call 22; refine (H1.out _).mono ?_; rintro e w1 ⟨rfl, b1⟩; have c0 := kc (a := ⟨w.heap.size, 0, none⟩) (v := .int .i64 k) (by simp [go_sem]) b1; have c1 := kc (a := ⟨w.heap.size, 1, none⟩) (v := .int .i64 q) (by simp [go_sem]) b1; have c2 := kc (a := ⟨w.heap.size, 2, none⟩) (v := .int .i64 t) (by simp [go_sem]) b1; have HB1 := mkHid (bt (ba (Below.refl _ _) _) b1); clear b1)
    | (go_at_call 41; refine (H0.out _ HB1.out).mono ?_; rintro e w0 ⟨rfl, b0⟩; have i0 := kc c0 b0; have i1 := kc c1 b0; have i2 := kc c2 b0; have HB0 := mkHid (bt HB1.out b0); clear b0 c0 c1 c2)
    | (go_at_call 43; refine (H2.out _ HB0.out).mono ?_; rintro e w2 ⟨rfl, b2⟩; have d0 := kc i0 b2; have d1 := kc i1 b2; have d2 := kc i2 b2; have HB2 := mkHid (bt HB0.out b2); clear b2 i0 i1 i2))
  obtain ⟨⟨z0, z1, z2, z3⟩, _⟩ := P4.new w2 A B C D
  have e0 := kl d0 (oP A B C D)
  have e1 := kl d1 (oP A B C D)
  have e2 := kl d2 (oP A B C D)
  clear d0 d1 d2
  obtain ⟨W, hW⟩ : ∃ W, W = w2.alloc (oP A B C D) := ⟨_, rfl⟩
  have HB3 : Hid (Below w.heap.size w W) := mkHid (by rw [hW]; exact ba HB2.out _)
  rw [← hW] at z0 z1 z2 z3 e0 e1 e2 ⊢
  clear hW HB1 HB2
  generalize w2.heap.size = p at *
  obtain ⟨p1, hP1⟩ : ∃ p1, p1 = w.heap.size := ⟨_, rfl⟩
  rw [← hP1] at e0 e1 e2 ⊢
  clear hP1
  have HCE0 := mkHid (And.intro e0 (And.intro e1 (And.intro e2 (And.intro z0 (And.intro z1 (And.intro z2 z3))))))
  clear e0 e1 e2 z0 z1 z2 z3
  go_loopw [10, 11, 43] (fun nv gv iv wr => ∃ (j : Nat) (N G : Int), nv = .int .i64 N ∧ gv = .int .i64 G ∧ iv = .int .i64 (j : Int) ∧ j ≤ xs.length ∧ 0 ≤ N ∧ N ≤ 2048 ∧ 0 ≤ G ∧ G ≤ 256 ∧ Hid (tot cc (xs.take j) = N) ∧ Hid (gst (xs.take j) = G) ∧ Hid (Below W.heap.size W wr)) (fun _ _ iv _ => xs.length - (intOf iv).toNat)
  case atStart => exact ⟨0, 0, 0, rfl, rfl, rfl, Nat.zero_le _, by omega, by omega, by omega, by omega, mkHid rfl, mkHid rfl, mkHid (Below.refl _ _)⟩
  case round =>
    obtain ⟨j, N, G, rfl, rfl, rfl, hj, m0, m1, v0, v1, HNN, HGG, HB⟩ := hrel
    by_cases hlt : j < xs.length
    · obtain ⟨b, off, c, pp, d, sx, rfl, hxj, c0, c1, c2, c3⟩ := HS.out.at (bt HB3.out HB.out) j hlt
      have hji : (j : Int) < xs.length := by omega
      obtain ⟨o1, o2, o3, o4, o5, o6⟩ := HX.out.2 _ (List.mem_of_getElem? hxj)
      simp only at o1 o2 o3 o4 o5 o6
      have e := tot_take cc hxj
      have eg := gst_take hxj
      have t2 := tot_cc8 (xs := xs.take (j + 1)) (fun x hm => HX.out.2 x (List.mem_of_mem_take hm)) (by rw [List.length_take]; omega)
      rw [HNN.out] at e
      rw [HGG.out] at eg
      have eq1 : cc (c, pp, d, sx) = c := rfl
      rw [eq1] at e
      rw [e] at t2
      have HT := mkHid e
      simp only at eg
      have ew : IntKind.i64.wrap (N + c) = N + c := wfit (by omega) (by omega)
      have hcs : (G < sx ∧ gst (xs.take (j + 1)) = sx) ∨ (¬ G < sx ∧ gst (xs.take (j + 1)) = G) := by omega
      clear hxj e eg eq1
      rcases hcs with ⟨hg, he⟩ | ⟨hg, he⟩
      · have HU := mkHid he
        clear he
        go_wp2
        go_roundw
        case rel => exact ⟨j + 1, N + c, sx, by go_num, by go_num, by go_num, by omega, t2.1, t2.2, by omega, by omega, HT, HU, mkHid (ba HB.out _)⟩
        case measure => simp [intOf]; omega
      · have HU := mkHid he
        clear he
        go_wp2
        go_roundw
        case rel => exact ⟨j + 1, N + c, G, by go_num, by go_num, by go_num, by omega, t2.1, t2.2, by omega, by omega, HT, HU, mkHid (ba HB.out _)⟩
        case measure => simp [intOf]; omega
    · obtain rfl : j = xs.length := by omega
      have hN := HNN.out
      have hG := HGG.out
      rw [List.take_length] at hN hG
      have ew : IntKind.i64.wrap (N + G) = N + G := wfit (by omega) (by omega)
      have HY2 := mkHid HY.out
      have HO2 := mkHid HO.out
      unfold FitT Fits at HY2 HO2
      rw [hN, hG] at H3 HY2 HO2
      obtain ⟨e0, e1, e2, z0, z1, z2, z3⟩ := HCE0.out
      have f0 := kc e0 HB.out
      have f1 := kc e1 HB.out
      have f2 := kc e2 HB.out
      have y0 := kc z0 HB.out
      have y1 := kc z1 HB.out
      have y2 := kc z2 HB.out
      have y3 := kc z3 HB.out
      have HB5 := mkHid (bt HB3.out HB.out)
      clear hN hG HNN HGG e0 e1 e2 z0 z1 z2 z3 HCE0 hlt hj
      by_cases hline : ((sh (xs.map cp)).1 * (dS (k, q, t) + qS (k, q, t)) < (sh (xs.map cp)).2 * qS (k, q, t) ∧ LineP (k, q, t) (sh (xs.map cp)).1 (sh (xs.map cp)).2 (N + G))
      · have H3t := mkHid (fun W => H3.out W true ⟨fun _ => hline, fun _ => rfl⟩)
        have HYc : Hid ((∀ l, 1 ≤ l → l ≤ 4096 → tskM xs l ≤ sb (gS (k, q, t)) (dS (k, q, t)) (qS (k, q, t)) l) → n = 0) := mkHid (fun hc => HY2.out ⟨hline.1, hline.2, hc⟩)
        have HOc : Hid (¬ (∀ l, 1 ≤ l → l ≤ 4096 → tskM xs l ≤ sb (gS (k, q, t)) (dS (k, q, t)) (qS (k, q, t)) l) → n = 12) := mkHid (fun hc => HO2.out (fun hf => hc hf.2.2))
        clear hline H3 HY2 HO2 HY HO
        go_wp2_with (go_at_call 37; refine (H3t.out _).mono ?_; rintro e w6 ⟨rfl, b6⟩; have g0 := kc f0 b6; have g1 := kc f1 b6; have g2 := kc f2 b6; have HB6 := mkHid (bt HB5.out b6); clear b6 f0 f1 f2 y0 y1 y2 y3)
        have HCE := mkHid (And.intro g0 (And.intro g1 g2))
        clear g0 g1 g2
        go_loopw [14, 15] (fun sv lv wr => ∃ (S l : Int), sv = .int .i64 S ∧ lv = .int .i64 l ∧ 1 ≤ l ∧ l ≤ 4097 ∧ 0 ≤ S ∧ S ≤ 4096 ∧ Hid (sb (gS (k, q, t)) (dS (k, q, t)) (qS (k, q, t)) (l - 1) = S) ∧ Hid (∀ L, 1 ≤ L → L < l → tskM xs L ≤ sb (gS (k, q, t)) (dS (k, q, t)) (qS (k, q, t)) L) ∧ Hid (Below w6.heap.size w6 wr)) (fun _ lv _ => (4097 - intOf lv).toNat)
        case atStart => exact ⟨0, 1, rfl, rfl, by omega, by omega, by omega, by omega, mkHid (by have := HN.out; exact sb_zero (by omega) (by omega) (by omega)), mkHid (fun L a b => by omega), mkHid (Below.refl _ _)⟩
        case round =>
          obtain ⟨S, l, rfl, rfl, l0, l1, s0, s1, HSS, HCC, HBB⟩ := hrel
          obtain ⟨g0, g1, g2⟩ := HCE.out
          have f0 := kc g0 HBB.out
          have f1 := kc g1 HBB.out
          have f2 := kc g2 HBB.out
          have HB7 := mkHid (bt HB6.out HBB.out)
          clear g0 g1 g2
          by_cases hl : l ≤ 4096
          · have ewl : IntKind.i64.wrap (l - 1) = l - 1 := wfit (by omega) (by omega)
            obtain ⟨S2, hS2⟩ : ∃ S2, sb (gS (k, q, t)) (dS (k, q, t)) (qS (k, q, t)) l = S2 := ⟨_, rfl⟩
            obtain ⟨U, hU⟩ : ∃ U, tskM xs l = U := ⟨_, rfl⟩
            have bS := sb_few (g := gS (k, q, t)) (d := dS (k, q, t)) (q := qS (k, q, t)) (l := l) (by have := HN.out; omega) HN.out.2.1 HN.out.2.2 (by omega)
            rw [hS2] at bS
            have HS2 := mkHid hS2
            have HU := mkHid hU
            obtain ⟨bt_, hat⟩ : ∃ b, sbAt (gS (k, q, t)) (dS (k, q, t)) (qS (k, q, t)) (l - 1) = b := ⟨_, rfl⟩
            have HAT := mkHid hat
            have hst : (bt_ = true ∧ S2 = S + 1) ∨ (bt_ = false ∧ S2 = S) := by
              have hs := sb_step (g := gS (k, q, t)) (d := dS (k, q, t)) (q := qS (k, q, t)) (l := l - 1) HN.out.2.1 HN.out.2.2
              rw [show l - 1 + 1 = l by omega, hS2, HSS.out, hat] at hs
              cases bt_
              · right; simp at hs; exact ⟨rfl, hs⟩
              · left; simp at hs; exact ⟨rfl, hs⟩
            have HCN : Hid (U ≤ S2 → ∀ L, 1 ≤ L → L < l + 1 → tskM xs L ≤ sb (gS (k, q, t)) (dS (k, q, t)) (qS (k, q, t)) L) := mkHid (fun hc L a b => by
              by_cases e : L = l
              · subst e; rw [HU.out, HS2.out]; exact hc
              · exact HCC.out L a (by omega))
            clear hS2 hU hat
            rcases hst with ⟨rfl, rfl⟩ | ⟨rfl, rfl⟩
            · have ews : IntKind.i64.wrap (S + 1) = S + 1 := wfit (by omega) (by omega)
              by_cases hc : U ≤ S + 1
              · go_wp2_with (first
                  | (go_at_call 35; refine (H4.out _ (l - 1) (by omega) (by omega)).mono ?_; rw [HAT.out]; rintro e w8 ⟨rfl, b8⟩; have HB8 := mkHid (bt HB7.out b8); have HC8 := mkHid (bt HBB.out b8); clear b8 f0 f1 f2)
                  | (go_at_call 21; refine (H5.out _ l (by omega) hl HB8.out).mono ?_; rw [HU.out]; rintro e w9 ⟨rfl, b9⟩; have HB9 := mkHid (bt HB8.out b9); have HC9 := mkHid (bt HC8.out b9); clear b9))
                go_roundw
                case rel => exact ⟨S + 1, l + 1, by go_num, by go_num, by omega, by omega, by omega, by omega, mkHid (by rw [show l + 1 - 1 = l by omega]; exact HS2.out), mkHid (by first | exact HCN.out hc | exact fun L a b => Int.not_le.mpr (HCN.out hc L a b)), HC9⟩
                case measure => simp [intOf]; omega
              · have hc2 : S + 1 < U := by omega
                have HR : Hid (n = 12) := mkHid (HOc.out (fun ha => by have := ha l (by omega) hl; rw [HU.out, HS2.out] at this; omega))
                go_wp2_with (first
                  | (go_at_call 35; refine (H4.out _ (l - 1) (by omega) (by omega)).mono ?_; rw [HAT.out]; rintro e w8 ⟨rfl, b8⟩; have HB8 := mkHid (bt HB7.out b8); have HC8 := mkHid (bt HBB.out b8); clear b8 f0 f1 f2)
                  | (go_at_call 21; refine (H5.out _ l (by omega) hl HB8.out).mono ?_; rw [HU.out]; rintro e w9 ⟨rfl, b9⟩; have HB9 := mkHid (bt HB8.out b9); have HC9 := mkHid (bt HC8.out b9); clear b9))
                go_ret
                exact ⟨by rw [HR.out]; rfl, HB9.out⟩
            · by_cases hc : U ≤ S2
              · go_wp2_with (first
                  | (go_at_call 35; refine (H4.out _ (l - 1) (by omega) (by omega)).mono ?_; rw [HAT.out]; rintro e w8 ⟨rfl, b8⟩; have HB8 := mkHid (bt HB7.out b8); have HC8 := mkHid (bt HBB.out b8); clear b8 f0 f1 f2)
                  | (go_at_call 21; refine (H5.out _ l (by omega) hl HB8.out).mono ?_; rw [HU.out]; rintro e w9 ⟨rfl, b9⟩; have HB9 := mkHid (bt HB8.out b9); have HC9 := mkHid (bt HC8.out b9); clear b9))
                go_roundw
                case rel => exact ⟨S2, l + 1, by go_num, by go_num, by omega, by omega, by omega, by omega, mkHid (by rw [show l + 1 - 1 = l by omega]; exact HS2.out), mkHid (by first | exact HCN.out hc | exact fun L a b => Int.not_le.mpr (HCN.out hc L a b)), HC9⟩
                case measure => simp [intOf]; omega
              · have hc2 : S2 < U := by omega
                have HR : Hid (n = 12) := mkHid (HOc.out (fun ha => by have := ha l (by omega) hl; rw [HU.out, HS2.out] at this; omega))
                go_wp2_with (first
                  | (go_at_call 35; refine (H4.out _ (l - 1) (by omega) (by omega)).mono ?_; rw [HAT.out]; rintro e w8 ⟨rfl, b8⟩; have HB8 := mkHid (bt HB7.out b8); have HC8 := mkHid (bt HBB.out b8); clear b8 f0 f1 f2)
                  | (go_at_call 21; refine (H5.out _ l (by omega) hl HB8.out).mono ?_; rw [HU.out]; rintro e w9 ⟨rfl, b9⟩; have HB9 := mkHid (bt HB8.out b9); have HC9 := mkHid (bt HC8.out b9); clear b9))
                go_ret
                exact ⟨by rw [HR.out]; rfl, HB9.out⟩
          · have HR : Hid (n = 0) := mkHid (HYc.out (fun L a b => HCC.out L a (by omega)))
            go_wp2
            go_ret
            exact ⟨by rw [HR.out]; rfl, HB7.out⟩
      · have H3f := mkHid (fun W => H3.out W false ⟨fun e => (by cases e), fun hf => absurd hf hline⟩)
        have HR : Hid (n = 12) := mkHid (HO2.out (fun hf => hline ⟨hf.1, hf.2.1⟩))
        clear hline H3 HY2 HO2 HY HO
        go_wp2_with (go_at_call 37; refine (H3f.out _).mono ?_; rintro e w6 ⟨rfl, b6⟩; have HB6 := mkHid (bt HB5.out b6); clear b6)
        go_ret
        exact ⟨by rw [HR.out]; rfl, HB6.out⟩
set_option maxHeartbeats 3200000 in
theorem rguest_is (w : World) (s : Sv) (p : Int) (v : Value) (xs : List Tk) (n : Int) (h : Tks w v xs) (hk : GC s p xs n) :
    Calls Tryd.prog 16 #[vS s, .int .i64 p, v] w fun e w' => e = .returned (.int .i64 n) ∧ Below w.heap.size w w' := by
  obtain ⟨k, q, t⟩ := s
  obtain ⟨a0, cap, hv, hl, h9⟩ := id h
  have HS := mkHid h
  clear h h9
  cases hk with
  | parent h1 =>
    have HO := mkHid h1
    clear h1
    subst hv
    go_enter Tryd.func16, Tryd.ntmps16
    go_wp2_with (go_at_call 22; refine (rlegal_no _ (k, q, t) HO.out).mono ?_; rintro e w1 ⟨rfl, b1⟩; have HB1 := mkHid (bt (ba (Below.refl _ _) _) b1); clear b1)
    go_ret
    exact ⟨rfl, HB1.out⟩
  | task h1 h2 =>
    have HO := mkHid h1
    have HG : Hid (∀ W, Below w.heap.size w W → Calls Tryd.prog 41 #[.int .i64 p, v] W fun e w' => e = .returned (.bool false) ∧ Below W.heap.size W w') := mkHid (fun W hW => rguest_legal W v p xs (HS.out.below hW) false ⟨fun e => (by cases e), fun hf => absurd hf h2⟩)
    clear h1 h2
    subst hv
    go_enter Tryd.func16, Tryd.ntmps16
    go_wp2_with (first
      | (go_at_call 22; refine (rlegal_yes _ (k, q, t) HO.out).mono ?_; rintro e w1 ⟨rfl, b1⟩; have HB1 := mkHid (bt (ba (Below.refl _ _) _) b1); clear b1)
      | (go_at_call 41; refine (HG.out _ HB1.out).mono ?_; rintro e w2 ⟨rfl, b2⟩; have HB2 := mkHid (bt HB1.out b2); clear b2))
    go_ret
    exact ⟨rfl, HB2.out⟩
  | tightO h1 h2 hp h4 => subst hp; exact rguest_order w (k, q, t) v xs 12 HS.out h1 h2 (fun hf => absurd hf h4) (fun _ => rfl)
  | fitsO h1 h2 hp h4 => subst hp; exact rguest_order w (k, q, t) v xs 0 HS.out h1 h2 (fun _ => rfl) (fun hf => absurd h4 hf)
  | tightT h1 h2 hp h4 => subst hp; exact rguest_dead w (k, q, t) v xs 12 HS.out h1 h2 (fun hf => absurd hf h4) (fun _ => rfl)
  | fitsT h1 h2 hp h4 => subst hp; exact rguest_dead w (k, q, t) v xs 0 HS.out h1 h2 (fun _ => rfl) (fun hf => absurd h4 hf)
set_option maxHeartbeats 3200000 in
theorem rresponse_is (w : World) (s : Sv) (v : Value) (xs : List Tk) (i : Int) (r n : Int) (h : Tks w v xs) (hk : RC s xs i r n) :
    Calls Tryd.prog 18 #[vS s, v, .int .i64 i] w fun e w' => e = .returned (.tuple #[.int .i64 r, .int .i64 n]) ∧ Below w.heap.size w w' := by
  obtain ⟨k, q, t⟩ := s
  obtain ⟨a0, cap, hv, hl, h9⟩ := id h
  have HS := mkHid h
  clear h h9
  have HG : Hid (∀ W g, Below w.heap.size w W → (g = true ↔ okG 2 xs) → Calls Tryd.prog 41 #[.int .i64 2, v] W fun e w' => e = .returned (.bool g) ∧ Below W.heap.size W w') := mkHid (fun W g hW hg => rguest_legal W v 2 xs (HS.out.below hW) g hg)
  have HO : Hid (okW (k, q, t) → okG 2 xs → 0 ≤ i ∧ i < xs.length → ∀ m, Rsp (gS (k, q, t)) (dS (k, q, t)) (qS (k, q, t)) xs i.toNat r → (¬ r = 0 → m = 0) → (r = 0 → m = 12) → Calls Tryd.prog 18 #[vS (k, q, t), v, .int .i64 i] w fun e w' => e = .returned (.tuple #[.int .i64 r, .int .i64 m]) ∧ Below w.heap.size w w') := mkHid (by
    intro h1 h2 hi m hr y nn
    clear hk
    obtain ⟨i, rfl⟩ := Int.eq_ofNat_of_zero_le hi.1
    have hlt := hi.2
    have h8 : (xs.length : Int) ≤ 8 := by have := h2.2.2.1; omega
    have H3 : Hid (∀ W, Below w.heap.size w W → Calls Tryd.prog 42 #[vS (k, q, t), v, .int .i64 (i : Int)] W fun e w' => e = .returned (.int .i64 r) ∧ Below W.heap.size W w') := mkHid (fun W hW => rresp_is W (k, q, t) v xs i r (HS.out.below hW) h1 h2.2.2 (by omega) hr)
    have HGt := mkHid (fun W hW => HG.out W true hW ⟨fun _ => h2, fun _ => rfl⟩)
    have H1 := mkHid h1
    subst hv
    have hcs : (r = 0 ∧ m = 12) ∨ (¬ r = 0 ∧ m = 0) := by
      by_cases e : r = 0
      · exact .inl ⟨e, nn e⟩
      · exact .inr ⟨e, y e⟩
    clear h1 h2 y nn hr hi HG
    rcases hcs with ⟨rfl, rfl⟩ | ⟨hz, rfl⟩
    all_goals
      go_enter Tryd.func18, Tryd.ntmps18
      go_wp2_with (first
        | (go_at_call 22; refine (rlegal_yes _ (k, q, t) H1.out).mono ?_; rintro e w1 ⟨rfl, b1⟩; have c0 := kc (a := ⟨w.heap.size, 0, none⟩) (v := .int .i64 k) (by simp [go_sem]) b1; have c1 := kc (a := ⟨w.heap.size, 1, none⟩) (v := .int .i64 q) (by simp [go_sem]) b1; have c2 := kc (a := ⟨w.heap.size, 2, none⟩) (v := .int .i64 t) (by simp [go_sem]) b1; have HB1 := mkHid (bt (ba (Below.refl _ _) _) b1); clear b1)
        | (go_at_call 41; refine (HGt.out _ HB1.out).mono ?_; rintro e w2 ⟨rfl, b2⟩; have d0 := kc c0 b2; have d1 := kc c1 b2; have d2 := kc c2 b2; have HB2 := mkHid (bt HB1.out b2); clear b2 c0 c1 c2)
        | (go_at_call 42; refine (H3.out _ HB2.out).mono ?_; rintro e w3 ⟨rfl, b3⟩; have HB3 := mkHid (bt HB2.out b3); clear b3))
      go_ret2
      exact ⟨rfl, HB3.out⟩)
  cases hk with
  | parent h1 =>
    have H1 := mkHid h1
    clear h1
    subst hv
    go_enter Tryd.func18, Tryd.ntmps18
    go_wp2_with (go_at_call 22; refine (rlegal_no _ (k, q, t) H1.out).mono ?_; rintro e w1 ⟨rfl, b1⟩; have HB1 := mkHid (bt (ba (Below.refl _ _) _) b1); clear b1)
    go_ret2
    exact ⟨rfl, HB1.out⟩
  | task h1 h2 =>
    have H1 := mkHid h1
    have HGf := mkHid (fun W hW => HG.out W false hW ⟨fun e => (by cases e), fun hf => absurd hf h2⟩)
    clear h1 h2 HG
    subst hv
    go_enter Tryd.func18, Tryd.ntmps18
    go_wp2_with (first
      | (go_at_call 22; refine (rlegal_yes _ (k, q, t) H1.out).mono ?_; rintro e w1 ⟨rfl, b1⟩; have HB1 := mkHid (bt (ba (Below.refl _ _) _) b1); clear b1)
      | (go_at_call 41; refine (HGf.out _ HB1.out).mono ?_; rintro e w2 ⟨rfl, b2⟩; have HB2 := mkHid (bt HB1.out b2); clear b2))
    go_ret2
    exact ⟨rfl, HB2.out⟩
  | number h1 h2 h3 =>
    have H1 := mkHid h1
    have HGt := mkHid (fun W hW => HG.out W true hW ⟨fun _ => h2, fun _ => rfl⟩)
    have h8 : (xs.length : Int) ≤ 8 := by have := h2.2.2.1; omega
    clear h1 h2 HG
    have hc : i < 0 ∨ (¬ i < 0 ∧ ¬ i < xs.length) := by omega
    clear h3
    subst hv
    rcases hc with hc | ⟨hc, hc2⟩
    all_goals
      go_enter Tryd.func18, Tryd.ntmps18
      go_wp2_with (first
        | (go_at_call 22; refine (rlegal_yes _ (k, q, t) H1.out).mono ?_; rintro e w1 ⟨rfl, b1⟩; have HB1 := mkHid (bt (ba (Below.refl _ _) _) b1); clear b1)
        | (go_at_call 41; refine (HGt.out _ HB1.out).mono ?_; rintro e w2 ⟨rfl, b2⟩; have HB2 := mkHid (bt HB1.out b2); clear b2))
      go_ret2
      exact ⟨rfl, HB2.out⟩
  | none h1 h2 h3 hr => exact HO.out h1 h2 h3 _ hr (fun e => absurd rfl e) (fun _ => rfl)
  | yes r h1 h2 h3 hr hz => exact HO.out h1 h2 h3 _ hr (fun _ => rfl) (fun e => absurd e hz)
end Go.Proofs.YtnmmphnaelpjdaaDoor
