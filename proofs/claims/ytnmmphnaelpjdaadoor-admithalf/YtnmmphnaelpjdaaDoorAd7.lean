/- The law AdmitHalf: too much never fits, a small part does. -/
import Derived.Test.YtnmmphnaelpjdaaDoorAd6
import Derived.Test.YtnmmphnaelpjdaaDoorRefPl3
namespace Go.Proofs.YtnmmphnaelpjdaaDoor
open Go.ChangeShapes Go.WideShapes Go.ChangeAt Go.RowKit
set_option maxRecDepth 100000
set_option linter.unusedVariables false
attribute [local go_sem] World.cell?_alloc_some frozen_alloc_some

theorem rwithin_yes (w : World) (s : Sv) (N D : Int) {A B C E : Int} (h : okW s) (hp : Pt (N, D) A B C E) (N1 : N ≤ 147573952589676412928) (D0 : 1 ≤ D) (D1 : D ≤ 18446744073709551616) :
    Calls Tryd.prog 24 #[vP A B C E, vS s] w fun e w' => e = .returned (.tuple #[.int .i64 (cmpI (N * (dS s + qS s)) (D * qS s)), .bool true]) ∧ Below w.heap.size w w' := by
  obtain ⟨n1, n2, n3, n4, n5⟩ := h.nums
  obtain ⟨pa, pb, pc, pe, e1, e2⟩ := hp
  simp only at e1 e2
  have hDQ : D * qS s ≤ 18446744073709551616 * 256 := Int.mul_le_mul (by omega) (by omega) (by omega) (by omega)
  have hNT : N * (dS s + qS s) ≤ 147573952589676412928 * 256 := Int.mul_le_mul (by omega) (by omega) (by omega) (by omega)
  have hAg : AgIs (wv A B) (wv C E) (qS s) (dS s + qS s) (cmpI (N * (dS s + qS s)) (D * qS s)) true := ⟨fun _ => by
    rw [e1, e2]
    exact ⟨⟨by omega, by omega, by omega⟩, by omega, by omega, rfl⟩, fun h => (by cases h)⟩
  rcases h with rfl | h
  · exact refwithin_whole w pa pb pc pe hAg
  · rw [h.nums3.2, h.nums3.1] at hAg ⊢
    exact refwithin_ok w s pa pb pc pe h hAg
theorem cmpI_neg {a b : Int} (h : a < b) : ¬ 0 ≤ cmpI a b := by unfold cmpI; rw [if_pos h]; decide
theorem svs_nil (w : World) : Svs w (.slice none 0 0) [] := ⟨none, 0, rfl, by decide, fun h => by simp at h⟩
theorem svs_one_at (w : World) (s : Sv) (p : Nat) (hp : p = w.heap.size) : Svs (w.alloc (oS s)) (.slice (some ⟨p, 0, none⟩) 1 1) [s] := by subst hp; exact svs_one w s
theorem kc_nil {s : Sv} (h : okW s) : KC s [] 0 := by
  obtain ⟨n1, n2, n3, n4, n5⟩ := h.nums
  exact .fits h (by simp) (by simp) (fitK_nil n4 n2 (by omega) n3 n5)
theorem kc_small {s : Sv} (h : okW s) {t : Int} (t0 : 64 ≤ t) (t1 : t ≤ 256) (hs : s.1 = 0 ∨ (s.2.2 ≤ 32 ∧ 4 * s.2.2 ≤ s.2.1 * t)) : KC s [(1, 1, t)] 0 := by
  obtain ⟨n1, n2, n3, n4, n5⟩ := h.nums
  refine .fits h (by intro x hx; simp at hx; subst hx; exact ⟨by show (1 : Int) ≤ 1; decide, by show (1 : Int) ≤ 3; decide, by show (1 : Int) ≤ 1; decide, by show (1 : Int) ≤ t; omega, t1⟩) (by simp) ?_
  rcases h with rfl | h
  · exact fitK_small (by decide) (by decide) (by decide) (by decide) t0 t1 (by show 4 * ((0 : Int) + 1) ≤ 1 * t; omega)
  · obtain ⟨k, q, T⟩ := s
    obtain ⟨h1, h2, h3, h4, h5⟩ := id h
    simp only at h1 h2 h3 h4 h5 hs
    obtain ⟨e1, e2⟩ := h.nums3
    simp only at e1 e2
    have hk : ¬ k = 0 := by omega
    rcases hs with hs | ⟨hs, hs2⟩
    · omega
    · refine fitK_small n1 n2 n3 ?_ t0 t1 (by rw [e2, e1]; exact hs2)
      simp only [gS]
      rw [if_neg hk]
      split <;> omega
set_option maxHeartbeats 12800000 in
theorem half_no (w : World) (s : Sv) (al : Option Addr) (cl : Nat) (n : Int) (xs : List Sv) (a : Nat → Addr) (hx : Svs w (.slice al xs.length cl) xs) (E : Er6 w a) (hT : Err w 1 text1 (a 1)) (hS : Err w 0 text0 (a 0)) (h1 : ¬ okW s) :
    Calls Tryd.prog 7 #[vS s, .slice al xs.length cl, .int .i64 n] w fun e w' => e = .returned (.bool true) ∧ Below w.heap.size w w' := by
  obtain ⟨k, q, t⟩ := s
  have qS := hS.eq
  have HAL : Hid (∀ W, Below w.heap.size w W → Calls Tryd.prog 9 #[] W fun e w' => e = .returned (.bool true) ∧ Below W.heap.size W w') := mkHid (fun W hW => aalive W a (E.late hW) (hT.late hW))
  have HK : Hid (∀ W, Below w.heap.size w W → Calls Tryd.prog 10 #[vS (k, q, t), .slice al xs.length cl] W fun e w' => e = .returned (vE (a 0)) ∧ Below W.heap.size W w') := mkHid (fun W hW => kids_is W (k, q, t) _ xs a 10 (hx.below hW) (E.late hW) (.parent h1))
  have HL : Hid (∀ W, Calls Tryd.prog 22 #[vS (k, q, t)] W fun e w' => e = .returned (.bool false) ∧ Below W.heap.size W w') := mkHid (fun W => rlegal_no W _ h1)
  have HE := mkHid E
  clear hx E hT hS h1
  go_enter Tryd.func7, Tryd.ntmps7
  go_wp2_with (first
    | (go_at_call 9; refine (HAL.out _ (ba (Below.refl _ _) _)).mono ?_; rintro e w1 ⟨rfl, b1⟩; have c0 := kc (a := ⟨w.heap.size, 0, none⟩) (v := .int .i64 k) (by simp [go_sem]) b1; have c1 := kc (a := ⟨w.heap.size, 1, none⟩) (v := .int .i64 q) (by simp [go_sem]) b1; have c2 := kc (a := ⟨w.heap.size, 2, none⟩) (v := .int .i64 t) (by simp [go_sem]) b1; have HB1 := mkHid (bt (ba (Below.refl _ _) _) b1); clear b1)
    | (go_at_call 22; refine (HL.out _).mono ?_; rintro e w2 ⟨rfl, b2⟩; have d0 := kc c0 b2; have d1 := kc c1 b2; have d2 := kc c2 b2; have HB2 := mkHid (bt HB1.out b2); clear b2 c0 c1 c2))
  have ce := (HE.out.late HB2.out).er4.er3.cell_server
  generalize w.heap.size = p1 at d0 d1 d2 ⊢
  refine wp_region_held_drew (S := fun w' => w'.cell? ⟨p1, 0, none⟩ = some (.int .i64 k) ∧ w'.cell? ⟨p1, 1, none⟩ = some (.int .i64 q) ∧ w'.cell? ⟨p1, 2, none⟩ = some (.int .i64 t) ∧ w'.cell? ⟨0, 0, none⟩ = some (vE (a 0))) (by kernel_rfl) ⟨d0, d1, d2, ce⟩ (fun hHeld => ?_)
  refine takeD 0 17 (.agg #[.int .i64 k, .int .i64 q, .int .i64 t]) rfl rfl (by kernel_rfl) (by kernel_rfl) (by kernel_rfl) (fun _ _ _ h => h) (Or.inl ⟨by kernel_rfl, by intro w hSw; (try dsimp only at hSw); go_simp⟩) hHeld ?_
  simp only [List.set_cons_zero, List.set_cons_succ]
  refine takeD 1 18 (.slice al xs.length cl) rfl rfl (by kernel_rfl) (by kernel_rfl) (by kernel_rfl) (fun _ _ _ h => h) (Or.inl ⟨by kernel_rfl, by intro w hSw; (try dsimp only at hSw); go_simp⟩) hHeld ?_
  simp only [List.set_cons_zero, List.set_cons_succ]
  refine takeD 3 20 (vE (a 0)) rfl rfl (by kernel_rfl) (by kernel_rfl) (by kernel_rfl) (fun _ _ _ h => h) (Or.inl ⟨by kernel_rfl, by intro w hSw; (try dsimp only at hSw); go_simp⟩) hHeld ?_
  simp only [List.set_cons_zero, List.set_cons_succ]
  refine wpAnyH_ready (rs := [2]) (by kernel_rfl) (by simp) (AllReadyH.cons rfl (fun K hK => ?_) AllReadyH.nil)
  go_simp
  refine (HK.out w2.drew HB2.out.drew).mono ?_
  rintro e w3 ⟨rfl, bw3⟩
  have fw3_0 : w3.cell? ⟨p1, 0, none⟩ = some (.int .i64 k) := kc (show w2.drew.cell? _ = _ from d0) bw3
  have fw3_1 : w3.cell? ⟨p1, 1, none⟩ = some (.int .i64 q) := kc (show w2.drew.cell? _ = _ from d1) bw3
  have fw3_2 : w3.cell? ⟨p1, 2, none⟩ = some (.int .i64 t) := kc (show w2.drew.cell? _ = _ from d2) bw3
  have fw3_3 : w3.cell? ⟨0, 0, none⟩ = some (vE (a 0)) := kc (show w2.drew.cell? _ = _ from ce) bw3
  have HB3 := mkHid (bt HB2.out.drew bw3)
  clear bw3 hHeld
  refine hK.out _ _ ⟨fw3_0, fw3_1, fw3_2, fw3_3⟩ (fun hHeld => ?_)
  clear hK K
  refine takeD 4 21 (.bool true) rfl rfl (by kernel_rfl) (by kernel_rfl) (by kernel_rfl) (fun _ _ _ h => h) (Or.inl ⟨by kernel_rfl, by intro w hSw; (try dsimp only at hSw); go_simp⟩) hHeld ?_
  simp only [List.set_cons_zero, List.set_cons_succ]
  refine takeD 5 6 (.bool true) rfl rfl (by kernel_rfl) (by kernel_rfl) (by kernel_rfl) (fun _ _ _ h => h) (Or.inl ⟨by kernel_rfl, by intro w hSw; (try dsimp only at hSw); go_simp⟩) hHeld ?_
  simp only [List.set_cons_zero, List.set_cons_succ]
  refine wpAnyH_done (by kernel_rfl) ?_ _
  go_wp2
  go_ret
  exact ⟨rfl, HB3.out⟩
/-- What the share's test answers: the error's number, and whether the share is as great. -/
inductive HC (s : Sv) (xs : List Sv) (a : Nat → Addr) : Prop where
  | bad (m : Int) : ¬ m = 0 → (∀ w v, Svs w v xs → Calls Tryd.prog 23 #[v] w fun e w' => e = .returned (.tuple #[vP 0 0 0 0, .int .i64 m]) ∧ Below w.heap.size w w') → HC s xs a
  | good (A B C D x : Int) : (∀ w v, Svs w v xs → Calls Tryd.prog 23 #[v] w fun e w' => e = .returned (.tuple #[vP A B C D, .int .i64 0]) ∧ Below w.heap.size w w') → (∀ w, Calls Tryd.prog 24 #[vP A B C D, vS s] w fun e w' => e = .returned (.tuple #[.int .i64 x, .bool true]) ∧ Below w.heap.size w w') → (0 ≤ x → ∀ w v, Svs w v xs → Er6 w a → Calls Tryd.prog 10 #[vS s, v] w fun e w' => e = .returned (vE (a 1)) ∧ Below w.heap.size w w') → HC s xs a
theorem hc_ex {s : Sv} (h : okW s) (xs : List Sv) (a : Nat → Addr) : HC s xs a := by
  by_cases h2 : ∀ x ∈ xs, okS x
  · by_cases h3 : xs.length ≤ 8
    · obtain ⟨A, B, C, D, hp⟩ := sh_pt (xs.map qt) (okq_all h2) (by rw [List.length_map]; exact h3)
      obtain ⟨d1, d2, d3, d4⟩ := sh_fit (xs.map qt) (okq_all h2) (by rw [List.length_map]; exact h3)
      refine .good A B C D _ (fun w v hv => refservers_ok w v xs A B C D hv h2 h3 hp) (fun w => rwithin_yes w s _ _ h hp d4 d1 d2) (fun hx w v hv E => ?_)
      have hn : ¬ FitK (gS s) (dS s) (qS s) xs := fun hf => by
        have := hf.1
        exact cmpI_neg this hx
      exact kids_is w s v xs a 12 hv E (.tight h h2 h3 hn)
    · exact .bad 7 (by decide) (fun w v hv => refservers_full w v xs hv h2 (by omega))
  · exact .bad 10 (by decide) (fun w v hv => refservers_no w v xs hv (Classical.byContradiction fun hn => h2 fun x hx => Classical.byContradiction fun hk => hn ⟨x, hx, hk⟩))
set_option maxHeartbeats 25600000 in
theorem half_yes (w : World) (s : Sv) (al : Option Addr) (cl : Nat) (n : Int) (xs : List Sv) (a : Nat → Addr) (hx : Svs w (.slice al xs.length cl) xs) (E : Er6 w a) (hT : Err w 1 text1 (a 1)) (h1 : okW s) (i1 : I64 n) :
    Calls Tryd.prog 7 #[vS s, .slice al xs.length cl, .int .i64 n] w fun e w' => e = .returned (.bool true) ∧ Below w.heap.size w w' := by
  obtain ⟨k, q, t⟩ := s
  have qT := hT.same
  have hl : (xs.length : Int) ≤ 9223372036854775807 := by obtain ⟨_, _, e, h, _⟩ := hx; exact h
  have HAL : Hid (∀ W, Below w.heap.size w W → Calls Tryd.prog 9 #[] W fun e w' => e = .returned (.bool true) ∧ Below W.heap.size W w') := mkHid (fun W hW => aalive W a (E.late hW) (hT.late hW))
  have HKN : Hid (∀ W, Below w.heap.size w W → Calls Tryd.prog 10 #[vS (k, q, t), .slice none 0 0] W fun e w' => e = .returned .nilIface ∧ Below W.heap.size W w') := mkHid (fun W hW => kids_is W (k, q, t) _ [] a 0 (svs_nil W) (E.late hW) (kc_nil h1))
  have HL : Hid (∀ W, Calls Tryd.prog 22 #[vS (k, q, t)] W fun e w' => e = .returned (.bool true) ∧ Below W.heap.size W w') := mkHid (fun W => rlegal_yes W _ h1)
  obtain ⟨A0, hA0⟩ : ∃ A0, n.tmod 193 = A0 := ⟨_, rfl⟩
  have a0 : -193 < A0 ∧ A0 < 193 := by
    rw [← hA0]
    have h1 := Int.tmod_lt_of_pos n (show (0 : Int) < 193 by decide)
    have h2 : -193 < n.tmod 193 := by
      by_cases hn : 0 ≤ n
      · have := Int.tmod_nonneg 193 hn; omega
      · have e := Int.neg_tmod (a := -n) (b := 193)
        rw [Int.neg_neg] at e
        have := Int.tmod_lt_of_pos (-n) (show (0 : Int) < 193 by decide)
        omega
    exact ⟨h2, h1⟩
  obtain ⟨B0, hB0⟩ : ∃ B0, B0 = A0 + 193 := ⟨_, rfl⟩
  obtain ⟨C0, hC0⟩ : ∃ C0, B0.tmod 193 = C0 := ⟨_, rfl⟩
  have c0 : 0 ≤ C0 ∧ C0 < 193 := by
    rw [← hC0]
    exact ⟨Int.tmod_nonneg 193 (by omega), Int.tmod_lt_of_pos _ (by decide)⟩
  obtain ⟨L, hL⟩ : ∃ L, L = 64 + C0 := ⟨_, rfl⟩
  have ewA : IntKind.i64.wrap A0 = A0 := wfit (by omega) (by omega)
  have ewB : IntKind.i64.wrap (A0 + 193) = B0 := by rw [hB0]; exact wfit (by omega) (by omega)
  have ewC : IntKind.i64.wrap C0 = C0 := wfit (by omega) (by omega)
  have ewL : IntKind.i64.wrap (64 + C0) = L := by rw [hL]; exact wfit (by omega) (by omega)
  have L0 : 64 ≤ L := by omega
  have L1 : L ≤ 256 := by omega
  have HKS : Hid ((k = 0 ∨ (t ≤ 32 ∧ 4 * t ≤ q * L)) → ∀ W p, p = W.heap.size → Below w.heap.size w W → Calls Tryd.prog 10 #[vS (k, q, t), .slice (some ⟨p, 0, none⟩) 1 1] (W.alloc (oS (1, 1, L))) fun e w' => e = .returned .nilIface ∧ Below W.heap.size W w') := mkHid (fun hs W p hp hW => (kids_is _ (k, q, t) _ _ a 0 (svs_one_at W (1, 1, L) p hp) (E.late (ba hW _)) (kc_small h1 L0 L1 hs)).mono (fun e w' h => ⟨h.1, bt (ba (Below.refl _ _) _) h.2⟩))
  have hC : HC (k, q, t) xs a := hc_ex h1 xs a
  have hqt : k = 0 ∨ (¬ k = 0 ∧ 0 ≤ q ∧ q ≤ 256 ∧ 0 ≤ t ∧ t ≤ 256) := by
    rcases h1 with h | ⟨h1, h2, h3, h4, h5⟩
    · left; simpa using (Prod.mk.injEq .. ▸ h : (k = 0 ∧ _)).1
    · right; simp only at h1 h2 h3 h4 h5; omega
  have HE := mkHid E
  have HS := mkHid hx
  clear hx E hT h1 hB0 hL a0 c0 i1
  obtain ⟨M, hM⟩ : ∃ M, M = q * L := ⟨_, rfl⟩
  have tails : (k = 0 ∨ (¬ k = 0 ∧ 32 < t) ∨ (¬ k = 0 ∧ ¬ 32 < t ∧ IntKind.i64.wrap (4 * t) = 4 * t ∧ IntKind.i64.wrap (q * L) = M ∧ M < 4 * t) ∨ (¬ k = 0 ∧ ¬ 32 < t ∧ IntKind.i64.wrap (4 * t) = 4 * t ∧ IntKind.i64.wrap (q * L) = M ∧ ¬ M < 4 * t)) := by
    rcases hqt with h | ⟨h, q0, q1, t0, t1⟩
    · exact .inl h
    · have m0 : 0 ≤ q * L := Int.mul_nonneg q0 (by omega)
      have m1 : q * L ≤ 256 * 256 := Int.mul_le_mul q1 L1 (by omega) (by omega)
      have w1 : IntKind.i64.wrap (4 * t) = 4 * t := wfit (by omega) (by omega)
      have w2 : IntKind.i64.wrap (q * L) = M := by rw [hM]; exact wfit (by omega) (by omega)
      by_cases c1 : 32 < t
      · exact .inr (.inl ⟨h, c1⟩)
      · by_cases c2 : M < 4 * t
        · exact .inr (.inr (.inl ⟨h, c1, w1, w2, c2⟩))
        · exact .inr (.inr (.inr ⟨h, c1, w1, w2, c2⟩))
  have HM := mkHid hM
  clear hqt hM
  rcases hC with ⟨m, hm, hsv⟩ | ⟨A, B, C, D, x, hsv, hwi, hkt⟩
  · have HSV := mkHid hsv
    clear hsv
    go_enter Tryd.func7, Tryd.ntmps7
    go_wp2_with (first
      | (go_at_call 9; refine (HAL.out _ (ba (Below.refl _ _) _)).mono ?_; rintro e w1 ⟨rfl, b1⟩; have c0 := kc (a := ⟨w.heap.size, 0, none⟩) (v := .int .i64 k) (by simp [go_sem]) b1; have c1 := kc (a := ⟨w.heap.size, 1, none⟩) (v := .int .i64 q) (by simp [go_sem]) b1; have c2 := kc (a := ⟨w.heap.size, 2, none⟩) (v := .int .i64 t) (by simp [go_sem]) b1; have HB1 := mkHid (bt (ba (Below.refl _ _) _) b1); clear b1)
      | (go_at_call 22; refine (HL.out _).mono ?_; rintro e w2 ⟨rfl, b2⟩; have d0 := kc c0 b2; have d1 := kc c1 b2; have d2 := kc c2 b2; have HB2 := mkHid (bt HB1.out b2); clear b2 c0 c1 c2)
      | (go_at_call 23; refine (HSV.out _ _ (HS.out.below HB2.out)).mono ?_; rintro e w3 ⟨rfl, b3⟩; have z0 := kl (kc d0 b3) (oP 0 0 0 0); have z1 := kl (kc d1 b3) (oP 0 0 0 0); have z2 := kl (kc d2 b3) (oP 0 0 0 0); have HB3 := mkHid (ba (bt HB2.out b3) (oP 0 0 0 0)); clear b3 d0 d1 d2))
    refine (HKN.out _ HB3.out).mono ?_
    rintro e w8 ⟨rfl, b8⟩
    have v0 := kl (kc z0 b8) (oS (1, 1, L))
    have v1 := kl (kc z1 b8) (oS (1, 1, L))
    have v2 := kl (kc z2 b8) (oS (1, 1, L))
    have HB8 := mkHid (ba (bt HB3.out b8) (oS (1, 1, L)))
    clear b8 z0 z1 z2
    rcases tails with rfl | ⟨ht, ht2⟩ | ⟨ht, ht2, ht3, ht4, ht5⟩ | ⟨ht, ht2, ht3, ht4, ht5⟩
    · have HKS2 := mkHid (HKS.out (.inl rfl))
      clear HKS HM
      go_wp2_with (go_at_call 10; with_reducible refine (HKS2.out _ _ (by simp) HB8.out).mono ?_; rintro e w9 ⟨rfl, b9⟩; have HB9 := mkHid (bt HB8.out b9); clear b9)
      go_ret
      exact ⟨rfl, HB9.out⟩
    · clear HKS HM
      go_wp2
      go_ret
      exact ⟨rfl, HB8.out⟩
    · clear HKS HM
      go_wp2
      go_ret
      exact ⟨rfl, HB8.out⟩
    · have HKS2 := mkHid (HKS.out (.inr ⟨by omega, by have := HM.out; omega⟩))
      clear HKS HM
      go_wp2_with (go_at_call 10; with_reducible refine (HKS2.out _ _ (by simp) HB8.out).mono ?_; rintro e w9 ⟨rfl, b9⟩; have HB9 := mkHid (bt HB8.out b9); clear b9)
      go_ret
      exact ⟨rfl, HB9.out⟩
  · have HSV := mkHid hsv
    have HWI := mkHid hwi
    have HKT0 := mkHid hkt
    clear hsv hwi hkt
    by_cases hz : xs.length = 0
    · obtain rfl : xs = [] := List.eq_nil_of_length_eq_zero hz
      simp only [List.length_nil] at HS hl ⊢
      clear HKT0 HWI hz
      go_enter Tryd.func7, Tryd.ntmps7
      go_wp2_with (first
        | (go_at_call 9; refine (HAL.out _ (ba (Below.refl _ _) _)).mono ?_; rintro e w1 ⟨rfl, b1⟩; have c0 := kc (a := ⟨w.heap.size, 0, none⟩) (v := .int .i64 k) (by simp [go_sem]) b1; have c1 := kc (a := ⟨w.heap.size, 1, none⟩) (v := .int .i64 q) (by simp [go_sem]) b1; have c2 := kc (a := ⟨w.heap.size, 2, none⟩) (v := .int .i64 t) (by simp [go_sem]) b1; have HB1 := mkHid (bt (ba (Below.refl _ _) _) b1); clear b1)
        | (go_at_call 22; refine (HL.out _).mono ?_; rintro e w2 ⟨rfl, b2⟩; have d0 := kc c0 b2; have d1 := kc c1 b2; have d2 := kc c2 b2; have HB2 := mkHid (bt HB1.out b2); clear b2 c0 c1 c2)
        | (go_at_call 23; refine (HSV.out _ _ (HS.out.below HB2.out)).mono ?_; rintro e w3 ⟨rfl, b3⟩; have z0 := kl (kc d0 b3) (oP A B C D); have z1 := kl (kc d1 b3) (oP A B C D); have z2 := kl (kc d2 b3) (oP A B C D); have HB3 := mkHid (ba (bt HB2.out b3) (oP A B C D)); clear b3 d0 d1 d2))
      refine (HKN.out _ HB3.out).mono ?_
      rintro e w8 ⟨rfl, b8⟩
      have v0 := kl (kc z0 b8) (oS (1, 1, L))
      have v1 := kl (kc z1 b8) (oS (1, 1, L))
      have v2 := kl (kc z2 b8) (oS (1, 1, L))
      have HB8 := mkHid (ba (bt HB3.out b8) (oS (1, 1, L)))
      clear b8 z0 z1 z2
      rcases tails with rfl | ⟨ht, ht2⟩ | ⟨ht, ht2, ht3, ht4, ht5⟩ | ⟨ht, ht2, ht3, ht4, ht5⟩
      · have HKS2 := mkHid (HKS.out (.inl rfl))
        clear HKS HM
        go_wp2_with (go_at_call 10; with_reducible refine (HKS2.out _ _ (by simp) HB8.out).mono ?_; rintro e w9 ⟨rfl, b9⟩; have HB9 := mkHid (bt HB8.out b9); clear b9)
        go_ret
        exact ⟨rfl, HB9.out⟩
      · clear HKS HM
        go_wp2
        go_ret
        exact ⟨rfl, HB8.out⟩
      · clear HKS HM
        go_wp2
        go_ret
        exact ⟨rfl, HB8.out⟩
      · have HKS2 := mkHid (HKS.out (.inr ⟨by omega, by have := HM.out; omega⟩))
        clear HKS HM
        go_wp2_with (go_at_call 10; with_reducible refine (HKS2.out _ _ (by simp) HB8.out).mono ?_; rintro e w9 ⟨rfl, b9⟩; have HB9 := mkHid (bt HB8.out b9); clear b9)
        go_ret
        exact ⟨rfl, HB9.out⟩
    · have hzi : (0 : Int) < xs.length := by omega
      clear hz
      by_cases hxx : 0 ≤ x
      · have HKT := mkHid (HKT0.out hxx)
        clear HKT0
        go_enter Tryd.func7, Tryd.ntmps7
        go_wp2_with (first
          | (go_at_call 9; refine (HAL.out _ (ba (Below.refl _ _) _)).mono ?_; rintro e w1 ⟨rfl, b1⟩; have c0 := kc (a := ⟨w.heap.size, 0, none⟩) (v := .int .i64 k) (by simp [go_sem]) b1; have c1 := kc (a := ⟨w.heap.size, 1, none⟩) (v := .int .i64 q) (by simp [go_sem]) b1; have c2 := kc (a := ⟨w.heap.size, 2, none⟩) (v := .int .i64 t) (by simp [go_sem]) b1; have HB1 := mkHid (bt (ba (Below.refl _ _) _) b1); clear b1)
          | (go_at_call 22; refine (HL.out _).mono ?_; rintro e w2 ⟨rfl, b2⟩; have d0 := kc c0 b2; have d1 := kc c1 b2; have d2 := kc c2 b2; have HB2 := mkHid (bt HB1.out b2); clear b2 c0 c1 c2)
          | (go_at_call 23; refine (HSV.out _ _ (HS.out.below HB2.out)).mono ?_; rintro e w3 ⟨rfl, b3⟩; have z0 := kl (kc d0 b3) (oP A B C D); have z1 := kl (kc d1 b3) (oP A B C D); have z2 := kl (kc d2 b3) (oP A B C D); have HB3 := mkHid (ba (bt HB2.out b3) (oP A B C D)); clear b3 d0 d1 d2)
          | (go_at_call 24; refine (HWI.out _).mono ?_; rintro e w4 ⟨rfl, b4⟩; have y0 := kc z0 b4; have y1 := kc z1 b4; have y2 := kc z2 b4; have HB4 := mkHid (bt HB3.out b4); clear b4 z0 z1 z2))
        have ce := (HE.out.late HB4.out).cell_tight
        generalize w.heap.size = p1 at y0 y1 y2 ⊢
        refine wp_region_held_drew (S := fun w' => w'.cell? ⟨p1, 0, none⟩ = some (.int .i64 k) ∧ w'.cell? ⟨p1, 1, none⟩ = some (.int .i64 q) ∧ w'.cell? ⟨p1, 2, none⟩ = some (.int .i64 t) ∧ w'.cell? ⟨1, 0, none⟩ = some (vE (a 1))) (by kernel_rfl) ⟨y0, y1, y2, ce⟩ (fun hHeld => ?_)
        refine takeD 0 40 (.bool true) rfl rfl (by kernel_rfl) (by kernel_rfl) (by kernel_rfl) (fun _ _ _ h => h) (Or.inl ⟨by kernel_rfl, by intro w hSw; (try dsimp only at hSw); go_simp⟩) hHeld ?_
        simp only [List.set_cons_zero, List.set_cons_succ]
        refine takeD 1 41 (.bool true) rfl rfl (by kernel_rfl) (by kernel_rfl) (by kernel_rfl) (fun _ _ _ h => h) (Or.inl ⟨by kernel_rfl, by intro w hSw; (try dsimp only at hSw); go_simp⟩) hHeld ?_
        simp only [List.set_cons_zero, List.set_cons_succ]
        refine takeD 2 42 (.int .i64 x) rfl rfl (by kernel_rfl) (by kernel_rfl) (by kernel_rfl) (fun _ _ _ h => h) (Or.inl ⟨by kernel_rfl, by intro w hSw; (try dsimp only at hSw); go_simp⟩) hHeld ?_
        simp only [List.set_cons_zero, List.set_cons_succ]
        refine takeD 3 43 (.bool true) rfl rfl (by kernel_rfl) (by kernel_rfl) (by kernel_rfl) (fun _ _ _ h => h) (Or.inl ⟨by kernel_rfl, by intro w hSw; (try dsimp only at hSw); go_simp⟩) hHeld ?_
        simp only [List.set_cons_zero, List.set_cons_succ]
        refine takeD 4 44 (.bool true) rfl rfl (by kernel_rfl) (by kernel_rfl) (by kernel_rfl) (fun _ _ _ h => h) (Or.inl ⟨by kernel_rfl, by intro w hSw; (try dsimp only at hSw); go_simp⟩) hHeld ?_
        simp only [List.set_cons_zero, List.set_cons_succ]
        refine takeD 5 45 (.bool true) rfl rfl (by kernel_rfl) (by kernel_rfl) (by kernel_rfl) (fun _ _ _ h => h) (Or.inl ⟨by kernel_rfl, by intro w hSw; (try dsimp only at hSw); go_simp⟩) hHeld ?_
        simp only [List.set_cons_zero, List.set_cons_succ]
        refine takeD 6 46 (.agg #[.int .i64 k, .int .i64 q, .int .i64 t]) rfl rfl (by kernel_rfl) (by kernel_rfl) (by kernel_rfl) (fun _ _ _ h => h) (Or.inl ⟨by kernel_rfl, by intro w hSw; (try dsimp only at hSw); go_simp⟩) hHeld ?_
        simp only [List.set_cons_zero, List.set_cons_succ]
        refine takeD 7 47 (.slice al xs.length cl) rfl rfl (by kernel_rfl) (by kernel_rfl) (by kernel_rfl) (fun _ _ _ h => h) (Or.inl ⟨by kernel_rfl, by intro w hSw; (try dsimp only at hSw); go_simp⟩) hHeld ?_
        simp only [List.set_cons_zero, List.set_cons_succ]
        refine takeD 9 49 (vE (a 1)) rfl rfl (by kernel_rfl) (by kernel_rfl) (by kernel_rfl) (fun _ _ _ h => h) (Or.inl ⟨by kernel_rfl, by intro w hSw; (try dsimp only at hSw); go_simp⟩) hHeld ?_
        simp only [List.set_cons_zero, List.set_cons_succ]
        refine wpAnyH_ready (rs := [8]) (by kernel_rfl) (by simp) (AllReadyH.cons rfl (fun K hK => ?_) AllReadyH.nil)
        go_simp
        refine (HKT.out w4.drew _ (HS.out.below HB4.out.drew) (HE.out.late HB4.out.drew)).mono ?_
        rintro e w5 ⟨rfl, bw5⟩
        have fw5_0 : w5.cell? ⟨p1, 0, none⟩ = some (.int .i64 k) := kc (show w4.drew.cell? _ = _ from y0) bw5
        have fw5_1 : w5.cell? ⟨p1, 1, none⟩ = some (.int .i64 q) := kc (show w4.drew.cell? _ = _ from y1) bw5
        have fw5_2 : w5.cell? ⟨p1, 2, none⟩ = some (.int .i64 t) := kc (show w4.drew.cell? _ = _ from y2) bw5
        have fw5_3 : w5.cell? ⟨1, 0, none⟩ = some (vE (a 1)) := kc (show w4.drew.cell? _ = _ from ce) bw5
        have HB5 := mkHid (bt HB4.out.drew bw5)
        clear bw5 hHeld
        refine hK.out _ _ ⟨fw5_0, fw5_1, fw5_2, fw5_3⟩ (fun hHeld => ?_)
        clear hK K
        refine takeD 10 50 (.bool false) rfl rfl (by kernel_rfl) (by kernel_rfl) (by kernel_rfl) (fun _ _ _ h => h) (Or.inl ⟨by kernel_rfl, by intro w hSw; (try dsimp only at hSw); go_simp⟩) hHeld ?_
        simp only [List.set_cons_zero, List.set_cons_succ]
        refine takeD 11 51 (.bool false) rfl rfl (by kernel_rfl) (by kernel_rfl) (by kernel_rfl) (fun _ _ _ h => h) (Or.inl ⟨by kernel_rfl, by intro w hSw; (try dsimp only at hSw); go_simp⟩) hHeld ?_
        simp only [List.set_cons_zero, List.set_cons_succ]
        refine wpAnyH_done (by kernel_rfl) ?_ _
        have e0 := fw5_0
        have e1 := fw5_1
        have e2 := fw5_2
        clear fw5_0 fw5_1 fw5_2 fw5_3 hHeld
        go_wp2_with (go_at_call 0; fail)
        refine (HKN.out _ HB5.out).mono ?_
        rintro e w8 ⟨rfl, b8⟩
        have v0 := kl (kc e0 b8) (oS (1, 1, L))
        have v1 := kl (kc e1 b8) (oS (1, 1, L))
        have v2 := kl (kc e2 b8) (oS (1, 1, L))
        have HB8 := mkHid (ba (bt HB5.out b8) (oS (1, 1, L)))
        clear b8 e0 e1 e2
        rcases tails with rfl | ⟨ht, ht2⟩ | ⟨ht, ht2, ht3, ht4, ht5⟩ | ⟨ht, ht2, ht3, ht4, ht5⟩
        · have HKS2 := mkHid (HKS.out (.inl rfl))
          clear HKS HM
          go_wp2_with (go_at_call 10; with_reducible refine (HKS2.out _ _ (by simp) HB8.out).mono ?_; rintro e w9 ⟨rfl, b9⟩; have HB9 := mkHid (bt HB8.out b9); clear b9)
          go_ret
          exact ⟨rfl, HB9.out⟩
        · clear HKS HM
          go_wp2
          go_ret
          exact ⟨rfl, HB8.out⟩
        · clear HKS HM
          go_wp2
          go_ret
          exact ⟨rfl, HB8.out⟩
        · have HKS2 := mkHid (HKS.out (.inr ⟨by omega, by have := HM.out; omega⟩))
          clear HKS HM
          go_wp2_with (go_at_call 10; with_reducible refine (HKS2.out _ _ (by simp) HB8.out).mono ?_; rintro e w9 ⟨rfl, b9⟩; have HB9 := mkHid (bt HB8.out b9); clear b9)
          go_ret
          exact ⟨rfl, HB9.out⟩
      · have hxx2 : x < 0 := by omega
        clear HKT0
        go_enter Tryd.func7, Tryd.ntmps7
        go_wp2_with (first
          | (go_at_call 9; refine (HAL.out _ (ba (Below.refl _ _) _)).mono ?_; rintro e w1 ⟨rfl, b1⟩; have c0 := kc (a := ⟨w.heap.size, 0, none⟩) (v := .int .i64 k) (by simp [go_sem]) b1; have c1 := kc (a := ⟨w.heap.size, 1, none⟩) (v := .int .i64 q) (by simp [go_sem]) b1; have c2 := kc (a := ⟨w.heap.size, 2, none⟩) (v := .int .i64 t) (by simp [go_sem]) b1; have HB1 := mkHid (bt (ba (Below.refl _ _) _) b1); clear b1)
          | (go_at_call 22; refine (HL.out _).mono ?_; rintro e w2 ⟨rfl, b2⟩; have d0 := kc c0 b2; have d1 := kc c1 b2; have d2 := kc c2 b2; have HB2 := mkHid (bt HB1.out b2); clear b2 c0 c1 c2)
          | (go_at_call 23; refine (HSV.out _ _ (HS.out.below HB2.out)).mono ?_; rintro e w3 ⟨rfl, b3⟩; have z0 := kl (kc d0 b3) (oP A B C D); have z1 := kl (kc d1 b3) (oP A B C D); have z2 := kl (kc d2 b3) (oP A B C D); have HB3 := mkHid (ba (bt HB2.out b3) (oP A B C D)); clear b3 d0 d1 d2)
          | (go_at_call 24; refine (HWI.out _).mono ?_; rintro e w4 ⟨rfl, b4⟩; have y0 := kc z0 b4; have y1 := kc z1 b4; have y2 := kc z2 b4; have HB4 := mkHid (bt HB3.out b4); clear b4 z0 z1 z2))
        generalize w.heap.size = p1 at y0 y1 y2 ⊢
        refine wp_region_held_drew (S := fun w' => w'.cell? ⟨p1, 0, none⟩ = some (.int .i64 k) ∧ w'.cell? ⟨p1, 1, none⟩ = some (.int .i64 q) ∧ w'.cell? ⟨p1, 2, none⟩ = some (.int .i64 t)) (by kernel_rfl) ⟨y0, y1, y2⟩ (fun hHeld => ?_)
        refine takeD 0 40 (.bool true) rfl rfl (by kernel_rfl) (by kernel_rfl) (by kernel_rfl) (fun _ _ _ h => h) (Or.inl ⟨by kernel_rfl, by intro w hSw; (try dsimp only at hSw); go_simp⟩) hHeld ?_
        simp only [List.set_cons_zero, List.set_cons_succ]
        refine takeD 1 41 (.bool true) rfl rfl (by kernel_rfl) (by kernel_rfl) (by kernel_rfl) (fun _ _ _ h => h) (Or.inl ⟨by kernel_rfl, by intro w hSw; (try dsimp only at hSw); go_simp⟩) hHeld ?_
        simp only [List.set_cons_zero, List.set_cons_succ]
        refine takeD 2 42 (.int .i64 x) rfl rfl (by kernel_rfl) (by kernel_rfl) (by kernel_rfl) (fun _ _ _ h => h) (Or.inl ⟨by kernel_rfl, by intro w hSw; (try dsimp only at hSw); go_simp⟩) hHeld ?_
        simp only [List.set_cons_zero, List.set_cons_succ]
        refine takeD 3 43 (.bool false) rfl rfl (by kernel_rfl) (by kernel_rfl) (by kernel_rfl) (fun _ _ _ h => h) (Or.inl ⟨by kernel_rfl, by intro w hSw; (try dsimp only at hSw); go_simp⟩) hHeld ?_
        simp only [List.set_cons_zero, List.set_cons_succ]
        refine takeD 4 44 (.bool false) rfl rfl (by kernel_rfl) (by kernel_rfl) (by kernel_rfl) (fun _ _ _ h => h) (Or.inl ⟨by kernel_rfl, by intro w hSw; (try dsimp only at hSw); go_simp⟩) hHeld ?_
        simp only [List.set_cons_zero, List.set_cons_succ]
        refine takeD 5 45 (.bool false) rfl rfl (by kernel_rfl) (by kernel_rfl) (by kernel_rfl) (fun _ _ _ h => h) (Or.inl ⟨by kernel_rfl, by intro w hSw; (try dsimp only at hSw); go_simp⟩) hHeld ?_
        simp only [List.set_cons_zero, List.set_cons_succ]
        refine takeD 6 46 (undef) rfl rfl (by kernel_rfl) (by kernel_rfl) (by kernel_rfl) (fun _ _ _ h => h) (Or.inr ⟨by kernel_rfl, rfl⟩) hHeld ?_
        simp only [List.set_cons_zero, List.set_cons_succ]
        refine takeD 7 47 (undef) rfl rfl (by kernel_rfl) (by kernel_rfl) (by kernel_rfl) (fun _ _ _ h => h) (Or.inr ⟨by kernel_rfl, rfl⟩) hHeld ?_
        simp only [List.set_cons_zero, List.set_cons_succ]
        refine takeD 8 48 (undef) rfl rfl (by kernel_rfl) (by kernel_rfl) (by kernel_rfl) (fun _ _ _ h => h) (Or.inr ⟨by kernel_rfl, rfl⟩) hHeld ?_
        simp only [List.set_cons_zero, List.set_cons_succ]
        refine takeD 9 49 (undef) rfl rfl (by kernel_rfl) (by kernel_rfl) (by kernel_rfl) (fun _ _ _ h => h) (Or.inr ⟨by kernel_rfl, rfl⟩) hHeld ?_
        simp only [List.set_cons_zero, List.set_cons_succ]
        refine takeD 10 50 (undef) rfl rfl (by kernel_rfl) (by kernel_rfl) (by kernel_rfl) (fun _ _ _ h => h) (Or.inr ⟨by kernel_rfl, rfl⟩) hHeld ?_
        simp only [List.set_cons_zero, List.set_cons_succ]
        refine takeD 11 51 (.bool false) rfl rfl (by kernel_rfl) (by kernel_rfl) (by kernel_rfl) (fun _ _ _ h => h) (Or.inl ⟨by kernel_rfl, by intro w hSw; (try dsimp only at hSw); go_simp⟩) hHeld ?_
        simp only [List.set_cons_zero, List.set_cons_succ]
        refine wpAnyH_done (by kernel_rfl) ?_ _
        have e0 : w4.drew.cell? ⟨p1, 0, none⟩ = some (.int .i64 k) := y0
        have e1 : w4.drew.cell? ⟨p1, 1, none⟩ = some (.int .i64 q) := y1
        have e2 : w4.drew.cell? ⟨p1, 2, none⟩ = some (.int .i64 t) := y2
        have HB5 := mkHid HB4.out.drew
        clear y0 y1 y2 hHeld
        go_wp2_with (go_at_call 0; fail)
        refine (HKN.out _ HB5.out).mono ?_
        rintro e w8 ⟨rfl, b8⟩
        have v0 := kl (kc e0 b8) (oS (1, 1, L))
        have v1 := kl (kc e1 b8) (oS (1, 1, L))
        have v2 := kl (kc e2 b8) (oS (1, 1, L))
        have HB8 := mkHid (ba (bt HB5.out b8) (oS (1, 1, L)))
        clear b8 e0 e1 e2
        rcases tails with rfl | ⟨ht, ht2⟩ | ⟨ht, ht2, ht3, ht4, ht5⟩ | ⟨ht, ht2, ht3, ht4, ht5⟩
        · have HKS2 := mkHid (HKS.out (.inl rfl))
          clear HKS HM
          go_wp2_with (go_at_call 10; with_reducible refine (HKS2.out _ _ (by simp) HB8.out).mono ?_; rintro e w9 ⟨rfl, b9⟩; have HB9 := mkHid (bt HB8.out b9); clear b9)
          go_ret
          exact ⟨rfl, HB9.out⟩
        · clear HKS HM
          go_wp2
          go_ret
          exact ⟨rfl, HB8.out⟩
        · clear HKS HM
          go_wp2
          go_ret
          exact ⟨rfl, HB8.out⟩
        · have HKS2 := mkHid (HKS.out (.inr ⟨by omega, by have := HM.out; omega⟩))
          clear HKS HM
          go_wp2_with (go_at_call 10; with_reducible refine (HKS2.out _ _ (by simp) HB8.out).mono ?_; rintro e w9 ⟨rfl, b9⟩; have HB9 := mkHid (bt HB8.out b9); clear b9)
          go_ret
          exact ⟨rfl, HB9.out⟩
end Go.Proofs.YtnmmphnaelpjdaaDoor
