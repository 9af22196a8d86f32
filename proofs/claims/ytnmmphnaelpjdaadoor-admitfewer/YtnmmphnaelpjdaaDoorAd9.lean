/- The document's admit: Kids, Drain. -/
import Derived.Test.YtnmmphnaelpjdaaDoorAd8
namespace Go.Proofs.YtnmmphnaelpjdaaDoor
open Go.ChangeShapes Go.WideShapes Go.ChangeAt Go.RowKit
set_option maxRecDepth 100000
attribute [local go_sem] World.cell?_alloc_some frozen_alloc_some

theorem sb_few {g d q l : Int} (hg : 0 ≤ g) (hd : 0 ≤ d) (hq : 1 ≤ q) (l0 : 0 ≤ l) : 0 ≤ sb g d q l ∧ sb g d q l ≤ l := ⟨sb_nonneg hg hd hq, sb_room hg hd hq l0⟩
set_option maxHeartbeats 6400000 in
theorem rkids_fit (w : World) (s : Sv) (v : Value) (xs : List Sv) (n : Int) (h : Svs w v xs) (h1 : okW s) (h2 : ∀ x ∈ xs, okS x) (h3 : xs.length ≤ 8) (hyes : FitK (gS s) (dS s) (qS s) xs → n = 0) (hno : ¬ FitK (gS s) (dS s) (qS s) xs → n = 12) :
    Calls Tryd.prog 14 #[vS s, v] w fun e w' => e = .returned (.int .i64 n) ∧ Below w.heap.size w w' := by
  obtain ⟨A, B, C, D, hp⟩ := sh_pt (xs.map qt) (okq_all h2) (by rw [List.length_map]; exact h3)
  obtain ⟨d1, d2, d3, d4⟩ := sh_fit (xs.map qt) (okq_all h2) (by rw [List.length_map]; exact h3)
  obtain ⟨q1, q2⟩ := tot_qq8 h2 h3
  obtain ⟨n1, n2, n3, n4, n5⟩ := h1.nums
  have H1 : Hid (∀ W, Calls Tryd.prog 22 #[vS s] W fun e w' => e = .returned (.bool true) ∧ Below W.heap.size W w') := mkHid (fun W => rlegal_yes W s h1)
  have H2 : Hid (∀ W, Below w.heap.size w W → Calls Tryd.prog 23 #[v] W fun e w' => e = .returned (.tuple #[vP A B C D, .int .i64 0]) ∧ Below W.heap.size W w') := mkHid (fun W hW => refservers_ok W v xs A B C D (h.below hW) h2 h3 hp)
  have H3 : Hid (∀ W b, (b = true ↔ ((sh (xs.map qt)).1 * (dS s + qS s) < (sh (xs.map qt)).2 * qS s ∧ LineP s (sh (xs.map qt)).1 (sh (xs.map qt)).2 (2 * tot qq xs))) → Calls Tryd.prog 37 #[vS s, vP A B C D, .int .i64 (2 * tot qq xs)] W fun e w' => e = .returned (.bool b) ∧ Below W.heap.size W w') :=
    mkHid (fun W b hb => rline_is W s _ _ (2 * tot qq xs) h1 hp d3 d4 d1 d2 (by omega) (by omega) b hb)
  have H4 : Hid (∀ W i, 0 ≤ i → i ≤ 4096 → Calls Tryd.prog 35 #[vS s, .int .i64 i] W fun e w' => e = .returned (.bool (sbAt (gS s) (dS s) (qS s) i)) ∧ Below W.heap.size W w') := mkHid (fun W i i0 i1 => at_yes W s i h1 i0 (by omega))
  have H5 : Hid (∀ W l, 0 ≤ l → l ≤ 4096 → Below w.heap.size w W → Calls Tryd.prog 19 #[v, .int .i64 l] W fun e w' => e = .returned (.int .i64 (tot (sdem · l) xs)) ∧ Below W.heap.size W w') := mkHid (fun W l l0 l1 hW => rtot_sdem W v xs l (h.below hW) h2 h3 l0 (by omega))
  have HX := mkHid h2
  have HS := mkHid h
  have HY := mkHid hyes
  have HO := mkHid hno
  have HN := mkHid (And.intro n1 (And.intro n2 n3))
  have HF : Hid (∀ l, 0 ≤ l → l ≤ 4096 → 0 ≤ tot (sdem · l) xs ∧ tot (sdem · l) xs ≤ 40960) := mkHid (fun l l0 l1 => sdem_few h2 h3 l0 l1)
  obtain ⟨k, q, t⟩ := s
  obtain ⟨a0, cap, rfl, hl, h9⟩ := id h
  clear h h9 h1 h2 hyes hno hp d1 d2 d3 d4 n1 n2 n3 n4 n5
  go_enter Tryd.func14, Tryd.ntmps14
  go_wp2_with (first
    | (go_at_call 22; refine (H1.out _).mono ?_; rintro e w1 ⟨rfl, b1⟩; have c0 := kc (a := ⟨w.heap.size, 0, none⟩) (v := .int .i64 k) (by simp [go_sem]) b1; have c1 := kc (a := ⟨w.heap.size, 1, none⟩) (v := .int .i64 q) (by simp [go_sem]) b1; have c2 := kc (a := ⟨w.heap.size, 2, none⟩) (v := .int .i64 t) (by simp [go_sem]) b1; have HB1 := mkHid (bt (ba (Below.refl _ _) _) b1); clear b1)
    | (go_at_call 23; refine (H2.out _ HB1.out).mono ?_; rintro e w2 ⟨rfl, b2⟩; have d0 := kc c0 b2; have d1 := kc c1 b2; have d2 := kc c2 b2; have HB2 := mkHid (bt HB1.out b2); clear b2 c0 c1 c2))
  obtain ⟨⟨z0, z1, z2, z3⟩, _⟩ := P4.new w2 A B C D
  have e0 := kl d0 (oP A B C D)
  have e1 := kl d1 (oP A B C D)
  have e2 := kl d2 (oP A B C D)
  clear d0 d1 d2
  obtain ⟨W, hW⟩ : ∃ W, W = w2.alloc (oP A B C D) := ⟨_, rfl⟩
  have HB3 : Hid (Below w.heap.size w W) := mkHid (by rw [hW]; exact ba HB2.out _)
  rw [← hW] at z0 z1 z2 z3 e0 e1 e2 ⊢
  clear hW HB1 HB2
  generalize w2.heap.size = p at *
  obtain ⟨p1, hP1⟩ : ∃ p1, p1 = w.heap.size := ⟨_, rfl⟩
  rw [← hP1] at e0 e1 e2 ⊢
  clear hP1
  have HCE := mkHid (And.intro e0 (And.intro e1 (And.intro e2 (And.intro z0 (And.intro z1 (And.intro z2 z3))))))
  clear e0 e1 e2 z0 z1 z2 z3
  go_loopw [7, 25] (fun nv iv wr => ∃ (j : Nat) (N : Int), nv = .int .i64 N ∧ iv = .int .i64 (j : Int) ∧ j ≤ xs.length ∧ 0 ≤ N ∧ N ≤ 2048 ∧ Hid (tot qq (xs.take j) = N) ∧ Hid (Below W.heap.size W wr)) (fun _ iv _ => xs.length - (intOf iv).toNat)
  case atStart => exact ⟨0, 0, rfl, rfl, Nat.zero_le _, by omega, by omega, mkHid rfl, mkHid (Below.refl _ _)⟩
  case round =>
    obtain ⟨j, N, rfl, rfl, hj, m0, m1, HNN, HB⟩ := hrel
    by_cases hlt : j < xs.length
    · obtain ⟨b, off, kk, qx, tt, rfl, hxj, c0, c1, c2⟩ := HS.out.at (bt HB3.out HB.out) j hlt
      have hji : (j : Int) < xs.length := by omega
      have e := tot_take qq hxj
      have e2 := tot_qq8 (xs := xs.take (j + 1)) (fun x hm => HX.out x (List.mem_of_mem_take hm)) (by rw [List.length_take]; omega)
      rw [e, HNN.out] at e2
      rw [HNN.out] at e
      have eq : qq (kk, qx, tt) = qx := rfl
      rw [eq] at e e2
      have HT := mkHid e
      have hq : qx ≤ 2048 := by omega
      have ew : IntKind.i64.wrap (N + qx) = N + qx := wfit (by omega) (by omega)
      clear hxj e eq
      go_wp2
      go_roundw
      case rel => exact ⟨j + 1, N + qx, rfl, by go_num, by omega, e2.1, e2.2, HT, mkHid (ba HB.out _)⟩
      case measure => simp [intOf]; omega
    · obtain rfl : j = xs.length := by omega
      have hN := HNN.out
      rw [List.take_length] at hN
      have ew : IntKind.i64.wrap (2 * N) = 2 * N := wfit (by omega) (by omega)
      have HY2 := mkHid HY.out
      have HO2 := mkHid HO.out
      unfold FitK Fits at HY2 HO2
      rw [hN] at H3 HY2 HO2
      obtain ⟨e0, e1, e2, z0, z1, z2, z3⟩ := HCE.out
      have f0 := kc e0 HB.out
      have f1 := kc e1 HB.out
      have f2 := kc e2 HB.out
      have y0 := kc z0 HB.out
      have y1 := kc z1 HB.out
      have y2 := kc z2 HB.out
      have y3 := kc z3 HB.out
      have HB5 := mkHid (bt HB3.out HB.out)
      clear hN HNN e0 e1 e2 z0 z1 z2 z3 HCE hlt hj
      by_cases hline : ((sh (xs.map qt)).1 * (dS (k, q, t) + qS (k, q, t)) < (sh (xs.map qt)).2 * qS (k, q, t) ∧ LineP (k, q, t) (sh (xs.map qt)).1 (sh (xs.map qt)).2 (2 * N))
      · have H3t := mkHid (fun W => H3.out W true ⟨fun _ => hline, fun _ => rfl⟩)
        have HYc : Hid ((∀ l, 1 ≤ l → l ≤ 4096 → tot (sdem · l) xs ≤ sb (gS (k, q, t)) (dS (k, q, t)) (qS (k, q, t)) l) → n = 0) := mkHid (fun hc => HY2.out ⟨hline.1, hline.2, hc⟩)
        have HOc : Hid (¬ (∀ l, 1 ≤ l → l ≤ 4096 → tot (sdem · l) xs ≤ sb (gS (k, q, t)) (dS (k, q, t)) (qS (k, q, t)) l) → n = 12) := mkHid (fun hc => HO2.out (fun hf => hc hf.2.2))
        clear hline H3 HY2 HO2 HY HO
        go_wp2_with (go_at_call 37; refine (H3t.out _).mono ?_; rintro e w6 ⟨rfl, b6⟩; have g0 := kc f0 b6; have g1 := kc f1 b6; have g2 := kc f2 b6; have HB6 := mkHid (bt HB5.out b6); clear b6 f0 f1 f2 y0 y1 y2 y3)
        have HCE := mkHid (And.intro g0 (And.intro g1 g2))
        clear g0 g1 g2
        go_loopw [10, 11] (fun sv lv wr => ∃ (S l : Int), sv = .int .i64 S ∧ lv = .int .i64 l ∧ 1 ≤ l ∧ l ≤ 4097 ∧ 0 ≤ S ∧ S ≤ 4096 ∧ Hid (sb (gS (k, q, t)) (dS (k, q, t)) (qS (k, q, t)) (l - 1) = S) ∧ Hid (∀ L, 1 ≤ L → L < l → tot (sdem · L) xs ≤ sb (gS (k, q, t)) (dS (k, q, t)) (qS (k, q, t)) L) ∧ Hid (Below w6.heap.size w6 wr)) (fun _ lv _ => (4097 - intOf lv).toNat)
        case atStart => exact ⟨0, 1, rfl, rfl, by omega, by omega, by omega, by omega, mkHid (by have := HN.out; exact sb_zero (by omega) (by omega) (by omega)), mkHid (fun L a b => by omega), mkHid (Below.refl _ _)⟩
        case round =>
          obtain ⟨S, l, rfl, rfl, l0, l1, s0, s1, HSS, HCC, HBB⟩ := hrel
          obtain ⟨g0, g1, g2⟩ := HCE.out
          have f0 := kc g0 HBB.out
          have f1 := kc g1 HBB.out
          have f2 := kc g2 HBB.out
          have HB7 := mkHid (bt HB6.out HBB.out)
          clear g0 g1 g2
          by_cases hl : l ≤ 4096
          · have ewl : IntKind.i64.wrap (l - 1) = l - 1 := wfit (by omega) (by omega)
            obtain ⟨S2, hS2⟩ : ∃ S2, sb (gS (k, q, t)) (dS (k, q, t)) (qS (k, q, t)) l = S2 := ⟨_, rfl⟩
            obtain ⟨U, hU⟩ : ∃ U, tot (sdem · l) xs = U := ⟨_, rfl⟩
            have bS := sb_few (g := gS (k, q, t)) (d := dS (k, q, t)) (q := qS (k, q, t)) (l := l) (by have := HN.out; omega) HN.out.2.1 HN.out.2.2 (by omega)
            rw [hS2] at bS
            have HS2 := mkHid hS2
            have HU := mkHid hU
            obtain ⟨bt_, hat⟩ : ∃ b, sbAt (gS (k, q, t)) (dS (k, q, t)) (qS (k, q, t)) (l - 1) = b := ⟨_, rfl⟩
            have HAT := mkHid hat
            have hst : (bt_ = true ∧ S2 = S + 1) ∨ (bt_ = false ∧ S2 = S) := by
              have hs := sb_step (g := gS (k, q, t)) (d := dS (k, q, t)) (q := qS (k, q, t)) (l := l - 1) HN.out.2.1 HN.out.2.2
              rw [show l - 1 + 1 = l by omega, hS2, HSS.out, hat] at hs
              cases bt_
              · right; simp at hs; exact ⟨rfl, hs⟩
              · left; simp at hs; exact ⟨rfl, hs⟩
            have HCN : Hid (U ≤ S2 → ∀ L, 1 ≤ L → L < l + 1 → tot (sdem · L) xs ≤ sb (gS (k, q, t)) (dS (k, q, t)) (qS (k, q, t)) L) := mkHid (fun hc L a b => by
              by_cases e : L = l
              · subst e; rw [HU.out, HS2.out]; exact hc
              · exact HCC.out L a (by omega))
            clear hS2 hU hat
            rcases hst with ⟨rfl, rfl⟩ | ⟨rfl, rfl⟩
            · have ews : IntKind.i64.wrap (S + 1) = S + 1 := wfit (by omega) (by omega)
              by_cases hc : U ≤ S + 1
              · go_wp2_with (first
                  | (go_at_call 35; refine (H4.out _ (l - 1) (by omega) (by omega)).mono ?_; rw [HAT.out]; rintro e w8 ⟨rfl, b8⟩; have HB8 := mkHid (bt HB7.out b8); have HC8 := mkHid (bt HBB.out b8); clear b8 f0 f1 f2)
                  | (go_at_call 19; refine (H5.out _ l (by omega) hl HB8.out).mono ?_; rw [HU.out]; rintro e w9 ⟨rfl, b9⟩; have HB9 := mkHid (bt HB8.out b9); have HC9 := mkHid (bt HC8.out b9); clear b9))
                go_roundw
                case rel => exact ⟨S + 1, l + 1, by go_num, by go_num, by omega, by omega, by omega, by omega, mkHid (by rw [show l + 1 - 1 = l by omega]; exact HS2.out), mkHid (by first | exact HCN.out hc | exact fun L a b => Int.not_le.mpr (HCN.out hc L a b)), HC9⟩
                case measure => simp [intOf]; omega
              · have hc2 : S + 1 < U := by omega
                have HR : Hid (n = 12) := mkHid (HOc.out (fun ha => by have := ha l (by omega) hl; rw [HU.out, HS2.out] at this; omega))
                go_wp2_with (first
                  | (go_at_call 35; refine (H4.out _ (l - 1) (by omega) (by omega)).mono ?_; rw [HAT.out]; rintro e w8 ⟨rfl, b8⟩; have HB8 := mkHid (bt HB7.out b8); have HC8 := mkHid (bt HBB.out b8); clear b8 f0 f1 f2)
                  | (go_at_call 19; refine (H5.out _ l (by omega) hl HB8.out).mono ?_; rw [HU.out]; rintro e w9 ⟨rfl, b9⟩; have HB9 := mkHid (bt HB8.out b9); have HC9 := mkHid (bt HC8.out b9); clear b9))
                go_ret
                exact ⟨by rw [HR.out]; rfl, HB9.out⟩
            · by_cases hc : U ≤ S2
              · go_wp2_with (first
                  | (go_at_call 35; refine (H4.out _ (l - 1) (by omega) (by omega)).mono ?_; rw [HAT.out]; rintro e w8 ⟨rfl, b8⟩; have HB8 := mkHid (bt HB7.out b8); have HC8 := mkHid (bt HBB.out b8); clear b8 f0 f1 f2)
                  | (go_at_call 19; refine (H5.out _ l (by omega) hl HB8.out).mono ?_; rw [HU.out]; rintro e w9 ⟨rfl, b9⟩; have HB9 := mkHid (bt HB8.out b9); have HC9 := mkHid (bt HC8.out b9); clear b9))
                go_roundw
                case rel => exact ⟨S2, l + 1, by go_num, by go_num, by omega, by omega, by omega, by omega, mkHid (by rw [show l + 1 - 1 = l by omega]; exact HS2.out), mkHid (by first | exact HCN.out hc | exact fun L a b => Int.not_le.mpr (HCN.out hc L a b)), HC9⟩
                case measure => simp [intOf]; omega
              · have hc2 : S2 < U := by omega
                have HR : Hid (n = 12) := mkHid (HOc.out (fun ha => by have := ha l (by omega) hl; rw [HU.out, HS2.out] at this; omega))
                go_wp2_with (first
                  | (go_at_call 35; refine (H4.out _ (l - 1) (by omega) (by omega)).mono ?_; rw [HAT.out]; rintro e w8 ⟨rfl, b8⟩; have HB8 := mkHid (bt HB7.out b8); have HC8 := mkHid (bt HBB.out b8); clear b8 f0 f1 f2)
                  | (go_at_call 19; refine (H5.out _ l (by omega) hl HB8.out).mono ?_; rw [HU.out]; rintro e w9 ⟨rfl, b9⟩; have HB9 := mkHid (bt HB8.out b9); have HC9 := mkHid (bt HC8.out b9); clear b9))
                go_ret
                exact ⟨by rw [HR.out]; rfl, HB9.out⟩
          · have HR : Hid (n = 0) := mkHid (HYc.out (fun L a b => HCC.out L a (by omega)))
            go_wp2
            go_ret
            exact ⟨by rw [HR.out]; rfl, HB7.out⟩
      · have H3f := mkHid (fun W => H3.out W false ⟨fun e => (by cases e), fun hf => absurd hf hline⟩)
        have HR : Hid (n = 12) := mkHid (HO2.out (fun hf => hline ⟨hf.1, hf.2.1⟩))
        clear hline H3 HY2 HO2 HY HO
        go_wp2_with (go_at_call 37; refine (H3f.out _).mono ?_; rintro e w6 ⟨rfl, b6⟩; have HB6 := mkHid (bt HB5.out b6); clear b6)
        go_ret
        exact ⟨by rw [HR.out]; rfl, HB6.out⟩
set_option maxHeartbeats 3200000 in
theorem rkids_is (w : World) (s : Sv) (v : Value) (xs : List Sv) (n : Int) (h : Svs w v xs) (hk : KC s xs n) :
    Calls Tryd.prog 14 #[vS s, v] w fun e w' => e = .returned (.int .i64 n) ∧ Below w.heap.size w w' := by
  obtain ⟨k, q, t⟩ := s
  obtain ⟨a0, cap, hv, hl, h9⟩ := id h
  have HS := mkHid h
  clear h h9
  cases hk with
  | parent h1 =>
    have HO := mkHid h1
    clear h1
    subst hv
    go_enter Tryd.func14, Tryd.ntmps14
    go_wp2_with (go_at_call 22; refine (rlegal_no _ (k, q, t) HO.out).mono ?_; rintro e w1 ⟨rfl, b1⟩; have HB1 := mkHid (bt (ba (Below.refl _ _) _) b1); clear b1)
    go_ret
    exact ⟨rfl, HB1.out⟩
  | server h1 h2 =>
    have HO := mkHid h1
    have HX := mkHid h2
    clear h1 h2
    subst hv
    go_enter Tryd.func14, Tryd.ntmps14
    go_wp2_with (first
      | (go_at_call 22; refine (rlegal_yes _ (k, q, t) HO.out).mono ?_; rintro e w1 ⟨rfl, b1⟩; have HB1 := mkHid (bt (ba (Below.refl _ _) _) b1); clear b1)
      | (go_at_call 23; refine (refservers_no _ _ xs (HS.out.below HB1.out) HX.out).mono ?_; rintro e w2 ⟨rfl, b2⟩; have HB2 := mkHid (bt HB1.out b2); clear b2))
    go_ret
    exact ⟨rfl, ba HB2.out _⟩
  | full h1 h2 h3 =>
    have HO := mkHid h1
    have HX := mkHid h2
    clear h1 h2
    subst hv
    go_enter Tryd.func14, Tryd.ntmps14
    go_wp2_with (first
      | (go_at_call 22; refine (rlegal_yes _ (k, q, t) HO.out).mono ?_; rintro e w1 ⟨rfl, b1⟩; have HB1 := mkHid (bt (ba (Below.refl _ _) _) b1); clear b1)
      | (go_at_call 23; refine (refservers_full _ _ xs (HS.out.below HB1.out) HX.out h3).mono ?_; rintro e w2 ⟨rfl, b2⟩; have HB2 := mkHid (bt HB1.out b2); clear b2))
    go_ret
    exact ⟨rfl, ba HB2.out _⟩
  | tight h1 h2 h3 h4 => exact rkids_fit w (k, q, t) v xs 12 HS.out h1 h2 h3 (fun hf => absurd hf h4) (fun _ => rfl)
  | fits h1 h2 h3 h4 => exact rkids_fit w (k, q, t) v xs 0 HS.out h1 h2 h3 (fun _ => rfl) (fun hf => absurd h4 hf)
theorem rdrain_no (w : World) (s : Sv) (v : Value) (xs : List Sv) (n : Int) (h : Svs w v xs) (hk : KC s xs n) (h0 : ¬ n = 0) :
    Calls Tryd.prog 12 #[vS s, v] w fun e w' => e = .returned (.tuple #[.int .i64 0, .int .i64 n]) ∧ Below w.heap.size w w' := by
  have H1 : Hid (∀ W, Below w.heap.size w W → Calls Tryd.prog 14 #[vS s, v] W fun e w' => e = .returned (.int .i64 n) ∧ Below W.heap.size W w') := mkHid (fun W hW => rkids_is W s v xs n (h.below hW) hk)
  obtain ⟨k, q, t⟩ := s
  obtain ⟨a0, cap, rfl, hl, h9⟩ := id h
  clear h h9 hk
  go_enter Tryd.func12, Tryd.ntmps12
  go_wp2_with (go_at_call 14; refine (H1.out _ (ba (Below.refl _ _) _)).mono ?_; rintro e w1 ⟨rfl, b1⟩; have HB1 := mkHid (bt (ba (Below.refl _ _) _) b1); clear b1)
  go_ret2
  exact ⟨rfl, HB1.out⟩
set_option maxHeartbeats 6400000 in
theorem rdrain_yes (w : World) (s : Sv) (v : Value) (xs : List Sv) (r n : Int) (h : Svs w v xs) (hk : KC s xs 0) (hr : Drn (gS s) (dS s) (qS s) xs r) (hyes : ¬ r = 0 → n = 0) (hno : r = 0 → n = 12) :
    Calls Tryd.prog 12 #[vS s, v] w fun e w' => e = .returned (.tuple #[.int .i64 r, .int .i64 n]) ∧ Below w.heap.size w w' := by
  obtain ⟨h1, h2, h3, _⟩ := hk.zero rfl
  obtain ⟨n1, n2, n3, n4, n5⟩ := h1.nums
  have H1 : Hid (∀ W, Below w.heap.size w W → Calls Tryd.prog 14 #[vS s, v] W fun e w' => e = .returned (.int .i64 0) ∧ Below W.heap.size W w') := mkHid (fun W hW => rkids_is W s v xs 0 (h.below hW) hk)
  have H4 : Hid (∀ W i, 0 ≤ i → i ≤ 4096 → Calls Tryd.prog 35 #[vS s, .int .i64 i] W fun e w' => e = .returned (.bool (sbAt (gS s) (dS s) (qS s) i)) ∧ Below W.heap.size W w') := mkHid (fun W i i0 i1 => at_yes W s i h1 i0 (by omega))
  have H5 : Hid (∀ W l, 0 ≤ l → l ≤ 4096 → Below w.heap.size w W → Calls Tryd.prog 36 #[v, .int .i64 l] W fun e w' => e = .returned (.int .i64 (tot (sreq · l) xs)) ∧ Below W.heap.size W w') := mkHid (fun W l l0 l1 hW => rtot_sreq W v xs l (h.below hW) h2 h3 l0 (by omega))
  have HYc := mkHid hyes
  have HOc := mkHid hno
  have HRr := mkHid hr
  unfold Drn at HRr
  have HN := mkHid (And.intro n1 (And.intro n2 n3))
  obtain ⟨k, q, t⟩ := s
  obtain ⟨a0, cap, rfl, hl, h9⟩ := id h
  clear h h9 h1 h2 hyes hno n1 n2 n3 n4 n5 hk hr
  go_enter Tryd.func12, Tryd.ntmps12
  go_wp2_with (go_at_call 14; refine (H1.out _ (ba (Below.refl _ _) _)).mono ?_; rintro e w6 ⟨rfl, b1⟩; have c0 := kc (a := ⟨w.heap.size, 0, none⟩) (v := .int .i64 k) (by simp [go_sem]) b1; have c1 := kc (a := ⟨w.heap.size, 1, none⟩) (v := .int .i64 q) (by simp [go_sem]) b1; have c2 := kc (a := ⟨w.heap.size, 2, none⟩) (v := .int .i64 t) (by simp [go_sem]) b1; have HB6 := mkHid (bt (ba (Below.refl _ _) _) b1); clear b1)
  have HCE := mkHid (And.intro c0 (And.intro c1 c2))
  clear c0 c1 c2
  go_loopw [7, 8] (fun sv lv wr => ∃ (S l : Int), sv = .int .i64 S ∧ lv = .int .i64 l ∧ 1 ≤ l ∧ l ≤ 4097 ∧ 0 ≤ S ∧ S ≤ 4096 ∧ Hid (sb (gS (k, q, t)) (dS (k, q, t)) (qS (k, q, t)) (l - 1) = S) ∧ Hid (∀ L, 1 ≤ L → L < l → ¬ tot (sreq · L) xs ≤ sb (gS (k, q, t)) (dS (k, q, t)) (qS (k, q, t)) L) ∧ Hid (Below w6.heap.size w6 wr)) (fun _ lv _ => (4097 - intOf lv).toNat)
  case atStart => exact ⟨0, 1, rfl, rfl, by omega, by omega, by omega, by omega, mkHid (by have := HN.out; exact sb_zero (by omega) (by omega) (by omega)), mkHid (fun L a b => by omega), mkHid (Below.refl _ _)⟩
  case round =>
    obtain ⟨S, l, rfl, rfl, l0, l1, s0, s1, HSS, HCC, HBB⟩ := hrel
    obtain ⟨g0, g1, g2⟩ := HCE.out
    have f0 := kc g0 HBB.out
    have f1 := kc g1 HBB.out
    have f2 := kc g2 HBB.out
    have HB7 := mkHid (bt HB6.out HBB.out)
    clear g0 g1 g2
    by_cases hl : l ≤ 4096
    · have ewl : IntKind.i64.wrap (l - 1) = l - 1 := wfit (by omega) (by omega)
      obtain ⟨S2, hS2⟩ : ∃ S2, sb (gS (k, q, t)) (dS (k, q, t)) (qS (k, q, t)) l = S2 := ⟨_, rfl⟩
      obtain ⟨U, hU⟩ : ∃ U, tot (sreq · l) xs = U := ⟨_, rfl⟩
      have bS := sb_few (g := gS (k, q, t)) (d := dS (k, q, t)) (q := qS (k, q, t)) (l := l) (by have := HN.out; omega) HN.out.2.1 HN.out.2.2 (by omega)
      rw [hS2] at bS
      have HS2 := mkHid hS2
      have HU := mkHid hU
      obtain ⟨bt_, hat⟩ : ∃ b, sbAt (gS (k, q, t)) (dS (k, q, t)) (qS (k, q, t)) (l - 1) = b := ⟨_, rfl⟩
      have HAT := mkHid hat
      have hst : (bt_ = true ∧ S2 = S + 1) ∨ (bt_ = false ∧ S2 = S) := by
        have hs := sb_step (g := gS (k, q, t)) (d := dS (k, q, t)) (q := qS (k, q, t)) (l := l - 1) HN.out.2.1 HN.out.2.2
        rw [show l - 1 + 1 = l by omega, hS2, HSS.out, hat] at hs
        cases bt_
        · right; simp at hs; exact ⟨rfl, hs⟩
        · left; simp at hs; exact ⟨rfl, hs⟩
      have HCN : Hid (¬ U ≤ S2 → ∀ L, 1 ≤ L → L < l + 1 → ¬ tot (sreq · L) xs ≤ sb (gS (k, q, t)) (dS (k, q, t)) (qS (k, q, t)) L) := mkHid (fun hc L a b => by
        by_cases e : L = l
        · subst e; rw [HU.out, HS2.out]; exact hc
        · exact HCC.out L a (by omega))
      clear hS2 hU hat
      rcases hst with ⟨rfl, rfl⟩ | ⟨rfl, rfl⟩
      · have ews : IntKind.i64.wrap (S + 1) = S + 1 := wfit (by omega) (by omega)
        by_cases hc : U ≤ S + 1
        · have HR : Hid (r = l) := mkHid (HRr.out.un (.inr ⟨by omega, by omega, by show tot (sreq · l) xs ≤ sb (gS (k, q, t)) (dS (k, q, t)) (qS (k, q, t)) l; rw [HU.out, HS2.out]; exact hc, HCC.out⟩))
          have HRn : Hid (n = 0) := mkHid (HYc.out (by have := HR.out; omega))
          go_wp2_with (first
            | (go_at_call 35; refine (H4.out _ (l - 1) (by omega) (by omega)).mono ?_; rw [HAT.out]; rintro e w8 ⟨rfl, b8⟩; have HB8 := mkHid (bt HB7.out b8); have HC8 := mkHid (bt HBB.out b8); clear b8 f0 f1 f2)
            | (go_at_call 36; refine (H5.out _ l (by omega) hl HB8.out).mono ?_; rw [HU.out]; rintro e w9 ⟨rfl, b9⟩; have HB9 := mkHid (bt HB8.out b9); have HC9 := mkHid (bt HC8.out b9); clear b9))
          go_ret2
          exact ⟨by rw [HR.out, HRn.out]; rfl, HB9.out⟩
        · go_wp2_with (first
            | (go_at_call 35; refine (H4.out _ (l - 1) (by omega) (by omega)).mono ?_; rw [HAT.out]; rintro e w8 ⟨rfl, b8⟩; have HB8 := mkHid (bt HB7.out b8); have HC8 := mkHid (bt HBB.out b8); clear b8 f0 f1 f2)
            | (go_at_call 36; refine (H5.out _ l (by omega) hl HB8.out).mono ?_; rw [HU.out]; rintro e w9 ⟨rfl, b9⟩; have HB9 := mkHid (bt HB8.out b9); have HC9 := mkHid (bt HC8.out b9); clear b9))
          go_roundw
          case rel => exact ⟨S + 1, l + 1, by go_num, by go_num, by omega, by omega, by omega, by omega, mkHid (by rw [show l + 1 - 1 = l by omega]; exact HS2.out), mkHid (by first | exact HCN.out hc | exact fun L a b => Int.not_le.mpr (HCN.out hc L a b)), HC9⟩
          case measure => simp [intOf]; omega
      · by_cases hc : U ≤ S2
        · have HR : Hid (r = l) := mkHid (HRr.out.un (.inr ⟨by omega, by omega, by show tot (sreq · l) xs ≤ sb (gS (k, q, t)) (dS (k, q, t)) (qS (k, q, t)) l; rw [HU.out, HS2.out]; exact hc, HCC.out⟩))
          have HRn : Hid (n = 0) := mkHid (HYc.out (by have := HR.out; omega))
          go_wp2_with (first
            | (go_at_call 35; refine (H4.out _ (l - 1) (by omega) (by omega)).mono ?_; rw [HAT.out]; rintro e w8 ⟨rfl, b8⟩; have HB8 := mkHid (bt HB7.out b8); have HC8 := mkHid (bt HBB.out b8); clear b8 f0 f1 f2)
            | (go_at_call 36; refine (H5.out _ l (by omega) hl HB8.out).mono ?_; rw [HU.out]; rintro e w9 ⟨rfl, b9⟩; have HB9 := mkHid (bt HB8.out b9); have HC9 := mkHid (bt HC8.out b9); clear b9))
          go_ret2
          exact ⟨by rw [HR.out, HRn.out]; rfl, HB9.out⟩
        · go_wp2_with (first
            | (go_at_call 35; refine (H4.out _ (l - 1) (by omega) (by omega)).mono ?_; rw [HAT.out]; rintro e w8 ⟨rfl, b8⟩; have HB8 := mkHid (bt HB7.out b8); have HC8 := mkHid (bt HBB.out b8); clear b8 f0 f1 f2)
            | (go_at_call 36; refine (H5.out _ l (by omega) hl HB8.out).mono ?_; rw [HU.out]; rintro e w9 ⟨rfl, b9⟩; have HB9 := mkHid (bt HB8.out b9); have HC9 := mkHid (bt HC8.out b9); clear b9))
          go_roundw
          case rel => exact ⟨S2, l + 1, by go_num, by go_num, by omega, by omega, by omega, by omega, mkHid (by rw [show l + 1 - 1 = l by omega]; exact HS2.out), mkHid (by first | exact HCN.out hc | exact fun L a b => Int.not_le.mpr (HCN.out hc L a b)), HC9⟩
          case measure => simp [intOf]; omega
    · have HR : Hid (r = 0) := mkHid (HRr.out.un (.inl ⟨rfl, fun L a b => HCC.out L a (by omega)⟩))
      have HRn : Hid (n = 12) := mkHid (HOc.out HR.out)
      go_wp2
      go_ret2
      exact ⟨by rw [HR.out, HRn.out]; rfl, HB7.out⟩
theorem rdrain_is (w : World) (s : Sv) (v : Value) (xs : List Sv) (r n : Int) (h : Svs w v xs) (hk : DC s xs r n) :
    Calls Tryd.prog 12 #[vS s, v] w fun e w' => e = .returned (.tuple #[.int .i64 r, .int .i64 n]) ∧ Below w.heap.size w w' := by
  cases hk with
  | no n hn h0 => exact rdrain_no w s v xs n h hn h0
  | none hn hr => exact rdrain_yes w s v xs 0 12 h hn hr (fun e => absurd rfl e) (fun _ => rfl)
  | yes r hn hr h0 => exact rdrain_yes w s v xs r 0 h hn hr (fun _ => rfl) (fun e => absurd e h0)
end Go.Proofs.YtnmmphnaelpjdaaDoor
