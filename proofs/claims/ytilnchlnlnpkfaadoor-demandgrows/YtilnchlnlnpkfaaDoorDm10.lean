/- The law DemandGrows. -/
import Derived.Test.YtilnchlnlnpkfaaDoorDm8
namespace Go.Proofs.YtilnchlnlnpkfaaDoor
open Go.ChangeShapes Go.WideShapes Go.ChangeAt Go.RowKit
set_option maxRecDepth 100000
set_option maxRecDepth 100000
set_option linter.unusedVariables false
attribute [local go_sem] World.cell?_alloc_some frozen_alloc_some

set_option maxHeartbeats 6400000 in
theorem grows_bad (w : World) (v : Value) (xs : List Sv) (l L : Int) (ad : Nat → Addr) (h : Svs w v xs) (E : Errs w ad) (el : bits .and .i64 l 1073741823 = L) (L0 : 0 ≤ L) (L1 : L ≤ 1073741823) (hx : ∃ x ∈ xs, ¬ okS x) : Calls Tryd.prog 6 #[v, .int .i64 l] w fun e w' => e = .returned (.bool true) ∧ Below w.heap.size w w' := by
  have H1 : Hid (Ans w 9 #[] (.bool true)) := mkHid (fun W hb => dalive W ad (E.late hb).er3)
  have e1 : IntKind.i64.wrap (L + 1) = L + 1 := wfit (by omega) (by omega)
  have H2 : Hid (Ans w 10 #[v, .int .i64 L] (.tuple #[.int .i64 0, vE (ad 0)])) := mkHid (fun W hb => dsdem_err W v L _ (chk_no W v xs L _ (h.below hb) hx (E.late hb).cell_server))
  have H3 : Hid (Ans w 10 #[v, .int .i64 (L + 1)] (.tuple #[.int .i64 0, vE (ad 0)])) := mkHid (fun W hb => dsdem_err W v (L + 1) _ (chk_no W v xs (L + 1) _ (h.below hb) hx (E.late hb).cell_server))
  have H4 : Hid (Ans w 11 #[v, .int .i64 L] (.tuple #[.int .i64 0, vE (ad 0)])) := mkHid (fun W hb => dsreq_err W v L _ (chk_no W v xs L _ (h.below hb) hx (E.late hb).cell_server))
  have H5 : Hid (Ans w 11 #[v, .int .i64 (L + 1)] (.tuple #[.int .i64 0, vE (ad 0)])) := mkHid (fun W hb => dsreq_err W v (L + 1) _ (chk_no W v xs (L + 1) _ (h.below hb) hx (E.late hb).cell_server))
  have H6 : Hid (Ans w 14 #[vE (ad 0)] (.int .i64 10)) := mkHid (fun W hb => errnum_server W ad (E.late hb))
  clear E h hx
  have M1 : Hid True := mkHid trivial
  have M2 : Hid True := mkHid trivial
  have M3 : Hid True := mkHid trivial
  have M4 : Hid True := mkHid trivial
  have M5 : Hid True := mkHid trivial
  have M6 : Hid True := mkHid trivial
  have M7 : Hid True := mkHid trivial
  have M8 : Hid True := mkHid trivial
  have M9 : Hid True := mkHid trivial
  have M10 : Hid True := mkHid trivial
  have M11 : Hid True := mkHid trivial
  go_enter Tryd.func6, Tryd.ntmps6
  go_wp2_with (first
    | (go_at_call 9; clear M1; refine (H1.out _ (Below.refl _ _)).mono ?_; rintro e w1 ⟨rfl, b1⟩; have HB1 := mkHid (bt (Below.refl _ _) b1); clear b1)
    | (go_at_call 10; clear M2; refine (H2.out _ HB1.out).mono ?_; rintro e w2 ⟨rfl, b2⟩; have HB2 := mkHid (bt HB1.out b2); clear b2)
    | (go_at_call 10; clear M3; refine (H3.out _ HB2.out).mono ?_; rintro e w3 ⟨rfl, b3⟩; have HB3 := mkHid (bt HB2.out b3); clear b3)
    | (go_at_call 11; clear M4; refine (H4.out _ HB3.out).mono ?_; rintro e w4 ⟨rfl, b4⟩; have HB4 := mkHid (bt HB3.out b4); clear b4)
    | (go_at_call 11; clear M5; refine (H5.out _ HB4.out).mono ?_; rintro e w5 ⟨rfl, b5⟩; have HB5 := mkHid (bt HB4.out b5); clear b5)
    | (go_at_call 14; clear M6; refine (H6.out _ HB5.out).mono ?_; rintro e w6 ⟨rfl, b6⟩; have HB6 := mkHid (bt HB5.out b6); clear b6)
    | (go_at_call 14; clear M7; refine (H6.out _ HB6.out).mono ?_; rintro e w7 ⟨rfl, b7⟩; have HB7 := mkHid (bt HB6.out b7); clear b7)
    | (go_at_call 14; clear M8; refine (H6.out _ HB7.out).mono ?_; rintro e w8 ⟨rfl, b8⟩; have HB8 := mkHid (bt HB7.out b8); clear b8)
    | (go_at_call 14; clear M9; refine (H6.out _ HB8.out).mono ?_; rintro e w9 ⟨rfl, b9⟩; have HB9 := mkHid (bt HB8.out b9); clear b9)
    | (go_at_call 14; clear M10; refine (H6.out _ HB9.out).mono ?_; rintro e w10 ⟨rfl, b10⟩; have HB10 := mkHid (bt HB9.out b10); clear b10)
    | (go_at_call 14; clear M11; refine (H6.out _ HB10.out).mono ?_; rintro e w11 ⟨rfl, b11⟩; have HB11 := mkHid (bt HB10.out b11); clear b11))
  go_ret
  exact ⟨rfl, HB11.out⟩
set_option maxHeartbeats 6400000 in
theorem grows_full (w : World) (v : Value) (xs : List Sv) (l L : Int) (ad : Nat → Addr) (h : Svs w v xs) (E : Errs w ad) (el : bits .and .i64 l 1073741823 = L) (L0 : 0 ≤ L) (L1 : L ≤ 1073741823) (hx : ∀ x ∈ xs, okS x) (hn : 8 < xs.length) : Calls Tryd.prog 6 #[v, .int .i64 l] w fun e w' => e = .returned (.bool true) ∧ Below w.heap.size w w' := by
  have H1 : Hid (Ans w 9 #[] (.bool true)) := mkHid (fun W hb => dalive W ad (E.late hb).er3)
  have e1 : IntKind.i64.wrap (L + 1) = L + 1 := wfit (by omega) (by omega)
  have H2 : Hid (Ans w 10 #[v, .int .i64 L] (.tuple #[.int .i64 0, vE (ad 8)])) := mkHid (fun W hb => dsdem_err W v L _ (chk_full W v xs L _ (h.below hb) hx hn (E.late hb).cell_full))
  have H3 : Hid (Ans w 10 #[v, .int .i64 (L + 1)] (.tuple #[.int .i64 0, vE (ad 8)])) := mkHid (fun W hb => dsdem_err W v (L + 1) _ (chk_full W v xs (L + 1) _ (h.below hb) hx hn (E.late hb).cell_full))
  have H4 : Hid (Ans w 11 #[v, .int .i64 L] (.tuple #[.int .i64 0, vE (ad 8)])) := mkHid (fun W hb => dsreq_err W v L _ (chk_full W v xs L _ (h.below hb) hx hn (E.late hb).cell_full))
  have H5 : Hid (Ans w 11 #[v, .int .i64 (L + 1)] (.tuple #[.int .i64 0, vE (ad 8)])) := mkHid (fun W hb => dsreq_err W v (L + 1) _ (chk_full W v xs (L + 1) _ (h.below hb) hx hn (E.late hb).cell_full))
  have H6 : Hid (Ans w 14 #[vE (ad 8)] (.int .i64 7)) := mkHid (fun W hb => errnum_full W ad (E.late hb))
  clear E h hx
  have M1 : Hid True := mkHid trivial
  have M2 : Hid True := mkHid trivial
  have M3 : Hid True := mkHid trivial
  have M4 : Hid True := mkHid trivial
  have M5 : Hid True := mkHid trivial
  have M6 : Hid True := mkHid trivial
  have M7 : Hid True := mkHid trivial
  have M8 : Hid True := mkHid trivial
  have M9 : Hid True := mkHid trivial
  have M10 : Hid True := mkHid trivial
  have M11 : Hid True := mkHid trivial
  go_enter Tryd.func6, Tryd.ntmps6
  go_wp2_with (first
    | (go_at_call 9; clear M1; refine (H1.out _ (Below.refl _ _)).mono ?_; rintro e w1 ⟨rfl, b1⟩; have HB1 := mkHid (bt (Below.refl _ _) b1); clear b1)
    | (go_at_call 10; clear M2; refine (H2.out _ HB1.out).mono ?_; rintro e w2 ⟨rfl, b2⟩; have HB2 := mkHid (bt HB1.out b2); clear b2)
    | (go_at_call 10; clear M3; refine (H3.out _ HB2.out).mono ?_; rintro e w3 ⟨rfl, b3⟩; have HB3 := mkHid (bt HB2.out b3); clear b3)
    | (go_at_call 11; clear M4; refine (H4.out _ HB3.out).mono ?_; rintro e w4 ⟨rfl, b4⟩; have HB4 := mkHid (bt HB3.out b4); clear b4)
    | (go_at_call 11; clear M5; refine (H5.out _ HB4.out).mono ?_; rintro e w5 ⟨rfl, b5⟩; have HB5 := mkHid (bt HB4.out b5); clear b5)
    | (go_at_call 14; clear M6; refine (H6.out _ HB5.out).mono ?_; rintro e w6 ⟨rfl, b6⟩; have HB6 := mkHid (bt HB5.out b6); clear b6)
    | (go_at_call 14; clear M7; refine (H6.out _ HB6.out).mono ?_; rintro e w7 ⟨rfl, b7⟩; have HB7 := mkHid (bt HB6.out b7); clear b7)
    | (go_at_call 14; clear M8; refine (H6.out _ HB7.out).mono ?_; rintro e w8 ⟨rfl, b8⟩; have HB8 := mkHid (bt HB7.out b8); clear b8)
    | (go_at_call 14; clear M9; refine (H6.out _ HB8.out).mono ?_; rintro e w9 ⟨rfl, b9⟩; have HB9 := mkHid (bt HB8.out b9); clear b9)
    | (go_at_call 14; clear M10; refine (H6.out _ HB9.out).mono ?_; rintro e w10 ⟨rfl, b10⟩; have HB10 := mkHid (bt HB9.out b10); clear b10)
    | (go_at_call 14; clear M11; refine (H6.out _ HB10.out).mono ?_; rintro e w11 ⟨rfl, b11⟩; have HB11 := mkHid (bt HB10.out b11); clear b11))
  go_ret
  exact ⟨rfl, HB11.out⟩
set_option maxHeartbeats 6400000 in
theorem grows_ok (w : World) (v : Value) (xs : List Sv) (l L : Int) (ad : Nat → Addr) (h : Svs w v xs) (E : Errs w ad) (el : bits .and .i64 l 1073741823 = L) (L0 : 0 ≤ L) (L1 : L ≤ 1073741823) (hx : ∀ x ∈ xs, okS x) (hn : xs.length ≤ 8) : Calls Tryd.prog 6 #[v, .int .i64 l] w fun e w' => e = .returned (.bool true) ∧ Below w.heap.size w w' := by
  have H1 : Hid (Ans w 9 #[] (.bool true)) := mkHid (fun W hb => dalive W ad (E.late hb).er3)
  have e1 : IntKind.i64.wrap (L + 1) = L + 1 := wfit (by omega) (by omega)
  have H2 : Hid (Ans w 10 #[v, .int .i64 L] (.tuple #[.int .i64 (tot (sdem · L) xs), .nilIface])) := mkHid (fun W hb => dsdem_ok W v xs L (h.below hb) hx hn L0 (by omega))
  have H3 : Hid (Ans w 10 #[v, .int .i64 (L + 1)] (.tuple #[.int .i64 (tot (sdem · (L + 1)) xs), .nilIface])) := mkHid (fun W hb => dsdem_ok W v xs (L + 1) (h.below hb) hx hn (by omega) (by omega))
  have H4 : Hid (Ans w 11 #[v, .int .i64 L] (.tuple #[.int .i64 (tot (sreq · L) xs), .nilIface])) := mkHid (fun W hb => dsreq_ok W v xs L (h.below hb) hx hn L0 (by omega))
  have H5 : Hid (Ans w 11 #[v, .int .i64 (L + 1)] (.tuple #[.int .i64 (tot (sreq · (L + 1)) xs), .nilIface])) := mkHid (fun W hb => dsreq_ok W v xs (L + 1) (h.below hb) hx hn (by omega) (by omega))
  have k1 := tot_le (sdem · L) (sdem · (L + 1)) xs (fun x hm => sdem_step (hx x hm) L0)
  have k2 := tot_le (sreq · L) (sreq · (L + 1)) xs (fun x hm => sreq_step (hx x hm) L0)
  have k3 := tot_le (sdem · L) (sreq · L) xs (fun x hm => sdem_le_sreq (hx x hm) L0)
  have H6 : Hid (∀ s, okS s → Ans w 17 #[vS s, .int .i64 L] (.tuple #[.int .i64 (sdem s L), .nilIface])) := mkHid (fun s hs => sdemA_yes w s L ad E.er3 hs L0 (by omega))
  obtain ⟨a0, cap, rfl, hl, h9⟩ := id h
  have HS := mkHid h
  have HX := mkHid hx
  clear E h hx h9
  obtain ⟨A, hA⟩ : ∃ A, tot (sdem · L) xs = A := ⟨_, rfl⟩
  have HA := mkHid hA
  rw [hA] at H2 k1 k3
  clear hA
  generalize tot (sdem · (L + 1)) xs = B at *
  generalize tot (sreq · L) xs = C at *
  generalize tot (sreq · (L + 1)) xs = D at *
  have M1 : Hid True := mkHid trivial
  have M2 : Hid True := mkHid trivial
  have M3 : Hid True := mkHid trivial
  have M4 : Hid True := mkHid trivial
  have M5 : Hid True := mkHid trivial
  go_enter Tryd.func6, Tryd.ntmps6
  go_wp2_with (first
    | (go_at_call 9; clear M1; refine (H1.out _ (Below.refl _ _)).mono ?_; rintro e w1 ⟨rfl, b1⟩; have HB1 := mkHid (bt (Below.refl _ _) b1); clear b1)
    | (go_at_call 10; clear M2; refine (H2.out _ HB1.out).mono ?_; rintro e w2 ⟨rfl, b2⟩; have HB2 := mkHid (bt HB1.out b2); clear b2)
    | (go_at_call 10; clear M3; refine (H3.out _ HB2.out).mono ?_; rintro e w3 ⟨rfl, b3⟩; have HB3 := mkHid (bt HB2.out b3); clear b3)
    | (go_at_call 11; clear M4; refine (H4.out _ HB3.out).mono ?_; rintro e w4 ⟨rfl, b4⟩; have HB4 := mkHid (bt HB3.out b4); clear b4)
    | (go_at_call 11; clear M5; refine (H5.out _ HB4.out).mono ?_; rintro e w5 ⟨rfl, b5⟩; have HB5 := mkHid (bt HB4.out b5); clear b5))
  clear H1 H2 H3 H4 H5 HB1 HB2 HB3 HB4 k1 k2 k3
  go_loopw [13, 97] (fun nv iv wr => ∃ (j : Nat) (N : Int), nv = .int .i64 N ∧ iv = .int .i64 (j : Int) ∧ j ≤ xs.length ∧ 0 ≤ N ∧ N ≤ 8796093026304 ∧ Hid (tot (sdem · L) (xs.take j) = N) ∧ Hid (Below w.heap.size w wr)) (fun _ iv _ => xs.length - (intOf iv).toNat)
  case atStart => exact ⟨0, 0, rfl, rfl, Nat.zero_le _, by omega, by omega, mkHid rfl, HB5⟩
  case round =>
    obtain ⟨j, N, rfl, rfl, hj, n0, n1, HN, HB⟩ := hrel
    by_cases hlt : j < xs.length
    · obtain ⟨b, off, k, q, t, rfl, hxj, c0, c1, c2⟩ := HS.out.at HB.out j hlt
      have hji : (j : Int) < xs.length := by omega
      have HO := mkHid (HX.out _ (List.mem_of_getElem? hxj))
      have HM := mkHid (tot_take (sdem · L) hxj)
      have HT := mkHid (tot_fit (sdem · L) 1099511628288 (by omega) (xs.take (j + 1)) (fun x hm => by have := sdem_bounds (HX.out x (List.mem_of_mem_take hm)) L0; omega) (by rw [List.length_take]; omega))
      have HC := mkHid (H6.out (k, q, t) HO.out (wr.alloc (oS (k, q, t))) (ba HB.out _))
      have ks := sdem_share HO.out L0
      have b1 := sdem_bounds HO.out L0
      obtain ⟨o1, o2, o3, o4, o5⟩ := id HO.out
      obtain ⟨X, hX⟩ : ∃ X, sdem (k, q, t) L = X := ⟨_, rfl⟩
      have HXX := mkHid hX
      simp only at o1 o2 o3 o4 o5
      rw [hX] at b1 HC
      have ks2 : (X - xtr (k, q, t)) * t ≤ q * L := by rw [← hX]; exact ks
      have hs : 0 ≤ N + X ∧ N + X ≤ 8796093026304 := by have e := HM.out; have e2 := HT.out; have e3 := HN.out; simp only [hX] at e; rw [e, e3] at e2; omega
      have ew : IntKind.i64.wrap (N + X) = N + X := wfit (by omega) (by omega)
      have HK : Hid (tot (sdem · L) (xs.take (j + 1)) = N + X) := mkHid (by rw [HM.out, HN.out, HXX.out])
      obtain ⟨P, hP⟩ : ∃ P, P = q * L := ⟨_, rfl⟩
      have p0 : 0 ≤ P := by rw [hP]; exact Int.mul_nonneg (by omega) L0
      have p1 : P ≤ 256 * 1073741823 := by rw [hP]; exact Int.mul_le_mul (by omega) L1 L0 (by omega)
      have ep : IntKind.i64.wrap (q * L) = P := by rw [← hP]; exact wfit (by omega) (by omega)
      rw [← hP] at ks2
      have hc : (k = 3 ∧ xtr (k, q, t) = q) ∨ (¬ k = 3 ∧ xtr (k, q, t) = 0) := by
        by_cases x : k = 3
        · exact .inl ⟨x, if_pos x⟩
        · exact .inr ⟨x, if_neg x⟩
      clear ks hX hP HM HT hxj
      rcases hc with ⟨rfl, hxt⟩ | ⟨hk, hxt⟩
      · rw [hxt] at ks2
        have hge : -65536 ≤ (X - q) * t := by
          have h1 : (-256) * t ≤ (X - q) * t := Int.mul_le_mul_of_nonneg_right (by omega) (by omega)
          omega
        obtain ⟨R, hR⟩ : ∃ R, R = (X - q) * t := ⟨_, rfl⟩
        rw [← hR] at ks2 hge
        have er : IntKind.i64.wrap ((X - q) * t) = R := by rw [← hR]; exact wfit (by omega) (by omega)
        have ex : IntKind.i64.wrap (X - q) = X - q := wfit (by omega) (by omega)
        clear hR hxt
        go_wp2_with (go_at_call 17; refine HC.out.mono ?_; rintro e w7 ⟨rfl, b7⟩; have HB7 := mkHid (bt (ba HB.out _) b7); obtain ⟨d0, d1, d2⟩ := (S3.new wr (3, q, t)).below b7; clear b7)
        go_roundw
        case rel => exact ⟨j + 1, N + X, by go_num, by go_num, by omega, hs.1, hs.2, HK, HB7⟩
        case measure => simp [intOf]; omega
      · rw [hxt, Int.sub_zero] at ks2
        have hge : 0 ≤ X * t := Int.mul_nonneg (by omega) (by omega)
        obtain ⟨R, hR⟩ : ∃ R, R = X * t := ⟨_, rfl⟩
        rw [← hR] at ks2 hge
        have er : IntKind.i64.wrap (X * t) = R := by rw [← hR]; exact wfit (by omega) (by omega)
        have ex : IntKind.i64.wrap X = X := wfit (by omega) (by omega)
        clear hR hxt
        go_wp2_with (go_at_call 17; refine HC.out.mono ?_; rintro e w7 ⟨rfl, b7⟩; have HB7 := mkHid (bt (ba HB.out _) b7); obtain ⟨d0, d1, d2⟩ := (S3.new wr (k, q, t)).below b7; clear b7)
        go_roundw
        case rel => exact ⟨j + 1, N + X, by go_num, by go_num, by omega, hs.1, hs.2, HK, HB7⟩
        case measure => simp [intOf]; omega
    · obtain rfl : j = xs.length := by omega
      have hN := HN.out
      rw [List.take_length, HA.out] at hN
      subst hN
      go_wp2
      go_ret
      exact ⟨rfl, HB.out⟩
theorem grows_any (w : World) (v : Value) (xs : List Sv) (l : Int) (ad : Nat → Addr) (h : Svs w v xs) (E : Errs w ad) : Calls Tryd.prog 6 #[v, .int .i64 l] w fun e w' => e = .returned (.bool true) ∧ Below w.heap.size w w' := by
  obtain ⟨L, L0, L1, el⟩ := and_ex l 1073741823 (by omega) (by omega)
  rcases scd_cases xs L with ⟨_, hx⟩ | ⟨_, hx, hn⟩ | ⟨_, _, _, hl⟩ | ⟨_, hx, hn, _, _⟩
  · exact grows_bad w v xs l L ad h E el L0 L1 hx
  · exact grows_full w v xs l L ad h E el L0 L1 hx hn
  · omega
  · exact grows_ok w v xs l L ad h E el L0 L1 hx hn
end Go.Proofs.YtilnchlnlnpkfaaDoor
