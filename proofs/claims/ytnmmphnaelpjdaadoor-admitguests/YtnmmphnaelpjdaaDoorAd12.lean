/- The law AdmitGuests: which guests fit into which server. -/
import Derived.Test.YtnmmphnaelpjdaaDoorAd11
namespace Go.Proofs.YtnmmphnaelpjdaaDoor
open Go.ChangeShapes Go.WideShapes Go.ChangeAt Go.RowKit
set_option maxRecDepth 100000
set_option linter.unusedVariables false
attribute [local go_sem] World.cell?_alloc_some frozen_alloc_some

set_option maxHeartbeats 25600000 in
theorem guests_walk (w : World) (s : Sv) (p : Int) (at2 : Option Addr) (ct : Nat) (ys : List Tk) (a : Nat → Addr) (n1 : Int) (hx : Tks w (.slice at2 ys.length ct) ys) (hlen : ys.length * 32 ≤ 140737488355328) (E : Errs w a) (h1 : GC s p ys n1) :
    Calls Tryd.prog 4 #[vS s, .int .i64 p, .slice at2 ys.length ct] w fun e w' => e = .returned (.bool true) ∧ Below w.heap.size w w' := by
  obtain ⟨k, q, t⟩ := s
  obtain ⟨je, hje⟩ := je_ex
  have hl : (ys.length : Int) ≤ 9223372036854775807 := by omega
  have HAL : Hid (∀ W, Below w.heap.size w W → Calls Tryd.prog 9 #[] W fun e w' => e = .returned (.bool true) ∧ Below W.heap.size W w') := mkHid (fun W hW => aalive W a (E.late hW).er6 (E.late hW).tight)
  have HG : Hid (∀ W a0 c, Below w.heap.size w W → Tks W (.slice a0 ys.length c) ys → ys.length ≤ c → Calls Tryd.prog 15 #[vS (k, q, t), .int .i64 p, .slice a0 ys.length c] W fun e w' => e = .returned (ev6 a n1) ∧ Below W.heap.size W w') := mkHid (fun W a0 c hW hv hc => guestA_is W (k, q, t) p a0 c ys a n1 hv hc (E.late hW).er6 h1)
  have HRG : Hid (∀ W, Below w.heap.size w W → Calls Tryd.prog 16 #[vS (k, q, t), .int .i64 p, .slice at2 ys.length ct] W fun e w' => e = .returned (.int .i64 n1) ∧ Below W.heap.size W w') := mkHid (fun W hW => rguest_is W (k, q, t) p _ ys n1 (hx.below hW) h1)
  have HRE : Hid (∀ i, ∃ r n, (∀ W a0 c, Below w.heap.size w W → Tks W (.slice a0 ys.length c) ys → ys.length ≤ c → Calls Tryd.prog 17 #[vS (k, q, t), .slice a0 ys.length c, .int .i64 i] W fun e w' => e = .returned (.tuple #[.int .i64 r, ev6 a n]) ∧ Below W.heap.size W w') ∧ (∀ W, Below w.heap.size w W → Calls Tryd.prog 18 #[vS (k, q, t), .slice at2 ys.length ct, .int .i64 i] W fun e w' => e = .returned (.tuple #[.int .i64 r, .int .i64 n]) ∧ Below W.heap.size W w') ∧ (∀ W, Below w.heap.size w W → Calls Tryd.prog 13 #[ev6 a n] W fun e w' => e = .returned (.int .i64 n) ∧ Below W.heap.size W w')) := mkHid (fun i => by
    obtain ⟨r, n, hrn⟩ := rc_ex (k, q, t) ys i
    exact ⟨r, n, fun W a0 c hW hv hc => response_is W (k, q, t) a0 c ys i a r n hv hc (E.late hW).er6 hrn, fun W hW => rresponse_is W (k, q, t) _ ys i r n (hx.below hW) hrn, fun W hW => num_ev6 W a (E.late hW) n (by rcases hrn.codes with h | h | h | h | h <;> omega)⟩)
  have HN1 : Hid (∀ W, Below w.heap.size w W → Calls Tryd.prog 13 #[ev6 a n1] W fun e w' => e = .returned (.int .i64 n1) ∧ Below W.heap.size W w') := mkHid (fun W hW => num_ev6 W a (E.late hW) n1 (by rcases h1.codes with h | h | h | h <;> omega))
  have HS := mkHid hx
  have HL := mkHid hlen
  have M1 : Hid True := mkHid trivial
  clear E h1 hx hlen
  generalize ev6 a n1 = V1 at *
  go_enter Tryd.func4, Tryd.ntmps4
  go_wp2_with (first
    | (go_at_call 9; refine (HAL.out _ (ba (Below.refl _ _) _)).mono ?_; rintro e w1 ⟨rfl, b1⟩; have c0 := kc (a := ⟨w.heap.size, 0, none⟩) (v := .int .i64 k) (by simp [go_sem]) b1; have c1 := kc (a := ⟨w.heap.size, 1, none⟩) (v := .int .i64 q) (by simp [go_sem]) b1; have c2 := kc (a := ⟨w.heap.size, 2, none⟩) (v := .int .i64 t) (by simp [go_sem]) b1; have HB1 := mkHid (bt (ba (Below.refl _ _) _) b1); clear b1)
    | (at_builtin; clear M1; have hm := World.ownsRow_made (base := w1.heap.size) (e := 64) (size := 4) w1 #[] 0 (Nat.le_refl _) (by unfold maxLen; omega) rfl; refine wpList_append_src4 _ rfl (.tmp 15) (.tmp 16) 36 36 rfl w1.heap.size 64 je Tryd.underlying36 hje.out.1 (.agg #[.int .i64 0, .int .i64 0, .int .i64 0, .int .i64 0]) 32 hje.out.2.1 rfl hje.out.2.2.1 hje.out.2.2.2 (.slice (some ⟨w1.heap.size, 0, none⟩) 0 0) 0 [] rfl hm (.slice at2 ys.length ct) ys.length (ys.flatMap c4) rfl (HS.out.below (ba HB1.out _)).src (by have := HL.out; unfold maxLen; omega) (by have := HL.out; omega) (by simp) ?_; intro v4 w2 ho4 hg4 hat4; rw [Nat.zero_add, List.nil_append] at ho4; have bw2 : Below w1.heap.size w1 w2 := ((Below.refl _ w1).alloc (Nat.le_refl _) (.cells #[] 64)).grown hg4 (by simp) (fun k hk => by simp [Value.ownBlock] at hk; omega); have HB2 := mkHid (bt HB1.out bw2); have c0n := kc c0 bw2; have c1n := kc c1 bw2; have c2n := kc c2 bw2; obtain ⟨pw2, rw2, rfl, ht4, hq4⟩ := tks_of_owns_cap (xs := ys) (by have := HL.out; omega) ho4; have HVw2 := mkHid (And.intro ht4 hq4); clear hm ho4 hg4 hat4 bw2 ht4 hq4 c0 c1 c2))
  obtain ⟨p1, hp1⟩ : ∃ p1, p1 = w.heap.size := ⟨_, rfl⟩
  rw [← hp1] at c0n c1n c2n ⊢
  clear hp1
  refine wp_region_held_drew (S := fun w' => w'.cell? ⟨p1, 0, none⟩ = some (.int .i64 k) ∧ w'.cell? ⟨p1, 1, none⟩ = some (.int .i64 q) ∧ w'.cell? ⟨p1, 2, none⟩ = some (.int .i64 t)) (by kernel_rfl) ⟨c0n, c1n, c2n⟩ (fun hHeld => ?_)
  refine takeD 0 18 (.agg #[.int .i64 k, .int .i64 q, .int .i64 t]) rfl rfl (by kernel_rfl) (by kernel_rfl) (by kernel_rfl) (fun _ _ _ h => h) (Or.inl ⟨by kernel_rfl, by intro w hSw; (try dsimp only at hSw); go_simp⟩) hHeld ?_
  simp only [List.set_cons_zero, List.set_cons_succ]
  refine takeD 1 19 (.int .i64 p) rfl rfl (by kernel_rfl) (by kernel_rfl) (by kernel_rfl) (fun _ _ _ h => h) (Or.inl ⟨by kernel_rfl, by intro w hSw; (try dsimp only at hSw); go_simp⟩) hHeld ?_
  simp only [List.set_cons_zero, List.set_cons_succ]
  refine takeD 2 20 (.slice pw2 ys.length rw2) rfl rfl (by kernel_rfl) (by kernel_rfl) (by kernel_rfl) (fun _ _ _ h => h) (Or.inl ⟨by kernel_rfl, by intro w hSw; (try dsimp only at hSw); go_simp⟩) hHeld ?_
  simp only [List.set_cons_zero, List.set_cons_succ]
  refine takeD 5 23 (.agg #[.int .i64 k, .int .i64 q, .int .i64 t]) rfl rfl (by kernel_rfl) (by kernel_rfl) (by kernel_rfl) (fun _ _ _ h => h) (Or.inl ⟨by kernel_rfl, by intro w hSw; (try dsimp only at hSw); go_simp⟩) hHeld ?_
  simp only [List.set_cons_zero, List.set_cons_succ]
  refine takeD 6 24 (.int .i64 p) rfl rfl (by kernel_rfl) (by kernel_rfl) (by kernel_rfl) (fun _ _ _ h => h) (Or.inl ⟨by kernel_rfl, by intro w hSw; (try dsimp only at hSw); go_simp⟩) hHeld ?_
  simp only [List.set_cons_zero, List.set_cons_succ]
  refine takeD 7 25 (.slice at2 ys.length ct) rfl rfl (by kernel_rfl) (by kernel_rfl) (by kernel_rfl) (fun _ _ _ h => h) (Or.inl ⟨by kernel_rfl, by intro w hSw; (try dsimp only at hSw); go_simp⟩) hHeld ?_
  simp only [List.set_cons_zero, List.set_cons_succ]
  refine wpAnyH_ready (rs := [3]) (by kernel_rfl) (by simp) (AllReadyH.cons rfl (fun K hK => ?_) AllReadyH.nil)
  go_simp
  refine (HG.out w2.drew _ _ HB2.out.drew (HVw2.out.1.below (Below.refl _ w2).drew) HVw2.out.2).mono ?_
  rintro e w3 ⟨rfl, bw3⟩
  have fw3_0 : w3.cell? ⟨p1, 0, none⟩ = some (.int .i64 k) := kc (show w2.drew.cell? _ = _ from c0n) bw3
  have fw3_1 : w3.cell? ⟨p1, 1, none⟩ = some (.int .i64 q) := kc (show w2.drew.cell? _ = _ from c1n) bw3
  have fw3_2 : w3.cell? ⟨p1, 2, none⟩ = some (.int .i64 t) := kc (show w2.drew.cell? _ = _ from c2n) bw3
  have HB3 := mkHid (bt HB2.out.drew bw3)
  have HV3 := mkHid (HVw2.out.1.below ((Below.refl _ w2).drew.trans bw3))
  clear bw3 hHeld
  refine hK.out _ _ ⟨fw3_0, fw3_1, fw3_2⟩ (fun hHeld => ?_)
  clear hK K
  refine wpAnyH_ready (rs := [4]) (by kernel_rfl) (by simp) (AllReadyH.cons rfl (fun K hK => ?_) AllReadyH.nil)
  go_simp
  refine (HN1.out w3 HB3.out).mono ?_
  rintro e w4 ⟨rfl, bw4⟩
  have fw4_0 : w4.cell? ⟨p1, 0, none⟩ = some (.int .i64 k) := kc fw3_0 bw4
  have fw4_1 : w4.cell? ⟨p1, 1, none⟩ = some (.int .i64 q) := kc fw3_1 bw4
  have fw4_2 : w4.cell? ⟨p1, 2, none⟩ = some (.int .i64 t) := kc fw3_2 bw4
  have HB4 := mkHid (bt HB3.out bw4)
  have HV4 := mkHid (HV3.out.below bw4)
  clear bw4 hHeld
  refine hK.out _ _ ⟨fw4_0, fw4_1, fw4_2⟩ (fun hHeld => ?_)
  clear hK K
  refine wpAnyH_ready (rs := [8]) (by kernel_rfl) (by simp) (AllReadyH.cons rfl (fun K hK => ?_) AllReadyH.nil)
  go_simp
  refine (HRG.out w4 HB4.out).mono ?_
  rintro e w5 ⟨rfl, bw5⟩
  have fw5_0 : w5.cell? ⟨p1, 0, none⟩ = some (.int .i64 k) := kc fw4_0 bw5
  have fw5_1 : w5.cell? ⟨p1, 1, none⟩ = some (.int .i64 q) := kc fw4_1 bw5
  have fw5_2 : w5.cell? ⟨p1, 2, none⟩ = some (.int .i64 t) := kc fw4_2 bw5
  have HB5 := mkHid (bt HB4.out bw5)
  have HV5 := mkHid (HV4.out.below bw5)
  clear bw5 hHeld
  refine hK.out _ _ ⟨fw5_0, fw5_1, fw5_2⟩ (fun hHeld => ?_)
  clear hK K
  refine takeD 9 27 (.bool false) rfl rfl (by kernel_rfl) (by kernel_rfl) (by kernel_rfl) (fun _ _ _ h => h) (Or.inl ⟨by kernel_rfl, by intro w hSw; (try dsimp only at hSw); go_simp⟩) hHeld ?_
  simp only [List.set_cons_zero, List.set_cons_succ]
  refine wpAnyH_done (by kernel_rfl) ?_ _
  have HCE := mkHid (And.intro fw5_0 (And.intro fw5_1 fw5_2))
  clear fw5_0 fw5_1 fw5_2 hHeld c0n c1n c2n HV3 HV4
  go_wp2
  go_loopw [8] (fun iv wr => ∃ j : Int, iv = .int .i64 j ∧ -1 ≤ j ∧ j ≤ 10 ∧ Hid (Below w5.heap.size w5 wr)) (fun iv _ => (10 - intOf iv).toNat)
  case atStart => exact ⟨-1, rfl, by omega, by omega, mkHid (Below.refl _ _)⟩
  case round =>
    obtain ⟨j, rfl, j0, j1, HB⟩ := hrel
    by_cases hlt : j ≤ ys.length ∧ j < 10
    · obtain ⟨hj1, hj2⟩ := hlt
      obtain ⟨r, n, G1, G2, G3⟩ := HRE.out j
      have H1 := mkHid G1
      have H2 := mkHid G2
      have H3 := mkHid G3
      clear G1 G2 G3
      generalize ev6 a n = V2 at *
      obtain ⟨g0, g1, g2⟩ := HCE.out
      have z0 := kc g0 HB.out
      have z1 := kc g1 HB.out
      have z2 := kc g2 HB.out
      have HB6 := mkHid (bt HB5.out HB.out)
      have HV6 := mkHid (HV5.out.below HB.out)
      clear g0 g1 g2
      go_wp2_with (first
        | (go_at_call 17; refine (H1.out _ _ _ HB6.out HV6.out HVw2.out.2).mono ?_; rintro e w7 ⟨rfl, b7⟩; have x0 := kc z0 b7; have x1 := kc z1 b7; have x2 := kc z2 b7; have HB7 := mkHid (bt HB6.out b7); have HC7 := mkHid (bt HB.out b7); clear b7 z0 z1 z2)
        | (go_at_call 18; refine (H2.out _ HB7.out).mono ?_; rintro e w8 ⟨rfl, b8⟩; have HB8 := mkHid (bt HB7.out b8); have HC8 := mkHid (bt HC7.out b8); clear b8)
        | (go_at_call 13; refine (H3.out _ HB8.out).mono ?_; rintro e w9 ⟨rfl, b9⟩; have HC9 := mkHid (bt HC8.out b9); clear b9))
      go_roundw
      case rel => exact ⟨j + 1, by go_num, by omega, by omega, HC9⟩
      case measure => simp [intOf]; omega
    · have hcs : ¬ j ≤ ys.length ∨ (j ≤ ys.length ∧ ¬ j < 10) := by omega
      have HB6 := mkHid (bt HB5.out HB.out)
      clear hlt
      rcases hcs with hc | ⟨hc, hc2⟩
      all_goals
        go_wp2
        go_ret
        exact ⟨rfl, HB6.out⟩
end Go.Proofs.YtnmmphnaelpjdaaDoor
