/- DiskPlays: every call in every order. -/
import Derived.Test.YtcglonefifldnaaDoorPlayb
import Derived.Test.YtcglonefifldnaaDoorOpenUp5
import Derived.Deep.RegionHeld3
namespace Go.Proofs.YtcglonefifldnaaDoor
open Go.ChangeShapes Go.WideShapes Go.ChangeAt Go.RowKit

theorem wpAnyH_mono {P : Program} {md : Region.Mode} {ops : Array Oper} {Q : Exit → Act → World → Prop} {S S' : World → Prop} (hS : ∀ w, S w → S' w) : ∀ (n : Nat) (l : Array Bool) (a : Act) (w : World), wpAnyH P md ops Q S n l a w → wpAnyH P md ops Q S' n l a w
  | 0, _, _, _, h => h
  | n + 1, _, _, _, h => ⟨h.1, fun i hi => wpOp_mono (fun a' w' h' => ⟨hS w' h'.1, wpAnyH_mono hS n _ a' w' h'.2⟩) (h.2 i hi)⟩
theorem ps_start {w w1 w2 w3 : World} {p q n sb nb : Nat} {F G : Nat → Prop} (hb1 : Below w.heap.size w w1) (hD : Dk F w2 p n (fun _ => zeros) [] 0 false) (hF : ∀ k, F k → w1.heap.size ≤ k) (hb2 : Below w1.heap.size w1 w2) (hR : Rk G w3 q n (fun _ => zeros) (fun _ => zeros) [] 0 false sb nb (.slice none 0 0) (.slice none 0 0) (fun _ => False)) (hG : ∀ k, G k → w2.heap.size ≤ k) (hb3 : Below w2.heap.size w2 w3) :
    PS w w3 p q n 0 false (fun _ => zeros) [] 0 F G (fun _ => zeros) (fun _ => zeros) sb nb (.slice none 0 0) (.slice none 0 0) (fun _ => False) := by
  have b2 := hb1.trans (hb2.mono hb1.size)
  refine ⟨hD.below hb3, hR, b2.trans (hb3.mono b2.size), fun k e => Nat.le_trans hb1.size (hF k e), fun k e => Nat.le_trans b2.size (hG k e), fun k e e2 => by have := hD.1 k e; have := hG k e2; omega, fun _ => ⟨rfl, rfl⟩, by simp, by simp⟩
set_option maxRecDepth 5000 in
set_option maxHeartbeats 12800000 in
theorem plays_bad (w : World) (v : Value) (sectors : Int) (a : Nat → Addr) (E : Errs w a) (h : sectors < 1 ∨ 1024 < sectors) :
    Calls Tryd.prog 3 #[.int .i64 sectors, v] w fun e w' => e = .returned (.bool true) ∧ Below w.heap.size w w' := by
  have HE := mkHid E
  have HH := mkHid h
  clear E
  have hcs : sectors < 1 ∨ (¬ sectors < 1 ∧ 1024 < sectors) := by omega
  clear h
  rcases hcs with h1 | ⟨h1, h2⟩
  all_goals
    go_enter Tryd.func3, Tryd.ntmps3
    go_wp2_with (first
      | (go_at_call 7; refine (alive_d _).mono ?_; rintro e w1 ⟨rfl, hb1⟩)
      | (go_at_call 8; refine (dnew_bad w1 sectors _ ⟨_, rfl⟩ (HE.out.late hb1).cell_number HH.out).mono ?_; rintro e w2 ⟨rfl, hb2⟩; have hb2' := hb1.trans (hb2.mono hb1.size); clear hb1 hb2)
      | (go_at_call 9; refine (errnum_number w2 a (HE.out.late hb2')).mono ?_; rintro e w3 ⟨rfl, hb3⟩; have hb3' := hb2'.trans (hb3.mono hb2'.size); clear hb2' hb3))
    go_ret
    exact ⟨rfl, hb3'⟩
set_option maxRecDepth 5000 in
set_option maxHeartbeats 25600000 in
theorem plays_walk (w : World) (v : Value) (n : Nat) (xs : List OpD) (a : Nat → Addr) (E : Errs w a) (h0 : 1 ≤ n) (h1 : n ≤ 1024) (h' : Ops w v xs) (hx1 : xs.length ≤ 1048576) (hx2 : ∀ x ∈ xs, x.bs.length ≤ 1048576) :
    Calls Tryd.prog 3 #[.int .i64 (n : Int), v] w fun e w' => e = .returned (.bool true) ∧ Below w.heap.size w w' := by
  obtain ⟨av, cap, rfl⟩ : ∃ a c, v = .slice a xs.length c := h'.imp fun a h => h.imp fun c h => h.1
  have hxl : (xs.length : Int) ≤ 1048576 := by omega
  have hn0 : ¬ (n : Int) < 1 := by omega
  have hn1 : ¬ (1024 : Int) < n := by omega
  have HE := mkHid E
  have HOps := mkHid h'
  have HX2 := mkHid hx2
  clear E h' hx2
  go_enter Tryd.func3, Tryd.ntmps3
  go_wp2_with (first
    | (go_at_call 7; refine (alive_d _).mono ?_; rintro e w1 ⟨rfl, hb1⟩; have HB1 := mkHid hb1; clear hb1)
    | (go_at_call 8; refine (dnew_ok w1 n (by omega) (by omega)).mono ?_; rintro e w2 ⟨p, F, rfl, hD2, hF2, hb2⟩; have HD2 := mkHid hD2; have HF2 := mkHid hF2; have HB2 := mkHid hb2; clear hD2 hF2 hb2)
    | (go_at_call 10; refine (rnew_ok w2 n h0 h1).mono ?_; rintro e w3 ⟨q, sb, nb, G, rfl, hR3, hG3, hb3⟩; have HP := mkHid (ps_start HB1.out HD2.out HF2.out HB2.out hR3 hG3 hb3); clear hR3 hG3 hb3))
  clear HB1 HB2 HD2 HF2
  go_loopw [41] (fun iv wr => ∃ (j : Nat) (lost : Bool) (f : Int → List Int) (c : List (Int × List Int)) (nw : Int) (F G : Nat → Prop) (fs fn : Int → List Int) (av dv : Value) (H : Nat → Prop), iv = .int .i64 (j : Int) ∧ j ≤ xs.length ∧ PS w wr p q n j lost f c nw F G fs fn sb nb av dv H) (fun iv _ => xs.length - (intOf iv).toNat)
  case atStart => exact ⟨0, false, _, _, _, F, G, _, _, _, _, _, rfl, Nat.zero_le _, HP.out⟩
  case round =>
    clear HP
    obtain ⟨j, lost, f, c, nw, F, G, fs, fn, av2, dv, H, rfl, hj, hP⟩ := hrel
    have HP := mkHid hP
    clear hP
    by_cases hlt : j < xs.length
    · have hji : (j : Int) < xs.length := by omega
      obtain ⟨b, off, rfl, hblt, hat⟩ := HOps.out.at hlt
      have HBS : Hid (xs[j].bs.length ≤ 1048576) := mkHid (HX2.out _ (List.getElem_mem _))
      obtain ⟨c0, c1, c2, c3, c4, hrd, hbl, hba, hbt, hbk⟩ := hat.later HP.out.bel
      generalize xs[j] = x at *
      obtain ⟨xk, xa, xt, xkeep, xv, xbs⟩ := x
      simp only at c0 c1 c2 c3 c4 hrd hbl hbk HBS
      obtain ⟨xsa, xsc, rfl⟩ : ∃ a c, xv = .slice a xbs.length c := hrd.2.imp fun a h => h.imp fun c h => h.1
      have HR := mkHid hrd
      obtain ⟨hk0, hk1⟩ := hbk
      clear hrd hbl hba hbt hat
      obtain ⟨W1, hW1⟩ : ∃ W1, W1 = wr.alloc (.cells #[.int .i64 xk, .int .i64 xa, .int .i64 xt, .int .u64 xkeep, .slice xsa xbs.length xsc] 35) := ⟨_, rfl⟩
      have hb1 : Below wr.heap.size wr W1 := by rw [hW1]; exact (Below.refl _ wr).alloc (Nat.le_refl _) _
      have hz1 : W1.heap.size = wr.heap.size + 1 := by rw [hW1]; simp
      have q0 : W1.cell? ⟨wr.heap.size, 0, none⟩ = some (.int .i64 xk) := by rw [hW1]; go_simp
      have q1 : W1.cell? ⟨wr.heap.size, 1, none⟩ = some (.int .i64 xa) := by rw [hW1]; go_simp
      have q2 : W1.cell? ⟨wr.heap.size, 2, none⟩ = some (.int .i64 xt) := by rw [hW1]; go_simp
      have q3 : W1.cell? ⟨wr.heap.size, 3, none⟩ = some (.int .u64 xkeep) := by rw [hW1]; go_simp
      have q4 : W1.cell? ⟨wr.heap.size, 4, none⟩ = some (.slice xsa xbs.length xsc) := by rw [hW1]; go_simp
      have HPd := mkHid ((HP.out.late hb1).late (show Below W1.heap.size W1 W1.drew from ⟨rfl, rfl, rfl, Nat.le_refl _, fun _ _ => rfl⟩))
      have HRd := mkHid (HR.out.later hb1).drew
      go_wp2
      rw [← hW1]
      clear hW1 c0 c1 c2 c3 c4 hb1
      refine wp_region_held_drew (S := fun _ => True) (by kernel_rfl) trivial (fun hHeld => ?_)
      refine wpAnyH_take (i := 0) (v := .pointer (some ⟨p, 0, none⟩)) rfl (by kernel_rfl) (by kernel_rfl) (by kernel_rfl) (fun _ _ _ h => h) (Or.inl ⟨by kernel_rfl, by intro w hSw; first | (rw [hSw]; clear hSw; go_simp) | go_simp⟩) hHeld ?_
      try simp only [Act.put]
      refine wpAnyH_take (i := 1) (v := .pointer (some ⟨q, 0, none⟩)) rfl (by kernel_rfl) (by kernel_rfl) (by kernel_rfl) (fun _ _ _ h => h) (Or.inl ⟨by kernel_rfl, by intro w hSw; first | (rw [hSw]; clear hSw; go_simp) | go_simp⟩) hHeld ?_
      try simp only [Act.put]
      refine wpAnyH_ready (rs := [2]) (by kernel_rfl) (by simp) (AllReadyH.cons rfl (fun K hK => ?_) AllReadyH.nil)
      go_simp
      refine hK.out _ _ trivial (fun hHeld => ?_)
      clear hK K
      try simp only [Act.put]
      refine wpAnyH_ready (rs := [3]) (by kernel_rfl) (by simp) (AllReadyH.cons rfl (fun K hK => ?_) AllReadyH.nil)
      go_simp
      refine (play_any w W1.drew p q n j lost f c nw F G fs fn sb nb av2 dv H xk xa xt xkeep _ xbs a HE.out HPd.out HRd.out (by have := HBS.out; omega) (by omega) hk0 hk1).mono ?_
      rintro e w5 ⟨rfl, lost5, f5, c5, nw5, F5, G5, fs5, fn5, av5, dv5, H5, hP5⟩
      obtain ⟨aa5, ac5, rfl⟩ := own_shape hP5.rk.ha
      have d2 : w5.cell? ⟨q, 2, none⟩ = some (.slice aa5 c5.length ac5) := cell_of_block hP5.rk.hd rfl
      have d4 : w5.cell? ⟨q, 4, none⟩ = some (.int .i64 nw5) := cell_of_block hP5.rk.hd rfl
      have d5 : w5.cell? ⟨q, 5, none⟩ = some (.bool lost5) := cell_of_block hP5.rk.hd rfl
      have HP5 := mkHid hP5
      clear HPd HRd HP HR
      refine hK.out _ _ trivial (fun hHeld => ?_)
      clear hK K hP5 q0 q1 q2 q3 q4
      try simp only [Act.put]
      refine wpAnyH_mono (S := fun w' => w' = w5) (fun _ _ => trivial) _ _ _ _ ?_
      have hHeld : w5 = w5 := rfl
      refine wpAnyH_take (i := 4) (v := .bool false) rfl (by kernel_rfl) (by kernel_rfl) (by kernel_rfl) (fun _ _ _ h => h) (Or.inl ⟨by kernel_rfl, by intro w hSw; first | (rw [hSw]; clear hSw; go_simp) | go_simp⟩) hHeld ?_
      try simp only [Act.put]
      refine wpAnyH_take (i := 5) (v := .bool false) rfl (by kernel_rfl) (by kernel_rfl) (by kernel_rfl) (fun _ _ _ h => h) (Or.inl ⟨by kernel_rfl, by intro w hSw; first | (rw [hSw]; clear hSw; go_simp) | go_simp⟩) hHeld ?_
      try simp only [Act.put]
      refine wpAnyH_take (i := 6) (v := .pointer (some ⟨p, 0, none⟩)) rfl (by kernel_rfl) (by kernel_rfl) (by kernel_rfl) (fun _ _ _ h => h) (Or.inl ⟨by kernel_rfl, by intro w hSw; first | (rw [hSw]; clear hSw; go_simp) | go_simp⟩) hHeld ?_
      try simp only [Act.put]
      refine wpAnyH_take (i := 8) (v := .pointer (some ⟨q, 0, none⟩)) rfl (by kernel_rfl) (by kernel_rfl) (by kernel_rfl) (fun _ _ _ h => h) (Or.inl ⟨by kernel_rfl, by intro w hSw; first | (rw [hSw]; clear hSw; go_simp) | go_simp⟩) hHeld ?_
      try simp only [Act.put]
      refine wpAnyH_take (i := 9) (v := .pointer (some ⟨q, 0, none⟩)) rfl (by kernel_rfl) (by kernel_rfl) (by kernel_rfl) (fun _ _ _ h => h) (Or.inl ⟨by kernel_rfl, by intro w hSw; first | (rw [hSw]; clear hSw; go_simp) | go_simp⟩) hHeld ?_
      try simp only [Act.put]
      refine wpAnyH_take (i := 10) (v := .pointer (some ⟨q, 2, none⟩)) rfl (by kernel_rfl) (by kernel_rfl) (by kernel_rfl) (fun _ _ _ h => h) (Or.inl ⟨by kernel_rfl, by intro w hSw; first | (rw [hSw]; clear hSw; go_simp) | go_simp⟩) hHeld ?_
      try simp only [Act.put]
      refine wpAnyH_take (i := 11) (v := .slice aa5 c5.length ac5) rfl (by kernel_rfl) (by kernel_rfl) (by kernel_rfl) (fun _ _ _ h => h) (Or.inl ⟨by kernel_rfl, by intro w hSw; first | (rw [hSw]; clear hSw; go_simp) | go_simp⟩) hHeld ?_
      try simp only [Act.put]
      refine wpAnyH_take (i := 12) (v := .int .i64 (c5.length : Int)) rfl (by kernel_rfl) (by kernel_rfl) (by kernel_rfl) (fun _ _ _ h => h) (Or.inl ⟨by kernel_rfl, by intro w hSw; first | (rw [hSw]; clear hSw; go_simp) | go_simp⟩) hHeld ?_
      try simp only [Act.put]
      refine wpAnyH_ready (rs := [7]) (by kernel_rfl) (by simp) (AllReadyH.cons rfl (fun K hK => ?_) AllReadyH.nil)
      go_simp
      refine (waiting_any F5 w5 p n f5 c5 nw5 lost5 HP5.out.dk).mono ?_
      rintro e w6 ⟨rfl, h6⟩
      rw [h6]
      clear h6 w6
      refine hK.out _ _ rfl (fun hHeld => ?_)
      clear hK K
      try simp only [Act.put]
      refine wpAnyH_take (i := 13) (v := .bool false) rfl (by kernel_rfl) (by kernel_rfl) (by kernel_rfl) (fun _ _ _ h => h) (Or.inl ⟨by kernel_rfl, by intro w hSw; first | (rw [hSw]; clear hSw; go_simp) | go_simp⟩) hHeld ?_
      try simp only [Act.put]
      refine wpAnyH_take (i := 14) (v := .bool false) rfl (by kernel_rfl) (by kernel_rfl) (by kernel_rfl) (fun _ _ _ h => h) (Or.inl ⟨by kernel_rfl, by intro w hSw; first | (rw [hSw]; clear hSw; go_simp) | go_simp⟩) hHeld ?_
      try simp only [Act.put]
      refine wpAnyH_take (i := 15) (v := .bool false) rfl (by kernel_rfl) (by kernel_rfl) (by kernel_rfl) (fun _ _ _ h => h) (Or.inl ⟨by kernel_rfl, by intro w hSw; first | (rw [hSw]; clear hSw; go_simp) | go_simp⟩) hHeld ?_
      try simp only [Act.put]
      refine wpAnyH_take (i := 16) (v := .pointer (some ⟨p, 0, none⟩)) rfl (by kernel_rfl) (by kernel_rfl) (by kernel_rfl) (fun _ _ _ h => h) (Or.inl ⟨by kernel_rfl, by intro w hSw; first | (rw [hSw]; clear hSw; go_simp) | go_simp⟩) hHeld ?_
      try simp only [Act.put]
      refine wpAnyH_take (i := 18) (v := .pointer (some ⟨q, 0, none⟩)) rfl (by kernel_rfl) (by kernel_rfl) (by kernel_rfl) (fun _ _ _ h => h) (Or.inl ⟨by kernel_rfl, by intro w hSw; first | (rw [hSw]; clear hSw; go_simp) | go_simp⟩) hHeld ?_
      try simp only [Act.put]
      refine wpAnyH_take (i := 19) (v := .pointer (some ⟨q, 0, none⟩)) rfl (by kernel_rfl) (by kernel_rfl) (by kernel_rfl) (fun _ _ _ h => h) (Or.inl ⟨by kernel_rfl, by intro w hSw; first | (rw [hSw]; clear hSw; go_simp) | go_simp⟩) hHeld ?_
      try simp only [Act.put]
      refine wpAnyH_take (i := 20) (v := .pointer (some ⟨q, 4, none⟩)) rfl (by kernel_rfl) (by kernel_rfl) (by kernel_rfl) (fun _ _ _ h => h) (Or.inl ⟨by kernel_rfl, by intro w hSw; first | (rw [hSw]; clear hSw; go_simp) | go_simp⟩) hHeld ?_
      try simp only [Act.put]
      refine wpAnyH_take (i := 21) (v := .int .i64 nw5) rfl (by kernel_rfl) (by kernel_rfl) (by kernel_rfl) (fun _ _ _ h => h) (Or.inl ⟨by kernel_rfl, by intro w hSw; first | (rw [hSw]; clear hSw; go_simp) | go_simp⟩) hHeld ?_
      try simp only [Act.put]
      refine wpAnyH_ready (rs := [17]) (by kernel_rfl) (by simp) (AllReadyH.cons rfl (fun K hK => ?_) AllReadyH.nil)
      go_simp
      refine (writes_is F5 w5 p n f5 c5 nw5 lost5 HP5.out.dk).mono ?_
      rintro e w6 ⟨rfl, h6⟩
      rw [h6]
      clear h6 w6
      refine hK.out _ _ rfl (fun hHeld => ?_)
      clear hK K
      try simp only [Act.put]
      refine wpAnyH_take (i := 22) (v := .bool false) rfl (by kernel_rfl) (by kernel_rfl) (by kernel_rfl) (fun _ _ _ h => h) (Or.inl ⟨by kernel_rfl, by intro w hSw; first | (rw [hSw]; clear hSw; go_simp) | go_simp⟩) hHeld ?_
      try simp only [Act.put]
      refine wpAnyH_take (i := 23) (v := .bool false) rfl (by kernel_rfl) (by kernel_rfl) (by kernel_rfl) (fun _ _ _ h => h) (Or.inl ⟨by kernel_rfl, by intro w hSw; first | (rw [hSw]; clear hSw; go_simp) | go_simp⟩) hHeld ?_
      try simp only [Act.put]
      refine wpAnyH_take (i := 24) (v := .bool false) rfl (by kernel_rfl) (by kernel_rfl) (by kernel_rfl) (fun _ _ _ h => h) (Or.inl ⟨by kernel_rfl, by intro w hSw; first | (rw [hSw]; clear hSw; go_simp) | go_simp⟩) hHeld ?_
      try simp only [Act.put]
      refine wpAnyH_take (i := 25) (v := .pointer (some ⟨p, 0, none⟩)) rfl (by kernel_rfl) (by kernel_rfl) (by kernel_rfl) (fun _ _ _ h => h) (Or.inl ⟨by kernel_rfl, by intro w hSw; first | (rw [hSw]; clear hSw; go_simp) | go_simp⟩) hHeld ?_
      try simp only [Act.put]
      refine wpAnyH_take (i := 27) (v := .pointer (some ⟨q, 0, none⟩)) rfl (by kernel_rfl) (by kernel_rfl) (by kernel_rfl) (fun _ _ _ h => h) (Or.inl ⟨by kernel_rfl, by intro w hSw; first | (rw [hSw]; clear hSw; go_simp) | go_simp⟩) hHeld ?_
      try simp only [Act.put]
      refine wpAnyH_take (i := 28) (v := .pointer (some ⟨q, 0, none⟩)) rfl (by kernel_rfl) (by kernel_rfl) (by kernel_rfl) (fun _ _ _ h => h) (Or.inl ⟨by kernel_rfl, by intro w hSw; first | (rw [hSw]; clear hSw; go_simp) | go_simp⟩) hHeld ?_
      try simp only [Act.put]
      refine wpAnyH_take (i := 29) (v := .pointer (some ⟨q, 5, none⟩)) rfl (by kernel_rfl) (by kernel_rfl) (by kernel_rfl) (fun _ _ _ h => h) (Or.inl ⟨by kernel_rfl, by intro w hSw; first | (rw [hSw]; clear hSw; go_simp) | go_simp⟩) hHeld ?_
      try simp only [Act.put]
      refine wpAnyH_take (i := 30) (v := .bool lost5) rfl (by kernel_rfl) (by kernel_rfl) (by kernel_rfl) (fun _ _ _ h => h) (Or.inl ⟨by kernel_rfl, by intro w hSw; first | (rw [hSw]; clear hSw; go_simp) | go_simp⟩) hHeld ?_
      try simp only [Act.put]
      refine wpAnyH_ready (rs := [26]) (by kernel_rfl) (by simp) (AllReadyH.cons rfl (fun K hK => ?_) AllReadyH.nil)
      go_simp
      refine (lost_is F5 w5 p n f5 c5 nw5 lost5 HP5.out.dk).mono ?_
      rintro e w6 ⟨rfl, h6⟩
      rw [h6]
      clear h6 w6
      refine hK.out _ _ rfl (fun hHeld => ?_)
      clear hK K
      try simp only [Act.put]
      refine wpAnyH_take (i := 31) (v := .bool false) rfl (by kernel_rfl) (by kernel_rfl) (by kernel_rfl) (fun _ _ _ h => h) (Or.inl ⟨by kernel_rfl, by intro w hSw; first | (rw [hSw]; clear hSw; go_simp) | go_simp⟩) hHeld ?_
      try simp only [Act.put]
      refine wpAnyH_take (i := 32) (v := .bool false) rfl (by kernel_rfl) (by kernel_rfl) (by kernel_rfl) (fun _ _ _ h => h) (Or.inl ⟨by kernel_rfl, by intro w hSw; first | (rw [hSw]; clear hSw; go_simp) | go_simp⟩) hHeld ?_
      try simp only [Act.put]
      refine wpAnyH_take (i := 33) (v := .bool false) rfl (by kernel_rfl) (by kernel_rfl) (by kernel_rfl) (fun _ _ _ h => h) (Or.inl ⟨by kernel_rfl, by intro w hSw; first | (rw [hSw]; clear hSw; go_simp) | go_simp⟩) hHeld ?_
      try simp only [Act.put]
      refine wpAnyH_take (i := 34) (v := .pointer (some ⟨p, 0, none⟩)) rfl (by kernel_rfl) (by kernel_rfl) (by kernel_rfl) (fun _ _ _ h => h) (Or.inl ⟨by kernel_rfl, by intro w hSw; first | (rw [hSw]; clear hSw; go_simp) | go_simp⟩) hHeld ?_
      try simp only [Act.put]
      refine wpAnyH_take (i := 36) (v := .int .i64 (n : Int)) rfl (by kernel_rfl) (by kernel_rfl) (by kernel_rfl) (fun _ _ _ h => h) (Or.inl ⟨by kernel_rfl, by intro w hSw; first | (rw [hSw]; clear hSw; go_simp) | go_simp⟩) hHeld ?_
      try simp only [Act.put]
      refine wpAnyH_ready (rs := [35]) (by kernel_rfl) (by simp) (AllReadyH.cons rfl (fun K hK => ?_) AllReadyH.nil)
      go_simp
      refine (sectors_is F5 w5 p n f5 c5 nw5 lost5 HP5.out.dk).mono ?_
      rintro e w6 ⟨rfl, h6⟩
      rw [h6]
      clear h6 w6
      refine hK.out _ _ rfl (fun hHeld => ?_)
      clear hK K
      try simp only [Act.put]
      refine wpAnyH_take (i := 37) (v := .bool false) rfl (by kernel_rfl) (by kernel_rfl) (by kernel_rfl) (fun _ _ _ h => h) (Or.inl ⟨by kernel_rfl, by intro w hSw; first | (rw [hSw]; clear hSw; go_simp) | go_simp⟩) hHeld ?_
      try simp only [Act.put]
      refine wpAnyH_take (i := 38) (v := .bool false) rfl (by kernel_rfl) (by kernel_rfl) (by kernel_rfl) (fun _ _ _ h => h) (Or.inl ⟨by kernel_rfl, by intro w hSw; first | (rw [hSw]; clear hSw; go_simp) | go_simp⟩) hHeld ?_
      try simp only [Act.put]
      refine wpAnyH_done (by kernel_rfl) ?_ _
      go_wp2
      go_roundw
      case rel => exact ⟨j + 1, lost5, f5, c5, nw5, F5, G5, fs5, fn5, _, dv5, H5, by go_num, by omega, HP5.out⟩
      case measure => simp [intOf]; omega
    · have hji : ¬ (j : Int) < xs.length := by omega
      have hm : j ≤ 100000000 := by omega
      have hn3 : (n : Int) ≤ 1024 := by omega
      go_wp2
      go_loopw [10] (fun iv wq => ∃ t : Int, iv = .int .i64 t ∧ -1 ≤ t ∧ t ≤ (n : Int) + 1 ∧ PS w wq p q n j lost f c nw F G fs fn sb nb av2 dv H) (fun iv _ => ((n : Int) + 1 - intOf iv).toNat)
      case atStart => exact ⟨-1, rfl, by omega, by omega, HP.out⟩
      case round =>
        clear HP
        obtain ⟨t, rfl, ht0, ht1, hP⟩ := hrel
        have HP := mkHid hP
        clear hP
        by_cases htn : t ≤ (n : Int)
        · go_wp2_with (go_at_call 11; refine (play_read w wr p q n j lost f c nw F G fs fn sb nb av2 dv H t 0 0 _ a HE.out HP.out hm).mono ?_; rintro e w9 ⟨rfl, hP9⟩; have HP9 := mkHid hP9; clear hP9)
          go_roundw
          case rel => exact ⟨t + 1, by go_num, by omega, by omega, HP9.out⟩
          case measure => simp [intOf]; omega
        · go_wp2
          go_ret
          exact ⟨rfl, HP.out.bel⟩
end Go.Proofs.YtcglonefifldnaaDoor
