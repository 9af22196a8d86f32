/- The law WalEpochs. -/
import Derived.Test.YtcbimclgodkflaaDoorWls2
import Derived.Test.YtcbimclgodkflaaDoorOpenOps6
namespace Go.Proofs.YtcbimclgodkflaaDoor
open Go.ChangeShapes Go.WideShapes Go.ChangeAt Go.RowKit
set_option maxRecDepth 100000

theorem Ops.at6 {w : World} {v : Value} {xs : List OpD} (h : Ops w v xs) : ∃ a cap, v = .slice a xs.length cap ∧ (0 < xs.length → ∃ b off, a = some ⟨b, off, none⟩ ∧ ∀ k x, xs[k]? = some x → OpAt w b (off + k * 4) x) := by
  obtain ⟨a, cap, rfl, _, _, hr⟩ := h
  exact ⟨a, cap, rfl, fun hp => by obtain ⟨b, off, e, _, hc⟩ := hr hp; exact ⟨b, off, e, hc⟩⟩
theorem ba6 {W w : World} (h : Below W.heap.size W w) (o : Obj) : Below W.heap.size W (w.alloc o) := h.alloc h.size o
theorem npc_small : npc (frm (⟨1, 1, 0, []⟩ : Rc)).length ≤ 29 := by
  have hok : (⟨1, 1, 0, []⟩ : Rc).ok := ⟨by show 1 ≤ _; omega, by show 1 ≤ _; omega, by show 0 ≤ _; omega, by show 0 ≤ _; omega, Byts.nil⟩
  have h1 := enc_len6 hok.g; have h2 := enc_len6 hok.e; have h3 := enc_len6 hok.i; have h4 := enc_len3 hok.d
  simp only at h1 h2 h3 h4
  unfold frm; rw [frame_len]
  simp only [wpay, List.length_append]
  unfold npc
  simp only [List.length_nil] at h4 ⊢
  omega
set_option maxRecDepth 100000 in
set_option maxHeartbeats 51200000 in
theorem epochs_walk (w : World) (v : Value) (xs : List OpD) (eS eL eB eF : Addr) (hx : Ops w v xs) (heS : w.cell? ⟨5, 0, none⟩ = some (vEr eS)) (heL : w.cell? ⟨3, 0, none⟩ = some (vEr eL)) (heB : w.cell? ⟨6, 0, none⟩ = some (vEr eB)) (heF : w.cell? ⟨4, 0, none⟩ = some (vEr eF)) (hal : Calls Tryd.prog 6 #[] w fun e w' => e = .returned (.bool true) ∧ Below w.heap.size w w') :
    Calls Tryd.prog 5 #[v] w fun e w' => e = .returned (.bool true) ∧ Below w.heap.size w w' := by
  obtain ⟨xa, xc, rfl, hxs⟩ := hx.at6
  have HXS := mkHid hxs
  have HAL := mkHid hal
  have HE := mkHid (And.intro heS (And.intro heL (And.intro heB heF)))
  clear hx hxs hal heS heL heB heF
  go_enter Tryd.func5, Tryd.ntmps5
  go_wp2_with (first
    | (go_at_call 6; refine HAL.out.mono ?_; rintro e w1 ⟨rfl, hb1⟩; have HB1 := mkHid hb1; clear hb1)
    | (go_at_call 7; refine (dnew_ok _ 60 (by omega) (by omega)).mono ?_; rintro e w2 ⟨p, F, rfl, hD2, hF2, hb2⟩; have HD2 := mkHid (And.intro hD2 (And.intro hF2 (HB1.out.trans (hb2.mono HB1.out.size)))); clear hD2 hF2 hb2)
    | (go_at_call 8; refine (format_ls (w := w) (wr := w2) (n := 60) (s := 29) HD2.out.1 HD2.out.2.2 (fun j hj => Nat.le_trans HB1.out.size (HD2.out.2.1 j hj)) (by omega) (by omega) (by omega) none 0 [] (rd_nil _) (by simp) npc_small eS eL eB eF HE.out.1 HE.out.2.1 HE.out.2.2.1 HE.out.2.2.2).mono ?_; rintro e w3 ⟨l, F3, FR3, nx3, f3, nw3, v3, ts3, rfl, hL3⟩; have HL3 := mkHid hL3; clear hL3)
    | (go_at_call 24; refine (epoch_is w3 l p 0 (0 + 29) nx3 1 v3 HL3.out.lg).mono ?_; rintro e w4 ⟨rfl, hw4⟩; rw [hw4]; clear hw4))
  go_loopw [5, 6, 40] (fun lv ev iv wr => ∃ (j l E G I : Nat) (F FR : Nat → Prop) (fr nx : Nat) (f : Int → List Int) (c : List (Int × List Int)) (nw : Int) (vv : Value) (ts : List Rp), iv = .int .i64 (j : Int) ∧ j ≤ xs.length ∧ j ≤ 101 ∧ lv = .pointer (some ⟨l, 0, none⟩) ∧ ev = .int .i64 (E : Int) ∧ E ≤ 1 + j ∧ G ≤ 1 + j ∧ I ≤ j ∧ Hid (LS w wr l p 60 29 E G I (1 + j) F FR fr nx f c nw vv ts)) (fun _ _ iv _ => xs.length - (intOf iv).toNat)
  case atStart => exact ⟨0, l, 1, 1, 0, F3, FR3, 0, nx3, f3, [], nw3, v3, ts3, rfl, Nat.zero_le _, by omega, rfl, rfl, by omega, by omega, by omega, HL3⟩
  case round =>
    clear HL3 HD2 HAL HB1
    obtain ⟨j, l1, E, G, I, F1, FR1, fr, nx, f, c, nw, vv, ts, rfl, hj, hj2, rfl, rfl, hE, hG, hI, HL⟩ := hrel
    by_cases hlt : j < xs.length
    · obtain ⟨b, off, rfl, hcs⟩ := HXS.out (by omega)
      obtain ⟨x, hxj⟩ : ∃ x, xs[j]? = some x := ⟨xs[j], List.getElem?_eq_getElem hlt⟩
      obtain ⟨c0, c1, c2, c3, hr⟩ := hcs j x hxj
      obtain ⟨ba, bc, hbv⟩ : ∃ ba bc, x.v = .slice ba x.bs.length bc := hr.2.imp fun a h => h.imp fun c h => h.1
      rw [hbv] at c3 hr
      have bl := HL.out.bl
      have d0 := cell_lat bl c0
      have d1 := cell_lat bl c1
      have d2 := cell_lat bl c2
      have d3 := cell_lat bl c3
      have HRD := mkHid (hr.later bl)
      obtain ⟨kd, nn, kp, xv, bs⟩ := x
      simp only at d0 d1 d2 d3 HRD
      clear c0 c1 c2 c3 hr hbv hcs bl hxj
      have hji : (j : Int) < xs.length := by omega
      by_cases h100 : 100 < j
      · have h100i : (100 : Int) < j := by omega
        go_wp2
        go_ret
        exact ⟨rfl, ba6 HL.out.bl _⟩
      · have h100i : ¬ (100 : Int) < j := by omega
        have hle : ¬ ((E + 1 : Nat) : Int) ≤ (E : Int) := by omega
        have hk : kd = 3 ∨ (¬ kd = 3 ∧ kd = 5) ∨ (¬ kd = 3 ∧ ¬ kd = 5 ∧ kd = 6) ∨ (¬ kd = 3 ∧ ¬ kd = 5 ∧ ¬ kd = 6 ∧ kd = 2) ∨ (¬ kd = 3 ∧ ¬ kd = 5 ∧ ¬ kd = 6 ∧ ¬ kd = 2) := by omega
        rcases hk with rfl | ⟨_, rfl⟩ | ⟨_, _, rfl⟩ | ⟨_, _, _, rfl⟩ | ⟨k1, k2, k3, k4⟩
        · go_wp2_with (go_at_call 12; refine (append_ls (HL.out.below ((Below.refl _ wr).alloc (Nat.le_refl _) _)) (by omega) (by omega) (by omega) (by omega) ba bc bs (HRD.out.later ((Below.refl _ wr).alloc (Nat.le_refl _) _)) eL eF HE.out.2.1 HE.out.2.2.2).mono ?_; rintro e w7 ⟨⟨ev, rfl⟩, F7, FR7, nx7, c7, nw7, v7, ts7, hL7⟩; have HL7 := mkHid hL7; clear hL7)
          go_roundw
          case rel => exact ⟨j + 1, l1, E, G, I + 1, F7, FR7, fr, nx7, f, c7, nw7, v7, ts7, by go_num, by omega, by omega, rfl, rfl, by omega, by omega, by omega, HL7⟩
          case measure => simp [intOf]; omega
        · go_wp2_with (go_at_call 16; refine (check_ls (HL.out.below ((Below.refl _ wr).alloc (Nat.le_refl _) _)) (by omega) (by omega) (by omega) (by omega) ba bc bs (HRD.out.later ((Below.refl _ wr).alloc (Nat.le_refl _) _)) eL eF HE.out.2.1 HE.out.2.2.2).mono ?_; rintro e w7 ⟨⟨ev, rfl⟩, F7, FR7, fr7, nx7, f7, c7, nw7, v7, ts7, hL7⟩; have HL7 := mkHid hL7; clear hL7)
          go_roundw
          case rel => exact ⟨j + 1, l1, E, G + 1, I, F7, FR7, fr7, nx7, f7, c7, nw7, v7, ts7, by go_num, by omega, by omega, rfl, rfl, by omega, by omega, by omega, HL7⟩
          case measure => simp [intOf]; omega
        · go_wp2_with (first
          | (go_at_call 20; refine (crash_ls (HL.out.below ((Below.refl _ wr).alloc (Nat.le_refl _) _)).disk (by omega) kp nn).mono ?_; rintro e w7 ⟨rfl, hD7⟩; have HD7 := mkHid hD7; clear hD7)
          | (go_at_call 21; refine (open_ls (HD7.out) (by omega) (by omega) (by omega) eS eL eB eF HE.out.1 HE.out.2.1 HE.out.2.2.1 HE.out.2.2.2).mono ?_; rintro e w8 ⟨l8, sv8, lv8, F8, FR8, fr8, nx8, f8, nw8, v8, ts8, rfl, hL8⟩; have HL8 := mkHid hL8; clear hL8)
          | (go_at_call 24; refine (epoch_is w8 l8 p fr8 (fr8 + 29) nx8 (E + 1) v8 HL8.out.lg).mono ?_; rintro e w9 ⟨rfl, hw9⟩; rw [hw9]; clear hw9))
          go_roundw
          case rel => exact ⟨j + 1, l8, E + 1, G, I, F8, FR8, fr8, nx8, f8, [], nw8, v8, ts8, by go_num, by omega, by omega, rfl, rfl, by omega, by omega, by omega, HL8⟩
          case measure => simp [intOf]; omega
        · go_wp2_with (first
          | (go_at_call 21; refine (open_ls ((HL.out.below ((Below.refl _ wr).alloc (Nat.le_refl _) _)).disk) (by omega) (by omega) (by omega) eS eL eB eF HE.out.1 HE.out.2.1 HE.out.2.2.1 HE.out.2.2.2).mono ?_; rintro e w8 ⟨l8, sv8, lv8, F8, FR8, fr8, nx8, f8, nw8, v8, ts8, rfl, hL8⟩; have HL8 := mkHid hL8; clear hL8)
          | (go_at_call 24; refine (epoch_is w8 l8 p fr8 (fr8 + 29) nx8 (E + 1) v8 HL8.out.lg).mono ?_; rintro e w9 ⟨rfl, hw9⟩; rw [hw9]; clear hw9))
          go_roundw
          case rel => exact ⟨j + 1, l8, E + 1, G, I, F8, FR8, fr8, nx8, f8, [], nw8, v8, ts8, by go_num, by omega, by omega, rfl, rfl, by omega, by omega, by omega, HL8⟩
          case measure => simp [intOf]; omega
        · go_wp2
          go_roundw
          case rel => exact ⟨j + 1, l1, E, G, I, F1, FR1, fr, nx, f, c, nw, vv, ts, by go_num, by omega, by omega, rfl, rfl, by omega, by omega, by omega, mkHid ((HL.out.below ((Below.refl _ wr).alloc (Nat.le_refl _) _)).more _ _ _ (Nat.le_refl _) (Nat.le_refl _) (by omega))⟩
          case measure => simp [intOf]; omega
    · obtain rfl : j = xs.length := by omega
      go_wp2
      go_ret
      exact ⟨rfl, HL.out.bl⟩
end Go.Proofs.YtcbimclgodkflaaDoor
