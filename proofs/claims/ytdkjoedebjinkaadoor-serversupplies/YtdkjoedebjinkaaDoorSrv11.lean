/- The law ServerDemands. -/
import Derived.Test.YtdkjoedebjinkaaDoorSrv10
namespace Go.Proofs.YtdkjoedebjinkaaDoor
open Go.ChangeShapes Go.WideShapes Go.ChangeAt Go.RowKit

set_option maxHeartbeats 3200000 in
theorem demands_no (W : World) (s : Sv) (m : Int) (al : Option Addr) (n cap : Nat) (a : Addr) (he : W.cell? ⟨0, 0, none⟩ = some (vE a)) (h : ¬ okN s m) : Calls Tryd.prog 4 #[vR s m (.slice al n cap)] W fun e w' => e = .returned (.bool true) ∧ Below W.heap.size W w' := by
  have HO := mkHid h
  have HE := mkHid he
  clear h he
  obtain ⟨k, q, t⟩ := s
  go_enter Tryd.func4, Tryd.ntmps4
  go_wp2_with (first | (go_at_call 9; refine (alive14 _ a (kl HE.out _)).mono ?_; rintro e w1 ⟨rfl, b1⟩; have hr := (rb_new W (k, q, t) m (.slice al n cap)).hold b1; have HB1 := mkHid (bt (ba (Below.refl _ _) _) b1); have x0 := hr.c0; have x1 := hr.c1; have x2 := hr.c2; have x3 := hr.c3; clear b1 hr) | (go_at_call 11; refine (legal_no _ (k, q, t) m HO.out).mono ?_; rintro e w2 ⟨rfl, b2⟩; have HB2 := mkHid (bt HB1.out b2); clear b2))
  go_ret
  exact ⟨rfl, HB2.out⟩
/-- A list of bools that is read. -/
def Bw (w : World) (v : Value) (f : Nat → Bool) (n : Nat) : Prop := ∃ a cap, v = .slice a n cap ∧ (0 < n → ∃ g, a = some ⟨g, 0, none⟩ ∧ ∀ i, i < n → w.cell? ⟨g, i, none⟩ = some (.bool (f i)))
theorem bw_of {w : World} {base : Nat} {v : Value} {f : Nat → Bool} {n : Nat} (h : w.ownsRow base 4 1 v n (((List.range n).map f).map Value.bool)) : Bw w v f n := by
  obtain ⟨a, cap, rfl⟩ := own_shape h
  refine ⟨a, cap, rfl, fun hp => ?_⟩
  rcases h.2 with ⟨e, e2⟩ | ⟨g, c, cur, e, _⟩
  · omega
  · simp at e
    obtain ⟨rfl, rfl⟩ := e
    refine ⟨g, rfl, fun i hi => ?_⟩
    rw [h.cellAt i (by omega)]
    simp [hi]
/-- The law's memory behind ran. -/
structure LD (W w : World) (R : Nat) (s : Sv) (m : Int) (v c : Value) (f : Nat → Bool) (n : Nat) : Prop where
  bel : Below W.heap.size W w
  rb : RB w R s m v
  bw : Bw w c f n
theorem LD.drewN {W w : World} {R : Nat} {s : Sv} {m : Int} {v c : Value} {f : Nat → Bool} {n : Nat} (h : LD W w R s m v c f n) (k : Nat) : LD W (w.drewN k) R s m v c f n := ⟨⟨h.bel.os, h.bel.tape, h.bel.output, h.bel.size, h.bel.block⟩, h.rb, h.bw⟩
set_option maxRecDepth 100000 in
set_option maxHeartbeats 12800000 in
theorem demands_yes (W : World) (s : Sv) (m : Int) (al : Option Addr) (cap : Nat) (ts : List Int) (a : Addr) (he : W.cell? ⟨0, 0, none⟩ = some (vE a)) (h : okN s m) (hI : Iw W (.slice al ts.length cap) ts) (hl : (ts.length : Int) ≤ 9223372036854775807) : Calls Tryd.prog 4 #[vR s m (.slice al ts.length cap)] W fun e w' => e = .returned (.bool true) ∧ Below W.heap.size W w' := by
  have HI := mkHid hI
  have HD := mkHid (fun (x : Nat) (j : Nat) => dem_most h.1 m (wkR ts) (chR ts) x j)
  clear hI
  have HE := mkHid he
  have HO := mkHid h
  clear he h
  obtain ⟨k, q, t⟩ := s
  go_enter Tryd.func4, Tryd.ntmps4
  go_wp2_with (first | (go_at_call 9; refine (alive14 _ a (kl HE.out _)).mono ?_; rintro e w1 ⟨rfl, b1⟩; have hr := (rb_new W (k, q, t) m (.slice al ts.length cap)).hold b1; have HR1 := mkHid hr; have HB1 := mkHid (bt (ba (Below.refl _ _) _) b1); have x0 := hr.c0; have x1 := hr.c1; have x2 := hr.c2; have x3 := hr.c3; clear b1 hr) | (go_at_call 11; refine (legal_yes _ (k, q, t) m HO.out).mono ?_; rintro e w2 ⟨rfl, b2⟩; have HB2 := mkHid (bt HB1.out b2); have hr := HR1.out.hold b2; have HR2 := mkHid hr; clear x0 x1 x2 x3; have x0 := hr.c0; have x1 := hr.c1; have x2 := hr.c2; have x3 := hr.c3; clear b2 hr) | (go_at_call 10; refine (new_ok _ (k, q, t) m HO.out).mono ?_; rintro e w3 ⟨b, rfl, hb3, hs3, b3⟩; have hr := HR2.out.hold b3; have HL3 : Hid (LW W w3 W.heap.size b (k, q, t) m (.slice al ts.length cap) false ⟨false, 0, m⟩ a) := mkHid ⟨bt HB2.out b3, Nat.le_trans HB2.out.size hb3, (by have := HR2.out.lt; omega), hr, hs3, kc (kc HE.out HB2.out) b3, World.block_lt_of_cell? W _ HE.out⟩; clear x0 x1 x2 x3; have x0 := hr.c0; have x1 := hr.c1; have x2 := hr.c2; have x3 := hr.c3; have x4 := hr.c4; clear b3 hr hs3 hb3) | (go_at_call 24; refine (ran_is W w3 b (k, q, t) m al cap ts a HL3.out.bel HL3.out.lb HL3.out.sb HL3.out.er HL3.out.el HO.out HI.out hl).mono ?_; rintro e w4 ⟨p, r, n, base, rfl, hn, b4, c4, hr⟩; have HN4 := mkHid hn; have HL4 : Hid (LD W w4 W.heap.size (k, q, t) m (.slice al ts.length cap) r _ n) := mkHid ⟨b4, (c4.block _ (by have := HL3.out.lb; have := HL3.out.ne; omega)).trans HL3.out.rb, bw_of hr⟩; clear hn b4 c4 hr x0 x1 x2 x3 x4; obtain ⟨ra, rc, hrr⟩ : ∃ ra rc, r = .slice ra n rc := (by obtain ⟨ra, rc, e, _⟩ := HL4.out.bw; exact ⟨ra, rc, e⟩); subst hrr))
  obtain ⟨hk, hm0, hm1⟩ := HO.out
  obtain ⟨g1, g2, g3, g4, g5⟩ := hk
  simp only at g1 g2 g3 g4 g5 HD
  have hn4 : (n : Int) ≤ 400 := by have := HN4.out; omega
  generalize chdS (k, q, t) m (wkR ts) (chR ts) = f at *
  have t0 : ¬ t = 0 := by omega
  go_loopw [40] (fun iv wr => ∃ (x : Nat), iv = .int .i64 (x : Int) ∧ x ≤ n ∧ Hid (LD W wr W.heap.size (k, q, t) m (.slice al ts.length cap) (.slice ra n rc) f n)) (fun iv _ => n - (intOf iv).toNat)
  case atStart => exact ⟨0, rfl, by omega, HL4⟩
  case round =>
    obtain ⟨x, rfl, hx, HL⟩ := hrel
    by_cases hlt : x < n
    · have hxi : (x : Int) < n := by omega
      go_wp2
      go_loopw [8, 9] (fun nv jv wr => ∃ (j : Nat), nv = .int .i64 (cnt f x j) ∧ jv = .int .i64 ((x + j : Nat) : Int) ∧ x + j ≤ n ∧ Hid (LD W wr W.heap.size (k, q, t) m (.slice al ts.length cap) (.slice ra n rc) f n)) (fun _ jv _ => n - (intOf jv).toNat)
      case atStart => exact ⟨0, rfl, by simp, by omega, HL⟩
      case round =>
        obtain ⟨j, rfl, rfl, hj, HL⟩ := hrel
        by_cases hjt : x + j < n
        · obtain ⟨g, hg, hcell⟩ : ∃ g, ra = some ⟨g, 0, none⟩ ∧ ∀ i, i < n → wr.cell? ⟨g, i, none⟩ = some (.bool (f i)) := by
            obtain ⟨a', c', e, hr⟩ := HL.out.bw
            simp at e
            obtain ⟨rfl, rfl⟩ := e
            exact hr (by omega)
          subst hg
          have hc := hcell (x + j) hjt
          have hji : ((x + j : Nat) : Int) < n := by omega
          have C0 := cnt_nonneg f x j
          have C1 := cnt_le f x j
          have hd := HD.out x j
          have x1 := HL.out.rb.c1
          have x2 := HL.out.rb.c2
          clear hcell
          obtain ⟨Dv, hDv⟩ : ∃ Dv, Dv = ((j : Int) + t) / t := ⟨_, rfl⟩
          rw [← hDv] at hd
          have D0 : 0 ≤ Dv := by rw [hDv]; exact Int.ediv_nonneg (by omega) (by omega)
          have D1 : Dv ≤ 700 := by rw [hDv]; exact Int.le_trans (Int.ediv_le_self _ (by omega)) (by omega)
          obtain ⟨P, hP⟩ : ∃ P, P = (Dv + 1) * q := ⟨_, rfl⟩
          have P0 : 0 ≤ P := by rw [hP]; exact Int.mul_nonneg (by omega) (by omega)
          have P1 : P ≤ 701 * 256 := by rw [hP]; exact Int.mul_le_mul (by omega) (by omega) (by omega) (by omega)
          rw [← hP] at hd
          have e1 : IntKind.i64.wrap (((x + j : Nat) : Int) - (x : Int)) = (j : Int) := by rw [show ((x + j : Nat) : Int) - (x : Int) = (j : Int) by omega]; exact wfit (by omega) (by omega)
          have e2 : IntKind.i64.wrap ((j : Int) + t) = (j : Int) + t := wfit (by omega) (by omega)
          have e3 : ((j : Int) + t).tdiv t = Dv := by rw [Int.tdiv_eq_ediv_of_nonneg (by omega), hDv]
          have e4 : IntKind.i64.wrap Dv = Dv := wfit (by omega) (by omega)
          have e5 : IntKind.i64.wrap (Dv + 1) = Dv + 1 := wfit (by omega) (by omega)
          have e6 : IntKind.i64.wrap ((Dv + 1) * q) = P := by rw [← hP]; exact wfit (by omega) (by omega)
          have HSM : Hid (x + (j + 1) ≤ n) := mkHid (by omega)
          have HMu : Hid (n - (x + (j + 1)) < n - (x + j)) := mkHid (by omega)
          have HXJ : Hid (((x + (j + 1) : Nat) : Int) = ((x + j : Nat) : Int) + 1) := mkHid (by omega)
          have C2 : cnt f x j ≤ 400 := by omega
          cases hf : f (x + j)
          · rw [cnt_no hf] at hd
            rw [hf] at hc
            have HC := mkHid (cnt_no hf)
            clear hf
            generalize hY : x + j = Y at *
            have HY := mkHid hY
            have Y1 : (Y : Int) ≤ 400 := by omega
            clear hDv hP hjt hj hlt hx C1 hY
            generalize cnt f x j = C at *
            have hd2 : decide (P < C) = false := decide_eq_false (by omega)
            clear hd
            go_wp2
            go_quiet (fail)
            have HL5 := mkHid (HL.out.drewN nq)
            go_wp2
            go_roundw
            case rel => exact ⟨j + 1, by rw [HC.out], by rw [HXJ.out], HSM.out, HL5⟩
            case measure => have := HMu.out; have := HY.out; simp [intOf]; omega
          · rw [cnt_yes hf] at hd
            rw [hf] at hc
            have HC := mkHid (cnt_yes hf)
            clear hf
            generalize hY : x + j = Y at *
            have HY := mkHid hY
            have Y1 : (Y : Int) ≤ 400 := by omega
            clear hDv hP hjt hj hlt hx C1 hY
            generalize cnt f x j = C at *
            have hd2 : decide (P < C + 1) = false := decide_eq_false (by omega)
            have e7 : IntKind.i64.wrap (C + 1) = C + 1 := wfit (by omega) (by omega)
            clear hd
            go_wp2
            go_quiet (fail)
            have HL5 := mkHid (HL.out.drewN nq)
            go_wp2
            go_roundw
            case rel => exact ⟨j + 1, by rw [HC.out], by rw [HXJ.out], HSM.out, HL5⟩
            case measure => have := HMu.out; have := HY.out; simp [intOf]; omega
        · have hge : ¬ ((x + j : Nat) : Int) < n := by omega
          have HMu : Hid (n - (x + 1) < n - x) := mkHid (by omega)
          have HXL : Hid (x + 1 ≤ n) := mkHid (by omega)
          generalize ((x + j : Nat) : Int) = Y at *
          clear hjt hj
          go_wp2
          go_roundw
          case rel => exact ⟨x + 1, by go_num, HXL.out, HL⟩
          case measure => exact HMu.out
    · have hge : ¬ (x : Int) < n := by omega
      clear hlt
      go_wp2
      go_ret
      exact ⟨rfl, HL.out.bel⟩
end Go.Proofs.YtdkjoedebjinkaaDoor
