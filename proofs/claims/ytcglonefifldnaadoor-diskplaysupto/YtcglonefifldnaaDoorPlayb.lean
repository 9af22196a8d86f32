/- play: the other calls. -/
import Derived.Test.YtcglonefifldnaaDoorPlay
namespace Go.Proofs.YtcglonefifldnaaDoor
open Go.ChangeShapes Go.WideShapes Go.ChangeAt Go.RowKit

theorem own_at {w : World} {base : Nat} {z : Value} {s : List Int} (hB : Byts s) (h : w.ownsRow base 5 1 z s.length (s.map (Value.int .u8))) : ∃ za zc, z = .slice za s.length zc ∧ (0 < s.length → ∃ g, za = some ⟨g, 0, none⟩ ∧ base ≤ g ∧ g < w.heap.size ∧ WB w g s.length) := by
  rcases h.2 with ⟨rfl, h0⟩ | ⟨g, cap, cur, rfl, _⟩
  · exact ⟨none, 0, by rw [h0], fun hp => by omega⟩
  · exact ⟨_, _, rfl, fun _ => ⟨g, rfl, (h.lt g rfl).1, (h.lt g rfl).2, WB.of_owns hB h⟩⟩
theorem rgot_byts {k : Int} {s : List Int} (h : Sec s) : Byts (rgot k s) := by
  unfold rgot
  split
  · exact h.byts
  · exact Byts.nil
set_option maxRecDepth 5000 in
set_option maxHeartbeats 12800000 in
theorem play_read (w0 wr : World) (p q n m : Nat) (lost : Bool) (f : Int → List Int) (c : List (Int × List Int)) (nw : Int) (F G : Nat → Prop) (fs fn : Int → List Int) (sb nb : Nat) (av dv : Value) (H : Nat → Prop) (xa xt xkeep : Int) (v : Value) (a : Nat → Addr) (E : Errs w0 a) (hS : PS w0 wr p q n m lost f c nw F G fs fn sb nb av dv H) (hm : m ≤ 100000000) :
    Calls Tryd.prog 11 #[.pointer (some ⟨p, 0, none⟩), .pointer (some ⟨q, 0, none⟩), .agg #[.int .i64 3, .int .i64 xa, .int .i64 xt, .int .u64 xkeep, v]] wr fun e w' => e = .returned (.bool true) ∧ PS w0 w' p q n m lost f c nw F G fs fn sb nb av dv H := by
  have HE := mkHid E
  have HS := mkHid hS
  have HLM : Hid (c.length ≤ 100000000) := mkHid (by have := hS.cl; omega)
  have hsec := hS.dk.seen_sec xa
  have hss : rgot (chk lost n xa) (fn xa) = rgot (chk lost n xa) (seenOf f c xa) := by
    cases lost with
    | true => rfl
    | false => rw [(hS.eq rfl).2]
  obtain ⟨s, hs⟩ : ∃ s, s = rgot (chk lost n xa) (seenOf f c xa) := ⟨_, rfl⟩
  have HB : Hid (Byts s) := mkHid (by rw [hs]; exact rgot_byts hsec)
  have HSL : Hid ((s.length : Int) ≤ 64) := mkHid (by rw [hs]; unfold rgot; split; (have := hsec.len; omega); simp)
  rw [← hs] at hss
  have HSS := mkHid hss
  have HSQ := mkHid hs
  clear hs
  clear E hS hss hsec
  obtain ⟨W1, hW1⟩ : ∃ W1, W1 = wr.alloc (.cells #[.int .i64 3, .int .i64 xa, .int .i64 xt, .int .u64 xkeep, v] 35) := ⟨_, rfl⟩
  have hb1 : Below wr.heap.size wr W1 := by rw [hW1]; exact (Below.refl _ wr).alloc (Nat.le_refl _) _
  have hz1 : W1.heap.size = wr.heap.size + 1 := by rw [hW1]; simp
  have HC : Hid (W1.cell? ⟨wr.heap.size, 1, none⟩ = some (.int .i64 xa)) := mkHid (by rw [hW1]; go_simp)
  have HS1 := mkHid (HS.out.late hb1)
  have HKEEP : Hid (∀ (w' : World), Below W1.heap.size W1 w' → w'.cell? ⟨wr.heap.size, 1, none⟩ = some (.int .i64 xa)) := mkHid (fun w' hb => (hb.cell (p := ⟨wr.heap.size, 1, none⟩) (by show wr.heap.size < W1.heap.size; omega)).trans HC.out)
  go_enter Tryd.func11, Tryd.ntmps11
  go_wp2_with (first
    | (go_at_call 20; rw [← hW1]; refine (dread_all F W1 p n f c nw lost xa a (HE.out.late HS1.out.bel) HS1.out.dk (by have := HLM.out; omega)).mono ?_; rintro e w2 ⟨z2, ev2, rfl, hE2, ho2, hb2⟩; have HE2 := mkHid hE2; have r1 := HKEEP.out w2 hb2; have HS2 := mkHid (HS1.out.late hb2); have HB2 := mkHid hb2; rw [← HSQ.out] at ho2; obtain ⟨za, zc, rfl, hza⟩ := own_at HB.out ho2; have HZA := mkHid hza; have HO2 := mkHid ho2; clear hE2 ho2 hb2 hza)
    | (go_at_call 23; refine (rread_all G w2 q n fs fn c nw lost sb nb av dv H xa HS2.out.rk).mono ?_; rintro r w3 ⟨z3, rfl, ho3, hb3⟩; rw [HSS.out] at ho3; have HS3 := mkHid (HS2.out.late hb3); have hcv3 := (Rd.of_owns HB.out ho3).conv; have hcv2 := ((Rd.of_owns HB.out HO2.out).later hb3).conv; have HB3 := mkHid hb3; clear ho3 hb3)
    | (go_at_call 9; refine (errnum_no w3 a (HE.out.late HS3.out.bel) _ _ HE2.out).mono ?_; rintro e w4 ⟨rfl, hb4⟩; have HS4 := mkHid (HS3.out.late hb4); have HB4 := mkHid hb4; clear hb4))
  have HZ4 : Hid (0 < s.length → ∃ g, za = some ⟨g, 0, none⟩ ∧ w0.heap.size ≤ g ∧ (¬ F g ∧ ¬ G g) ∧ WB w4 g s.length) := mkHid (fun hp => by
    obtain ⟨g, hg, h1, h2, h3⟩ := HZA.out hp
    have hb24 : Below w2.heap.size w2 w4 := HB3.out.trans (HB4.out.mono HB3.out.size)
    exact ⟨g, hg, by have := HS1.out.bel.size; omega, ⟨fun e => by have := HS1.out.dk.1 g e; omega, fun e => by have := HS1.out.rk.lt g e; omega⟩, h3.kept (kept_of_below hb24) (by omega)⟩)
  have hsl : (s.length : Int) ≤ 64 := HSL.out
  clear HO2 HZA HSS HSQ HS1 HS2 HS3 HB2 HB3 HB4 HKEEP HC hcv2 hcv3 hW1 hb1
  go_loopw [93] (fun iv wq => ∃ j : Nat, iv = .int .i64 (j : Int) ∧ j ≤ s.length ∧ PS w0 wq p q n m lost f c nw F G fs fn sb nb av dv H ∧ (0 < s.length → ∃ g, za = some ⟨g, 0, none⟩ ∧ w0.heap.size ≤ g ∧ (¬ F g ∧ ¬ G g) ∧ WB wq g s.length)) (fun iv _ => s.length - (intOf iv).toNat)
  case atStart => exact ⟨0, rfl, Nat.zero_le _, HS4.out, HZ4.out⟩
  case round =>
    clear HS4 HZ4
    obtain ⟨j, rfl, hj, hP, hW⟩ := hrel
    by_cases hjl : j < s.length
    · have hji : (j : Int) < (s.length : Int) := by omega
      obtain ⟨g, rfl, hg0, ⟨hgF, hgG⟩, hW⟩ := hW (by omega)
      obtain ⟨x, cx, fx, x0, x1⟩ := hW.at hjl
      obtain ⟨y, hy, y0, y1⟩ := xor77 x ⟨x0, x1⟩
      have HP := mkHid (hP.other (Kept.setCell (F := fun k => k = g) wr (p := ⟨g, j, none⟩) rfl (.int .u8 y)) hg0 hgF hgG)
      have HW := mkHid (hW.set (k := j) ⟨y0, y1⟩)
      clear hP hW
      go_wp2
      go_roundw
      case rel => exact ⟨j + 1, by go_num, by omega, HP.out, fun _ => ⟨g, rfl, hg0, ⟨hgF, hgG⟩, HW.out⟩⟩
      case measure => simp [intOf]; omega
    · have hji : ¬ (j : Int) < (s.length : Int) := by omega
      have HP := mkHid hP
      clear hP hW
      go_wp2
      go_ret
      exact ⟨rfl, HP.out⟩
set_option maxHeartbeats 6400000 in
theorem play_flush (w0 wr : World) (p q n m : Nat) (lost : Bool) (f : Int → List Int) (c : List (Int × List Int)) (nw : Int) (F G : Nat → Prop) (fs fn : Int → List Int) (sb nb : Nat) (av dv : Value) (H : Nat → Prop) (xa xt xkeep : Int) (v : Value) (a : Nat → Addr) (E : Errs w0 a) (hS : PS w0 wr p q n m lost f c nw F G fs fn sb nb av dv H) (hm : m ≤ 100000000) :
    Calls Tryd.prog 11 #[.pointer (some ⟨p, 0, none⟩), .pointer (some ⟨q, 0, none⟩), .agg #[.int .i64 4, .int .i64 xa, .int .i64 xt, .int .u64 xkeep, v]] wr (PlayPost w0 p q n (m + 1) sb nb) := by
  have HE := mkHid E
  have HLM : Hid (c.length ≤ 100000000) := mkHid (by have := hS.cl; omega)
  have HFL : Hid (lost = false → flushed f c = seenOf f c) := mkHid (fun _ => by obtain ⟨_, _, hc, _, _, _, _, _, hM, _⟩ := hS.dk; exact flushed_seen f hM.1 c hc)
  obtain ⟨W1, hW1⟩ : ∃ W1, W1 = wr.alloc (.cells #[.int .i64 4, .int .i64 xa, .int .i64 xt, .int .u64 xkeep, v] 35) := ⟨_, rfl⟩
  have HS1 : Hid (PS w0 W1 p q n m lost f c nw F G fs fn sb nb av dv H) := mkHid (hS.late (by rw [hW1]; exact (Below.refl _ wr).alloc (Nat.le_refl _) _))
  clear E hS
  go_enter Tryd.func11, Tryd.ntmps11
  go_wp2_with (first
    | (go_at_call 18; rw [← hW1]; refine (dflush_all F W1 p n f c nw lost a (HE.out.late HS1.out.bel) HS1.out.dk (by have := HLM.out; omega)).mono ?_; rintro e w2 ⟨ev2, rfl, hE2, hD2, hk2⟩; have HE2 := mkHid hE2; have HD2 := mkHid hD2; have HK2 := mkHid hk2; have HB2 := mkHid (HS1.out.mid hk2 (Below.refl _ w2)).2; clear hE2 hD2 hk2)
    | (go_at_call 9; refine (errnum_no w2 a (HE.out.late HB2.out) _ _ HE2.out).mono ?_; rintro e w3 ⟨rfl, hb3⟩; have HM3 := mkHid (HS1.out.mid HK2.out hb3); have HB3 := mkHid hb3; clear hb3)
    | (go_at_call 24; refine (rflush_all G w3 q n fs fn c nw lost sb nb av dv H HM3.out.1).mono ?_; rintro r w4 ⟨rfl, av4, dv4, H4, hR4, hk4⟩; have HP4 := mkHid (HS1.out.two (m' := m + 1) HD2.out (fun _ e => .inl e) HK2.out HB3.out hR4 (fun _ e => .inl e) hk4 (fun hl => by subst hl; have h1 := HS1.out.eq rfl; have h2 := HFL.out rfl; exact ⟨by rw [h2]; exact h1.2, by rw [h2]; exact h1.2⟩) (by have := HS1.out.cl; split <;> simp <;> omega) (by have := HS1.out.nn; omega)); clear hR4 hk4))
  go_ret
  exact ⟨rfl, lost, _, _, _, F, G, _, _, av4, dv4, H4, HP4.out⟩
set_option maxHeartbeats 6400000 in
theorem play_crash (w0 wr : World) (p q n m : Nat) (lost : Bool) (f : Int → List Int) (c : List (Int × List Int)) (nw : Int) (F G : Nat → Prop) (fs fn : Int → List Int) (sb nb : Nat) (av dv : Value) (H : Nat → Prop) (xa xt xkeep : Int) (v : Value) (hS : PS w0 wr p q n m lost f c nw F G fs fn sb nb av dv H) (hm : m ≤ 100000000) (hk0 : 0 ≤ xkeep) (hk1 : xkeep ≤ 18446744073709551615) :
    Calls Tryd.prog 11 #[.pointer (some ⟨p, 0, none⟩), .pointer (some ⟨q, 0, none⟩), .agg #[.int .i64 5, .int .i64 xa, .int .i64 xt, .int .u64 xkeep, v]] wr (PlayPost w0 p q n (m + 1) sb nb) := by
  have HLM : Hid (c.length ≤ 100000000) := mkHid (by have := hS.cl; omega)
  obtain ⟨W1, hW1⟩ : ∃ W1, W1 = wr.alloc (.cells #[.int .i64 5, .int .i64 xa, .int .i64 xt, .int .u64 xkeep, v] 35) := ⟨_, rfl⟩
  have HS1 : Hid (PS w0 W1 p q n m lost f c nw F G fs fn sb nb av dv H) := mkHid (hS.late (by rw [hW1]; exact (Below.refl _ wr).alloc (Nat.le_refl _) _))
  have q2 : W1.cell? ⟨wr.heap.size, 2, none⟩ = some (.int .i64 xt) := by rw [hW1]; go_simp
  have q3 : W1.cell? ⟨wr.heap.size, 3, none⟩ = some (.int .u64 xkeep) := by rw [hW1]; go_simp
  have HOP : Hid (¬ F wr.heap.size) := mkHid (fun e => by have := hS.dk.1 _ e; omega)
  have HQ := mkHid (And.intro q2 q3)
  clear hS q2 q3
  go_enter Tryd.func11, Tryd.ntmps11
  go_wp2_with (first
    | (go_at_call 19; rw [← hW1]; refine (crash_any F W1 p n f c nw lost xkeep xt HS1.out.dk (by have := HLM.out; omega)).mono ?_; rintro e w2 ⟨rfl, hD2, hk2⟩; have HD2 := mkHid hD2; have HK2 := mkHid hk2; have HM2 := mkHid (HS1.out.mid hk2 (Below.refl _ w2)); have r2 := hk2.cell HQ.out.1 HOP.out; have r3 := hk2.cell HQ.out.2 HOP.out; clear hD2 hk2)
    | (go_at_call 25; refine (rcrash_any G w2 q n fs fn c nw lost sb nb av dv H xkeep xt hk0 hk1 HM2.out.1 (by have := HLM.out; omega)).mono ?_; rintro r w4 ⟨rfl, hR4, hk4⟩; have HP4 := mkHid (HS1.out.two (m' := m + 1) HD2.out (fun _ e => .inl e) HK2.out (Below.refl _ w2) hR4 (fun _ e => .inl e) hk4 (fun hl => by have h1 := HS1.out.eq hl; exact ⟨by rw [h1.1], by rw [h1.1]; rfl⟩) (by simp) (by have := HS1.out.nn; omega)); clear hR4 hk4))
  go_ret
  exact ⟨rfl, lost, _, _, _, F, G, _, _, _, _, _, HP4.out⟩
set_option maxHeartbeats 6400000 in
theorem play_lose (w0 wr : World) (p q n m : Nat) (lost : Bool) (f : Int → List Int) (c : List (Int × List Int)) (nw : Int) (F G : Nat → Prop) (fs fn : Int → List Int) (sb nb : Nat) (av dv : Value) (H : Nat → Prop) (xa xt xkeep : Int) (v : Value) (hS : PS w0 wr p q n m lost f c nw F G fs fn sb nb av dv H) :
    Calls Tryd.prog 11 #[.pointer (some ⟨p, 0, none⟩), .pointer (some ⟨q, 0, none⟩), .agg #[.int .i64 6, .int .i64 xa, .int .i64 xt, .int .u64 xkeep, v]] wr (PlayPost w0 p q n (m + 1) sb nb) := by
  obtain ⟨W1, hW1⟩ : ∃ W1, W1 = wr.alloc (.cells #[.int .i64 6, .int .i64 xa, .int .i64 xt, .int .u64 xkeep, v] 35) := ⟨_, rfl⟩
  have HS1 : Hid (PS w0 W1 p q n m lost f c nw F G fs fn sb nb av dv H) := mkHid (hS.late (by rw [hW1]; exact (Below.refl _ wr).alloc (Nat.le_refl _) _))
  clear hS
  go_enter Tryd.func11, Tryd.ntmps11
  go_wp2_with (first
    | (go_at_call 26; rw [← hW1]; refine (dlose_any F W1 p n f c nw lost HS1.out.dk).mono ?_; rintro e w2 ⟨rfl, hD2, hk2⟩; have HD2 := mkHid hD2; have HK2 := mkHid hk2; have HM2 := mkHid (HS1.out.mid hk2 (Below.refl _ w2)); clear hD2 hk2)
    | (go_at_call 27; refine (rlose_any G w2 q n fs fn c nw lost sb nb av dv H HM2.out.1).mono ?_; rintro r w4 ⟨rfl, hR4, hk4⟩; have HP4 := mkHid (HS1.out.two (m' := m + 1) HD2.out (fun _ e => .inl e) HK2.out (Below.refl _ w2) hR4 (fun _ e => .inl e) hk4 (fun hl => by cases hl) (by simp) (by have := HS1.out.nn; omega)); clear hR4 hk4))
  go_ret
  exact ⟨rfl, true, _, _, _, F, G, _, _, _, _, _, HP4.out⟩
set_option maxHeartbeats 6400000 in
theorem play_none (w0 wr : World) (p q n m : Nat) (lost : Bool) (f : Int → List Int) (c : List (Int × List Int)) (nw : Int) (F G : Nat → Prop) (fs fn : Int → List Int) (sb nb : Nat) (av dv : Value) (H : Nat → Prop) (xk xa xt xkeep : Int) (v : Value) (hS : PS w0 wr p q n m lost f c nw F G fs fn sb nb av dv H) (h1 : xk ≠ 1) (h2 : xk ≠ 2) (h3 : xk ≠ 3) (h4 : xk ≠ 4) (h5 : xk ≠ 5) (h6 : xk ≠ 6) :
    Calls Tryd.prog 11 #[.pointer (some ⟨p, 0, none⟩), .pointer (some ⟨q, 0, none⟩), .agg #[.int .i64 xk, .int .i64 xa, .int .i64 xt, .int .u64 xkeep, v]] wr (PlayPost w0 p q n (m + 1) sb nb) := by
  have HS1 := mkHid (hS.late ((Below.refl _ wr).alloc (Nat.le_refl _) (.cells #[.int .i64 xk, .int .i64 xa, .int .i64 xt, .int .u64 xkeep, v] 35)))
  clear hS
  go_enter Tryd.func11, Tryd.ntmps11
  go_wp2
  go_ret
  exact ⟨rfl, lost, _, _, _, F, G, _, _, _, _, _, HS1.out.up⟩
/-- One call by both, whatever it is. -/
theorem play_any (w0 wr : World) (p q n m : Nat) (lost : Bool) (f : Int → List Int) (c : List (Int × List Int)) (nw : Int) (F G : Nat → Prop) (fs fn : Int → List Int) (sb nb : Nat) (av dv : Value) (H : Nat → Prop) (xk xa xt xkeep : Int) (v : Value) (bs : List Int) (a : Nat → Addr) (E : Errs w0 a) (hS : PS w0 wr p q n m lost f c nw F G fs fn sb nb av dv H) (hv : Rd wr v bs) (hbl : (bs.length : Int) ≤ 140737488355300) (hm : m ≤ 100000000) (hk0 : 0 ≤ xkeep) (hk1 : xkeep ≤ 18446744073709551615) :
    Calls Tryd.prog 11 #[.pointer (some ⟨p, 0, none⟩), .pointer (some ⟨q, 0, none⟩), .agg #[.int .i64 xk, .int .i64 xa, .int .i64 xt, .int .u64 xkeep, v]] wr (PlayPost w0 p q n (m + 1) sb nb) := by
  by_cases h12 : xk = 1 ∨ xk = 2
  · exact play_write w0 wr p q n m lost f c nw F G fs fn sb nb av dv H xk xa xt xkeep v bs a E hS hv hbl hm h12
  · by_cases h3 : xk = 3
    · subst h3
      refine (play_read w0 wr p q n m lost f c nw F G fs fn sb nb av dv H xa xt xkeep v a E hS hm).mono ?_
      rintro e w' ⟨rfl, hP⟩
      exact ⟨rfl, lost, f, c, nw, F, G, fs, fn, av, dv, H, hP.up⟩
    · by_cases h4 : xk = 4
      · subst h4
        exact play_flush w0 wr p q n m lost f c nw F G fs fn sb nb av dv H xa xt xkeep v a E hS hm
      · by_cases h5 : xk = 5
        · subst h5
          exact play_crash w0 wr p q n m lost f c nw F G fs fn sb nb av dv H xa xt xkeep v hS hm hk0 hk1
        · by_cases h6 : xk = 6
          · subst h6
            exact play_lose w0 wr p q n m lost f c nw F G fs fn sb nb av dv H xa xt xkeep v hS
          · exact play_none w0 wr p q n m lost f c nw F G fs fn sb nb av dv H xk xa xt xkeep v hS (by omega) (by omega) h3 h4 h5 h6
end Go.Proofs.YtcglonefifldnaaDoor
