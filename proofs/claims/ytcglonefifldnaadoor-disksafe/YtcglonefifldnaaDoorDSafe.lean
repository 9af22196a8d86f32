/- DiskSafe: behind a crash each half of a sector is that of what was flushed last or of one that was written behind it. -/
import Derived.Test.YtcglonefifldnaaDoorSafeSt
import Derived.BigQuiet
namespace Go.Proofs.YtcglonefifldnaaDoor
open Go.ChangeShapes Go.WideShapes Go.ChangeAt Go.RowKit

theorem byts9 : Byts [9] := by intro b hb; simp at hb; omega
theorem nine_sec : Sec nine := filledB_sec byts9
theorem filled_nil : filledB [] = zeros := rfl
theorem sm_start {w w2 w3 : World} {p g3 : Nat} {F : Nat → Prop} (h2 : DS w w2 p 3 (fun _ => zeros) [] 0 F) (h3 : DS w w3 p 3 (fun _ => zeros) [] 0 F) (hr : Rd w3 (.slice (some ⟨g3, 0, none⟩) 64 64) (filledB [])) (hg : w2.heap.size ≤ g3 ∧ g3 < w3.heap.size) :
    SM w (w3.alloc (.cells #[] 33)) p F (fun _ => zeros) [] 0 (.slice (some ⟨g3, 0, none⟩) 64 64) (filledB []) (.slice (some ⟨w3.heap.size, 0, none⟩) 0 0) [] (fun _ => False) := by
  have h1 := World.ownsRow_made (base := w.heap.size) (e := 33) (size := 1) w3 #[] 0 h3.bel.size (by unfold maxLen; omega) rfl
  refine ⟨h3.late ((Below.refl _ w3).alloc (Nat.le_refl _) _), hr.alloc _, ⟨[], h1, trivial, fun k _ h => h⟩, fun k h => h.elim, fun k hk => ?_, fun k hk => ⟨h1.lt k hk, fun hf => ?_⟩⟩
  · simp [Value.ownBlock] at hk
    subst hk
    exact ⟨by simp; omega, fun hf => by have := h2.dk.1 _ hf; omega, by simp [Value.ownBlock]; omega⟩
  · simp [Value.ownBlock] at hk
    subst hk
    have := h3.dk.1 _ hf
    omega
theorem cell_lat {w w' : World} {a : Addr} {v : Value} (hb : Below w.heap.size w w') (h : w.cell? a = some v) : w'.cell? a = some v :=
  (kept_of_below hb).cell h (by have := World.block_lt_of_cell? w _ h; omega)
theorem rd_nil (w : World) : Rd w (.slice none 0 0) [] := ⟨Byts.nil, none, 0, rfl, by simp, fun _ => rfl, fun hp => by simp at hp⟩
theorem Rd.lenS {w : World} {v : Value} {bs : List Int} (h : Rd w v bs) : ∀ (W : World), (Builtin.len_ #[33] 3 #[v]).run Tryd.prog W = .ok (.int .i64 (bs.length : Int)) W := by
  obtain ⟨_, a, c, rfl, _⟩ := h
  intro W
  go_simp
theorem half_eq (s : List Int) (h f t : Nat) (hf : f = 32 * h) (ht : t - f = 32) : (s.drop f).take (t - f) = half s h := by rw [ht, hf]; rfl
/-- What is held while the halves are looked at: the bytes that were read, the base and the later writes. -/
structure TL (w wr : World) (bv : Value) (base : List Int) (lv : Value) (ls : List (List Int)) (H : Nat → Prop) (zv : Value) (s : List Int) : Prop where
  bel : Below w.heap.size w wr
  rb : Rd wr bv base
  rl : Lst H w.heap.size wr lv ls
  hH : ∀ k, H k → k < wr.heap.size
  rz : Rd wr zv s
theorem TL.late {w wr w' : World} {bv : Value} {base : List Int} {lv : Value} {ls : List (List Int)} {H : Nat → Prop} {zv : Value} {s : List Int} (h : TL w wr bv base lv ls H zv s) (hb : Below wr.heap.size wr w') : TL w w' bv base lv ls H zv s :=
  ⟨h.bel.trans (hb.mono h.bel.size), h.rb.later hb, h.rl.late h.hH hb, fun k e => Nat.lt_of_lt_of_le (h.hH k e) hb.size, h.rz.later hb⟩
theorem TL.at {w wr : World} {bv : Value} {base : List Int} {la : Option Addr} {n lc : Nat} {ls : List (List Int)} {H : Nat → Prop} {zv : Value} {s : List Int} (h : TL w wr bv base (.slice la n lc) ls H zv s) (k : Nat) (hk : k < ls.length) : ∃ gl u, la = some ⟨gl, 0, none⟩ ∧ wr.cell? ⟨gl, k, none⟩ = some u ∧ Rd wr u (ls.getD k []) := by
  obtain ⟨vs, ho, hra, _⟩ := h.rl
  obtain ⟨u, hu, hr, _⟩ := hra.at k hk
  rcases ho.2 with ⟨_, h0⟩ | ⟨g, cap, cur, e, _⟩
  · omega
  · simp at e
    obtain ⟨rfl, rfl, rfl⟩ := e
    have := ho.cells (g := g) rfl k u hu
    rw [add_none, Nat.zero_add] at this
    exact ⟨g, u, rfl, this, hr⟩
set_option maxRecDepth 5000 in
set_option maxHeartbeats 12800000 in
theorem safe_walk (w : World) (va : Value) (fl to ke : Int) (ps : List (List Int)) (hA : LRd w va ps) (_ : (ps.length : Int) ≤ 9223372036854775807) (hpp : ∀ p ∈ ps, (p.length : Int) ≤ 9223372036854775807) :
    Calls Tryd.prog 4 #[.agg #[va, .int .i64 fl, .int .i64 to, .int .u64 ke]] w fun e w' => e = .returned (.bool true) ∧ Below w.heap.size w w' := by
  obtain ⟨i1, hj, hy0, hy1, hy2⟩ := info_parts Tryd.info33
  obtain ⟨av, cap, rfl⟩ : ∃ a c, va = .slice a ps.length c := hA.imp fun a h => h.imp fun c h => h.1
  have HA := mkHid hA
  have HPP := mkHid hpp
  have HB0 : Hid (Below w.heap.size w (w.alloc (.cells #[.slice av ps.length cap, .int .i64 fl, .int .i64 to, .int .u64 ke] 44))) := mkHid ((Below.refl _ w).alloc (Nat.le_refl _) _)
  clear hA hpp
  go_enter Tryd.func4, Tryd.ntmps4
  go_wp2
  obtain ⟨W0, hW0⟩ : ∃ W0, W0 = w.alloc (.cells #[.slice av ps.length cap, .int .i64 fl, .int .i64 to, .int .u64 ke] 44) := ⟨_, rfl⟩
  have q0 : W0.cell? ⟨w.heap.size, 0, none⟩ = some (.slice av ps.length cap) := by rw [hW0]; go_simp
  have q1 : W0.cell? ⟨w.heap.size, 1, none⟩ = some (.int .i64 fl) := by rw [hW0]; go_simp
  have q2 : W0.cell? ⟨w.heap.size, 2, none⟩ = some (.int .i64 to) := by rw [hW0]; go_simp
  have q3 : W0.cell? ⟨w.heap.size, 3, none⟩ = some (.int .u64 ke) := by rw [hW0]; go_simp
  rw [← hW0] at HB0 ⊢
  clear hW0
  go_quiet (fail)
  obtain ⟨W1, hW1⟩ : ∃ W1, W1 = W0.drewN nq := ⟨_, rfl⟩
  have HB1 : Hid (Below w.heap.size w W1) := mkHid (by rw [hW1]; exact below_drewN HB0.out nq)
  rw [← hW1]
  clear hW1 q0 q1 q2 q3 HB0
  go_wp2_with (first
    | (go_at_call 7; refine (alive_d _).mono ?_; rintro e w1 ⟨rfl, hb1⟩; have HB1' := mkHid (HB1.out.trans (hb1.mono HB1.out.size)); clear hb1 HB1)
    | (go_at_call 8; refine (dnew_ok _ 3 (by omega) (by omega)).mono ?_; rintro e w2 ⟨p, F, rfl, hD2, hF2, hb2⟩; have HS2 : Hid (DS w w2 p 3 (fun _ => zeros) [] 0 F) := mkHid ⟨hD2, HB1'.out.trans (hb2.mono HB1'.out.size), fun k hk => Nat.le_trans HB1'.out.size (hF2 k hk)⟩; clear hD2 hF2 HB1' hb2)
    | (go_at_call 16; refine (filled_any w2 _ [] (rd_nil w2) (by simp)).mono ?_; rintro e w3 ⟨g3, rfl, ho3, hb3⟩; have HR3 := mkHid (filled_rd Byts.nil ho3); have HV3 := mkHid (ho3.lt g3 rfl); have HS3 := mkHid (HS2.out.late hb3); clear ho3 hb3))
  have HM0 := mkHid (sm_start HS2.out HS3.out HR3.out HV3.out)
  have HN0 : Hid (SN (fun _ => zeros) [] 0 (filledB []) [] 0) := mkHid ⟨rfl, rfl, rfl, zeros_sec, by simp, by simp, by simp⟩
  clear HS2 HS3 HR3 HV3
  go_loopw [9, 10, 44] (fun bv lv iv wr => ∃ (j : Nat) (F : Nat → Prop) (f : Int → List Int) (c : List (Int × List Int)) (nw : Int) (base : List Int) (ls : List (List Int)) (H : Nat → Prop), iv = .int .i64 (j : Int) ∧ j ≤ ps.length ∧ j ≤ 101 ∧ SM w wr p F f c nw bv base lv ls H ∧ SN f c nw base ls j) (fun _ _ iv _ => ps.length - (intOf iv).toNat)
  case atStart => exact ⟨0, F, _, _, _, _, _, _, rfl, Nat.zero_le _, by omega, HM0.out, HN0.out⟩
  case round =>
    clear HM0 HN0
    obtain ⟨j, G, f, c, nw, base, ls, H, rfl, hjl, hj1, hM, hN⟩ := hrel
    obtain ⟨la, lc, rfl⟩ : ∃ a c, u10 = .slice a ls.length c := by obtain ⟨vs, ho, _⟩ := hM.rl; exact own_shape ho
    obtain ⟨ba, bc, rfl⟩ : ∃ a c, u9 = .slice a base.length c := hM.rb.2.imp fun a h => h.imp fun c h => h.1
    have HM := mkHid hM
    have HN := mkHid hN
    clear hM hN
    by_cases hlt : (j : Int) < ps.length ∧ ¬ (100 : Int) < j
    · obtain ⟨hji, hj0⟩ := hlt
      obtain ⟨b, off, xa, xc, rfl, hcell, hrd, _⟩ := HA.out.at (Below.refl _ w) j (by omega)
      have hce := cell_lat HM.out.ds.bel hcell
      have HPL : Hid (((ps.getD j []).length : Int) ≤ 9223372036854775807) := mkHid (HPP.out _ (by have : j < ps.length := (by omega); simp [List.getD, this]))
      generalize ps.getD j [] = x at *
      have HR := mkHid hrd
      have HSX : Hid (Sec (filledB x)) := mkHid (filledB_sec hrd.1)
      have hcl := HN.out.clen
      have hnn := HN.out.nn
      have HLL : Hid (ls.length + 1 ≤ maxLen ∧ (ls.length + 1) * 24 ≤ 140737488355328) := mkHid (by have := HN.out.cl; unfold maxLen; omega)
      have HCL : Hid (c.length ≤ 1000 ∧ (0 ≤ nw ∧ nw ≤ 1000)) := mkHid (by omega)
      clear hrd hcell hcl hnn
      have M1 : Hid True := trivial
      have M2 : Hid True := trivial
      have M3 : Hid True := trivial
      have M4 : Hid True := trivial
      have M5 : Hid True := trivial
      have hfe : ((j : Int) == fl) = true ∨ ((j : Int) == fl) = false := by cases ((j : Int) == fl) <;> simp
      rcases hfe with hfe | hfe
      all_goals
        go_wp2_with (first
          | (go_at_call 16; clear M1; refine (filled_any wr _ x (HR.out.later HM.out.ds.bel) HPL.out).mono ?_; rintro e w2 ⟨g2, rfl, ho2, hb2⟩; have HR2 := mkHid (filled_rd HR.out.1 ho2); have HM2 := mkHid (HM.out.late hb2); clear ho2 hb2)
          | (go_at_call 17; clear M2; refine (write_ok G w2 p 3 f c nw 1 _ (filledB x) HM2.out.ds.dk (by omega) (by omega) HR2.out HSX.out.len (by have := HCL.out.1; omega) (by have := HCL.out.2; omega)).mono ?_; rintro e w3 ⟨rfl, F3, hD3, hF3, hk3⟩; have HM3 := mkHid (HM2.out.next hD3 hF3 hk3); clear hD3 hF3 hk3 HR2)
          | (go_at_call 16; clear M3; refine (filled_any _ _ [9] (rd_byte w3 9 (by omega)) (by simp)).mono ?_; rintro e w4 ⟨g4, rfl, ho4, hb4⟩; have HR4 := mkHid (filled_rd byts9 ho4); have HM4 := mkHid (HM3.out.late (((Below.refl _ w3).alloc (Nat.le_refl _) _).trans (hb4.mono (by simp)))); clear ho4 hb4)
          | (go_at_call 17; clear M4; refine (write_ok F3 w4 p 3 f _ _ 2 _ nine HM4.out.ds.dk (by omega) (by omega) HR4.out nine_sec.len (by have := HCL.out.1; simp; omega) (by have := HCL.out.2; omega)).mono ?_; rintro e w5 ⟨rfl, F5, hD5, hF5, hk5⟩; have HM5 := mkHid (HM4.out.next hD5 hF5 hk5); clear hD5 hF5 hk5 HR4)
          | (go_at_call 16; clear M5; refine (filled_any w5 _ x (HR.out.later HM5.out.ds.bel) HPL.out).mono ?_; rintro e w6 ⟨g6, rfl, ho6, hb6⟩; have HR6 := mkHid (filled_rd HR.out.1 ho6); have HV6 : Hid (∀ k, (Value.slice (some ⟨g6, 0, none⟩) 64 64).ownBlock = some k → w5.heap.size ≤ k ∧ k < w6.heap.size) := mkHid (fun k hk => ho6.lt k hk); obtain ⟨vs, hlo, hlr, _⟩ := (HM5.out.late hb6).rl; have hsz6 := (HM5.out.late hb6).ds.bel.size; have HB6 := mkHid hb6; have HLR := mkHid hlr; clear ho6 hb6 hlr)
          | (at_builtin; refine wpList_append_srcV _ rfl (.tmp 63) (.tmp 66) 39 39 rfl w.heap.size 33 i1 Tryd.underlying39 hj (.slice none 0 0) 24 hy0 rfl hy1 hy2 _ _ _ rfl (hlo.alloc _) _ _ _ rfl (src_oneV w6 _ HR6.out.one) HLL.out.1 HLL.out.2 (by simp; omega) ?_; intro v7 w7 ho7 hg7 hat7; have HM7 := mkHid (HM5.out.put HB6.out HLR.out HR6.out HV6.out ho7 hg7 hat7); have HN7 := mkHid (HN.out.put HSX.out); obtain ⟨l7, c7, rfl⟩ := own_shape ho7; clear ho7 hg7 hat7 hlo)
          | (go_at_call 18; refine (flush_ok F5 w7 p 3 f _ _ HM7.out.ds.dk (by have := HCL.out.1; simp; omega)).mono ?_; rintro e w8 ⟨rfl, hD8, hk8⟩; have HM8 := mkHid (HM7.out.next hD8 (fun _ h => .inl h) hk8); clear hD8 hk8)
          | (go_at_call 16; refine (filled_any w8 _ x (HR.out.later HM8.out.ds.bel) HPL.out).mono ?_; rintro e w9 ⟨g9, rfl, ho9, hb9⟩; have HM9 := mkHid (HM8.out.reset hb9 (filled_rd HR.out.1 ho9) (fun k hk => ho9.lt k hk)); have HN9 := mkHid HN7.out.flush; clear ho9 hb9))
        go_roundw
        case rel => first | exact ⟨j + 1, F5, _, _, _, _, _, _, by go_num, by omega, by omega, HM9.out, HN9.out⟩ | exact ⟨j + 1, F5, _, _, _, _, _, _, by go_num, by omega, by omega, HM7.out, HN7.out⟩
        case measure => simp [intOf]; omega
    · have hcase : ¬ (j : Int) < ps.length ∨ ((j : Int) < ps.length ∧ (100 : Int) < j) := by omega
      have HCL : Hid (c.length ≤ 1000000000000) := mkHid (by have := HN.out.clen; omega)
      clear hlt
      rcases hcase with hji | ⟨hji, hj0⟩
      rotate_left
      obtain ⟨b, off, xa, xc, rfl, hcell, hrd, _⟩ := HA.out.at (Below.refl _ w) j (by omega)
      have hce := cell_lat HM.out.ds.bel hcell
      clear hrd hcell
      all_goals
        go_wp2_with (first
          | (go_at_call 19; refine (crash_any G wr p 3 f c nw false ke to HM.out.ds.dk HCL.out).mono ?_; rintro e w9 ⟨rfl, hD9, hk9⟩; have HM9 := mkHid (HM.out.next hD9 (fun k h => .inl h) hk9); clear hD9 hk9)
          | (go_at_call 20; with_reducible refine (read_ok G w9 p 3 _ [] nw 1 HM9.out.ds.dk (by simp) (by omega) (by omega)).mono ?_; rintro e w10 ⟨z10, rfl, ho10, hb10⟩; have HO10 := mkHid ho10; have HM10 := mkHid (HM9.out.late hb10); clear ho10 hb10)
          | (go_at_call 20; with_reducible refine (read_ok G w10 p 3 _ [] nw 0 HM10.out.ds.dk (by simp) (by omega) (by omega)).mono ?_; rintro e w11 ⟨z11, rfl, ho11, hb11⟩; have HO11 := mkHid ho11; have HB11 := mkHid hb11; have HM11 := mkHid (HM10.out.late hb11); clear ho11 hb11))
        obtain ⟨g, hg⟩ : ∃ g, g = crashedTo (kbit ke) to f c c.length := ⟨_, rfl⟩
        have hH : Halves base ls (g 1) := by rw [hg, HN.out.cc]; exact crash_halves _ _ f base ls HN.out.f1 HN.out.sb HN.out.sl _
        have h0 : g 0 = zeros := by rw [hg, HN.out.cc]; exact (crashedTo_other _ _ f (pairs ls) 0 (fun x hx => by rcases pairs_mem hx with ⟨h, _⟩ | h <;> omega) _).trans HN.out.f0
        rw [← hg, seenOf_nil] at HO10 HO11
        rw [h0] at HO11
        generalize g 1 = s at *
        have HTL : Hid (TL w w11 (.slice ba base.length bc) base (.slice la ls.length lc) ls H z10 s) := mkHid ⟨HM11.out.ds.bel, HM11.out.rb, HM11.out.rl, fun k e => (HM11.out.hH k e).1, (Rd.of_owns hH.1.byts HO10.out).later HB11.out⟩
        have hlz := HTL.out.rz.lenS
        rw [show ((s.length : Nat) : Int) = 64 by have := hH.1.len; omega] at hlz
        have HRZ := mkHid (Rd.of_owns zeros_sec.byts HO11.out)
        have HCVD : Hid (∀ W : World, Below w11.heap.size w11 W → (convert 33 9 z11).run Tryd.prog W = .ok (.string (strOfNums zeros)) W) := mkHid (fun W hW => (HRZ.out.later hW).conv)
        have hcv0 := HCVD.out w11.drew ((Below.refl _ w11).drew)
        have HH := mkHid hH
        have HSB := mkHid HN.out.sb
        have hls : (ls.length : Int) ≤ 101 := by have := HN.out.cl; omega
        have HSL := mkHid HN.out.sl
        generalize hbv : Value.slice ba base.length bc = bv at *
        clear hg hH h0 HO10 HO11 HB11 HM HN HM9 HM10 HM11 hbv
        go_region_held (fun w' => (convert 33 9 z11).run Tryd.prog w' = .ok (.string (strOfNums zeros)) w') (first | assumption) (first | (go_at_call 16; refine (filled_any _ _ [] (rd_nil _) (by simp)).mono ?_; rintro e w12 ⟨g12, rfl, ho12, hb12⟩; have cv12 := (filled_rd Byts.nil ho12).conv; rw [filled_nil] at cv12; have hb12' : Below w11.heap.size w11 w12 := ((Below.refl _ w11).drew).trans (hb12.mono (Nat.le_refl _)); have cvz := HCVD.out w12 hb12'; have HTL12 := mkHid (HTL.out.late hb12'); clear ho12 hb12 hb12'))
        clear HTL HRZ HCVD hcv0
        go_wp2
        clear hji
        go_loopw [16] (fun iv wr => ∃ h : Nat, iv = .int .i64 (h : Int) ∧ h ≤ 2 ∧ TL w wr bv base (.slice la ls.length lc) ls H z10 s) (fun iv _ => 2 - (intOf iv).toNat)
        case atStart => exact ⟨0, rfl, by omega, HTL12.out⟩
        case round =>
          clear HTL12 hlz
          obtain ⟨h, rfl, hh, hT⟩ := hrel
          by_cases h2 : h < 2
          · obtain ⟨f0, t0, hf0, ht0⟩ : ∃ f t : Nat, f = 32 * h ∧ t = 32 * h + 32 := ⟨_, _, rfl, rfl⟩
            obtain ⟨v1, sv1, rv1⟩ := hT.rz.midS (32 * (h : Int)) (32 * (h : Int) + 32) f0 t0 (by omega) (by omega) (by omega) (by have := HH.out.1.len; omega)
            obtain ⟨v2, sv2, rv2⟩ := hT.rb.midS (32 * (h : Int)) (32 * (h : Int) + 32) f0 t0 (by omega) (by omega) (by omega) (by have := HSB.out.len; omega)
            rw [half_eq _ h f0 t0 hf0 (by omega)] at rv1 rv2
            clear hf0 ht0
            have m1 : IntKind.i64.wrap (32 * (h : Int)) = 32 * (h : Int) := by rw [IntKind.wrap_i64]; omega
            have m2 : IntKind.i64.wrap (32 * (h : Int) + 32) = 32 * (h : Int) + 32 := by rw [IntKind.wrap_i64]; omega
            have cv1 := rv1.drew.conv
            have cv2 := rv2.drew.conv
            have HT := mkHid hT
            have HR1 := mkHid rv1
            have hhi : (h : Int) < 2 := by omega
            clear hT rv1 rv2
            go_wp2
            go_region_held3 (fun w' => (convert 33 9 v1).run Tryd.prog w' = .ok (.string (strOfNums (half s h))) w' ∧ (convert 33 9 v2).run Tryd.prog w' = .ok (.string (strOfNums (half base h))) w') (go_keep) (fail)
            go_wp2
            have HT1 := mkHid (HT.out.late ((Below.refl _ wr).drew))
            have HF0 := mkHid (fnd_zero s base ls h)
            clear HT HR1 cv1 cv2 sv1 sv2
            go_loopw [17, 132] (fun fv iv wr => ∃ k : Nat, iv = .int .i64 (k : Int) ∧ k ≤ ls.length ∧ fv = .bool (fnd s base ls h k) ∧ TL w wr bv base (.slice la ls.length lc) ls H z10 s) (fun _ iv _ => ls.length - (intOf iv).toNat)
            case atStart => exact ⟨0, rfl, Nat.zero_le _, by rw [HF0.out]; rfl, HT1.out⟩
            case round =>
              clear HT1 HF0
              obtain ⟨k, rfl, hk, rfl, hT⟩ := hrel
              by_cases hkl : k < ls.length
              · obtain ⟨gl, u, rfl, hcu, hru⟩ := hT.at k hkl
                have hki : (k : Int) < ls.length := by omega
                have HFS := mkHid (fnd_succ s base ls h k hkl)
                have HSU : Hid (Sec (ls.getD k [])) := mkHid (HSL.out _ (by simp [List.getD, hkl]))
                generalize ls.getD k [] = x at *
                obtain ⟨f0, t0, hf0, ht0⟩ : ∃ f t : Nat, f = 32 * h ∧ t = 32 * h + 32 := ⟨_, _, rfl, rfl⟩
                obtain ⟨v1, sv1, rv1⟩ := hT.rz.midS (32 * (h : Int)) (32 * (h : Int) + 32) f0 t0 (by omega) (by omega) (by omega) (by have := HH.out.1.len; omega)
                obtain ⟨v2, sv2, rv2⟩ := hru.midS (32 * (h : Int)) (32 * (h : Int) + 32) f0 t0 (by omega) (by omega) (by omega) (by have := HSU.out.len; omega)
                rw [half_eq _ h f0 t0 hf0 (by omega)] at rv1 rv2
                clear hf0 ht0
                have cv1 := rv1.drew.conv
                have cv2 := rv2.drew.conv
                have HT := mkHid hT
                clear hT rv1 rv2 hru
                cases hfk : fnd s base ls h k
                · go_wp2
                  go_region_held3 (fun w' => (convert 33 9 v1).run Tryd.prog w' = .ok (.string (strOfNums (half s h))) w' ∧ (convert 33 9 v2).run Tryd.prog w' = .ok (.string (strOfNums (half x h))) w') (go_keep) (fail)
                  go_wp2
                  go_roundw
                  case rel => exact ⟨k + 1, by go_num, by omega, by rw [HFS.out, hfk]; rfl, HT.out.late ((Below.refl _ _).drew)⟩
                  case measure => simp [intOf]; omega
                · go_wp2
                  go_quiet (fail)
                  go_wp2
                  go_roundw
                  case rel => exact ⟨k + 1, by go_num, by omega, by rw [HFS.out, hfk]; rfl, HT.out.late ⟨rfl, rfl, rfl, Nat.le_refl _, fun _ _ => rfl⟩⟩
                  case measure => simp [intOf]; omega
              · obtain rfl : k = ls.length := by omega
                have hfk := fnd_full HH.out h h2
                have HT := mkHid hT
                clear hT
                go_wp2
                go_roundw
                case rel => exact ⟨h + 1, by go_num, by omega, HT.out⟩
                case measure => simp [intOf]; omega
          · have hhi : ¬ (h : Int) < 2 := by omega
            have HT := mkHid hT
            clear hT
            go_wp2
            go_ret
            exact ⟨rfl, HT.out.bel⟩
end Go.Proofs.YtcglonefifldnaaDoor
