/- The law RoundHalves: the walk. -/
import Derived.Test.YtjocjkfllicjdaaDoorRn16
namespace Go.Proofs.YtjocjkfllicjdaaDoor
open Go.ChangeShapes Go.WideShapes Go.ChangeAt Go.RowKit
set_option maxRecDepth 100000
attribute [local go_sem] World.cell?_alloc_some frozen_alloc_some

set_option maxHeartbeats 25600000 in
theorem halves_walk (w : World) (n : Int) (t : Ep) (ga : Option Addr) (gc : Nat) (xs : List Int) (ef : Addr) (ht : EnW w t) (hs : small t) (hxs : RowIn 1 c1i w (.slice ga xs.length gc) xs) (hef : w.cell? ⟨7, 0, none⟩ = some (vErr ef)) :
    Calls Tryd.prog 5 #[.int .i64 n, vP t, .slice ga xs.length gc] w fun e w' => e = .returned (.bool true) ∧ Below w.heap.size w w' := by
  obtain ⟨rA, rB, rK, a1, a2, a3, a4, a5, a6, a7, a8⟩ := rest7 n
  have HXS := mkHid hxs
  have HEF := mkHid hef
  have hxl : (xs.length : Int) ≤ 9223372036854775807 := by obtain ⟨_, _, e, _, hl, _⟩ := hxs; exact hl
  obtain ⟨M, hM⟩ : ∃ M : Nat, rK + 1 = (M : Int) := ⟨(rK + 1).toNat, by omega⟩
  replace a6 : IntKind.i64.wrap (rK + 1) = (M : Int) := a6.trans hM
  have hM1 : 1 ≤ M ∧ M ≤ 7 := by omega
  have HV : Hid (∀ W, Below w.heap.size w W → Calls Tryd.prog 7 #[] W fun e w' => e = .returned (.bool true) ∧ Below W.heap.size W w') := mkHid (fun W hb => ralive W ef (kc hef hb))
  obtain ⟨q, hq, _⟩ := inForm_any w t ht
  have HIF : Hid (∀ W, Below w.heap.size w W → Calls Tryd.prog 24 #[vP t] W fun e w' => e = .returned (.bool q) ∧ Below W.heap.size W w') := mkHid (fun W hb => by
    obtain ⟨q', hq', hc⟩ := inForm_any W t (ht.below hb)
    have : q' = q := by cases q <;> cases q' <;> simp_all
    rw [this] at hc
    exact hc)
  obtain ⟨e, ta, tc⟩ := t
  have HT := mkHid (And.intro ht hs)
  have HX0 := mkHid (heap_alloc_new w (oE e (.slice ta e.ts.length tc)))
  clear hxs hef a7 a8 hM ht hs
  simp only [vP, vN, tv] at HIF ⊢
  cases q with
  | false =>
    clear hq
    go_enter Tryd.func5, Tryd.ntmps5
    go_wp2_with (first
      | (go_at_call 7; (with_reducible refine (HV.out _ (ba (Below.refl _ w) _)).mono ?_); rintro x w1 ⟨rfl, b1⟩; have HB1 := mkHid (bt (ba (Below.refl _ w) (oE e (.slice ta e.ts.length tc))) b1); have hx1 := (b1.block _ (lt_of_heap HX0.out)).trans HX0.out; have HX1 := mkHid hx1; obtain ⟨y0, y1, y2, y3, y4, y5, y6, y7, y8, y9⟩ := ent_cells hx1; clear b1 hx1)
      | (go_at_call 24; (with_reducible refine (HIF.out w1 HB1.out).mono ?_); rintro x w2 ⟨rfl, b2⟩; have HB2 := mkHid (bt HB1.out b2); have hx2 := (b2.block _ (lt_of_heap HX1.out)).trans HX1.out; have HX2 := mkHid hx2; clear y0 y1 y2 y3 y4 y5 y6 y7 y8 y9; obtain ⟨z0, z1, z2, z3, z4, z5, z6, z7, z8, z9⟩ := ent_cells hx2; clear b2 hx2))
    go_ret
    exact ⟨rfl, HB2.out⟩
  | true =>
  have hin : inF e := hq.mp rfl
  have HIN := mkHid hin
  clear hq hin
  by_cases h200 : 200 < xs.length
  · have h200i : (200 : Int) < (xs.length : Int) := by omega
    go_enter Tryd.func5, Tryd.ntmps5
    go_wp2_with (first
      | (go_at_call 7; (with_reducible refine (HV.out _ (ba (Below.refl _ w) _)).mono ?_); rintro x w1 ⟨rfl, b1⟩; have HB1 := mkHid (bt (ba (Below.refl _ w) (oE e (.slice ta e.ts.length tc))) b1); have hx1 := (b1.block _ (lt_of_heap HX0.out)).trans HX0.out; have HX1 := mkHid hx1; obtain ⟨y0, y1, y2, y3, y4, y5, y6, y7, y8, y9⟩ := ent_cells hx1; clear b1 hx1)
      | (go_at_call 24; (with_reducible refine (HIF.out w1 HB1.out).mono ?_); rintro x w2 ⟨rfl, b2⟩; have HB2 := mkHid (bt HB1.out b2); have hx2 := (b2.block _ (lt_of_heap HX1.out)).trans HX1.out; have HX2 := mkHid hx2; clear y0 y1 y2 y3 y4 y5 y6 y7 y8 y9; obtain ⟨z0, z1, z2, z3, z4, z5, z6, z7, z8, z9⟩ := ent_cells hx2; clear b2 hx2))
    go_ret
    exact ⟨rfl, HB2.out⟩
  have h200i : (xs.length : Int) ≤ 200 := by omega
  go_enter Tryd.func5, Tryd.ntmps5
  go_wp2_with (first
    | (go_at_call 7; (with_reducible refine (HV.out _ (ba (Below.refl _ w) _)).mono ?_); rintro x w1 ⟨rfl, b1⟩; have HB1 := mkHid (bt (ba (Below.refl _ w) (oE e (.slice ta e.ts.length tc))) b1); have hx1 := (b1.block _ (lt_of_heap HX0.out)).trans HX0.out; have HX1 := mkHid hx1; obtain ⟨y0, y1, y2, y3, y4, y5, y6, y7, y8, y9⟩ := ent_cells hx1; clear b1 hx1)
    | (go_at_call 24; (with_reducible refine (HIF.out w1 HB1.out).mono ?_); rintro x w2 ⟨rfl, b2⟩; have HB2 := mkHid (bt HB1.out b2); have hx2 := (b2.block _ (lt_of_heap HX1.out)).trans HX1.out; have HX2 := mkHid hx2; clear y0 y1 y2 y3 y4 y5 y6 y7 y8 y9; obtain ⟨z0, z1, z2, z3, z4, z5, z6, z7, z8, z9⟩ := ent_cells hx2; clear b2 hx2)
    | (go_at_call 9; have HC : Calls Tryd.prog 9 #[.int .i64 (M : Int), .agg #[.int .i64 e.cl, .int .i64 e.nu, .int .i64 e.ki, .int .i64 e.id, .int .i64 e.sk, .int .i64 e.sq, .int .i64 e.st, .int .i64 e.po, .slice ta e.ts.length tc, .int .i64 e.tm], .bool false] w2 fun x w' => ∃ p, x = .returned (.tuple #[.pointer (some ⟨p, 0, none⟩), .nilIface]) ∧ LR w w' p (Rn.zero (M : Int) false) e [] ∧ Below w2.heap.size w2 w' ∧ w2.heap.size ≤ p := lr_new (M : Int) (e, ta, tc) HB2.out (by omega) (EnW.below HT.out.1 HB2.out) HT.out.2 HIN.out; (with_reducible refine HC.mono ?_); clear HC; rintro x w3 ⟨p, rfl, h3, b3, p3⟩; have H3 := mkHid h3; have HP3 := mkHid (And.intro p3 h3.at.2); have HX3 := mkHid ((b3.block _ (lt_of_heap HX2.out)).trans HX2.out); clear h3 b3 p3 z0 z1 z2 z3 z4 z5 z6 z7 z8 z9)
    | (go_at_call 15; have HC : Calls Tryd.prog 15 #[.pointer (some ⟨p, 0, none⟩), vB (3, 1)] (w3.alloc (oB (3, 1))) fun x w' => x = .returned .nilIface ∧ LR w w' p (RH M 1 a0) e [] ∧ Kept (fun k => k = p) (w3.alloc (oB (3, 1))) w' := lr_begin (3, 1) (H3.out.late (ba (Below.refl _ w3) (oB (3, 1)))) (by show (0 : Int) ≠ 3; decide) (by show (0 : Int) ≠ 4; decide) rfl (by show (0 : Int) ≤ 0 ∧ (0 : Int) ≤ 9223372036854775806; decide); (with_reducible refine HC.mono ?_); clear HC; rintro x w4 ⟨rfl, h4, k4⟩; have H4 := mkHid h4; have HX4 := mkHid (two_kept k4 (by have := HP3.out.2; omega) (heap_alloc_new w3 (oB (3, 1)))); have HC4 := mkHid ((k4.block _ (by simp; have := lt_of_heap HX3.out; omega) (by have := HP3.out.1; have := lt_of_heap HX2.out; omega)).trans (((ba (Below.refl _ w3) (oB (3, 1))).block _ (lt_of_heap HX3.out)).trans HX3.out)); clear h4 k4))
  obtain ⟨bb, hbb⟩ : ∃ bb, bb = w3.heap.size := ⟨_, rfl⟩
  obtain ⟨cb, hcb⟩ : ∃ cb, cb = w.heap.size := ⟨_, rfl⟩
  have HPB : Hid (p < bb) := mkHid (by rw [hbb]; exact HP3.out.2)
  have HCP : Hid (cb < p) := mkHid (by rw [hcb]; have := HP3.out.1; have := lt_of_heap HX2.out; omega)
  rw [← hbb] at HX4 ⊢
  rw [← hcb] at HC4 ⊢
  clear hbb hcb
  obtain ⟨ib, hi2, hz0, hz1, hz2⟩ := info_parts info_bool
  have hib := mkHid (And.intro hi2 (And.intro hz0 (And.intro hz1 hz2)))
  clear hi2 hz0 hz1 hz2
  go_loopw [10] (fun sv wr => ∃ s : Int, sv = .int .i64 s ∧ (s = 1 ∨ s = 2 ∨ s = 3) ∧ Hid (LR w wr p (RH M s a0) e (lsH s e)) ∧ Hid (wr.heap[bb]? = some (oB (3, 1))) ∧ Hid (wr.heap[cb]? = some (oE e (.slice ta e.ts.length tc)))) (fun sv _ => 3 - (intOf sv).toNat)
  case atStart => exact ⟨1, rfl, .inl rfl, H4, HX4, HC4⟩
  case round =>
    clear H4 HX4 HC4
    obtain ⟨s, rfl, hs, HR, HXB, HXC⟩ := hrel
    rename World => w9
    rcases hs with rfl | rfl | rfl
    · have HZ : Hid (IntKind.i64.wrap ((1 : Int) + 1) = 2) := mkHid (by rw [IntKind.wrap_i64]; decide)
      go_wp2_with (refine wpList_make_full _ rfl (.tmp 55) (.tmp 55) 66 rfl w9.heap.size 4 ib (.bool false) 1 Tryd.underlying66 hib.out.1 hib.out.2.1 hib.out.2.2.1 .i64 .i64 (M : Int) (M : Int) M rfl rfl rfl rfl (by rw [hib.out.2.2.2]; omega) (by unfold maxLen; omega) (Nat.le_refl _) ?_; intro w10 ho10 hg10; rw [bools_made] at ho10; have hb10 := (Below.refl w9.heap.size w9).grown hg10 (Nat.le_refl _) (fun k hk => by simp at hk); have HO10 := mkHid ho10; have HB10 := mkHid hb10; have HL10 := mkHid (LX.made HR.out hb10); clear ho10 hg10 hb10)
      obtain ⟨g, hg⟩ : ∃ g, g = w9.heap.size := ⟨_, rfl⟩
      rw [← hg] at HO10 HL10 ⊢
      have HGB : Hid (bb < g ∧ cb < g ∧ p < g) := mkHid ⟨by rw [hg]; exact lt_of_heap HXB.out, by rw [hg]; exact lt_of_heap HXC.out, by rw [hg]; exact HR.out.at.2⟩
      have HXB10 := mkHid ((HB10.out.block _ (lt_of_heap HXB.out)).trans HXB.out)
      have HXC10 := mkHid ((HB10.out.block _ (lt_of_heap HXC.out)).trans HXC.out)
      have HHO : Hid (∀ k, M ≤ k → a0 k = false) := mkHid (fun _ _ => rfl)
      clear hg HB10
      go_loopw [12, 13] (fun nv iv wr => ∃ (a : Nat → Bool) (i c : Nat), iv = .int .i64 (i : Int) ∧ nv = .int .i64 (c : Int) ∧ i ≤ xs.length + M ∧ c ≤ 7 ∧ Hid (c = cn a ∧ (∀ k, M ≤ k → a k = false) ∧ ∀ j, j + xs.length < i → a j = true ∨ M < 2 * c) ∧ Hid (LX g w wr p (StR M 1 a) e (StL M 1 a e)) ∧ Hid (wr.ownsRow g 4 1 (.slice (some ⟨g, 0, none⟩) M M) M (rowB M a)) ∧ Hid (wr.heap[bb]? = some (oB (3, 1))) ∧ Hid (wr.heap[cb]? = some (oE e (.slice ta e.ts.length tc)))) (fun _ iv _ => xs.length + M - (intOf iv).toNat)
      case atStart => exact ⟨a0, 0, 0, rfl, rfl, by omega, by omega, mkHid ⟨rfl, fun _ _ => rfl, fun j hj => by omega⟩, mkHid (by rw [show StR M 1 a0 = RH M 1 a0 by unfold StR; rw [if_neg (by show ¬ M < 2 * 0; omega)], show StL M 1 a0 e = lsH 1 e by unfold StL; rw [if_neg (by show ¬ M < 2 * 0; omega)]]; exact HL10.out), HO10, HXB10, HXC10⟩
      case round =>
        clear HO10 HL10 HXB10 HXC10 HHO HR HXB HXC
        obtain ⟨a, i, c, rfl, rfl, hi, hc7, HA, HR, HO, HXB, HXC⟩ := hrel
        have hwi : IntKind.i64.wrap ((xs.length : Int) + (M : Int)) = (xs.length : Int) + (M : Int) := by rw [IntKind.wrap_i64]; omega
        have hw2 : IntKind.i64.wrap (2 * (c : Int)) = 2 * (c : Int) := by rw [IntKind.wrap_i64]; omega
        have hwx : IntKind.i64.wrap ((i : Int) - (xs.length : Int)) = (i : Int) - (xs.length : Int) := by rw [IntKind.wrap_i64]; omega
        have HLOW := mkHid HR.out.lr.low
        by_cases hh : M < 2 * c
        · have hhi : (M : Int) < 2 * (c : Int) := by omega
          have HEND : Hid (LR w wr p (RH M 2 a0) e (lsH 2 e)) := mkHid (by
            have h1 := HR.out.lr
            have h2 : M < 2 * cn a := by rw [← HA.out.1]; exact hh
            rw [show StR M 1 a = RH M 2 a0 by unfold StR; rw [if_pos h2]; rfl, show StL M 1 a e = [e] by unfold StL; rw [if_pos h2]] at h1
            exact h1)
          by_cases hlt : i < xs.length + M
          · have hlti : (i : Int) < (xs.length : Int) + (M : Int) := by omega
            by_cases hx : i < xs.length
            · have hxi : (i : Int) < (xs.length : Int) := by omega
              obtain ⟨gb, goff, gx, rfl, hxv, hxc⟩ := HXS.out.at HLOW.out i hx
              have g0 : wr.cell? ⟨gb, goff + i, none⟩ = some (.int .i64 gx) := by have := hxc 0 _ (by omega) rfl; simpa using this
              obtain ⟨A, B, K, r1, r2, r3, r4, r5, r6, r7⟩ := rest_M gx (M : Int) (by omega) (by omega)
              clear hxv hxc
              go_wp2
              have hz := HZ.out
              go_roundw
              case rel => exact ⟨2, rfl, by decide, HEND, HXB, HXC⟩
              case measure => simp [intOf]
            · have hxi : (xs.length : Int) ≤ (i : Int) := by omega
              go_wp2
              have hz := HZ.out
              go_roundw
              case rel => exact ⟨2, rfl, by decide, HEND, HXB, HXC⟩
              case measure => simp [intOf]
          · have hlti : (xs.length : Int) + (M : Int) ≤ (i : Int) := by omega
            go_wp2
            have hz := HZ.out
            go_roundw
            case rel => exact ⟨2, rfl, by decide, HEND, HXB, HXC⟩
            case measure => simp [intOf]
        · have hhi : 2 * (c : Int) ≤ (M : Int) := by omega
          have hlt : i < xs.length + M := by
            rcases Nat.lt_or_ge i (xs.length + M) with q | q
            · exact q
            · have h1 := HA.out
              have h2 := cn_all (a := a) (M := M) (by omega) (fun j hj => (h1.2.2 j (by omega)).resolve_right hh)
              rw [← h1.1] at h2
              omega
          have hlti : (i : Int) < (xs.length : Int) + (M : Int) := by omega
          have hn2 : ¬ M < 2 * cn a := by rw [← HA.out.1]; exact hh
          have hR := HR.out
          rw [show StR M 1 a = RH M 1 a by unfold StR; rw [if_neg hn2], show StL M 1 a e = lsH 1 e by unfold StL; rw [if_neg hn2]] at hR
          have HR1 := mkHid hR
          have HSG : Hid (Calls Tryd.prog 17 #[.pointer (some ⟨p, 0, none⟩)] wr fun x w' => x = .returned (.int .i64 1) ∧ w' = wr) := mkHid (lr_stage hR.lr)
          have HGS : Hid (g < wr.heap.size) := mkHid ((HO.out.lt g rfl).2)
          clear hR hn2 HR
          obtain ⟨u0, u1⟩ := two_at HXB.out
          have hwi1 : IntKind.i64.wrap ((i : Int) + 1) = (i : Int) + 1 := by rw [IntKind.wrap_i64]; omega
          have hwc1 : IntKind.i64.wrap ((c : Int) + 1) = (c : Int) + 1 := by rw [IntKind.wrap_i64]; omega
          have HCALL : Hid (∀ f : Nat, f < M → (a f = true → Calls Tryd.prog 19 #[.pointer (some ⟨p, 0, none⟩), .int .i64 (f : Int), .agg #[.int .i64 3, .int .i64 1], .agg #[.int .i64 0, .int .i64 0], .slice none 0 0] wr fun x w' => x = .returned (.bool false) ∧ Below wr.heap.size wr w') ∧ (a f = false → Calls Tryd.prog 19 #[.pointer (some ⟨p, 0, none⟩), .int .i64 (f : Int), .agg #[.int .i64 3, .int .i64 1], .agg #[.int .i64 0, .int .i64 0], .slice none 0 0] wr fun x w' => x = .returned (.bool true) ∧ LX g w w' p (StR M 1 (updB a f)) e (StL M 1 (updB a f) e) ∧ Kept (fun k => k = p) wr w')) := mkHid (fun f hf => ⟨fun ha => lr_promise_no (f : Int) (3, 1) (0, 0) (.slice none 0 0) HR1.out.lr (by rw [rh_counts hf (by omega), ha]; rfl), fun ha => (by have := lx_promise f 0 (3, 1) (0, 0) (.slice none 0 0) [] ef HR1.out HGS.out (by rw [rh_counts hf (by omega), ha]; rfl) (fun W' _ => ens_nil0 W') (by simp) (by simp) (by exact plis_nil _ _) HEF.out; have h2 := rh_prom (M := M) (a := a) f (by omega) e; rw [show (newL (RH M 1 a) (0, 0) (lsH 1 e) (fs1 [])).length = 0 from rfl, show lsH 1 e = [] from rfl, show fs1 [] = [] from rfl, h2.1, h2.2] at this; exact this)⟩)
          by_cases hx : i < xs.length
          · have hxi : (i : Int) < (xs.length : Int) := by omega
            obtain ⟨gb, goff, gx, rfl, hxv, hxc⟩ := HXS.out.at HLOW.out i hx
            have g0 : wr.cell? ⟨gb, goff + i, none⟩ = some (.int .i64 gx) := by have := hxc 0 _ (by omega) rfl; simpa using this
            obtain ⟨A, B, K, r1, r2, r3, r4, r5, r6, r7⟩ := rest_M gx (M : Int) (by omega) (by omega)
            obtain ⟨f, rfl⟩ : ∃ f : Nat, K = (f : Int) := ⟨K.toNat, by omega⟩
            have hfM : f < M := by omega
            have HJ : Hid (∀ j, j + xs.length < i + 1 → j + xs.length < i ∨ j = f) := mkHid (fun j hj => by omega)
            clear hxv hxc r6
            cases haf : a f with
            | true =>
              have HCL := mkHid ((HCALL.out f hfM).1 haf)
              have HAF := mkHid haf
              have hsc := (own_cell HO.out (rowB_at a hfM)).1
              rw [haf] at hsc
              have HSC := mkHid hsc
              clear haf hsc
              go_wp2_with (first
                | (go_at_call 17; (with_reducible refine HSG.out.mono ?_); rintro x w6 ⟨rfl, hw⟩; obtain rfl := hw.symm)
                | (go_at_call 19; (with_reducible refine HCL.out.mono ?_); rintro x w6 ⟨rfl, b6⟩; have HB6 := mkHid b6; have v0 := kc HSC.out b6; clear b6 u0 u1))
              go_roundw
              case rel => exact ⟨a, i + 1, c, by go_num, rfl, by omega, hc7, mkHid ⟨HA.out.1, HA.out.2.1, fun j hj => by
                rcases HJ.out j hj with q | q
                · exact HA.out.2.2 j q
                · subst q; exact .inl HAF.out⟩, mkHid (by
                rw [show StR M 1 a = RH M 1 a by unfold StR; rw [if_neg (by rw [← HA.out.1]; exact hh)], show StL M 1 a e = lsH 1 e by unfold StL; rw [if_neg (by rw [← HA.out.1]; exact hh)]]
                exact HR1.out.late HB6.out), mkHid (ownN_kept HO.out (below_kept (fun _ => False) HB6.out) (fun _ _ f => f)), mkHid ((HB6.out.block _ (lt_of_heap HXB.out)).trans HXB.out), mkHid ((HB6.out.block _ (lt_of_heap HXC.out)).trans HXC.out)⟩
              case measure => simp [intOf]; omega
            | false =>
              have HCL := mkHid ((HCALL.out f hfM).2 haf)
              have HAF := mkHid haf
              clear haf
              go_wp2_with (first
                | (go_at_call 17; (with_reducible refine HSG.out.mono ?_); rintro x w6 ⟨rfl, hw⟩; obtain rfl := hw.symm)
                | (go_at_call 19; (with_reducible refine HCL.out.mono ?_); rintro x w6 ⟨rfl, h6, k6⟩; have HR6 := mkHid h6; have HK6 := mkHid k6; have ho6 := ownN_kept HO.out k6 (fun k e1 e2 => by have := HGB.out.2.2; simp [Value.ownBlock] at e1; omega); have HO6 := mkHid ho6; have hsc := own_cell ho6 (rowB_at a hfM); rw [HAF.out] at hsc; obtain ⟨v0, v1⟩ := hsc; clear h6 k6 ho6 u0 u1))
              go_roundw
              case rel =>
                have hk7 := Kept.setCell (F := fun k => k = g) w6 (p := ⟨g, f, none⟩) rfl (.bool true)
                have hho := own_put HO6.out f (.bool true)
                rw [rowB_set] at hho
                have hgb := HGB.out
                exact ⟨updB a f, i + 1, c + 1, by go_num, by go_num, by omega, by omega, mkHid ⟨by rw [cn_upd (by omega) HAF.out, HA.out.1], fun k hk => by unfold updB; rw [if_neg (by omega)]; exact HA.out.2.1 k hk, fun j hj => by
                  rcases HJ.out j hj with q | q
                  · rcases HA.out.2.2 j q with q2 | q2
                    · exact .inl (by unfold updB; split <;> simp [q2])
                    · exact absurd q2 hh
                  · subst q; exact .inl (by unfold updB; rw [if_pos rfl])⟩, mkHid (HR6.out.store hk7), mkHid hho, mkHid ((hk7.block _ (Nat.lt_of_lt_of_le (lt_of_heap HXB.out) HK6.out.size) (by omega)).trans ((HK6.out.block _ (lt_of_heap HXB.out) (by have := HPB.out; omega)).trans HXB.out)), mkHid ((hk7.block _ (Nat.lt_of_lt_of_le (lt_of_heap HXC.out) HK6.out.size) (by omega)).trans ((HK6.out.block _ (lt_of_heap HXC.out) (by have := HCP.out; omega)).trans HXC.out))⟩
              case measure => simp [intOf]; omega
          · have hxi : (xs.length : Int) ≤ (i : Int) := by omega
            obtain ⟨f, hf⟩ : ∃ f : Nat, (i : Int) - (xs.length : Int) = (f : Int) := ⟨i - xs.length, by omega⟩
            have hfM : f < M := by omega
            have r7 : (f : Int) < (M : Int) := by omega
            have HJ : Hid (∀ j, j + xs.length < i + 1 → j + xs.length < i ∨ j = f) := mkHid (fun j hj => by omega)
            have hwf : IntKind.i64.wrap ((i : Int) - (xs.length : Int)) = (f : Int) := hwx.trans hf
            clear hwx hf
            cases haf : a f with
            | true =>
              have HCL := mkHid ((HCALL.out f hfM).1 haf)
              have HAF := mkHid haf
              have hsc := (own_cell HO.out (rowB_at a hfM)).1
              rw [haf] at hsc
              have HSC := mkHid hsc
              clear haf hsc
              go_wp2_with (first
                | (go_at_call 17; (with_reducible refine HSG.out.mono ?_); rintro x w6 ⟨rfl, hw⟩; obtain rfl := hw.symm)
                | (go_at_call 19; (with_reducible refine HCL.out.mono ?_); rintro x w6 ⟨rfl, b6⟩; have HB6 := mkHid b6; have v0 := kc HSC.out b6; clear b6 u0 u1))
              go_roundw
              case rel => exact ⟨a, i + 1, c, by go_num, rfl, by omega, hc7, mkHid ⟨HA.out.1, HA.out.2.1, fun j hj => by
                rcases HJ.out j hj with q | q
                · exact HA.out.2.2 j q
                · subst q; exact .inl HAF.out⟩, mkHid (by
                rw [show StR M 1 a = RH M 1 a by unfold StR; rw [if_neg (by rw [← HA.out.1]; exact hh)], show StL M 1 a e = lsH 1 e by unfold StL; rw [if_neg (by rw [← HA.out.1]; exact hh)]]
                exact HR1.out.late HB6.out), mkHid (ownN_kept HO.out (below_kept (fun _ => False) HB6.out) (fun _ _ f => f)), mkHid ((HB6.out.block _ (lt_of_heap HXB.out)).trans HXB.out), mkHid ((HB6.out.block _ (lt_of_heap HXC.out)).trans HXC.out)⟩
              case measure => simp [intOf]; omega
            | false =>
              have HCL := mkHid ((HCALL.out f hfM).2 haf)
              have HAF := mkHid haf
              clear haf
              go_wp2_with (first
                | (go_at_call 17; (with_reducible refine HSG.out.mono ?_); rintro x w6 ⟨rfl, hw⟩; obtain rfl := hw.symm)
                | (go_at_call 19; (with_reducible refine HCL.out.mono ?_); rintro x w6 ⟨rfl, h6, k6⟩; have HR6 := mkHid h6; have HK6 := mkHid k6; have ho6 := ownN_kept HO.out k6 (fun k e1 e2 => by have := HGB.out.2.2; simp [Value.ownBlock] at e1; omega); have HO6 := mkHid ho6; have hsc := own_cell ho6 (rowB_at a hfM); rw [HAF.out] at hsc; obtain ⟨v0, v1⟩ := hsc; clear h6 k6 ho6 u0 u1))
              go_roundw
              case rel =>
                have hk7 := Kept.setCell (F := fun k => k = g) w6 (p := ⟨g, f, none⟩) rfl (.bool true)
                have hho := own_put HO6.out f (.bool true)
                rw [rowB_set] at hho
                have hgb := HGB.out
                exact ⟨updB a f, i + 1, c + 1, by go_num, by go_num, by omega, by omega, mkHid ⟨by rw [cn_upd (by omega) HAF.out, HA.out.1], fun k hk => by unfold updB; rw [if_neg (by omega)]; exact HA.out.2.1 k hk, fun j hj => by
                  rcases HJ.out j hj with q | q
                  · rcases HA.out.2.2 j q with q2 | q2
                    · exact .inl (by unfold updB; split <;> simp [q2])
                    · exact absurd q2 hh
                  · subst q; exact .inl (by unfold updB; rw [if_pos rfl])⟩, mkHid (HR6.out.store hk7), mkHid hho, mkHid ((hk7.block _ (Nat.lt_of_lt_of_le (lt_of_heap HXB.out) HK6.out.size) (by omega)).trans ((HK6.out.block _ (lt_of_heap HXB.out) (by have := HPB.out; omega)).trans HXB.out)), mkHid ((hk7.block _ (Nat.lt_of_lt_of_le (lt_of_heap HXC.out) HK6.out.size) (by omega)).trans ((HK6.out.block _ (lt_of_heap HXC.out) (by have := HCP.out; omega)).trans HXC.out))⟩
              case measure => simp [intOf]; omega
    · have HZ : Hid (IntKind.i64.wrap ((2 : Int) + 1) = 3) := mkHid (by rw [IntKind.wrap_i64]; decide)
      go_wp2_with (refine wpList_make_full _ rfl (.tmp 55) (.tmp 55) 66 rfl w9.heap.size 4 ib (.bool false) 1 Tryd.underlying66 hib.out.1 hib.out.2.1 hib.out.2.2.1 .i64 .i64 (M : Int) (M : Int) M rfl rfl rfl rfl (by rw [hib.out.2.2.2]; omega) (by unfold maxLen; omega) (Nat.le_refl _) ?_; intro w10 ho10 hg10; rw [bools_made] at ho10; have hb10 := (Below.refl w9.heap.size w9).grown hg10 (Nat.le_refl _) (fun k hk => by simp at hk); have HO10 := mkHid ho10; have HB10 := mkHid hb10; have HL10 := mkHid (LX.made HR.out hb10); clear ho10 hg10 hb10)
      obtain ⟨g, hg⟩ : ∃ g, g = w9.heap.size := ⟨_, rfl⟩
      rw [← hg] at HO10 HL10 ⊢
      have HGB : Hid (bb < g ∧ cb < g ∧ p < g) := mkHid ⟨by rw [hg]; exact lt_of_heap HXB.out, by rw [hg]; exact lt_of_heap HXC.out, by rw [hg]; exact HR.out.at.2⟩
      have HXB10 := mkHid ((HB10.out.block _ (lt_of_heap HXB.out)).trans HXB.out)
      have HXC10 := mkHid ((HB10.out.block _ (lt_of_heap HXC.out)).trans HXC.out)
      have HHO : Hid (∀ k, M ≤ k → a0 k = false) := mkHid (fun _ _ => rfl)
      clear hg HB10
      go_loopw [12, 13] (fun nv iv wr => ∃ (a : Nat → Bool) (i c : Nat), iv = .int .i64 (i : Int) ∧ nv = .int .i64 (c : Int) ∧ i ≤ xs.length + M ∧ c ≤ 7 ∧ Hid (c = cn a ∧ (∀ k, M ≤ k → a k = false) ∧ ∀ j, j + xs.length < i → a j = true ∨ M < 2 * c) ∧ Hid (LX g w wr p (StR M 2 a) e (StL M 2 a e)) ∧ Hid (wr.ownsRow g 4 1 (.slice (some ⟨g, 0, none⟩) M M) M (rowB M a)) ∧ Hid (wr.heap[bb]? = some (oB (3, 1))) ∧ Hid (wr.heap[cb]? = some (oE e (.slice ta e.ts.length tc)))) (fun _ iv _ => xs.length + M - (intOf iv).toNat)
      case atStart => exact ⟨a0, 0, 0, rfl, rfl, by omega, by omega, mkHid ⟨rfl, fun _ _ => rfl, fun j hj => by omega⟩, mkHid (by rw [show StR M 2 a0 = RH M 2 a0 by unfold StR; rw [if_neg (by show ¬ M < 2 * 0; omega)], show StL M 2 a0 e = lsH 2 e by unfold StL; rw [if_neg (by show ¬ M < 2 * 0; omega)]]; exact HL10.out), HO10, HXB10, HXC10⟩
      case round =>
        clear HO10 HL10 HXB10 HXC10 HHO HR HXB HXC
        obtain ⟨a, i, c, rfl, rfl, hi, hc7, HA, HR, HO, HXB, HXC⟩ := hrel
        have hwi : IntKind.i64.wrap ((xs.length : Int) + (M : Int)) = (xs.length : Int) + (M : Int) := by rw [IntKind.wrap_i64]; omega
        have hw2 : IntKind.i64.wrap (2 * (c : Int)) = 2 * (c : Int) := by rw [IntKind.wrap_i64]; omega
        have hwx : IntKind.i64.wrap ((i : Int) - (xs.length : Int)) = (i : Int) - (xs.length : Int) := by rw [IntKind.wrap_i64]; omega
        have HLOW := mkHid HR.out.lr.low
        by_cases hh : M < 2 * c
        · have hhi : (M : Int) < 2 * (c : Int) := by omega
          have HEND : Hid (LR w wr p (RH M 3 a0) e (lsH 3 e)) := mkHid (by
            have h1 := HR.out.lr
            have h2 : M < 2 * cn a := by rw [← HA.out.1]; exact hh
            rw [show StR M 2 a = RH M 3 a0 by unfold StR; rw [if_pos h2]; rfl, show StL M 2 a e = [e] by unfold StL; rw [if_pos h2]] at h1
            exact h1)
          by_cases hlt : i < xs.length + M
          · have hlti : (i : Int) < (xs.length : Int) + (M : Int) := by omega
            by_cases hx : i < xs.length
            · have hxi : (i : Int) < (xs.length : Int) := by omega
              obtain ⟨gb, goff, gx, rfl, hxv, hxc⟩ := HXS.out.at HLOW.out i hx
              have g0 : wr.cell? ⟨gb, goff + i, none⟩ = some (.int .i64 gx) := by have := hxc 0 _ (by omega) rfl; simpa using this
              obtain ⟨A, B, K, r1, r2, r3, r4, r5, r6, r7⟩ := rest_M gx (M : Int) (by omega) (by omega)
              clear hxv hxc
              go_wp2
              have hz := HZ.out
              go_roundw
              case rel => exact ⟨3, rfl, by decide, HEND, HXB, HXC⟩
              case measure => simp [intOf]
            · have hxi : (xs.length : Int) ≤ (i : Int) := by omega
              go_wp2
              have hz := HZ.out
              go_roundw
              case rel => exact ⟨3, rfl, by decide, HEND, HXB, HXC⟩
              case measure => simp [intOf]
          · have hlti : (xs.length : Int) + (M : Int) ≤ (i : Int) := by omega
            go_wp2
            have hz := HZ.out
            go_roundw
            case rel => exact ⟨3, rfl, by decide, HEND, HXB, HXC⟩
            case measure => simp [intOf]
        · have hhi : 2 * (c : Int) ≤ (M : Int) := by omega
          have hlt : i < xs.length + M := by
            rcases Nat.lt_or_ge i (xs.length + M) with q | q
            · exact q
            · have h1 := HA.out
              have h2 := cn_all (a := a) (M := M) (by omega) (fun j hj => (h1.2.2 j (by omega)).resolve_right hh)
              rw [← h1.1] at h2
              omega
          have hlti : (i : Int) < (xs.length : Int) + (M : Int) := by omega
          have hn2 : ¬ M < 2 * cn a := by rw [← HA.out.1]; exact hh
          have hR := HR.out
          rw [show StR M 2 a = RH M 2 a by unfold StR; rw [if_neg hn2], show StL M 2 a e = lsH 2 e by unfold StL; rw [if_neg hn2]] at hR
          have HR1 := mkHid hR
          have HSG : Hid (Calls Tryd.prog 17 #[.pointer (some ⟨p, 0, none⟩)] wr fun x w' => x = .returned (.int .i64 2) ∧ w' = wr) := mkHid (lr_stage hR.lr)
          have HGS : Hid (g < wr.heap.size) := mkHid ((HO.out.lt g rfl).2)
          clear hR hn2 HR
          obtain ⟨u0, u1⟩ := two_at HXB.out
          have hwi1 : IntKind.i64.wrap ((i : Int) + 1) = (i : Int) + 1 := by rw [IntKind.wrap_i64]; omega
          have hwc1 : IntKind.i64.wrap ((c : Int) + 1) = (c : Int) + 1 := by rw [IntKind.wrap_i64]; omega
          have HCALL : Hid (∀ f : Nat, f < M → (a f = true → Calls Tryd.prog 25 #[.pointer (some ⟨p, 0, none⟩), .int .i64 (f : Int), .agg #[.int .i64 3, .int .i64 1]] wr fun x w' => x = .returned (.bool false) ∧ Below wr.heap.size wr w') ∧ (a f = false → Calls Tryd.prog 25 #[.pointer (some ⟨p, 0, none⟩), .int .i64 (f : Int), .agg #[.int .i64 3, .int .i64 1]] wr fun x w' => x = .returned (.bool true) ∧ LX g w w' p (StR M 2 (updB a f)) e (StL M 2 (updB a f) e) ∧ Kept (fun k => k = p) wr w')) := mkHid (fun f hf => ⟨fun ha => lr_accept_no (f : Int) (3, 1) HR1.out.lr (by rw [rh_counts hf (by omega), ha]; rfl), fun ha => (by have := lx_accept f (3, 1) HR1.out (by rw [rh_counts hf (by omega), ha]; rfl); rw [rh_acc f (by omega)] at this; rw [show StL M 2 (updB a f) e = lsH 2 e by unfold StL; split <;> rfl]; exact this)⟩)
          by_cases hx : i < xs.length
          · have hxi : (i : Int) < (xs.length : Int) := by omega
            obtain ⟨gb, goff, gx, rfl, hxv, hxc⟩ := HXS.out.at HLOW.out i hx
            have g0 : wr.cell? ⟨gb, goff + i, none⟩ = some (.int .i64 gx) := by have := hxc 0 _ (by omega) rfl; simpa using this
            obtain ⟨A, B, K, r1, r2, r3, r4, r5, r6, r7⟩ := rest_M gx (M : Int) (by omega) (by omega)
            obtain ⟨f, rfl⟩ : ∃ f : Nat, K = (f : Int) := ⟨K.toNat, by omega⟩
            have hfM : f < M := by omega
            have HJ : Hid (∀ j, j + xs.length < i + 1 → j + xs.length < i ∨ j = f) := mkHid (fun j hj => by omega)
            clear hxv hxc r6
            cases haf : a f with
            | true =>
              have HCL := mkHid ((HCALL.out f hfM).1 haf)
              have HAF := mkHid haf
              have hsc := (own_cell HO.out (rowB_at a hfM)).1
              rw [haf] at hsc
              have HSC := mkHid hsc
              clear haf hsc
              go_wp2_with (first
                | (go_at_call 17; (with_reducible refine HSG.out.mono ?_); rintro x w6 ⟨rfl, hw⟩; obtain rfl := hw.symm)
                | (go_at_call 25; (with_reducible refine HCL.out.mono ?_); rintro x w6 ⟨rfl, b6⟩; have HB6 := mkHid b6; have v0 := kc HSC.out b6; clear b6 u0 u1))
              go_roundw
              case rel => exact ⟨a, i + 1, c, by go_num, rfl, by omega, hc7, mkHid ⟨HA.out.1, HA.out.2.1, fun j hj => by
                rcases HJ.out j hj with q | q
                · exact HA.out.2.2 j q
                · subst q; exact .inl HAF.out⟩, mkHid (by
                rw [show StR M 2 a = RH M 2 a by unfold StR; rw [if_neg (by rw [← HA.out.1]; exact hh)], show StL M 2 a e = lsH 2 e by unfold StL; rw [if_neg (by rw [← HA.out.1]; exact hh)]]
                exact HR1.out.late HB6.out), mkHid (ownN_kept HO.out (below_kept (fun _ => False) HB6.out) (fun _ _ f => f)), mkHid ((HB6.out.block _ (lt_of_heap HXB.out)).trans HXB.out), mkHid ((HB6.out.block _ (lt_of_heap HXC.out)).trans HXC.out)⟩
              case measure => simp [intOf]; omega
            | false =>
              have HCL := mkHid ((HCALL.out f hfM).2 haf)
              have HAF := mkHid haf
              clear haf
              go_wp2_with (first
                | (go_at_call 17; (with_reducible refine HSG.out.mono ?_); rintro x w6 ⟨rfl, hw⟩; obtain rfl := hw.symm)
                | (go_at_call 25; (with_reducible refine HCL.out.mono ?_); rintro x w6 ⟨rfl, h6, k6⟩; have HR6 := mkHid h6; have HK6 := mkHid k6; have ho6 := ownN_kept HO.out k6 (fun k e1 e2 => by have := HGB.out.2.2; simp [Value.ownBlock] at e1; omega); have HO6 := mkHid ho6; have hsc := own_cell ho6 (rowB_at a hfM); rw [HAF.out] at hsc; obtain ⟨v0, v1⟩ := hsc; clear h6 k6 ho6 u0 u1))
              go_roundw
              case rel =>
                have hk7 := Kept.setCell (F := fun k => k = g) w6 (p := ⟨g, f, none⟩) rfl (.bool true)
                have hho := own_put HO6.out f (.bool true)
                rw [rowB_set] at hho
                have hgb := HGB.out
                exact ⟨updB a f, i + 1, c + 1, by go_num, by go_num, by omega, by omega, mkHid ⟨by rw [cn_upd (by omega) HAF.out, HA.out.1], fun k hk => by unfold updB; rw [if_neg (by omega)]; exact HA.out.2.1 k hk, fun j hj => by
                  rcases HJ.out j hj with q | q
                  · rcases HA.out.2.2 j q with q2 | q2
                    · exact .inl (by unfold updB; split <;> simp [q2])
                    · exact absurd q2 hh
                  · subst q; exact .inl (by unfold updB; rw [if_pos rfl])⟩, mkHid (HR6.out.store hk7), mkHid hho, mkHid ((hk7.block _ (Nat.lt_of_lt_of_le (lt_of_heap HXB.out) HK6.out.size) (by omega)).trans ((HK6.out.block _ (lt_of_heap HXB.out) (by have := HPB.out; omega)).trans HXB.out)), mkHid ((hk7.block _ (Nat.lt_of_lt_of_le (lt_of_heap HXC.out) HK6.out.size) (by omega)).trans ((HK6.out.block _ (lt_of_heap HXC.out) (by have := HCP.out; omega)).trans HXC.out))⟩
              case measure => simp [intOf]; omega
          · have hxi : (xs.length : Int) ≤ (i : Int) := by omega
            obtain ⟨f, hf⟩ : ∃ f : Nat, (i : Int) - (xs.length : Int) = (f : Int) := ⟨i - xs.length, by omega⟩
            have hfM : f < M := by omega
            have r7 : (f : Int) < (M : Int) := by omega
            have HJ : Hid (∀ j, j + xs.length < i + 1 → j + xs.length < i ∨ j = f) := mkHid (fun j hj => by omega)
            have hwf : IntKind.i64.wrap ((i : Int) - (xs.length : Int)) = (f : Int) := hwx.trans hf
            clear hwx hf
            cases haf : a f with
            | true =>
              have HCL := mkHid ((HCALL.out f hfM).1 haf)
              have HAF := mkHid haf
              have hsc := (own_cell HO.out (rowB_at a hfM)).1
              rw [haf] at hsc
              have HSC := mkHid hsc
              clear haf hsc
              go_wp2_with (first
                | (go_at_call 17; (with_reducible refine HSG.out.mono ?_); rintro x w6 ⟨rfl, hw⟩; obtain rfl := hw.symm)
                | (go_at_call 25; (with_reducible refine HCL.out.mono ?_); rintro x w6 ⟨rfl, b6⟩; have HB6 := mkHid b6; have v0 := kc HSC.out b6; clear b6 u0 u1))
              go_roundw
              case rel => exact ⟨a, i + 1, c, by go_num, rfl, by omega, hc7, mkHid ⟨HA.out.1, HA.out.2.1, fun j hj => by
                rcases HJ.out j hj with q | q
                · exact HA.out.2.2 j q
                · subst q; exact .inl HAF.out⟩, mkHid (by
                rw [show StR M 2 a = RH M 2 a by unfold StR; rw [if_neg (by rw [← HA.out.1]; exact hh)], show StL M 2 a e = lsH 2 e by unfold StL; rw [if_neg (by rw [← HA.out.1]; exact hh)]]
                exact HR1.out.late HB6.out), mkHid (ownN_kept HO.out (below_kept (fun _ => False) HB6.out) (fun _ _ f => f)), mkHid ((HB6.out.block _ (lt_of_heap HXB.out)).trans HXB.out), mkHid ((HB6.out.block _ (lt_of_heap HXC.out)).trans HXC.out)⟩
              case measure => simp [intOf]; omega
            | false =>
              have HCL := mkHid ((HCALL.out f hfM).2 haf)
              have HAF := mkHid haf
              clear haf
              go_wp2_with (first
                | (go_at_call 17; (with_reducible refine HSG.out.mono ?_); rintro x w6 ⟨rfl, hw⟩; obtain rfl := hw.symm)
                | (go_at_call 25; (with_reducible refine HCL.out.mono ?_); rintro x w6 ⟨rfl, h6, k6⟩; have HR6 := mkHid h6; have HK6 := mkHid k6; have ho6 := ownN_kept HO.out k6 (fun k e1 e2 => by have := HGB.out.2.2; simp [Value.ownBlock] at e1; omega); have HO6 := mkHid ho6; have hsc := own_cell ho6 (rowB_at a hfM); rw [HAF.out] at hsc; obtain ⟨v0, v1⟩ := hsc; clear h6 k6 ho6 u0 u1))
              go_roundw
              case rel =>
                have hk7 := Kept.setCell (F := fun k => k = g) w6 (p := ⟨g, f, none⟩) rfl (.bool true)
                have hho := own_put HO6.out f (.bool true)
                rw [rowB_set] at hho
                have hgb := HGB.out
                exact ⟨updB a f, i + 1, c + 1, by go_num, by go_num, by omega, by omega, mkHid ⟨by rw [cn_upd (by omega) HAF.out, HA.out.1], fun k hk => by unfold updB; rw [if_neg (by omega)]; exact HA.out.2.1 k hk, fun j hj => by
                  rcases HJ.out j hj with q | q
                  · rcases HA.out.2.2 j q with q2 | q2
                    · exact .inl (by unfold updB; split <;> simp [q2])
                    · exact absurd q2 hh
                  · subst q; exact .inl (by unfold updB; rw [if_pos rfl])⟩, mkHid (HR6.out.store hk7), mkHid hho, mkHid ((hk7.block _ (Nat.lt_of_lt_of_le (lt_of_heap HXB.out) HK6.out.size) (by omega)).trans ((HK6.out.block _ (lt_of_heap HXB.out) (by have := HPB.out; omega)).trans HXB.out)), mkHid ((hk7.block _ (Nat.lt_of_lt_of_le (lt_of_heap HXC.out) HK6.out.size) (by omega)).trans ((HK6.out.block _ (lt_of_heap HXC.out) (by have := HCP.out; omega)).trans HXC.out))⟩
              case measure => simp [intOf]; omega
    · have HR3 : Hid (LR w w9 p (RH M 3 a0) e [e]) := mkHid HR.out
      clear HR
      go_wp2_with (go_at_call 22; (with_reducible refine (lr_ledger HR3.out rfl).mono ?_); rintro x w11 ⟨za, zc, gs, rfl, hl, _, hq, b11⟩; obtain ⟨gg, cap, na, nc, hv, hat, hen⟩ := led_one hl hq (by have h2 : e.ts.length * 32 ≤ 140737488355328 := HT.out.2; omega); have hgl : gs.length = 1 := (by have := congrArg List.length hq; simpa [fs1] using this); rw [hgl] at hv ⊢; simp only [Value.slice.injEq, true_and] at hv; obtain ⟨rfl, rfl⟩ := hv; have H11 := mkHid (HR3.out.late b11); have HXC11 := mkHid ((b11.block _ (lt_of_heap HXC.out)).trans HXC.out); have HAT := mkHid hat; have HEN := mkHid hen; clear hl hq b11 hat hen hgl)
      have hc11 := ent_cells HXC11.out
      have ha11 := HAT.out.ten
      have d0 : w11.drew.cell? ⟨gg, 0, none⟩ = some (.int .i64 e.cl) := ha11.1
      have d1 : w11.drew.cell? ⟨gg, 1, none⟩ = some (.int .i64 e.nu) := ha11.2.1
      have d2 : w11.drew.cell? ⟨gg, 2, none⟩ = some (.int .i64 e.ki) := ha11.2.2.1
      have d3 : w11.drew.cell? ⟨gg, 3, none⟩ = some (.int .i64 e.id) := ha11.2.2.2.1
      have d4 : w11.drew.cell? ⟨gg, 4, none⟩ = some (.int .i64 e.sk) := ha11.2.2.2.2.1
      have d5 : w11.drew.cell? ⟨gg, 5, none⟩ = some (.int .i64 e.sq) := ha11.2.2.2.2.2.1
      have d6 : w11.drew.cell? ⟨gg, 6, none⟩ = some (.int .i64 e.st) := ha11.2.2.2.2.2.2.1
      have d7 : w11.drew.cell? ⟨gg, 7, none⟩ = some (.int .i64 e.po) := ha11.2.2.2.2.2.2.2.1
      have d8 : w11.drew.cell? ⟨gg, 8, none⟩ = some (.slice na e.ts.length nc) := ha11.2.2.2.2.2.2.2.2.1
      have d9 : w11.drew.cell? ⟨gg, 9, none⟩ = some (.int .i64 e.tm) := ha11.2.2.2.2.2.2.2.2.2
      have d10 : w11.drew.cell? ⟨cb, 0, none⟩ = some (.int .i64 e.cl) := hc11.1
      have d11 : w11.drew.cell? ⟨cb, 1, none⟩ = some (.int .i64 e.nu) := hc11.2.1
      have d12 : w11.drew.cell? ⟨cb, 2, none⟩ = some (.int .i64 e.ki) := hc11.2.2.1
      have d13 : w11.drew.cell? ⟨cb, 3, none⟩ = some (.int .i64 e.id) := hc11.2.2.2.1
      have d14 : w11.drew.cell? ⟨cb, 4, none⟩ = some (.int .i64 e.sk) := hc11.2.2.2.2.1
      have d15 : w11.drew.cell? ⟨cb, 5, none⟩ = some (.int .i64 e.sq) := hc11.2.2.2.2.2.1
      have d16 : w11.drew.cell? ⟨cb, 6, none⟩ = some (.int .i64 e.st) := hc11.2.2.2.2.2.2.1
      have d17 : w11.drew.cell? ⟨cb, 7, none⟩ = some (.int .i64 e.po) := hc11.2.2.2.2.2.2.2.1
      have d18 : w11.drew.cell? ⟨cb, 8, none⟩ = some (.slice ta e.ts.length tc) := hc11.2.2.2.2.2.2.2.2.1
      have d19 : w11.drew.cell? ⟨cb, 9, none⟩ = some (.int .i64 e.tm) := hc11.2.2.2.2.2.2.2.2.2
      have HD11 : Hid (LR w w11.drew p (RH M 3 a0) e [e]) := mkHid (H11.out.late ((Below.refl _ w11).drew))
      have HED11 : Hid (EnW w11.drew (e, na, nc)) := mkHid (EnW.below HEN.out ((Below.refl _ w11).drew))
      clear hc11 ha11
      refine wp_region_held_drew (S := fun w' => w'.cell? ⟨gg, 0, none⟩ = some (.int .i64 e.cl) ∧ w'.cell? ⟨gg, 1, none⟩ = some (.int .i64 e.nu) ∧ w'.cell? ⟨gg, 2, none⟩ = some (.int .i64 e.ki) ∧ w'.cell? ⟨gg, 3, none⟩ = some (.int .i64 e.id) ∧ w'.cell? ⟨gg, 4, none⟩ = some (.int .i64 e.sk) ∧ w'.cell? ⟨gg, 5, none⟩ = some (.int .i64 e.sq) ∧ w'.cell? ⟨gg, 6, none⟩ = some (.int .i64 e.st) ∧ w'.cell? ⟨gg, 7, none⟩ = some (.int .i64 e.po) ∧ w'.cell? ⟨gg, 8, none⟩ = some (.slice na e.ts.length nc) ∧ w'.cell? ⟨gg, 9, none⟩ = some (.int .i64 e.tm) ∧ w'.cell? ⟨cb, 0, none⟩ = some (.int .i64 e.cl) ∧ w'.cell? ⟨cb, 1, none⟩ = some (.int .i64 e.nu) ∧ w'.cell? ⟨cb, 2, none⟩ = some (.int .i64 e.ki) ∧ w'.cell? ⟨cb, 3, none⟩ = some (.int .i64 e.id) ∧ w'.cell? ⟨cb, 4, none⟩ = some (.int .i64 e.sk) ∧ w'.cell? ⟨cb, 5, none⟩ = some (.int .i64 e.sq) ∧ w'.cell? ⟨cb, 6, none⟩ = some (.int .i64 e.st) ∧ w'.cell? ⟨cb, 7, none⟩ = some (.int .i64 e.po) ∧ w'.cell? ⟨cb, 8, none⟩ = some (.slice ta e.ts.length tc) ∧ w'.cell? ⟨cb, 9, none⟩ = some (.int .i64 e.tm)) (by kernel_rfl) ⟨d0, d1, d2, d3, d4, d5, d6, d7, d8, d9, d10, d11, d12, d13, d14, d15, d16, d17, d18, d19⟩ (fun hHeld => ?_)
      refine tkE 0 121 (.pointer (some ⟨p, 0, none⟩)) rfl rfl hHeld ?_
      simp only [sZ, sS]
      refine wpAnyH_ready (rs := [1]) (by kernel_rfl) (by simp) (AllReadyH.cons rfl (fun K hK => ?_) AllReadyH.nil)
      go_simp
      have HC : Calls Tryd.prog 17 #[.pointer (some ⟨p, 0, none⟩)] w11.drew fun x w' => x = .returned (.int .i64 3) ∧ w' = w11.drew := lr_stage HD11.out
      (with_reducible refine HC.mono ?_)
      clear HC
      rintro x w12 ⟨rfl, e12⟩
      have H12 : Hid (LR w w12 p (RH M 3 a0) e [e]) := mkHid (e12 ▸ HD11.out)
      have HE12 : Hid (EnW w12 (e, na, nc)) := mkHid (e12 ▸ HED11.out)
      have b : Below w11.drew.heap.size w11.drew w12 := by rw [e12]; exact Below.refl _ _
      clear e12
      have qw12_0 : w12.cell? ⟨gg, 0, none⟩ = some (.int .i64 e.cl) := kc (hHeld.1) b
      have qw12_1 : w12.cell? ⟨gg, 1, none⟩ = some (.int .i64 e.nu) := kc (hHeld.2.1) b
      have qw12_2 : w12.cell? ⟨gg, 2, none⟩ = some (.int .i64 e.ki) := kc (hHeld.2.2.1) b
      have qw12_3 : w12.cell? ⟨gg, 3, none⟩ = some (.int .i64 e.id) := kc (hHeld.2.2.2.1) b
      have qw12_4 : w12.cell? ⟨gg, 4, none⟩ = some (.int .i64 e.sk) := kc (hHeld.2.2.2.2.1) b
      have qw12_5 : w12.cell? ⟨gg, 5, none⟩ = some (.int .i64 e.sq) := kc (hHeld.2.2.2.2.2.1) b
      have qw12_6 : w12.cell? ⟨gg, 6, none⟩ = some (.int .i64 e.st) := kc (hHeld.2.2.2.2.2.2.1) b
      have qw12_7 : w12.cell? ⟨gg, 7, none⟩ = some (.int .i64 e.po) := kc (hHeld.2.2.2.2.2.2.2.1) b
      have qw12_8 : w12.cell? ⟨gg, 8, none⟩ = some (.slice na e.ts.length nc) := kc (hHeld.2.2.2.2.2.2.2.2.1) b
      have qw12_9 : w12.cell? ⟨gg, 9, none⟩ = some (.int .i64 e.tm) := kc (hHeld.2.2.2.2.2.2.2.2.2.1) b
      have qw12_10 : w12.cell? ⟨cb, 0, none⟩ = some (.int .i64 e.cl) := kc (hHeld.2.2.2.2.2.2.2.2.2.2.1) b
      have qw12_11 : w12.cell? ⟨cb, 1, none⟩ = some (.int .i64 e.nu) := kc (hHeld.2.2.2.2.2.2.2.2.2.2.2.1) b
      have qw12_12 : w12.cell? ⟨cb, 2, none⟩ = some (.int .i64 e.ki) := kc (hHeld.2.2.2.2.2.2.2.2.2.2.2.2.1) b
      have qw12_13 : w12.cell? ⟨cb, 3, none⟩ = some (.int .i64 e.id) := kc (hHeld.2.2.2.2.2.2.2.2.2.2.2.2.2.1) b
      have qw12_14 : w12.cell? ⟨cb, 4, none⟩ = some (.int .i64 e.sk) := kc (hHeld.2.2.2.2.2.2.2.2.2.2.2.2.2.2.1) b
      have qw12_15 : w12.cell? ⟨cb, 5, none⟩ = some (.int .i64 e.sq) := kc (hHeld.2.2.2.2.2.2.2.2.2.2.2.2.2.2.2.1) b
      have qw12_16 : w12.cell? ⟨cb, 6, none⟩ = some (.int .i64 e.st) := kc (hHeld.2.2.2.2.2.2.2.2.2.2.2.2.2.2.2.2.1) b
      have qw12_17 : w12.cell? ⟨cb, 7, none⟩ = some (.int .i64 e.po) := kc (hHeld.2.2.2.2.2.2.2.2.2.2.2.2.2.2.2.2.2.1) b
      have qw12_18 : w12.cell? ⟨cb, 8, none⟩ = some (.slice ta e.ts.length tc) := kc (hHeld.2.2.2.2.2.2.2.2.2.2.2.2.2.2.2.2.2.2.1) b
      have qw12_19 : w12.cell? ⟨cb, 9, none⟩ = some (.int .i64 e.tm) := kc (hHeld.2.2.2.2.2.2.2.2.2.2.2.2.2.2.2.2.2.2.2) b
      clear hHeld
      refine hK.out _ _ ⟨qw12_0, qw12_1, qw12_2, qw12_3, qw12_4, qw12_5, qw12_6, qw12_7, qw12_8, qw12_9, qw12_10, qw12_11, qw12_12, qw12_13, qw12_14, qw12_15, qw12_16, qw12_17, qw12_18, qw12_19⟩ (fun hHeld => ?_)
      clear hK K qw12_0 qw12_1 qw12_2 qw12_3 qw12_4 qw12_5 qw12_6 qw12_7 qw12_8 qw12_9 qw12_10 qw12_11 qw12_12 qw12_13 qw12_14 qw12_15 qw12_16 qw12_17 qw12_18 qw12_19
      (try simp only [Act.put])
      refine tkE 2 123 (.bool true) rfl rfl hHeld ?_
      simp only [sZ, sS]
      refine tkE 3 124 (.bool true) rfl rfl hHeld ?_
      simp only [sZ, sS]
      refine tkE 4 125 (.slice (some ⟨gg, 0, none⟩) 1 zc) rfl rfl hHeld ?_
      simp only [sZ, sS]
      refine tkE 5 126 (.int .i64 1) rfl rfl hHeld ?_
      simp only [sZ, sS]
      refine tkE 6 127 (.bool true) rfl rfl hHeld ?_
      simp only [sZ, sS]
      refine tkE 7 128 (.bool true) rfl rfl hHeld ?_
      simp only [sZ, sS]
      refine tkE 8 129 (.bool true) rfl rfl hHeld ?_
      simp only [sZ, sS]
      refine tkE 9 130 (.slice (some ⟨gg, 0, none⟩) 1 zc) rfl rfl hHeld ?_
      simp only [sZ, sS]
      refine tkE 10 131 (.pointer (some ⟨gg, 0, none⟩)) rfl rfl hHeld ?_
      simp only [sZ, sS]
      refine tkE 11 132 (.agg #[.int .i64 e.cl, .int .i64 e.nu, .int .i64 e.ki, .int .i64 e.id, .int .i64 e.sk, .int .i64 e.sq, .int .i64 e.st, .int .i64 e.po, .slice na e.ts.length nc, .int .i64 e.tm]) rfl rfl hHeld ?_
      simp only [sZ, sS]
      refine tkE 12 133 (.agg #[.int .i64 e.cl, .int .i64 e.nu, .int .i64 e.ki, .int .i64 e.id, .int .i64 e.sk, .int .i64 e.sq, .int .i64 e.st, .int .i64 e.po, .slice ta e.ts.length tc, .int .i64 e.tm]) rfl rfl hHeld ?_
      simp only [sZ, sS]
      refine wpAnyH_ready (rs := [13]) (by kernel_rfl) (by simp) (AllReadyH.cons rfl (fun K hK => ?_) AllReadyH.nil)
      go_simp
      have HC : Calls Tryd.prog 26 #[.agg #[.int .i64 e.cl, .int .i64 e.nu, .int .i64 e.ki, .int .i64 e.id, .int .i64 e.sk, .int .i64 e.sq, .int .i64 e.st, .int .i64 e.po, .slice na e.ts.length nc, .int .i64 e.tm], .agg #[.int .i64 e.cl, .int .i64 e.nu, .int .i64 e.ki, .int .i64 e.id, .int .i64 e.sk, .int .i64 e.sq, .int .i64 e.st, .int .i64 e.po, .slice ta e.ts.length tc, .int .i64 e.tm]] w12 fun x w' => x = .returned (.bool true) ∧ Below w12.heap.size w12 w' := refSame_yes w12 (e, na, nc) (e, ta, tc) HE12.out (EnW.below HT.out.1 H12.out.low) rfl
      (with_reducible refine HC.mono ?_)
      clear HC
      rintro x w13 ⟨rfl, b⟩
      have H13 := mkHid (H12.out.late b)
      have qw13_0 : w13.cell? ⟨gg, 0, none⟩ = some (.int .i64 e.cl) := kc (hHeld.1) b
      have qw13_1 : w13.cell? ⟨gg, 1, none⟩ = some (.int .i64 e.nu) := kc (hHeld.2.1) b
      have qw13_2 : w13.cell? ⟨gg, 2, none⟩ = some (.int .i64 e.ki) := kc (hHeld.2.2.1) b
      have qw13_3 : w13.cell? ⟨gg, 3, none⟩ = some (.int .i64 e.id) := kc (hHeld.2.2.2.1) b
      have qw13_4 : w13.cell? ⟨gg, 4, none⟩ = some (.int .i64 e.sk) := kc (hHeld.2.2.2.2.1) b
      have qw13_5 : w13.cell? ⟨gg, 5, none⟩ = some (.int .i64 e.sq) := kc (hHeld.2.2.2.2.2.1) b
      have qw13_6 : w13.cell? ⟨gg, 6, none⟩ = some (.int .i64 e.st) := kc (hHeld.2.2.2.2.2.2.1) b
      have qw13_7 : w13.cell? ⟨gg, 7, none⟩ = some (.int .i64 e.po) := kc (hHeld.2.2.2.2.2.2.2.1) b
      have qw13_8 : w13.cell? ⟨gg, 8, none⟩ = some (.slice na e.ts.length nc) := kc (hHeld.2.2.2.2.2.2.2.2.1) b
      have qw13_9 : w13.cell? ⟨gg, 9, none⟩ = some (.int .i64 e.tm) := kc (hHeld.2.2.2.2.2.2.2.2.2.1) b
      have qw13_10 : w13.cell? ⟨cb, 0, none⟩ = some (.int .i64 e.cl) := kc (hHeld.2.2.2.2.2.2.2.2.2.2.1) b
      have qw13_11 : w13.cell? ⟨cb, 1, none⟩ = some (.int .i64 e.nu) := kc (hHeld.2.2.2.2.2.2.2.2.2.2.2.1) b
      have qw13_12 : w13.cell? ⟨cb, 2, none⟩ = some (.int .i64 e.ki) := kc (hHeld.2.2.2.2.2.2.2.2.2.2.2.2.1) b
      have qw13_13 : w13.cell? ⟨cb, 3, none⟩ = some (.int .i64 e.id) := kc (hHeld.2.2.2.2.2.2.2.2.2.2.2.2.2.1) b
      have qw13_14 : w13.cell? ⟨cb, 4, none⟩ = some (.int .i64 e.sk) := kc (hHeld.2.2.2.2.2.2.2.2.2.2.2.2.2.2.1) b
      have qw13_15 : w13.cell? ⟨cb, 5, none⟩ = some (.int .i64 e.sq) := kc (hHeld.2.2.2.2.2.2.2.2.2.2.2.2.2.2.2.1) b
      have qw13_16 : w13.cell? ⟨cb, 6, none⟩ = some (.int .i64 e.st) := kc (hHeld.2.2.2.2.2.2.2.2.2.2.2.2.2.2.2.2.1) b
      have qw13_17 : w13.cell? ⟨cb, 7, none⟩ = some (.int .i64 e.po) := kc (hHeld.2.2.2.2.2.2.2.2.2.2.2.2.2.2.2.2.2.1) b
      have qw13_18 : w13.cell? ⟨cb, 8, none⟩ = some (.slice ta e.ts.length tc) := kc (hHeld.2.2.2.2.2.2.2.2.2.2.2.2.2.2.2.2.2.2.1) b
      have qw13_19 : w13.cell? ⟨cb, 9, none⟩ = some (.int .i64 e.tm) := kc (hHeld.2.2.2.2.2.2.2.2.2.2.2.2.2.2.2.2.2.2.2) b
      clear hHeld
      refine hK.out _ _ ⟨qw13_0, qw13_1, qw13_2, qw13_3, qw13_4, qw13_5, qw13_6, qw13_7, qw13_8, qw13_9, qw13_10, qw13_11, qw13_12, qw13_13, qw13_14, qw13_15, qw13_16, qw13_17, qw13_18, qw13_19⟩ (fun hHeld => ?_)
      clear hK K qw13_0 qw13_1 qw13_2 qw13_3 qw13_4 qw13_5 qw13_6 qw13_7 qw13_8 qw13_9 qw13_10 qw13_11 qw13_12 qw13_13 qw13_14 qw13_15 qw13_16 qw13_17 qw13_18 qw13_19
      (try simp only [Act.put])
      refine tkE 14 135 (.bool true) rfl rfl hHeld ?_
      simp only [sZ, sS]
      refine tkE 15 136 (.bool true) rfl rfl hHeld ?_
      simp only [sZ, sS]
      refine tkE 16 137 (.pointer (some ⟨p, 0, none⟩)) rfl rfl hHeld ?_
      simp only [sZ, sS]
      refine wpAnyH_ready (rs := [17]) (by kernel_rfl) (by simp) (AllReadyH.cons rfl (fun K hK => ?_) AllReadyH.nil)
      go_simp
      have HC : Calls Tryd.prog 23 #[.pointer (some ⟨p, 0, none⟩)] w13 fun x w' => x = .returned (.int .i64 1) ∧ Below w13.heap.size w13 w' := lr_place 0 H13.out rfl rfl (plis_last (l := []) (plis_nil _ _))
      (with_reducible refine HC.mono ?_)
      clear HC
      rintro x w14 ⟨rfl, b⟩
      have HB14 := mkHid (bt H13.out.low b)
      have qw14_0 : w14.cell? ⟨gg, 0, none⟩ = some (.int .i64 e.cl) := kc (hHeld.1) b
      have qw14_1 : w14.cell? ⟨gg, 1, none⟩ = some (.int .i64 e.nu) := kc (hHeld.2.1) b
      have qw14_2 : w14.cell? ⟨gg, 2, none⟩ = some (.int .i64 e.ki) := kc (hHeld.2.2.1) b
      have qw14_3 : w14.cell? ⟨gg, 3, none⟩ = some (.int .i64 e.id) := kc (hHeld.2.2.2.1) b
      have qw14_4 : w14.cell? ⟨gg, 4, none⟩ = some (.int .i64 e.sk) := kc (hHeld.2.2.2.2.1) b
      have qw14_5 : w14.cell? ⟨gg, 5, none⟩ = some (.int .i64 e.sq) := kc (hHeld.2.2.2.2.2.1) b
      have qw14_6 : w14.cell? ⟨gg, 6, none⟩ = some (.int .i64 e.st) := kc (hHeld.2.2.2.2.2.2.1) b
      have qw14_7 : w14.cell? ⟨gg, 7, none⟩ = some (.int .i64 e.po) := kc (hHeld.2.2.2.2.2.2.2.1) b
      have qw14_8 : w14.cell? ⟨gg, 8, none⟩ = some (.slice na e.ts.length nc) := kc (hHeld.2.2.2.2.2.2.2.2.1) b
      have qw14_9 : w14.cell? ⟨gg, 9, none⟩ = some (.int .i64 e.tm) := kc (hHeld.2.2.2.2.2.2.2.2.2.1) b
      have qw14_10 : w14.cell? ⟨cb, 0, none⟩ = some (.int .i64 e.cl) := kc (hHeld.2.2.2.2.2.2.2.2.2.2.1) b
      have qw14_11 : w14.cell? ⟨cb, 1, none⟩ = some (.int .i64 e.nu) := kc (hHeld.2.2.2.2.2.2.2.2.2.2.2.1) b
      have qw14_12 : w14.cell? ⟨cb, 2, none⟩ = some (.int .i64 e.ki) := kc (hHeld.2.2.2.2.2.2.2.2.2.2.2.2.1) b
      have qw14_13 : w14.cell? ⟨cb, 3, none⟩ = some (.int .i64 e.id) := kc (hHeld.2.2.2.2.2.2.2.2.2.2.2.2.2.1) b
      have qw14_14 : w14.cell? ⟨cb, 4, none⟩ = some (.int .i64 e.sk) := kc (hHeld.2.2.2.2.2.2.2.2.2.2.2.2.2.2.1) b
      have qw14_15 : w14.cell? ⟨cb, 5, none⟩ = some (.int .i64 e.sq) := kc (hHeld.2.2.2.2.2.2.2.2.2.2.2.2.2.2.2.1) b
      have qw14_16 : w14.cell? ⟨cb, 6, none⟩ = some (.int .i64 e.st) := kc (hHeld.2.2.2.2.2.2.2.2.2.2.2.2.2.2.2.2.1) b
      have qw14_17 : w14.cell? ⟨cb, 7, none⟩ = some (.int .i64 e.po) := kc (hHeld.2.2.2.2.2.2.2.2.2.2.2.2.2.2.2.2.2.1) b
      have qw14_18 : w14.cell? ⟨cb, 8, none⟩ = some (.slice ta e.ts.length tc) := kc (hHeld.2.2.2.2.2.2.2.2.2.2.2.2.2.2.2.2.2.2.1) b
      have qw14_19 : w14.cell? ⟨cb, 9, none⟩ = some (.int .i64 e.tm) := kc (hHeld.2.2.2.2.2.2.2.2.2.2.2.2.2.2.2.2.2.2.2) b
      clear hHeld
      refine hK.out _ _ ⟨qw14_0, qw14_1, qw14_2, qw14_3, qw14_4, qw14_5, qw14_6, qw14_7, qw14_8, qw14_9, qw14_10, qw14_11, qw14_12, qw14_13, qw14_14, qw14_15, qw14_16, qw14_17, qw14_18, qw14_19⟩ (fun hHeld => ?_)
      clear hK K qw14_0 qw14_1 qw14_2 qw14_3 qw14_4 qw14_5 qw14_6 qw14_7 qw14_8 qw14_9 qw14_10 qw14_11 qw14_12 qw14_13 qw14_14 qw14_15 qw14_16 qw14_17 qw14_18 qw14_19
      (try simp only [Act.put])
      refine tkE 18 139 (.bool true) rfl rfl hHeld ?_
      simp only [sZ, sS]
      refine tkE 19 140 (.bool true) rfl rfl hHeld ?_
      simp only [sZ, sS]
      refine tkE 20 6 (.bool true) rfl rfl hHeld ?_
      simp only [sZ, sS]
      clear hHeld
      refine wpAnyH_done (by kernel_rfl) ?_ _
      go_wp2
      go_ret
      exact ⟨rfl, HB14.out⟩
end Go.Proofs.YtjocjkfllicjdaaDoor
