import Derived.Test.YtjocjkfllicjdaaDoorRnB
import Derived.Test.YtjocjkfllicjdaaDoorOpenRd
import Derived.Test.YtjocjkfllicjdaaDoorOsamel
/- The law RoundReads. -/
namespace Go.Proofs.YtjocjkfllicjdaaDoor
open Go.ChangeShapes Go.WideShapes Go.ChangeAt Go.RowKit
set_option maxRecDepth 100000
attribute [local go_sem] World.cell?_alloc_some frozen_alloc_some

/-- What the law holds on to: its ballot at bb, the told one at tb, an error. -/
def FF (W : World) (bb tb : Nat) (x y : Int) (es : Addr) : Prop := W.cell? ⟨bb, 0, none⟩ = some (.int .i64 (x + 1)) ∧ W.cell? ⟨bb, 1, none⟩ = some (.int .i64 0) ∧ W.cell? ⟨tb, 0, none⟩ = some (.int .i64 x) ∧ W.cell? ⟨tb, 1, none⟩ = some (.int .i64 y) ∧ W.cell? ⟨0, 0, none⟩ = some (vErr es)
theorem FF.below {W W' : World} {bb tb : Nat} {x y : Int} {es : Addr} (h : FF W bb tb x y es) (hb : Below W.heap.size W W') : FF W' bb tb x y es := ⟨kc h.1 hb, kc h.2.1 hb, kc h.2.2.1 hb, kc h.2.2.2.1 hb, kc h.2.2.2.2 hb⟩
theorem FF.kept {W W' : World} {bb tb p : Nat} {x y : Int} {es : Addr} (h : FF W bb tb x y es) (hk : Kept (fun k => k = p) W W') (h1 : bb ≠ p) (h2 : tb ≠ p) (h3 : 0 ≠ p) : FF W' bb tb x y es := ⟨hk.cell h.1 h1, hk.cell h.2.1 h1, hk.cell h.2.2.1 h2, hk.cell h.2.2.2.1 h2, hk.cell h.2.2.2.2 h3⟩
theorem copy_led {W W' : World} {B p : Nat} {v : Value} {qs ps : List Ep} (h : Led B W v qs) (hp : p < B) (hq : fs1 qs = fs1 ps) (hl : ps.length * 96 ≤ 140737488355328) (hs : ∀ u ∈ ps, small u) (hk : Kept (fun k => k = p) W W') : Ens W' v qs :=
  (h.kept hk (fun k e => .inl (by omega))).ens (by rw [len_fs hq]; omega) (fun u hu => by have := small_fs hq hs u hu; unfold small at this; omega)
theorem eq_err (w : World) (a : Addr) : (binOp .eql 38 (vErr a) (vErr a)).run Tryd.prog w = .ok (.bool true) w := by
  obtain ⟨i, hi, hcmp⟩ := Option.map_eq_some_iff.1 (show (Tryd.prog.info? 108).map (·.comparable) = some true by kernel_rfl)
  obtain ⟨j, hj, _⟩ := Option.map_eq_some_iff.1 (show (Tryd.prog.info? 125).map (·.size) = some 1 by kernel_rfl)
  exact run_eql_iface_ptr_same (P := Tryd.prog) w a Tryd.underlying38 Tryd.underlying108 hi hcmp hj
set_option maxHeartbeats 12800000 in
theorem reads_walk (w : World) (v : Value) (ps : List Ep) (b : Bl) (es ef : Addr) (h : Ens w v ps) (hs : ∀ u ∈ ps, small u) (hl : ps.length * 96 ≤ 140737488355328) (hes : w.cell? ⟨0, 0, none⟩ = some (vErr es)) (hef : w.cell? ⟨7, 0, none⟩ = some (vErr ef)) :
    Calls Tryd.prog 6 #[v, vB b] w fun e w' => e = .returned (.bool true) ∧ Below w.heap.size w w' := by
  obtain ⟨la, lc, rfl⟩ : ∃ la lc, v = .slice la ps.length lc := by obtain ⟨la, lc, e, _⟩ := h; exact ⟨la, lc, e⟩
  obtain ⟨x, y⟩ := b
  have HE := mkHid h
  have HS := mkHid (And.intro hs hl)
  have HEF := mkHid hef
  have HES := mkHid hes
  have HV : Hid (∀ W, Below w.heap.size w W → Calls Tryd.prog 7 #[] W fun e w' => e = .returned (.bool true) ∧ Below W.heap.size W w') := mkHid (fun W hb => ralive W ef (kc hef hb))
  have hx0 := heap_alloc_new w (oB (x, y))
  have HX0 := mkHid hx0
  clear h hs hef hes hx0
  obtain ⟨q, hq⟩ : ∃ q, q = balB (x, y) := ⟨_, rfl⟩
  have HL : Hid (∀ W, Calls Tryd.prog 18 #[.agg #[.int .i64 x, .int .i64 y]] W fun e w' => e = .returned (.bool q) ∧ Below W.heap.size W w') := mkHid (fun W => by rw [hq]; exact rLegal_any W (x, y))
  simp only [vB]
  cases q with
  | false =>
    clear hq
    go_enter Tryd.func6, Tryd.ntmps6
    go_wp2_with (first
      | (go_at_call 7; (with_reducible refine (HV.out _ (ba (Below.refl _ w) _)).mono ?_); rintro e w1 ⟨rfl, b1⟩; have HB1 := mkHid (bt (ba (Below.refl _ w) (oB (x, y))) b1); have hx1 := (b1.block _ (lt_of_heap HX0.out)).trans HX0.out; have HX1 := mkHid hx1; obtain ⟨y0, y1⟩ := two_at hx1; clear b1 hx1)
      | (go_at_call 18; (with_reducible refine (HL.out w1).mono ?_); rintro e w2 ⟨rfl, b2⟩; have HB2 := mkHid (bt HB1.out b2); have hx2 := (b2.block _ (lt_of_heap HX1.out)).trans HX1.out; have HX2 := mkHid hx2; obtain ⟨z0, z1⟩ := two_at hx2; clear b2 hx2 y0 y1))
    go_ret
    exact ⟨rfl, HB2.out⟩
  | true =>
    have hb : balF (x, y) := balB_iff.mp hq.symm
    obtain ⟨⟨hx1, hx2⟩, hy1, hy2⟩ := hb
    simp only at hx1 hx2 hy1 hy2
    clear hq
    by_cases hx : x = 1099511627776
    · subst hx
      go_enter Tryd.func6, Tryd.ntmps6
      go_wp2_with (first
        | (go_at_call 7; (with_reducible refine (HV.out _ (ba (Below.refl _ w) _)).mono ?_); rintro e w1 ⟨rfl, b1⟩; have HB1 := mkHid (bt (ba (Below.refl _ w) (oB (1099511627776, y))) b1); have hx1 := (b1.block _ (lt_of_heap HX0.out)).trans HX0.out; have HX1 := mkHid hx1; obtain ⟨y0, y1⟩ := two_at hx1; clear b1 hx1)
        | (go_at_call 18; (with_reducible refine (HL.out w1).mono ?_); rintro e w2 ⟨rfl, b2⟩; have HB2 := mkHid (bt HB1.out b2); have hx2 := (b2.block _ (lt_of_heap HX1.out)).trans HX1.out; have HX2 := mkHid hx2; obtain ⟨z0, z1⟩ := two_at hx2; clear b2 hx2 y0 y1))
      go_ret
      exact ⟨rfl, HB2.out⟩
    by_cases h64 : 64 < ps.length
    · have h64i : (64 : Int) < (ps.length : Int) := by omega
      go_enter Tryd.func6, Tryd.ntmps6
      go_wp2_with (first
        | (go_at_call 7; (with_reducible refine (HV.out _ (ba (Below.refl _ w) _)).mono ?_); rintro e w1 ⟨rfl, b1⟩; have HB1 := mkHid (bt (ba (Below.refl _ w) (oB (x, y))) b1); have hx1 := (b1.block _ (lt_of_heap HX0.out)).trans HX0.out; have HX1 := mkHid hx1; obtain ⟨y0, y1⟩ := two_at hx1; clear b1 hx1)
        | (go_at_call 18; (with_reducible refine (HL.out w1).mono ?_); rintro e w2 ⟨rfl, b2⟩; have HB2 := mkHid (bt HB1.out b2); have hx2 := (b2.block _ (lt_of_heap HX1.out)).trans HX1.out; have HX2 := mkHid hx2; obtain ⟨z0, z1⟩ := two_at hx2; clear b2 hx2 y0 y1))
      go_ret
      exact ⟨rfl, HB2.out⟩
    have h64i : (ps.length : Int) ≤ 64 := by omega
    have hx3 : x < 1099511627776 := by omega
    have hxe : (x == 1099511627776) = false := by simpa using hx
    have hwr : IntKind.i64.wrap (x + 1) = x + 1 := by rw [IntKind.wrap_i64]; omega
    have hwr2 : IntKind.i64.wrap (x + 2) = x + 2 := by rw [IntKind.wrap_i64]; omega
    have HXY := mkHid (And.intro hx1 (And.intro hx3 (And.intro hy1 hy2)))
    clear hx1 hx2 hy1 hy2
    go_enter Tryd.func6, Tryd.ntmps6
    go_wp2_with (first
      | (go_at_call 7; (with_reducible refine (HV.out _ (ba (Below.refl _ w) _)).mono ?_); rintro e w1 ⟨rfl, b1⟩; have HB1 := mkHid (bt (ba (Below.refl _ w) (oB (x, y))) b1); have hx1 := (b1.block _ (lt_of_heap HX0.out)).trans HX0.out; have HX1 := mkHid hx1; obtain ⟨y0, y1⟩ := two_at hx1; clear b1 hx1)
      | (go_at_call 18; (with_reducible refine (HL.out w1).mono ?_); rintro e w2 ⟨rfl, b2⟩; have HB2 := mkHid (bt HB1.out b2); have hx2 := (b2.block _ (lt_of_heap HX1.out)).trans HX1.out; have HX2 := mkHid hx2; obtain ⟨z0, z1⟩ := two_at hx2; clear b2 hx2 y0 y1)
      | (go_at_call 9; have HC : Calls Tryd.prog 9 #[.int .i64 1, .agg #[.int .i64 0, .int .i64 0, .int .i64 0, .int .i64 0, .int .i64 0, .int .i64 0, .int .i64 0, .int .i64 0, .slice none 0 0, .int .i64 0], .bool true] w2 fun x w' => ∃ p, x = .returned (.tuple #[.pointer (some ⟨p, 0, none⟩), .nilIface]) ∧ LR w w' p (Rn.zero 1 true) zEn1 [] ∧ Below w2.heap.size w2 w' ∧ w2.heap.size ≤ p := lr_new_reads 1 (zEn1, none, 0) HB2.out (by omega); (with_reducible refine HC.mono ?_); clear HC; rintro e w3 ⟨p, rfl, h3, b3, p3⟩; have H3 := mkHid h3; have HP3 := mkHid (And.intro p3 h3.at.2); have hx3' := (b3.block _ (lt_of_heap HX2.out)).trans HX2.out; have HX3 := mkHid hx3'; obtain ⟨y0, y1⟩ := two_at hx3'; clear h3 b3 p3 hx3' z0 z1))
    obtain ⟨bb, hbb⟩ : ∃ bb, bb = w3.heap.size := ⟨_, rfl⟩
    obtain ⟨tb, htb⟩ : ∃ tb, tb = w.heap.size := ⟨_, rfl⟩
    have hF : FF (w3.alloc (oB (x + 1, 0))) bb tb x y es := by
      have h1 := heap_alloc_new w3 (oB (x + 1, 0))
      refine ⟨by rw [hbb]; exact cell_of_block h1 rfl, by rw [hbb]; exact cell_of_block h1 rfl, by rw [htb]; exact kl y0 _, by rw [htb]; exact kl y1 _, kl (kc HES.out H3.out.low) _⟩
    have H4 := mkHid (H3.out.late (ba (Below.refl _ w3) (oB (x + 1, 0))))
    have HNE : Hid (bb ≠ p ∧ tb ≠ p ∧ 0 ≠ p) := mkHid (by
      have h1 := HP3.out
      have h2 := World.block_lt_of_cell? w _ HES.out
      have h3 := HB2.out.size
      have h4 := lt_of_heap HX2.out
      simp only at h2
      exact ⟨by omega, by omega, by omega⟩)
    rw [← hbb]
    rw [← htb]
    clear y0 y1 hbb htb
    generalize w3.alloc (oB (x + 1, 0)) = w4 at hF H4 ⊢
    have HF4 := mkHid hF
    have d0 : w4.drew.cell? ⟨bb, 0, none⟩ = some (.int .i64 (x + 1)) := hF.1
    have d1 : w4.drew.cell? ⟨bb, 1, none⟩ = some (.int .i64 0) := hF.2.1
    have d2 : w4.drew.cell? ⟨tb, 0, none⟩ = some (.int .i64 x) := hF.2.2.1
    have d3 : w4.drew.cell? ⟨tb, 1, none⟩ = some (.int .i64 y) := hF.2.2.2.1
    have d4 : w4.drew.cell? ⟨0, 0, none⟩ = some (vErr es) := hF.2.2.2.2
    clear hF
    have HD4 : Hid (LR w w4.drew p (Rn.zero 1 true) zEn1 []) := mkHid (H4.out.late ((Below.refl _ w4).drew))
    have HFD4 : Hid (FF w4.drew bb tb x y es) := mkHid HF4.out
    obtain ⟨rb1, hrb1⟩ : ∃ r : Rn, r = (Rn.zero 1 true).begin (x + 1, 0) := ⟨_, rfl⟩
    have HBG : Hid (Calls Tryd.prog 15 #[.pointer (some ⟨p, 0, none⟩), .agg #[.int .i64 (x + 1), .int .i64 0]] w4.drew fun e w' => e = .returned .nilIface ∧ LR w w' p rb1 zEn1 [] ∧ Kept (fun k => k = p) w4.drew w') := mkHid (by
      rw [hrb1]
      refine lr_begin (x + 1, 0) HD4.out (by decide) (by decide) ?_ (by decide)
      have h1 := HXY.out
      have e1 : balB (x + 1, 0) = true := balB_iff.mpr ⟨⟨by show 1 ≤ x + 1; omega, by show x + 1 ≤ 1099511627776; omega⟩, by show 0 ≤ (0 : Int); omega, by show (0 : Int) ≤ 6; omega⟩
      have e2 : aboveB (x + 1, 0) (Rn.zero 1 true).b = true := by unfold aboveB Rn.zero; simp only; rw [if_neg (by omega)]; simp; omega
      rw [e1, e2]; rfl)
    have HCP : Hid (∀ W, Below w.heap.size w W → Calls Tryd.prog 8 #[.slice la ps.length lc] W fun r w' => ∃ a c qs, r = .returned (.slice a qs.length c) ∧ Led W.heap.size w' (.slice a qs.length c) qs ∧ fs1 qs = fs1 ps ∧ Below W.heap.size W w') := mkHid (fun W hb => (copy_any W _ ps (HE.out.below hb) HS.out.2 HS.out.1).mono (by rintro e w' ⟨v', qs, rfl, hl, hq, hb'⟩; obtain ⟨a2, c2, rfl, _⟩ := own_sh hl.own; exact ⟨a2, c2, qs, rfl, hl, hq, hb'⟩))
    obtain ⟨rb2, hrb2⟩ : ∃ r : Rn, r = (hearN rb1 0 (x, y)).enter 2 := ⟨_, rfl⟩
    have HPR : Hid (∀ W lm qs, LR w W p rb1 zEn1 [] → (∀ W', Kept (fun k => k = p) W W' → Ens W' lm qs) → fs1 qs = fs1 ps → Calls Tryd.prog 19 #[.pointer (some ⟨p, 0, none⟩), .int .i64 0, .agg #[.int .i64 (x + 1), .int .i64 0], .agg #[.int .i64 x, .int .i64 y], lm] W fun e w' => e = .returned (.bool true) ∧ LR w w' p rb2 zEn1 (fs1 ps) ∧ Kept (fun k => k = p) W w') := mkHid (fun W lm qs hW hm hq => by
      have ha : aboveB (x, y) rb1.nw = true := by
        have h1 := HXY.out
        have e : rb1.nw = (0, 0) := by rw [hrb1]; rfl
        rw [e]
        unfold aboveB
        rw [if_neg (show ¬ x = 0 by omega)]
        exact decide_eq_true (show 0 < x by omega)
      obtain ⟨k, hk⟩ := plis_ex (newL rb1 (x, y) [] (fs1 qs)) zEn1.cl zEn1.nu
      have hc := lr_promise 0 k (x + 1, 0) (x, y) lm qs ef hW (by rw [hrb1]; simp [cntsB, Rn.begin, Rn.enter, Rn.zero, Rn.at, Rn.an]) hm (by rw [len_fs hq]; exact HS.out.2) (small_fs hq HS.out.1) hk HEF.out
      have hh : halfI rb1.N ≤ ((rb1.hear 0).cnt : Int) := by
        rw [show rb1.N = 1 by rw [hrb1]; rfl, show (rb1.hear 0).cnt = 1 by rw [hrb1]; rfl]
        decide
      have hrd : rb1.rd = true := by rw [hrb1]; rfl
      unfold promS promL at hc
      rw [if_pos hh, if_pos hh] at hc
      unfold tellS tellL at hc
      rw [if_pos (show (hearN rb1 0 (x, y)).rd = true from hrd), if_pos hrd] at hc
      unfold newL at hc
      rw [if_pos ha, hq] at hc
      rw [hrb2]
      exact hc)
    have HRS : Hid (rb2.st = 2 ∧ rb2.rd = true ∧ (accR rb2 0).st = 3 ∧ cntsB rb2 2 0 (x + 1, 0) = true) := mkHid (by
      rw [hrb2, hrb1]
      refine ⟨rfl, rfl, rfl, ?_⟩
      show cntsB ⟨1, true, 2, (x + 1, 0), false, false, false, false, false, false, false, _, 1⟩ 2 0 (x + 1, 0) = true
      simp [cntsB, Rn.at, Rn.an])
    clear hrb1 hrb2
    refine wp_region_held_drew (S := fun w' => w'.cell? ⟨bb, 0, none⟩ = some (.int .i64 (x + 1)) ∧ w'.cell? ⟨bb, 1, none⟩ = some (.int .i64 0) ∧ w'.cell? ⟨tb, 0, none⟩ = some (.int .i64 x) ∧ w'.cell? ⟨tb, 1, none⟩ = some (.int .i64 y) ∧ w'.cell? ⟨0, 0, none⟩ = some (vErr es)) (by kernel_rfl) ⟨d0, d1, d2, d3, d4⟩ (fun hHeld => ?_)
    refine tkE 0 32 (.nilIface) rfl rfl hHeld ?_
    simp only [sZ, sS]
    refine tkE 1 33 (.bool false) rfl rfl hHeld ?_
    simp only [sZ, sS]
    refine tkE 2 34 (.bool false) rfl rfl hHeld ?_
    simp only [sZ, sS]
    refine tkE 3 35 (.pointer (some ⟨p, 0, none⟩)) rfl rfl hHeld ?_
    simp only [sZ, sS]
    refine tkE 4 36 (.bool false) rfl rfl hHeld ?_
    simp only [sZ, sS]
    refine tkE 5 37 (.bool false) rfl rfl hHeld ?_
    simp only [sZ, sS]
    refine tkE 6 38 (.bool false) rfl rfl hHeld ?_
    simp only [sZ, sS]
    refine tkE 7 39 (.pointer (some ⟨p, 0, none⟩)) rfl rfl hHeld ?_
    simp only [sZ, sS]
    refine tkE 8 40 (.agg #[.int .i64 (x + 1), .int .i64 0]) rfl rfl hHeld ?_
    simp only [sZ, sS]
    refine wpAnyH_ready (rs := [9]) (by kernel_rfl) (by simp) (AllReadyH.cons rfl (fun K hK => ?_) AllReadyH.nil)
    go_simp
    have HC : Calls Tryd.prog 15 #[.pointer (some ⟨p, 0, none⟩), .agg #[.int .i64 (x + 1), .int .i64 0]] w4.drew fun e w' => e = .returned .nilIface ∧ LR w w' p rb1 zEn1 [] ∧ Kept (fun k => k = p) w4.drew w' := HBG.out
    (with_reducible refine HC.mono ?_)
    clear HC
    rintro x w5 ⟨rfl, h, k⟩
    have H5 := mkHid h
    have HF5 := mkHid (HFD4.out.kept k HNE.out.1 HNE.out.2.1 HNE.out.2.2)
    have HB5 := mkHid h.low
    clear h k
    have qw5_0 : w5.cell? ⟨bb, 0, none⟩ = some (.int .i64 (x + 1)) := HF5.out.1
    have qw5_1 : w5.cell? ⟨bb, 1, none⟩ = some (.int .i64 0) := HF5.out.2.1
    have qw5_2 : w5.cell? ⟨tb, 0, none⟩ = some (.int .i64 x) := HF5.out.2.2.1
    have qw5_3 : w5.cell? ⟨tb, 1, none⟩ = some (.int .i64 y) := HF5.out.2.2.2.1
    have qw5_4 : w5.cell? ⟨0, 0, none⟩ = some (vErr es) := HF5.out.2.2.2.2
    clear hHeld
    refine hK.out _ _ ⟨qw5_0, qw5_1, qw5_2, qw5_3, qw5_4⟩ (fun hHeld => ?_)
    clear hK K qw5_0 qw5_1 qw5_2 qw5_3 qw5_4
    (try simp only [Act.put])
    refine tkE 10 42 (.bool false) rfl rfl hHeld ?_
    simp only [sZ, sS]
    refine tkE 11 43 (.bool false) rfl rfl hHeld ?_
    simp only [sZ, sS]
    refine tkE 12 44 (.bool false) rfl rfl hHeld ?_
    simp only [sZ, sS]
    refine tkE 13 45 (.pointer (some ⟨p, 0, none⟩)) rfl rfl hHeld ?_
    simp only [sZ, sS]
    refine tkE 14 46 (.agg #[.int .i64 (x + 1), .int .i64 0]) rfl rfl hHeld ?_
    simp only [sZ, sS]
    refine tkE 15 47 (.agg #[.int .i64 x, .int .i64 y]) rfl rfl hHeld ?_
    simp only [sZ, sS]
    refine tkE 16 48 (.slice la ps.length lc) rfl rfl hHeld ?_
    simp only [sZ, sS]
    refine wpAnyH_ready (rs := [17]) (by kernel_rfl) (by simp) (AllReadyH.cons rfl (fun K hK => ?_) AllReadyH.nil)
    go_simp
    have HC : Calls Tryd.prog 8 #[.slice la ps.length lc] w5 fun r w' => ∃ a c qs, r = .returned (.slice a qs.length c) ∧ Led w5.heap.size w' (.slice a qs.length c) qs ∧ fs1 qs = fs1 ps ∧ Below w5.heap.size w5 w' := HCP.out w5 HB5.out
    (with_reducible refine HC.mono ?_)
    clear HC
    rintro x w6 ⟨ca, cc, qs, rfl, hL, hq, b⟩
    have H6 := mkHid (H5.out.late b)
    have HF6 := mkHid (HF5.out.below b)
    have HL6 := mkHid (And.intro hL (And.intro hq H5.out.at.2))
    clear b hL hq
    have qw6_0 : w6.cell? ⟨bb, 0, none⟩ = some (.int .i64 (x + 1)) := HF6.out.1
    have qw6_1 : w6.cell? ⟨bb, 1, none⟩ = some (.int .i64 0) := HF6.out.2.1
    have qw6_2 : w6.cell? ⟨tb, 0, none⟩ = some (.int .i64 x) := HF6.out.2.2.1
    have qw6_3 : w6.cell? ⟨tb, 1, none⟩ = some (.int .i64 y) := HF6.out.2.2.2.1
    have qw6_4 : w6.cell? ⟨0, 0, none⟩ = some (vErr es) := HF6.out.2.2.2.2
    clear hHeld
    refine hK.out _ _ ⟨qw6_0, qw6_1, qw6_2, qw6_3, qw6_4⟩ (fun hHeld => ?_)
    clear hK K qw6_0 qw6_1 qw6_2 qw6_3 qw6_4
    (try simp only [Act.put])
    refine wpAnyH_ready (rs := [18]) (by kernel_rfl) (by simp) (AllReadyH.cons rfl (fun K hK => ?_) AllReadyH.nil)
    go_simp
    have HC : Calls Tryd.prog 19 #[.pointer (some ⟨p, 0, none⟩), .int .i64 0, .agg #[.int .i64 (x + 1), .int .i64 0], .agg #[.int .i64 x, .int .i64 y], .slice ca qs.length cc] w6 fun e w' => e = .returned (.bool true) ∧ LR w w' p rb2 zEn1 (fs1 ps) ∧ Kept (fun k => k = p) w6 w' := HPR.out w6 (.slice ca qs.length cc) qs H6.out (fun W' k => copy_led HL6.out.1 HL6.out.2.2 HL6.out.2.1 HS.out.2 HS.out.1 k) HL6.out.2.1
    (with_reducible refine HC.mono ?_)
    clear HC
    rintro x w7 ⟨rfl, h, k⟩
    have H7 := mkHid h
    have HF7 := mkHid (HF6.out.kept k HNE.out.1 HNE.out.2.1 HNE.out.2.2)
    have HB7 := mkHid h.low
    clear h k
    have qw7_0 : w7.cell? ⟨bb, 0, none⟩ = some (.int .i64 (x + 1)) := HF7.out.1
    have qw7_1 : w7.cell? ⟨bb, 1, none⟩ = some (.int .i64 0) := HF7.out.2.1
    have qw7_2 : w7.cell? ⟨tb, 0, none⟩ = some (.int .i64 x) := HF7.out.2.2.1
    have qw7_3 : w7.cell? ⟨tb, 1, none⟩ = some (.int .i64 y) := HF7.out.2.2.2.1
    have qw7_4 : w7.cell? ⟨0, 0, none⟩ = some (vErr es) := HF7.out.2.2.2.2
    clear hHeld
    refine hK.out _ _ ⟨qw7_0, qw7_1, qw7_2, qw7_3, qw7_4⟩ (fun hHeld => ?_)
    clear hK K qw7_0 qw7_1 qw7_2 qw7_3 qw7_4
    (try simp only [Act.put])
    refine tkE 19 51 (.bool false) rfl rfl hHeld ?_
    simp only [sZ, sS]
    refine tkE 20 52 (.bool false) rfl rfl hHeld ?_
    simp only [sZ, sS]
    clear hHeld
    refine wpAnyH_done (by kernel_rfl) ?_ _
    go_wp2
    have d0 : w7.drew.cell? ⟨bb, 0, none⟩ = some (.int .i64 (x + 1)) := HF7.out.1
    have d1 : w7.drew.cell? ⟨bb, 1, none⟩ = some (.int .i64 0) := HF7.out.2.1
    have d2 : w7.drew.cell? ⟨tb, 0, none⟩ = some (.int .i64 x) := HF7.out.2.2.1
    have d3 : w7.drew.cell? ⟨tb, 1, none⟩ = some (.int .i64 y) := HF7.out.2.2.2.1
    have d4 : w7.drew.cell? ⟨0, 0, none⟩ = some (vErr es) := HF7.out.2.2.2.2
    have HD7 : Hid (LR w w7.drew p rb2 zEn1 (fs1 ps)) := mkHid (H7.out.late ((Below.refl _ w7).drew))
    have HFD7 : Hid (FF w7.drew bb tb x y es) := mkHid HF7.out
    refine wp_region_held_drew (S := fun w' => w'.cell? ⟨bb, 0, none⟩ = some (.int .i64 (x + 1)) ∧ w'.cell? ⟨bb, 1, none⟩ = some (.int .i64 0) ∧ w'.cell? ⟨tb, 0, none⟩ = some (.int .i64 x) ∧ w'.cell? ⟨tb, 1, none⟩ = some (.int .i64 y) ∧ w'.cell? ⟨0, 0, none⟩ = some (vErr es)) (by kernel_rfl) ⟨d0, d1, d2, d3, d4⟩ (fun hHeld => ?_)
    refine tkE 0 53 (.pointer (some ⟨p, 0, none⟩)) rfl rfl hHeld ?_
    simp only [sZ, sS]
    refine wpAnyH_ready (rs := [1]) (by kernel_rfl) (by simp) (AllReadyH.cons rfl (fun K hK => ?_) AllReadyH.nil)
    go_simp
    have HC : Calls Tryd.prog 17 #[.pointer (some ⟨p, 0, none⟩)] w7.drew fun e w' => e = .returned (.int .i64 2) ∧ w' = w7.drew := HRS.out.1 ▸ lr_stage HD7.out
    (with_reducible refine HC.mono ?_)
    clear HC
    rintro x w8 ⟨rfl, e⟩
    have H8 : Hid (LR w w8 p rb2 zEn1 (fs1 ps)) := mkHid (e ▸ HD7.out)
    have HF8 : Hid (FF w8 bb tb x y es) := mkHid (e ▸ HFD7.out)
    clear e
    have qw8_0 : w8.cell? ⟨bb, 0, none⟩ = some (.int .i64 (x + 1)) := HF8.out.1
    have qw8_1 : w8.cell? ⟨bb, 1, none⟩ = some (.int .i64 0) := HF8.out.2.1
    have qw8_2 : w8.cell? ⟨tb, 0, none⟩ = some (.int .i64 x) := HF8.out.2.2.1
    have qw8_3 : w8.cell? ⟨tb, 1, none⟩ = some (.int .i64 y) := HF8.out.2.2.2.1
    have qw8_4 : w8.cell? ⟨0, 0, none⟩ = some (vErr es) := HF8.out.2.2.2.2
    clear hHeld
    refine hK.out _ _ ⟨qw8_0, qw8_1, qw8_2, qw8_3, qw8_4⟩ (fun hHeld => ?_)
    clear hK K qw8_0 qw8_1 qw8_2 qw8_3 qw8_4
    (try simp only [Act.put])
    refine tkE 2 55 (.bool true) rfl rfl hHeld ?_
    simp only [sZ, sS]
    refine tkE 3 56 (.bool true) rfl rfl hHeld ?_
    simp only [sZ, sS]
    refine tkE 4 57 (.pointer (some ⟨p, 0, none⟩)) rfl rfl hHeld ?_
    simp only [sZ, sS]
    refine tkE 6 59 (.slice la ps.length lc) rfl rfl hHeld ?_
    simp only [sZ, sS]
    refine wpAnyH_ready (rs := [5]) (by kernel_rfl) (by simp) (AllReadyH.cons rfl (fun K hK => ?_) AllReadyH.nil)
    go_simp
    have HC : Calls Tryd.prog 22 #[.pointer (some ⟨p, 0, none⟩)] w8 fun x w' => ∃ a c qs, x = .returned (.slice a qs.length c) ∧ Led w8.heap.size w' (.slice a qs.length c) qs ∧ Ens w' (.slice a qs.length c) qs ∧ fs1 qs = fs1 ps ∧ Below w8.heap.size w8 w' := lr_ledger H8.out (by unfold hasB; rw [HRS.out.1]; rfl)
    (with_reducible refine HC.mono ?_)
    clear HC
    rintro x w9 ⟨ga, gc, gs, rfl, _, hE, hq, b⟩
    have H9 := mkHid (H8.out.late b)
    have HF9 := mkHid (HF8.out.below b)
    have HG9 := mkHid (And.intro hE hq)
    have HB9 := mkHid H9.out.low
    clear b hE hq
    have qw9_0 : w9.cell? ⟨bb, 0, none⟩ = some (.int .i64 (x + 1)) := HF9.out.1
    have qw9_1 : w9.cell? ⟨bb, 1, none⟩ = some (.int .i64 0) := HF9.out.2.1
    have qw9_2 : w9.cell? ⟨tb, 0, none⟩ = some (.int .i64 x) := HF9.out.2.2.1
    have qw9_3 : w9.cell? ⟨tb, 1, none⟩ = some (.int .i64 y) := HF9.out.2.2.2.1
    have qw9_4 : w9.cell? ⟨0, 0, none⟩ = some (vErr es) := HF9.out.2.2.2.2
    clear hHeld
    refine hK.out _ _ ⟨qw9_0, qw9_1, qw9_2, qw9_3, qw9_4⟩ (fun hHeld => ?_)
    clear hK K qw9_0 qw9_1 qw9_2 qw9_3 qw9_4
    (try simp only [Act.put])
    refine wpAnyH_ready (rs := [7]) (by kernel_rfl) (by simp) (AllReadyH.cons rfl (fun K hK => ?_) AllReadyH.nil)
    go_simp
    have HC : Calls Tryd.prog 21 #[.slice ga gs.length gc, .slice la ps.length lc] w9 fun r w' => r = .returned (.bool true) ∧ Below w9.heap.size w9 w' := sameL_yes w9 _ _ gs ps HG9.out.1 (HE.out.below HB9.out) HG9.out.2
    (with_reducible refine HC.mono ?_)
    clear HC
    rintro x w10 ⟨rfl, b⟩
    have H10 := mkHid (H9.out.late b)
    have HF10 := mkHid (HF9.out.below b)
    clear b
    have qw10_0 : w10.cell? ⟨bb, 0, none⟩ = some (.int .i64 (x + 1)) := HF10.out.1
    have qw10_1 : w10.cell? ⟨bb, 1, none⟩ = some (.int .i64 0) := HF10.out.2.1
    have qw10_2 : w10.cell? ⟨tb, 0, none⟩ = some (.int .i64 x) := HF10.out.2.2.1
    have qw10_3 : w10.cell? ⟨tb, 1, none⟩ = some (.int .i64 y) := HF10.out.2.2.2.1
    have qw10_4 : w10.cell? ⟨0, 0, none⟩ = some (vErr es) := HF10.out.2.2.2.2
    clear hHeld
    refine hK.out _ _ ⟨qw10_0, qw10_1, qw10_2, qw10_3, qw10_4⟩ (fun hHeld => ?_)
    clear hK K qw10_0 qw10_1 qw10_2 qw10_3 qw10_4
    (try simp only [Act.put])
    refine tkE 8 61 (.bool true) rfl rfl hHeld ?_
    simp only [sZ, sS]
    refine tkE 9 62 (.bool true) rfl rfl hHeld ?_
    simp only [sZ, sS]
    refine tkE 10 63 (.pointer (some ⟨p, 0, none⟩)) rfl rfl hHeld ?_
    simp only [sZ, sS]
    refine tkE 12 65 (.slice la ps.length lc) rfl rfl hHeld ?_
    simp only [sZ, sS]
    refine tkE 13 66 (.int .i64 (ps.length : Int)) rfl rfl hHeld ?_
    simp only [sZ, sS]
    refine wpAnyH_ready (rs := [11]) (by kernel_rfl) (by simp) (AllReadyH.cons rfl (fun K hK => ?_) AllReadyH.nil)
    go_simp
    have HC : Calls Tryd.prog 23 #[.pointer (some ⟨p, 0, none⟩)] w10 fun e w' => e = .returned (.int .i64 ((fs1 ps).length : Int)) ∧ w' = w10 := lr_place_reads H10.out (by unfold hasB; rw [HRS.out.1]; rfl) HRS.out.2.1
    rw [show (fs1 ps).length = ps.length by simp [fs1]] at HC
    (with_reducible refine HC.mono ?_)
    clear HC
    rintro x w11 ⟨rfl, e⟩
    have H11 : Hid (LR w w11 p rb2 zEn1 (fs1 ps)) := mkHid (e ▸ H10.out)
    have HF11 : Hid (FF w11 bb tb x y es) := mkHid (e ▸ HF10.out)
    clear e
    have qw11_0 : w11.cell? ⟨bb, 0, none⟩ = some (.int .i64 (x + 1)) := HF11.out.1
    have qw11_1 : w11.cell? ⟨bb, 1, none⟩ = some (.int .i64 0) := HF11.out.2.1
    have qw11_2 : w11.cell? ⟨tb, 0, none⟩ = some (.int .i64 x) := HF11.out.2.2.1
    have qw11_3 : w11.cell? ⟨tb, 1, none⟩ = some (.int .i64 y) := HF11.out.2.2.2.1
    have qw11_4 : w11.cell? ⟨0, 0, none⟩ = some (vErr es) := HF11.out.2.2.2.2
    clear hHeld
    refine hK.out _ _ ⟨qw11_0, qw11_1, qw11_2, qw11_3, qw11_4⟩ (fun hHeld => ?_)
    clear hK K qw11_0 qw11_1 qw11_2 qw11_3 qw11_4
    (try simp only [Act.put])
    refine tkE 14 67 (.bool true) rfl rfl hHeld ?_
    simp only [sZ, sS]
    refine tkE 15 68 (.bool true) rfl rfl hHeld ?_
    simp only [sZ, sS]
    refine tkE 16 69 (.bool true) rfl rfl hHeld ?_
    simp only [sZ, sS]
    refine tkE 17 70 (.pointer (some ⟨p, 0, none⟩)) rfl rfl hHeld ?_
    simp only [sZ, sS]
    refine tkE 18 71 (.agg #[.int .i64 (x + 1), .int .i64 0]) rfl rfl hHeld ?_
    simp only [sZ, sS]
    refine wpAnyH_ready (rs := [19]) (by kernel_rfl) (by simp) (AllReadyH.cons rfl (fun K hK => ?_) AllReadyH.nil)
    go_simp
    have HC : Calls Tryd.prog 25 #[.pointer (some ⟨p, 0, none⟩), .int .i64 0, .agg #[.int .i64 (x + 1), .int .i64 0]] w11 fun e w' => e = .returned (.bool true) ∧ LR w w' p (accR rb2 0) zEn1 (fs1 ps) ∧ Kept (fun k => k = p) w11 w' := lr_accept 0 (x + 1, 0) H11.out HRS.out.2.2.2
    (with_reducible refine HC.mono ?_)
    clear HC
    rintro x w12 ⟨rfl, h, k⟩
    have H12 := mkHid h
    have HF12 := mkHid (HF11.out.kept k HNE.out.1 HNE.out.2.1 HNE.out.2.2)
    clear h k
    have qw12_0 : w12.cell? ⟨bb, 0, none⟩ = some (.int .i64 (x + 1)) := HF12.out.1
    have qw12_1 : w12.cell? ⟨bb, 1, none⟩ = some (.int .i64 0) := HF12.out.2.1
    have qw12_2 : w12.cell? ⟨tb, 0, none⟩ = some (.int .i64 x) := HF12.out.2.2.1
    have qw12_3 : w12.cell? ⟨tb, 1, none⟩ = some (.int .i64 y) := HF12.out.2.2.2.1
    have qw12_4 : w12.cell? ⟨0, 0, none⟩ = some (vErr es) := HF12.out.2.2.2.2
    clear hHeld
    refine hK.out _ _ ⟨qw12_0, qw12_1, qw12_2, qw12_3, qw12_4⟩ (fun hHeld => ?_)
    clear hK K qw12_0 qw12_1 qw12_2 qw12_3 qw12_4
    (try simp only [Act.put])
    refine tkE 20 73 (.bool true) rfl rfl hHeld ?_
    simp only [sZ, sS]
    refine tkE 21 74 (.bool true) rfl rfl hHeld ?_
    simp only [sZ, sS]
    refine tkE 22 75 (.pointer (some ⟨p, 0, none⟩)) rfl rfl hHeld ?_
    simp only [sZ, sS]
    refine wpAnyH_ready (rs := [23]) (by kernel_rfl) (by simp) (AllReadyH.cons rfl (fun K hK => ?_) AllReadyH.nil)
    go_simp
    have HC : Calls Tryd.prog 17 #[.pointer (some ⟨p, 0, none⟩)] w12 fun e w' => e = .returned (.int .i64 3) ∧ w' = w12 := HRS.out.2.2.1 ▸ lr_stage H12.out
    (with_reducible refine HC.mono ?_)
    clear HC
    rintro x w13 ⟨rfl, e⟩
    have H13 : Hid (LR w w13 p (accR rb2 0) zEn1 (fs1 ps)) := mkHid (e ▸ H12.out)
    have HF13 : Hid (FF w13 bb tb x y es) := mkHid (e ▸ HF12.out)
    clear e
    have qw13_0 : w13.cell? ⟨bb, 0, none⟩ = some (.int .i64 (x + 1)) := HF13.out.1
    have qw13_1 : w13.cell? ⟨bb, 1, none⟩ = some (.int .i64 0) := HF13.out.2.1
    have qw13_2 : w13.cell? ⟨tb, 0, none⟩ = some (.int .i64 x) := HF13.out.2.2.1
    have qw13_3 : w13.cell? ⟨tb, 1, none⟩ = some (.int .i64 y) := HF13.out.2.2.2.1
    have qw13_4 : w13.cell? ⟨0, 0, none⟩ = some (vErr es) := HF13.out.2.2.2.2
    clear hHeld
    refine hK.out _ _ ⟨qw13_0, qw13_1, qw13_2, qw13_3, qw13_4⟩ (fun hHeld => ?_)
    clear hK K qw13_0 qw13_1 qw13_2 qw13_3 qw13_4
    (try simp only [Act.put])
    refine tkE 24 77 (.bool true) rfl rfl hHeld ?_
    simp only [sZ, sS]
    refine tkE 25 78 (.bool true) rfl rfl hHeld ?_
    simp only [sZ, sS]
    refine tkE 26 79 (.bool true) rfl rfl hHeld ?_
    simp only [sZ, sS]
    refine tkE 27 80 (.pointer (some ⟨p, 0, none⟩)) rfl rfl hHeld ?_
    simp only [sZ, sS]
    refine tkE 28 81 (.pointer (some ⟨tb, 0, none⟩)) rfl rfl hHeld ?_
    simp only [sZ, sS]
    refine tkE 29 82 (.int .i64 x) rfl rfl hHeld ?_
    simp only [sZ, sS]
    refine tkE 30 83 (.int .i64 (x + 2)) rfl rfl hHeld ?_
    simp only [sZ, sS]
    refine tkE 31 84 (.agg #[.int .i64 (x + 2), .int .i64 0]) rfl rfl hHeld ?_
    simp only [sZ, sS]
    refine tkE 33 86 (vErr es) rfl rfl hHeld ?_
    simp only [sZ, sS]
    refine wpAnyH_ready (rs := [32]) (by kernel_rfl) (by simp) (AllReadyH.cons rfl (fun K hK => ?_) AllReadyH.nil)
    go_simp
    have HC : Calls Tryd.prog 15 #[.pointer (some ⟨p, 0, none⟩), .agg #[.int .i64 (x + 2), .int .i64 0]] w13 fun e w' => e = .returned (vErr es) ∧ Below w13.heap.size w13 w' := by
      obtain ⟨G, a, c, t, qs', h1, _, _, _, _⟩ := H13.out
      exact begin_state (x + 2, 0) es h1 (.inl HRS.out.2.2.1) HF13.out.2.2.2.2
    (with_reducible refine HC.mono ?_)
    clear HC
    rintro x w14 ⟨rfl, b⟩
    have HB14 := mkHid (bt H13.out.low b)
    have HF14 := mkHid (HF13.out.below b)
    clear b
    have qw14_0 : w14.cell? ⟨bb, 0, none⟩ = some (.int .i64 (x + 1)) := HF14.out.1
    have qw14_1 : w14.cell? ⟨bb, 1, none⟩ = some (.int .i64 0) := HF14.out.2.1
    have qw14_2 : w14.cell? ⟨tb, 0, none⟩ = some (.int .i64 x) := HF14.out.2.2.1
    have qw14_3 : w14.cell? ⟨tb, 1, none⟩ = some (.int .i64 y) := HF14.out.2.2.2.1
    have qw14_4 : w14.cell? ⟨0, 0, none⟩ = some (vErr es) := HF14.out.2.2.2.2
    clear hHeld
    refine hK.out _ _ ⟨qw14_0, qw14_1, qw14_2, qw14_3, qw14_4⟩ (fun hHeld => ?_)
    clear hK K qw14_0 qw14_1 qw14_2 qw14_3 qw14_4
    (try simp only [Act.put])
    refine takeD 34 87 (.bool true) rfl rfl (by kernel_rfl) (by kernel_rfl) (by kernel_rfl) (fun _ _ _ h => h) (Or.inl ⟨by kernel_rfl, by intro w hSw; (try dsimp only at hSw); go_simp; rw [eq_err]; rfl⟩) hHeld ?_
    simp only [sZ, sS]
    refine tkE 35 88 (.bool true) rfl rfl hHeld ?_
    simp only [sZ, sS]
    refine tkE 36 4 (.bool true) rfl rfl hHeld ?_
    simp only [sZ, sS]
    clear hHeld
    refine wpAnyH_done (by kernel_rfl) ?_ _
    go_wp2
    go_ret
    exact ⟨rfl, HB14.out⟩
end Go.Proofs.YtjocjkfllicjdaaDoor
