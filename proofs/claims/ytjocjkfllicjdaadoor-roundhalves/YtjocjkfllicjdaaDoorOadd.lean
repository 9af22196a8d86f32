/- Add and Place: the program's and the document's. -/
import Derived.Test.YtjocjkfllicjdaaDoorOclone
import Derived.Test.YtjocjkfllicjdaaDoorOledgers
namespace Go.Proofs.YtjocjkfllicjdaaDoor
open Go.ChangeShapes Go.WideShapes Go.ChangeAt Go.RowKit
set_option maxRecDepth 100000
attribute [local go_sem] World.cell?_alloc_some frozen_alloc_some

set_option maxHeartbeats 3200000 in
theorem Place_yes (w : World) (v : Value) (ps : List Ep) (c n : Int) (k : Nat) (h : Ens w v ps) (hl : (ps.length : Int) ≤ 9223372036854775807) (hk : PlIs (fs1 ps) c n (k + 1)) :
    Calls Tryd.prog 46 #[v, .int .i64 c, .int .i64 n] w fun e w' => e = .returned (.tuple #[.int .i64 ((k : Int) + 1), .nilIface]) ∧ Below w.heap.size w w' := by
  have HP := mkHid (place_any w v ps c n (k + 1) h hl hk)
  obtain ⟨a, cap, rfl⟩ : ∃ a c, v = .slice a ps.length c := by obtain ⟨a, c, e, _⟩ := h; exact ⟨a, c, e⟩
  have h0 : (((k + 1 : Nat) : Int) == 0) = false := by simp; omega
  clear h hk hl
  go_enter Tryd.func46, Tryd.ntmps46
  go_wp2_with (go_at_call 57; refine HP.out.mono ?_; rintro r w2 ⟨rfl, hb⟩; have HB2 := mkHid hb; clear hb)
  go_ret2
  exact ⟨by simp, HB2.out⟩
set_option maxHeartbeats 3200000 in
theorem Place_no (w : World) (v : Value) (ps : List Ep) (c n : Int) (eg : Addr) (h : Ens w v ps) (hl : (ps.length : Int) ≤ 9223372036854775807) (hk : PlIs (fs1 ps) c n 0) (he : w.cell? ⟨5, 0, none⟩ = some (vErr eg)) :
    Calls Tryd.prog 46 #[v, .int .i64 c, .int .i64 n] w fun e w' => e = .returned (.tuple #[.int .i64 0, vErr eg]) ∧ Below w.heap.size w w' := by
  have HP := mkHid (place_any w v ps c n 0 h hl hk)
  have HE := mkHid he
  obtain ⟨a, cap, rfl⟩ : ∃ a c, v = .slice a ps.length c := by obtain ⟨a, c, e, _⟩ := h; exact ⟨a, c, e⟩
  clear h hk hl he
  go_enter Tryd.func46, Tryd.ntmps46
  go_wp2_with (go_at_call 57; refine HP.out.mono ?_; rintro r w2 ⟨rfl, hb⟩; have ce := kc HE.out hb; have HB2 := mkHid hb; clear hb)
  go_quiet (fail)
  go_wp2
  go_ret2
  exact ⟨rfl, drb HB2.out _⟩
set_option maxHeartbeats 3200000 in
theorem rplace_any (w : World) (v : Value) (ps : List Ep) (c n : Int) (k : Nat) (h : Ens w v ps) (hl : (ps.length : Int) ≤ 9223372036854775806) (hk : PlIs (fs1 ps) c n k) :
    Calls Tryd.prog 53 #[v, .int .i64 c, .int .i64 n] w fun e w' => e = .returned (.int .i64 (k : Int)) ∧ Below w.heap.size w w' := by
  obtain ⟨a, cap, rfl⟩ : ∃ a c, v = .slice a ps.length c := by obtain ⟨a, c, e, _⟩ := h; exact ⟨a, c, e⟩
  have HE := mkHid h
  have HK := mkHid hk
  clear h hk
  go_enter Tryd.func53, Tryd.ntmps53
  go_wp2
  go_loopw [11] (fun iv wr => ∃ j : Nat, iv = .int .i64 (j : Int) ∧ j ≤ ps.length ∧ Hid (Below w.heap.size w wr) ∧ Hid (∀ (i : Nat) (x : En), i < j → (fs1 ps)[i]? = some x → ¬ atP c n x)) (fun iv _ => ps.length - (intOf iv).toNat)
  case atStart => exact ⟨0, rfl, Nat.zero_le _, mkHid (Below.refl _ _), mkHid (fun i x hi => by omega)⟩
  case round =>
    obtain ⟨j, rfl, hj, HB, HO⟩ := hrel
    by_cases hlt : j < ps.length
    · obtain ⟨b, off, ⟨e, ta, tc⟩, rfl, hxj, hat, _⟩ := HE.out.at HB.out j hlt
      obtain ⟨q0, q1, q2, q3, q4, q5, q6, q7, q8, q9⟩ := hat.ten
      simp only [tv] at q0 q1 q2 q3 q4 q5 q6 q7 q8 q9
      have hji : (j : Int) < ps.length := by omega
      have HY := mkHid (fs1_at hxj)
      clear hxj hat
      by_cases hm : atP c n e
      · obtain ⟨h1, h2⟩ := id hm
        have HM := mkHid hm
        clear hm
        subst h1 h2
        have hw1 : IntKind.i64.wrap ((j : Int) + 1) = (j : Int) + 1 := by rw [IntKind.wrap_i64]; omega
        go_wp2
        go_ret
        refine ⟨?_, ba HB.out _⟩
        have := plis_one HK.out (.inr ⟨j, e, rfl, HY.out, HM.out, HO.out⟩)
        subst this
        simp
      · have HM := mkHid hm
        have hstep : Hid (∀ (i : Nat) (x : En), i < j + 1 → (fs1 ps)[i]? = some x → ¬ atP c n x) := mkHid (fun i x hi hx => by
          by_cases e2 : i = j
          · subst e2
            have hy : (fs1 ps)[i]? = some e := HY.out
            rw [hx] at hy
            simp at hy
            rw [hy]
            exact HM.out
          · exact HO.out i x (by omega) hx)
        by_cases h1 : e.cl = c
        · have h2 : (e.nu == n) = false := by simp; exact fun h2 => hm ⟨h1, h2⟩
          subst h1
          clear hm
          go_wp2
          go_roundw
          case rel => exact ⟨j + 1, by go_num, by omega, mkHid (ba HB.out _), hstep⟩
          case measure => simp [intOf]; omega
        · have h2 : (e.cl == c) = false := by simpa using h1
          clear hm
          go_wp2
          go_roundw
          case rel => exact ⟨j + 1, by go_num, by omega, mkHid (ba HB.out _), hstep⟩
          case measure => simp [intOf]; omega
    · obtain rfl : j = ps.length := by omega
      go_wp2
      go_ret
      refine ⟨?_, HB.out⟩
      have := plis_one HK.out (.inl ⟨rfl, fun i e hx => HO.out i e (by have := (List.getElem?_eq_some_iff.mp hx).1; simpa using this) hx⟩)
      subst this
      rfl
theorem Led.upw {b c : Nat} {w : World} {v : Value} {ps : List Ep} (h : Led c w v ps) (hb : b ≤ c) : Led b w v ps :=
  ⟨⟨h.own.1, h.own.2.imp id fun ⟨g, cap, cur, e1, hg, rest⟩ => ⟨g, cap, cur, e1, Nat.le_trans hb hg, rest⟩⟩, fun t ht => own_up4 (h.tk t ht) hb, h.ne⟩
/-- The ledger with an entry of which none is there behind it. -/
def plus (l : List En) (e : En) : List En := l ++ [e]
set_option maxHeartbeats 6400000 in
theorem add_there (w : World) (v : Value) (ps : List Ep) (t : Ep) (k : Nat) (h : Ens w v ps) (hl : ps.length * 96 ≤ 140737488355328) (hs : ∀ t ∈ ps, small t) (hk : PlIs (fs1 ps) t.1.cl t.1.nu (k + 1)) :
    Calls Tryd.prog 56 #[v, vP t] w fun r w' => ∃ v' qs, r = .returned (.tuple #[v', .int .i64 ((k : Int) + 1), .nilIface]) ∧ Led w.heap.size w' v' qs ∧ fs1 qs = fs1 ps ∧ Below w.heap.size w w' := by
  obtain ⟨e, ta, tc⟩ := t
  have HP := mkHid (fun W (hW : Below w.heap.size w W) => place_any W v ps e.cl e.nu (k + 1) (h.below hW) (by omega) hk)
  have HC := mkHid (fun W (hW : Below w.heap.size w W) => cloneL_any W v ps (h.below hW) hl hs)
  obtain ⟨a, cap, rfl⟩ : ∃ a c, v = .slice a ps.length c := by obtain ⟨a, c, e, _⟩ := h; exact ⟨a, c, e⟩
  clear h hk hl hs
  simp only [vP, vN, tv]
  go_enter Tryd.func56, Tryd.ntmps56
  go_wp2_with (first
    | (go_at_call 57; refine (HP.out _ (ba (Below.refl _ w) _)).mono ?_; rintro r w2 ⟨rfl, hb⟩; have HB2 := mkHid (bt (ba (Below.refl _ w) _) hb); clear hb)
    | (go_at_call 62; refine (HC.out w2 HB2.out).mono ?_; rintro r w3 ⟨v3, qs, rfl, hl3, hq3, hb3⟩; obtain ⟨xa, xc, rfl, _⟩ := own_sh hl3.own; have HL3 := mkHid (And.intro hl3 (And.intro hq3 hb3)); clear hl3 hq3 hb3))
  go_ret3
  exact ⟨_, qs, rfl, HL3.out.1.upw HB2.out.size, HL3.out.2.1, bt HB2.out HL3.out.2.2⟩
set_option maxHeartbeats 6400000 in
theorem add_full (w : World) (v : Value) (ps : List Ep) (t : Ep) (ef : Addr) (h : Ens w v ps) (hl : (ps.length : Int) ≤ 9223372036854775807) (hk : PlIs (fs1 ps) t.1.cl t.1.nu 0) (h64 : 64 ≤ ps.length) (he : w.cell? ⟨7, 0, none⟩ = some (vErr ef)) :
    Calls Tryd.prog 56 #[v, vP t] w fun r w' => r = .returned (.tuple #[.slice none 0 0, .int .i64 0, vErr ef]) ∧ Below w.heap.size w w' := by
  obtain ⟨e, ta, tc⟩ := t
  have HP := mkHid (fun W (hW : Below w.heap.size w W) => place_any W v ps e.cl e.nu 0 (h.below hW) hl hk)
  have HE := mkHid he
  obtain ⟨a, cap, rfl⟩ : ∃ a c, v = .slice a ps.length c := by obtain ⟨a, c, e, _⟩ := h; exact ⟨a, c, e⟩
  have h64' : ¬ (ps.length : Int) < 64 := by omega
  clear h hk hl he
  simp only [vP, vN, tv]
  go_enter Tryd.func56, Tryd.ntmps56
  go_wp2_with (go_at_call 57; refine (HP.out _ (ba (Below.refl _ w) _)).mono ?_; rintro r w2 ⟨rfl, hb⟩; have HB2 := mkHid (bt (ba (Below.refl _ w) _) hb); have ce := kc HE.out HB2.out; clear hb)
  go_quiet (fail)
  go_wp2
  go_ret3
  exact ⟨rfl, drb HB2.out _⟩
theorem src_blk {W : World} {b : Nat} {t : Ep} (h : W.heap[b]? = some (oE t.1 (tv t))) : Src Tryd.prog 10 35 (.slice (some ⟨b, 0, none⟩) 1 1) 1 (c10 t) W := by
  refine Src.ofSlice _ Tryd.underlying35 _ 1 1 _ rfl (fun j u hj => ?_) (fun u hu => by simp [c10] at hu; rcases hu with rfl | rfl | rfl | rfl | rfl | rfl | rfl | rfl | rfl | rfl <;> rfl)
  rw [add_none, Nat.zero_add]
  exact cell_of_block h (by simpa [c10] using hj)
theorem step_append_src10 {P : Program} {ops : Array Oper} {o : Oper} {a : Act} {w : World} {K : Act → World → Prop} {Q : Exit → Act → World → Prop} {E : Prop} (hgd : o.guard = none) (sl x : Operand) (t tx : TypeId)
    (hop : o.op = .call { callee := .builtin .append, args := #[sl, x], argTypes := #[t, tx] })
    (base : Nat) (e : TypeId) (i : TypeInfo) (ht : P.underlying t = some (.slice e)) (hi : P.info? e = some i) (z : Value) (B : Nat) (hz : i.zero = some z) (hzs : z.cells.size = 10) (hsize : i.size = 10) (hby : i.bytes = B)
    (v : Value) (n : Nat) (xs : List Value) (hs : a.eval sl = v) (hown : w.ownsRow base e 10 v n xs) (xv : Value) (m : Nat) (news : List Value) (hx : a.eval x = xv) (hsrc : Src P 10 tx xv m news w)
    (h63 : n + m ≤ maxLen) (hbytes : (n + m) * B ≤ 140737488355328) (hbase : base ≤ w.heap.size)
    (h : ∀ v' w', w'.ownsRow base e 10 v' (n + m) (xs ++ news) → w.grownBy w' v.ownBlock → (v'.ownBlock = v.ownBlock ∨ v'.ownBlock = some w.heap.size) → K (a.put o.dst v') w') :
    if Region.wanted o (yielded ops a.tmps) = true then Oper.wp P o a w K Q else E := by
  have hw : Region.wanted o (yielded ops a.tmps) = true := by simp [Region.wanted, hgd]
  rw [if_pos hw]
  obtain ⟨v', w', hr, h2, h3, h4⟩ := run_append_own_src10 (P := P) w base t tx o.type e i ht hi z B hz hzs hsize hby v n xs hown xv m news hsrc h63 hbytes hbase
  unfold Oper.wp execOp
  simp only [hop, resolve, invoke, builtin, Sem.run_bind, Sem.run_pure, Result.andThen_ok, List.map_toArray, List.map_cons, List.map_nil, hs, hx, hr]
  exact h v' w' h2 h3 h4
set_option maxHeartbeats 25600000 in
theorem add_new (w : World) (v : Value) (ps : List Ep) (t : Ep) (h : Ens w v ps) (hs : ∀ t ∈ ps, small t) (ht : EnW w t) (hst : small t) (hk : PlIs (fs1 ps) t.1.cl t.1.nu 0) (h64 : ps.length < 64) :
    Calls Tryd.prog 56 #[v, vP t] w fun r w' => ∃ v' qs, r = .returned (.tuple #[v', .int .i64 ((ps.length : Int) + 1), .nilIface]) ∧ Led w.heap.size w' v' qs ∧ fs1 qs = fs1 ps ++ [t.1] ∧ Below w.heap.size w w' := by
  obtain ⟨ie2, hi, hz0, hz1, hz2⟩ := info_parts info_entry
  obtain ⟨zth2, hzth⟩ : ∃ z : Value, z = .agg #[.int .i64 0, .int .i64 0, .int .i64 0, .int .i64 0, .int .i64 0, .int .i64 0, .int .i64 0, .int .i64 0, .slice none 0 0, .int .i64 0] := ⟨_, rfl⟩
  rw [← hzth] at hz0
  have HZ2 : Hid (zth2.cells.size = 10) := mkHid (by rw [hzth]; rfl)
  have hie2 := mkHid (And.intro hi (And.intro hz0 (And.intro hz1 hz2)))
  clear hzth hi hz0 hz1 hz2
  obtain ⟨e, ta, tc⟩ := t
  have HP := mkHid (fun W (hW : Below w.heap.size w W) => place_any W v ps e.cl e.nu 0 (h.below hW) (by omega) hk)
  have HC := mkHid (fun W (hW : Below w.heap.size w W) => cloneL_any W v ps (h.below hW) (by omega) hs)
  have HCE := mkHid (fun W (hW : Below w.heap.size w W) => cloneE_any W e ta tc (EnW.below ht hW) hst)
  obtain ⟨a, cap, rfl⟩ : ∃ a c, v = .slice a ps.length c := by obtain ⟨a, c, e, _⟩ := h; exact ⟨a, c, e⟩
  have h64' : (ps.length : Int) < 64 := by omega
  clear h hk hs ht hst
  simp only [vP, vN, tv] at HCE ⊢
  go_enter Tryd.func56, Tryd.ntmps56
  go_wp2_with (go_at_call 57; refine (HP.out _ (ba (Below.refl _ w) _)).mono ?_; rintro r w2 ⟨rfl, hb⟩; have HB2 := mkHid (bt (ba (Below.refl _ w) _) hb); have hx2 := (hb.block w.heap.size (by simp)).trans (entO w e (.slice ta e.ts.length tc)); have HB0' : Hid (w.heap.size < w2.heap.size) := mkHid (by have := hb.size; simp at this; omega); clear hb)
  obtain ⟨b0, hb0⟩ : ∃ b0, b0 = w.heap.size := ⟨_, rfl⟩
  have HB0 : Hid (b0 < w2.heap.size) := mkHid (by rw [hb0]; exact HB0'.out)
  rw [← hb0] at hx2 ⊢
  have HBQ := mkHid hb0
  clear hb0 HB0'
  have HB2d : Hid (Below w.heap.size w w2.drew) := mkHid HB2.out.drew
  refine wp_region_held_drew (S := fun w' => w'.cell? ⟨b0, 0, none⟩ = some (.int .i64 e.cl) ∧ w'.cell? ⟨b0, 1, none⟩ = some (.int .i64 e.nu) ∧ w'.cell? ⟨b0, 2, none⟩ = some (.int .i64 e.ki) ∧ w'.cell? ⟨b0, 3, none⟩ = some (.int .i64 e.id) ∧ w'.cell? ⟨b0, 4, none⟩ = some (.int .i64 e.sk) ∧ w'.cell? ⟨b0, 5, none⟩ = some (.int .i64 e.sq) ∧ w'.cell? ⟨b0, 6, none⟩ = some (.int .i64 e.st) ∧ w'.cell? ⟨b0, 7, none⟩ = some (.int .i64 e.po) ∧ w'.cell? ⟨b0, 8, none⟩ = some (.slice ta e.ts.length tc) ∧ w'.cell? ⟨b0, 9, none⟩ = some (.int .i64 e.tm)) (by kernel_rfl) (ent_cells (w := w2.drew) hx2) (fun hHeld => ?_)
  clear hx2
  refine takeD 0 24 (.slice a ps.length cap) rfl rfl (by kernel_rfl) (by kernel_rfl) (by kernel_rfl) (fun _ _ _ h => h) (Or.inl ⟨by kernel_rfl, by intro w hSw; (try dsimp only at hSw); go_simp⟩) hHeld ?_
  simp only [List.set_cons_zero, List.set_cons_succ]
  refine takeD 2 26 (.agg #[.int .i64 e.cl, .int .i64 e.nu, .int .i64 e.ki, .int .i64 e.id, .int .i64 e.sk, .int .i64 e.sq, .int .i64 e.st, .int .i64 e.po, .slice ta e.ts.length tc, .int .i64 e.tm]) rfl rfl (by kernel_rfl) (by kernel_rfl) (by kernel_rfl) (fun _ _ _ h => h) (Or.inl ⟨by kernel_rfl, by intro w hSw; (try dsimp only at hSw); go_simp⟩) hHeld ?_
  simp only [List.set_cons_zero, List.set_cons_succ]
  refine wpAnyH_ready (rs := [1]) (by kernel_rfl) (by simp) (AllReadyH.cons rfl (fun K hK => ?_) AllReadyH.nil)
  go_simp
  refine (HC.out w2.drew HB2d.out).mono ?_
  rintro r w3 ⟨v3, qs, rfl, hl3, hq3, b3⟩
  obtain ⟨xa, xc, rfl, _⟩ := own_sh hl3.own
  have HL3 := mkHid (And.intro hl3 (And.intro hq3 b3))
  have HQ3 := mkHid (And.intro (kc hHeld.1 b3) (And.intro (kc hHeld.2.1 b3) (And.intro (kc hHeld.2.2.1 b3) (And.intro (kc hHeld.2.2.2.1 b3) (And.intro (kc hHeld.2.2.2.2.1 b3) (And.intro (kc hHeld.2.2.2.2.2.1 b3) (And.intro (kc hHeld.2.2.2.2.2.2.1 b3) (And.intro (kc hHeld.2.2.2.2.2.2.2.1 b3) (And.intro (kc hHeld.2.2.2.2.2.2.2.2.1 b3) (kc hHeld.2.2.2.2.2.2.2.2.2 b3))))))))))
  have HB3 := mkHid (bt HB2d.out b3)
  clear hl3 hq3 b3
  refine hK.out _ _ HQ3.out (fun hHeld => ?_)
  clear hK K
  refine wpAnyH_ready (rs := [3]) (by kernel_rfl) (by simp) (AllReadyH.cons rfl (fun K hK => ?_) AllReadyH.nil)
  go_simp
  refine (HCE.out w3 HB3.out).mono ?_
  rintro r w4 ⟨ca, cc, rfl, ho4, b4⟩
  have HO4 := mkHid (And.intro ho4 b4)
  have HQ4 := mkHid (And.intro (kc hHeld.1 b4) (And.intro (kc hHeld.2.1 b4) (And.intro (kc hHeld.2.2.1 b4) (And.intro (kc hHeld.2.2.2.1 b4) (And.intro (kc hHeld.2.2.2.2.1 b4) (And.intro (kc hHeld.2.2.2.2.2.1 b4) (And.intro (kc hHeld.2.2.2.2.2.2.1 b4) (And.intro (kc hHeld.2.2.2.2.2.2.2.1 b4) (And.intro (kc hHeld.2.2.2.2.2.2.2.2.1 b4) (kc hHeld.2.2.2.2.2.2.2.2.2 b4))))))))))
  have HB4 := mkHid (bt HB3.out b4)
  clear ho4 b4
  refine hK.out _ _ HQ4.out (fun hHeld => ?_)
  clear hK K
  refine wpAnyH_ready (rs := [4]) (by kernel_rfl) (by simp) (AllReadyH.cons rfl (fun K hK => ?_) AllReadyH.nil)
  have HQA := mkHid (And.intro (kc hHeld.1 (ba (Below.refl _ w4) (oE e (.slice ca e.ts.length cc)))) (And.intro (kc hHeld.2.1 (ba (Below.refl _ w4) (oE e (.slice ca e.ts.length cc)))) (And.intro (kc hHeld.2.2.1 (ba (Below.refl _ w4) (oE e (.slice ca e.ts.length cc)))) (And.intro (kc hHeld.2.2.2.1 (ba (Below.refl _ w4) (oE e (.slice ca e.ts.length cc)))) (And.intro (kc hHeld.2.2.2.2.1 (ba (Below.refl _ w4) (oE e (.slice ca e.ts.length cc)))) (And.intro (kc hHeld.2.2.2.2.2.1 (ba (Below.refl _ w4) (oE e (.slice ca e.ts.length cc)))) (And.intro (kc hHeld.2.2.2.2.2.2.1 (ba (Below.refl _ w4) (oE e (.slice ca e.ts.length cc)))) (And.intro (kc hHeld.2.2.2.2.2.2.2.1 (ba (Below.refl _ w4) (oE e (.slice ca e.ts.length cc)))) (And.intro (kc hHeld.2.2.2.2.2.2.2.2.1 (ba (Below.refl _ w4) (oE e (.slice ca e.ts.length cc)))) (kc hHeld.2.2.2.2.2.2.2.2.2 (ba (Below.refl _ w4) (oE e (.slice ca e.ts.length cc)))))))))))))
  go_simp
  refine hK.out _ _ HQA.out (fun hHeld => ?_)
  clear hK K
  (try simp only [Act.put])
  refine wpAnyH_ready (rs := [5]) (by kernel_rfl) (by simp) (AllReadyH.cons rfl (fun K hK => ?_) AllReadyH.nil)
  have HF : Hid (Led w.heap.size (w4.alloc (oE e (.slice ca e.ts.length cc))) (.slice xa qs.length xc) qs ∧ (w4.alloc (oE e (.slice ca e.ts.length cc))).ownsRow w.heap.size 45 4 (.slice ca e.ts.length cc) e.ts.length (e.ts.flatMap c4) ∧ (∀ k, (Value.slice ca e.ts.length cc).ownBlock = some k → (Value.slice xa qs.length xc).ownBlock ≠ some k) ∧ Src Tryd.prog 10 35 (.slice (some ⟨w4.heap.size, 0, none⟩) 1 1) 1 (c10 (e, ca, cc)) (w4.alloc (oE e (.slice ca e.ts.length cc))) ∧ Below w.heap.size w (w4.alloc (oE e (.slice ca e.ts.length cc))) ∧ fs1 qs = fs1 ps) := mkHid ⟨(HL3.out.1.upw HB2d.out.size).below (ba HO4.out.2 _), own_up4 (own4_below HO4.out.1 (ba (Below.refl _ w4) _)) HB3.out.size, fun k e1 e2 => by have := (HO4.out.1.lt k e1).1; have := (HL3.out.1.own.lt k e2).2; omega, src_blk (heap_alloc_new w4 _), ba HB4.out _, HL3.out.2.1⟩
  have hqn : qs.length = ps.length := by have e1 := congrArg List.length HF.out.2.2.2.2.2; rwa [fs1, fs1, List.length_map, List.length_map] at e1
  refine step_append_src10 (w := (w4.alloc (oE e (.slice ca e.ts.length cc)))) rfl (.tmp 25) (.tmp 28) 35 35 rfl w.heap.size 28 ie2 Tryd.underlying35 hie2.out.1 zth2 96 hie2.out.2.1 HZ2.out hie2.out.2.2.1 hie2.out.2.2.2 (.slice xa qs.length xc) qs.length (qs.flatMap c10) (by simp [Act.eval]) HF.out.1.own _ 1 (c10 (e, ca, cc)) (by simp [Act.eval]) HF.out.2.2.2.1 (by unfold maxLen; omega) (by omega) HF.out.2.2.2.2.1.size ?_
  intro v9 w9 ho9 hg9 hv9
  obtain ⟨ya, yc, rfl⟩ := own_shape ho9
  have HE9 := mkHid (And.intro (HF.out.1.push (t := (e, ca, cc)) ho9 hg9 hv9 HF.out.2.1 HF.out.2.2.1) (HF.out.2.2.2.2.1.grown hg9 HF.out.2.2.2.2.1.size (fun k hk => (HF.out.1.own.lt k hk).1)))
  have HQ9 : Hid (w9.cell? ⟨b0, 0, none⟩ = some (.int .i64 e.cl) ∧ w9.cell? ⟨b0, 1, none⟩ = some (.int .i64 e.nu) ∧ w9.cell? ⟨b0, 2, none⟩ = some (.int .i64 e.ki) ∧ w9.cell? ⟨b0, 3, none⟩ = some (.int .i64 e.id) ∧ w9.cell? ⟨b0, 4, none⟩ = some (.int .i64 e.sk) ∧ w9.cell? ⟨b0, 5, none⟩ = some (.int .i64 e.sq) ∧ w9.cell? ⟨b0, 6, none⟩ = some (.int .i64 e.st) ∧ w9.cell? ⟨b0, 7, none⟩ = some (.int .i64 e.po) ∧ w9.cell? ⟨b0, 8, none⟩ = some (.slice ta e.ts.length tc) ∧ w9.cell? ⟨b0, 9, none⟩ = some (.int .i64 e.tm)) := mkHid (by
    have hk := Kept.grown hg9 (F := fun k => (Value.slice xa qs.length xc).ownBlock = some k) (fun k hk => hk)
    have hn : ¬ (Value.slice xa qs.length xc).ownBlock = some b0 := fun e1 => by have h1 := (HL3.out.1.own.lt b0 e1).1; have h2 := HB0.out; simp at h1; omega
    exact ⟨hk.cell hHeld.1 hn, hk.cell hHeld.2.1 hn, hk.cell hHeld.2.2.1 hn, hk.cell hHeld.2.2.2.1 hn, hk.cell hHeld.2.2.2.2.1 hn, hk.cell hHeld.2.2.2.2.2.1 hn, hk.cell hHeld.2.2.2.2.2.2.1 hn, hk.cell hHeld.2.2.2.2.2.2.2.1 hn, hk.cell hHeld.2.2.2.2.2.2.2.2.1 hn, hk.cell hHeld.2.2.2.2.2.2.2.2.2 hn⟩)
  clear ho9 hg9 hv9
  refine hK.out _ _ HQ9.out (fun hHeld => ?_)
  clear hK K
  (try simp only [Act.put])
  refine takeD 6 8 (.slice ya (qs.length + 1) yc) rfl rfl (by kernel_rfl) (by kernel_rfl) (by kernel_rfl) (fun _ _ _ h => h) (Or.inl ⟨by kernel_rfl, by intro w hSw; (try dsimp only at hSw); go_simp⟩) hHeld ?_
  simp only [List.set_cons_zero, List.set_cons_succ]
  refine wpAnyH_done (by kernel_rfl) ?_ _
  have hw1 : ((qs.length + 1 : Nat) : Int) = (ps.length : Int) + 1 := by omega
  go_wp2
  go_ret3
  exact ⟨_, qs ++ [(e, ca, cc)], by first | rfl | (congr 3; omega) | simp [hw1], HE9.out.1, by rw [fs1, List.map_append]; show fs1 qs ++ _ = _; rw [HF.out.2.2.2.2.2]; rfl, HE9.out.2⟩
end Go.Proofs.YtjocjkfllicjdaaDoor
