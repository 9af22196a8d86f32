import Derived.Test.YtaiklaipdocdmaaDoorOrX
import Derived.Test.YtaiklaipdocdmaaDoorRrY
import Derived.Test.YtaiklaipdocdmaaDoorOread
/- The document's Read. -/
namespace Go.Proofs.YtaiklaipdocdmaaDoor
open Go.ChangeShapes Go.WideShapes Go.ChangeAt Go.RowKit
set_option maxRecDepth 100000
attribute [local go_sem] World.cell?_alloc_some frozen_alloc_some

theorem refrbytes_no (w : World) (m : Nat) (v : Value) (bs : List Int) (i : Nat) (most : Int) (hM : MR w m v i) (h : Rd w v bs) (hi : i ≤ bs.length) (hl : (bs.length : Int) ≤ 140737488355328) (hno : PieceNo bs i most) :
    Calls Tryd.prog 62 #[.pointer (some ⟨m, 0, none⟩), .int .i64 most] w fun e w' => e = .returned (.tuple #[.slice none 0 0, .int .i64 3]) ∧ Below w.heap.size w w' := by
  by_cases hd : ∃ (N : Nat) (r : List Int), (N : Int) ≤ 9223372036854775807 ∧ bs.drop i = enc N ++ r
  · obtain ⟨N, r, hN, hd⟩ := hd
    by_cases hm : (N : Int) ≤ most
    · exact refrbytes_short w m v bs i N r most hM h hi hl hN hd hm (Nat.not_le.mp fun h => hno N r ⟨hd, hm, h⟩)
    · exact refrbytes_much w m v bs i N r most hM h hi hl hN hd (by omega)
  · exact refrbytes_none w m v bs i most hM h hi hl (fun N r hN e => hd ⟨N, r, hN, e⟩)
theorem bytesE_ne (e : En) : bytesE e ≠ [] := fun h => by
  have := congrArg List.length (encL_one h)
  rw [nums_len] at this
  simp at this
theorem rget_nil (w : World) : Calls Tryd.prog 88 #[.slice none 0 0] w fun r w' => r = .returned (.tuple #[zE, .bool false]) ∧ Below w.heap.size w w' := by
  refine (rget_any w _ [] (rd_nil w) (by simp)).mono ?_
  rintro r w' (⟨t, _, hb, _⟩ | ⟨_, rfl, hb⟩)
  · exact absurd hb.symm (bytesE_ne _)
  · exact ⟨rfl, hb⟩
theorem rget_no (w : World) (v : Value) (bs : List Int) (h : Rd w v bs) (hl : (bs.length : Int) ≤ 140737488355328) (hno : ∀ e, inF e → bs ≠ bytesE e) : Calls Tryd.prog 88 #[v] w fun r w' => r = .returned (.tuple #[zE, .bool false]) ∧ Below w.heap.size w w' := by
  refine (rget_any w v bs h hl).mono ?_
  rintro r w' (⟨t, hf, hb, _⟩ | ⟨_, rfl, hb⟩)
  · exact absurd hb (hno _ hf)
  · exact ⟨rfl, hb⟩
theorem rget_yes (w : World) (v : Value) (bs : List Int) (e : En) (h : Rd w v bs) (hl : (bs.length : Int) ≤ 140737488355328) (hf : inF e) (hb : bs = bytesE e) : Calls Tryd.prog 88 #[v] w fun r w' => ∃ ta tc, r = .returned (.tuple #[vP (e, ta, tc), .bool true]) ∧ w'.ownsRow w.heap.size 158 4 (.slice ta e.ts.length tc) e.ts.length (e.ts.flatMap c4) ∧ Below w.heap.size w w' := by
  refine (rget_any w v bs h hl).mono ?_
  rintro r w' (⟨⟨e', ta, tc⟩, hf', hb', rfl, ho, hB⟩ | ⟨hno, _⟩)
  · obtain rfl : e = e' := bytesE_inj hf hf' (hb.symm.trans hb')
    exact ⟨ta, tc, rfl, ho, hB⟩
  · exact absurd hb (hno e hf)
/-- A round of the document's Read. -/
structure RQ (w wr : World) (v : Value) (bs : List Int) (N i : Nat) (lv : Value) (qs : List Ep) : Prop where
  mr : MR wr w.heap.size v i
  rd : Rd wr v bs
  le : i ≤ bs.length
  rl : RL bs N i (fs1 qs)
  led : Led (w.heap.size + 1) wr lv qs
  bel : Below w.heap.size w wr
  sz : w.heap.size + 1 ≤ wr.heap.size
theorem RQ.below {w wr w' : World} {v : Value} {bs : List Int} {N i : Nat} {lv : Value} {qs : List Ep} (h : RQ w wr v bs N i lv qs) (hb : Below wr.heap.size wr w') : RQ w w' v bs N i lv qs :=
  ⟨h.mr.late hb, h.rd.later hb, h.le, h.rl, h.led.below hb, bt h.bel hb, Nat.le_trans h.sz hb.size⟩
theorem RQ.read {w wr w' : World} {v : Value} {bs : List Int} {N i M : Nat} {lv : Value} {qs : List Ep} {r : List Int} (h : RQ w wr v bs N i lv qs) (h0 : Rd w v bs) (hk : Kept (fun j => j = w.heap.size) wr w') (hm : MR w' w.heap.size v (i + (enc M).length + M)) (hp : bs.drop i = enc M ++ r) (hM : M ≤ r.length) :
    MR w' w.heap.size v (i + (enc M).length + M) ∧ Rd w' v bs ∧ i + (enc M).length + M ≤ bs.length ∧ Led (w.heap.size + 1) w' lv qs ∧ Below w.heap.size w w' ∧ w.heap.size + 1 ≤ w'.heap.size := by
  have hb : Below w.heap.size w w' := h.bel.trans (hk.below (fun k e => by omega) h.bel.size)
  have hlen := congrArg List.length hp
  rw [List.length_drop, List.length_append] at hlen
  have := enc_len_pos M
  exact ⟨hm, h0.later hb, by omega, h.led.kept hk (fun k e => .inl (by omega)), hb, Nat.le_trans h.sz hk.size⟩
/-- An entry was taken: memory ahead of the append. -/
theorem rq_step {w w3 w4 : World} {v : Value} {bs : List Int} {i' : Nat} {lv : Value} {qs : List Ep} {e : En} {ta : Option Addr} {tc : Nat} (h : MR w3 w.heap.size v i' ∧ Rd w3 v bs ∧ i' ≤ bs.length ∧ Led (w.heap.size + 1) w3 lv qs ∧ Below w.heap.size w w3 ∧ w.heap.size + 1 ≤ w3.heap.size) (ho : w4.ownsRow w3.heap.size 158 4 (.slice ta e.ts.length tc) e.ts.length (e.ts.flatMap c4)) (hb : Below w3.heap.size w3 w4) :
    Led (w.heap.size + 1) ((w4.alloc (oE e (.slice ta e.ts.length tc))).alloc (oE e (.slice ta e.ts.length tc))) lv qs ∧ ((w4.alloc (oE e (.slice ta e.ts.length tc))).alloc (oE e (.slice ta e.ts.length tc))).ownsRow (w.heap.size + 1) 158 4 (.slice ta e.ts.length tc) e.ts.length (e.ts.flatMap c4) ∧ (∀ k, (Value.slice ta e.ts.length tc).ownBlock = some k → lv.ownBlock ≠ some k) ∧ Below w.heap.size w ((w4.alloc (oE e (.slice ta e.ts.length tc))).alloc (oE e (.slice ta e.ts.length tc))) ∧ w.heap.size + 1 ≤ ((w4.alloc (oE e (.slice ta e.ts.length tc))).alloc (oE e (.slice ta e.ts.length tc))).heap.size ∧
      Src Tryd.prog 10 58 (.slice (some ⟨w4.heap.size + 1, 0, none⟩) 1 1) 1 (c10 (e, ta, tc)) ((w4.alloc (oE e (.slice ta e.ts.length tc))).alloc (oE e (.slice ta e.ts.length tc))) ∧ MR ((w4.alloc (oE e (.slice ta e.ts.length tc))).alloc (oE e (.slice ta e.ts.length tc))) w.heap.size v i' := by
  obtain ⟨h1, _, _, h2, h3, h4⟩ := h
  have b5 : Below w4.heap.size w4 ((w4.alloc (oE e (.slice ta e.ts.length tc))).alloc (oE e (.slice ta e.ts.length tc))) := ba (ba (Below.refl _ w4) _) _
  have b35 := bt hb b5
  refine ⟨h2.below b35, own_up4 (own4_below ho b5) h4, fun k e1 e2 => ?_, bt h3 b35, Nat.le_trans h4 b35.size, ?_, h1.late b35⟩
  · have := (ho.lt k e1).1
    have := (h2.own.lt k e2).2
    omega
  · have := src_entry (w4.alloc (oE e (.slice ta e.ts.length tc))) (e, ta, tc)
    rw [show (w4.alloc (oE e (.slice ta e.ts.length tc))).heap.size = w4.heap.size + 1 by simp] at this
    exact this
theorem RQ.push {w W5 w5 : World} {v : Value} {bs : List Int} {N i' : Nat} {lv v5 : Value} {qs : List Ep} {t : Ep} (h0 : Rd w v bs) (hle : i' ≤ bs.length) (hrl : RL bs N i' (fs1 (qs ++ [t]))) (hl : Led (w.heap.size + 1) W5 lv qs) (hl5 : Led (w.heap.size + 1) w5 v5 (qs ++ [t])) (hg : W5.grownBy w5 lv.ownBlock) (hb : Below w.heap.size w W5) (hs : w.heap.size + 1 ≤ W5.heap.size) (hr : MR W5 w.heap.size v i') : RQ w w5 v bs N i' v5 (qs ++ [t]) := by
  have hk := Kept.grown hg (F := fun k => lv.ownBlock = some k) (fun k hk => hk)
  have hn : ¬ lv.ownBlock = some w.heap.size := fun e => by have := (hl.own.lt _ e).1; omega
  have hb5 : Below w.heap.size w w5 := hb.grown hg hb.size (fun k hk => by have := (hl.own.lt k hk).1; omega)
  exact ⟨by unfold MR; rw [hk.block _ (by omega) hn]; exact hr, h0.later hb5, hle, hrl, hl5, hb5, Nat.le_trans hs hk.size⟩
/-- What the document's Read answers. -/
def RReadPost (w : World) (bs : List Int) (r : Ending) (w' : World) : Prop :=
  Below w.heap.size w w' ∧ ((∃ v qs, (∀ t ∈ qs, inF t.1) ∧ qs.length ≤ 64 ∧ bs = bytesL (fs1 qs) ∧ r = .returned (.tuple #[v, .bool true]) ∧ Led w.heap.size w' v qs) ∨ (NoL bs ∧ r = .returned (.tuple #[.slice none 0 0, .bool false])))
abbrev oM (v : Value) : Obj := .cells #[v, .int .i64 0] 117
theorem rq_start {w w2 : World} {sa : Option Addr} {sc : Nat} {bs r0 : List Int} {N : Nat} (h0 : Rd w (.slice sa bs.length sc) bs) (hb0 : bs = enc N ++ r0) (hN : (N : Int) ≤ 64) (q1 : MR w2 w.heap.size (.slice sa bs.length sc) (0 + (enc N).length)) (q2 : Kept (fun j => j = w.heap.size) (w.alloc (oM (.slice sa bs.length sc))) w2) :
    RQ w (w2.alloc (.cells #[] 96)) (.slice sa bs.length sc) bs N (0 + (enc N).length) (.slice (some ⟨w2.heap.size, 0, none⟩) 0 0) [] := by
  have hs := q2.size
  simp at hs
  have hb : Below w.heap.size w w2 := (ba (Below.refl _ w) _).trans (q2.below (fun k e => by omega) (by simp))
  have hb3 : Below w.heap.size w (w2.alloc (.cells #[] 96)) := ba hb _
  refine ⟨q1.late (ba (Below.refl _ w2) _), h0.later hb3, ?_, ⟨by omega, fun e he => by simp at he, ?_⟩, ⟨?_, fun t ht => by simp at ht, fun t ht => by simp at ht⟩, hb3, by simp; omega⟩
  · have := congrArg List.length hb0
    rw [List.length_append] at this
    omega
  · rw [Nat.zero_add]
    conv => { lhs; rw [hb0] }
    conv => { rhs; rw [hb0, List.drop_left] }
    simp
  · exact World.ownsRow_made (base := w.heap.size + 1) (e := 96) (size := 10) w2 #[] 0 (by omega) (by unfold maxLen; omega) rfl
theorem own_apart {w : World} {sa : Option Addr} {sc i M : Nat} {bs r : List Int} (h : Rd w (.slice sa bs.length sc) bs) (hd : bs.drop i = enc M ++ r) : (Value.slice sa bs.length sc).ownBlock ≠ some w.heap.size := by
  have hp : 0 < bs.length := by
    have := congrArg List.length hd
    rw [List.length_drop, List.length_append] at this
    have := enc_len_pos M
    omega
  obtain ⟨_, a, cap, e, _, _, hr⟩ := h
  simp only [Value.slice.injEq] at e
  obtain ⟨rfl, _, rfl⟩ := e
  obtain ⟨b, off, rfl, hlt, _⟩ := hr hp
  simp [Value.ownBlock]
  omega
set_option maxHeartbeats 25600000 in
theorem rread_any (w : World) (v : Value) (bs : List Int) (h : Rd w v bs) (hl : (bs.length : Int) ≤ 140737488355328) : Calls Tryd.prog 63 #[v] w (RReadPost w bs) := by
  obtain ⟨ie2, hi, hz0, hz1, hz2⟩ := info_parts info_entry
  obtain ⟨zth2, hzth⟩ : ∃ z : Value, z = .agg #[.int .i64 0, .int .i64 0, .int .i64 0, .int .i64 0, .int .i64 0, .int .i64 0, .int .i64 0, .int .i64 0, .slice none 0 0, .int .i64 0] := ⟨_, rfl⟩
  rw [← hzth] at hz0
  have HZ2 : Hid (zth2.cells.size = 10) := mkHid (by rw [hzth]; rfl)
  have hie2 := mkHid (And.intro hi (And.intro hz0 (And.intro hz1 hz2)))
  clear hzth hi hz0 hz1 hz2
  obtain ⟨sa, sc, rfl⟩ : ∃ a c, v = .slice a bs.length c := h.2.imp fun a h => h.imp fun c h => h.1
  have HV := mkHid h
  have HM0 : Hid (MR (w.alloc (oM (.slice sa bs.length sc))) w.heap.size (.slice sa bs.length sc) 0) := mkHid (heap_alloc_new w _)
  have HV0 : Hid (Rd (w.alloc (oM (.slice sa bs.length sc))) (.slice sa bs.length sc) bs) := mkHid (h.alloc _)
  clear h
  by_cases hc : ∃ (N : Nat) (r : List Int), (N : Int) ≤ 64 ∧ bs = enc N ++ r
  · obtain ⟨N, r0, hN, hb0⟩ := hc
    have HB0 := mkHid hb0
    clear hb0
    go_enter Tryd.func63, Tryd.ntmps63
    go_wp2_with (first
      | (go_at_call 61; refine (refrnum_yes _ w.heap.size _ bs 0 N r0 _ HM0.out HV0.out (Nat.zero_le _) hl (by omega) (by rw [List.drop_zero]; exact HB0.out) hN).mono ?_; rintro r w2 ⟨rfl, q1, q2⟩; have HS2 : Hid (RQ w (w2.alloc (.cells #[] 96)) (.slice sa bs.length sc) bs N (0 + (enc N).length) (.slice (some ⟨w2.heap.size, 0, none⟩) 0 0) []) := mkHid (rq_start HV.out HB0.out hN q1 q2); clear q1 q2))
    go_loopw [7] (fun lv wr => ∃ (i : Nat) (qs : List Ep), qs.length ≤ N ∧ lenV lv = qs.length ∧ Hid (RQ w wr (.slice sa bs.length sc) bs N i lv qs)) (fun lv _ => N - lenV lv)
    case atStart => exact ⟨_, [], by simp, rfl, HS2⟩
    case round =>
      clear HS2
      obtain ⟨i, qs, hj, hlv, HI⟩ := hrel
      obtain ⟨oa, oc, rfl, _⟩ := own_sh HI.out.led.own
      clear hlv
      by_cases hlt : qs.length < N
      · have hji : (qs.length : Int) < N := by omega
        have HLT := mkHid hlt
        by_cases hp : ∃ (M : Nat) (r : List Int), PieceYes bs i (bs.length : Int) M r
        · obtain ⟨M, r1, hp1⟩ := hp
          have HP := mkHid hp1
          have HRD : Hid ((r1.take M).length = M ∧ (M : Int) ≤ 140737488355328) := mkHid (by
            obtain ⟨h1, h2⟩ := hp1.take_len
            exact ⟨h1, by omega⟩)
          clear hp1
          by_cases hg : ∃ e, inF e ∧ r1.take M = bytesE e
          · obtain ⟨e, hf, hb⟩ := hg
            have HF := mkHid (And.intro hf hb)
            clear hf hb
            go_wp2_with (first
              | (go_at_call 62; refine (refrbytes_yes wr w.heap.size _ bs i M r1 _ HI.out.mr HI.out.rd (own_apart HV.out HP.out.1) HI.out.le hl (by have := HRD.out.2; omega) HP.out.1 HP.out.2.1 HP.out.2.2).mono ?_; rintro r w3 ⟨v3, rfl, hr3, hm3, k3⟩; obtain ⟨a3, c3, rfl⟩ : ∃ a c, v3 = .slice a M c := (by obtain ⟨_, a, c, e, _⟩ := hr3; exact ⟨a, c, by rw [e, HRD.out.1]⟩); have HS3 := mkHid (HI.out.read HV.out k3 hm3 HP.out.1 HP.out.2.2); have HRD3 := mkHid hr3; clear hr3 hm3 k3)
              | (go_at_call 88; refine (rget_yes w3 _ (r1.take M) e HRD3.out (by have := HRD.out; omega) HF.out.1 HF.out.2).mono ?_; rintro r w4 ⟨ta, tc, rfl, ho4, b4⟩; simp only [vP, vN, tv]; have HS4 := mkHid (rq_step HS3.out ho4 b4); clear ho4 b4)
              | (at_builtin; refine wpList_append_src10 _ rfl (.tmp 45) (.tmp 47) 58 58 rfl (w.heap.size + 1) 96 ie2 Tryd.underlying58 hie2.out.1 zth2 96 hie2.out.2.1 HZ2.out hie2.out.2.2.1 hie2.out.2.2.2 (.slice oa qs.length oc) qs.length (qs.flatMap c10) rfl HS4.out.1.own _ 1 (c10 (e, ta, tc)) rfl HS4.out.2.2.2.2.2.1 (by unfold maxLen; omega) (by omega) HS4.out.2.2.2.2.1 ?_; intro v5 w5 ho5 hg5 hv5; have HL5 : Hid (lenV v5 = qs.length + 1) := mkHid (by obtain ⟨_, _, e⟩ := own_shape ho5; rw [e]; rfl); have HP5 : Hid (RQ w w5 (.slice sa bs.length sc) bs N (i + (enc M).length + M) v5 (qs ++ [(e, ta, tc)])) := mkHid (RQ.push HV.out HS3.out.2.2.1 (by rw [fs1, List.map_append]; exact HI.out.rl.push HP.out.1 HP.out.2.2 HF.out.1 HF.out.2) HS4.out.1 (HS4.out.1.push (t := (e, ta, tc)) ho5 hg5 hv5 HS4.out.2.1 HS4.out.2.2.1) hg5 HS4.out.2.2.2.1 HS4.out.2.2.2.2.1 HS4.out.2.2.2.2.2.2); clear ho5 hg5 hv5))
            go_roundw
            case rel => exact ⟨_, qs ++ [(e, ta, tc)], by rw [List.length_append]; simp; omega, by rw [HL5.out]; simp, HP5⟩
            case measure => rw [HL5.out]; simp [lenV]; omega
          · have HNG : Hid (∀ e, inF e → r1.take M ≠ bytesE e) := mkHid (fun e hf hb => hg ⟨e, hf, hb⟩)
            clear hg
            go_wp2_with (first
              | (go_at_call 62; refine (refrbytes_yes wr w.heap.size _ bs i M r1 _ HI.out.mr HI.out.rd (own_apart HV.out HP.out.1) HI.out.le hl (by have := HRD.out.2; omega) HP.out.1 HP.out.2.1 HP.out.2.2).mono ?_; rintro r w3 ⟨v3, rfl, hr3, hm3, k3⟩; obtain ⟨a3, c3, rfl⟩ : ∃ a c, v3 = .slice a M c := (by obtain ⟨_, a, c, e, _⟩ := hr3; exact ⟨a, c, by rw [e, HRD.out.1]⟩); have HS3 := mkHid (HI.out.read HV.out k3 hm3 HP.out.1 HP.out.2.2); have HRD3 := mkHid hr3; clear hr3 hm3 k3)
              | (go_at_call 88; refine (rget_no w3 _ (r1.take M) HRD3.out (by have := HRD.out; omega) HNG.out).mono ?_; rintro r w4 ⟨rfl, b4⟩; have HB4 := mkHid (bt HS3.out.2.2.2.2.1 b4); clear b4))
            go_ret2
            exact ⟨ba HB4.out _, .inr ⟨HI.out.rl.no_get (by simpa using HLT.out) HP.out.1 HNG.out, rfl⟩⟩
        · have HNP : Hid (PieceNo bs i (bs.length : Int)) := mkHid (fun M r hy => hp ⟨M, r, hy⟩)
          clear hp
          go_wp2_with (first
            | (go_at_call 62; refine (refrbytes_no wr w.heap.size _ bs i _ HI.out.mr HI.out.rd HI.out.le hl HNP.out).mono ?_; rintro r w3 ⟨rfl, b3⟩; have HB3 := mkHid (bt HI.out.bel b3); clear b3)
            | (go_at_call 88; refine (rget_nil w3).mono ?_; rintro r w4 ⟨rfl, b4⟩; have HB4 := mkHid (bt HB3.out b4); clear b4))
          go_ret2
          exact ⟨ba HB4.out _, .inr ⟨HI.out.rl.no_piece HI.out.le (by simpa using HLT.out) (fun M r hy => HNP.out M r ⟨hy.1, by have := hy.2.1; omega, hy.2.2⟩), rfl⟩⟩
      · have hjN : qs.length = N := by omega
        have hji : ¬ (qs.length : Int) < N := by omega
        have HJN : Hid ((fs1 qs).length = N) := mkHid (by simpa using hjN)
        have m1 : wr.cell? ⟨w.heap.size, 1, none⟩ = some (.int .i64 (i : Int)) := cell_of_block HI.out.mr rfl
        by_cases hend : i = bs.length
        · subst hend
          clear hjN
          go_wp2
          go_ret2
          exact ⟨HI.out.bel, .inl ⟨_, qs, fun t ht => HI.out.rl.all _ (List.mem_map.mpr ⟨t, ht, rfl⟩), by omega, HI.out.rl.done rfl HJN.out, rfl, HI.out.led.up (by omega)⟩⟩
        · have HEN : Hid (i < bs.length) := mkHid (by have := HI.out.le; omega)
          have hne : ((i : Int) == (bs.length : Int)) = false := by simp; omega
          clear hend hjN
          go_wp2
          go_ret2
          exact ⟨HI.out.bel, .inr ⟨HI.out.rl.no_end HEN.out HJN.out, rfl⟩⟩
  · have HNO : Hid (∀ (N : Nat) (r : List Int), (N : Int) ≤ 64 → bs.drop 0 ≠ enc N ++ r) := mkHid (fun N r hN e => hc ⟨N, r, hN, by simpa using e⟩)
    clear hc
    go_enter Tryd.func63, Tryd.ntmps63
    go_wp2_with (first
      | (go_at_call 61; refine (refrnum_no _ w.heap.size _ bs 0 _ HM0.out HV0.out (Nat.zero_le _) hl HNO.out).mono ?_; rintro r w2 ⟨rfl, q2⟩; have HB2 := mkHid (bt (ba (Below.refl _ w) _) q2); clear q2))
    go_ret2
    refine ⟨HB2.out, .inr ⟨fun l hl64 _ e => HNO.out l.length (l.flatMap chunk) (by omega) ?_, rfl⟩⟩
    rw [List.drop_zero, e, bytesL_eq]
end Go.Proofs.YtaiklaipdocdmaaDoor
