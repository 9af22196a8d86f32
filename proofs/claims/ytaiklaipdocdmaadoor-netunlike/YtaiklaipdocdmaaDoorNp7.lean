import Derived.Test.YtaiklaipdocdmaaDoorNpA
import Derived.Test.YtaiklaipdocdmaaDoorOsamel
import Derived.Test.YtaiklaipdocdmaaDoorOrput
import Derived.Test.YtaiklaipdocdmaaDoorSumsRef
/- The document's Put. -/
namespace Go.Proofs.YtaiklaipdocdmaaDoor
open Go.ChangeShapes Go.WideShapes Go.ChangeAt Go.RowKit
set_option maxRecDepth 100000
attribute [local go_sem] World.cell?_alloc_some frozen_alloc_some
theorem rwrite_yes (w : World) (v : Value) (ps : List Ep) (h : Ens w v ps) (hl : ps.length ≤ 64) (hf : ∀ t ∈ ps, inF t.1) : Calls Tryd.prog 52 #[v] w fun r w' => ∃ v', r = .returned (.tuple #[v', .int .i64 0]) ∧ w'.ownsRow w.heap.size 5 1 v' (bytesL (fs1 ps)).length ((bytesL (fs1 ps)).map (Value.int .u8)) ∧ Below w.heap.size w w' := by
  refine (rwrite_all w v ps h hl).mono ?_
  rintro r w' ⟨hb, ⟨_, v', rfl, ho⟩ | ⟨hn, _⟩⟩
  · exact ⟨v', rfl, ho, hb⟩
  · exact absurd hf hn
theorem mnum_part' {m : Mg} (h : inM m) (j : Nat) : (encL ((mnum m).take j)).length ≤ 100 := by
  have := encL_len ((mnum m).take j) (fun n hn => by have := (h.amts n (List.mem_of_mem_take hn)).2; omega)
  rw [List.length_take] at this
  have : (mnum m).length = 8 := rfl
  omega
/-- A round of Put: the bytes so far, the message's numbers. -/
structure RP (w wq : World) (m : Mg) (lv bv : Value) (xs : List Int) : Prop where
  own : wq.ownsRow (w.heap.size + 1) 5 1 bv xs.length (xs.map (Value.int .u8))
  ne : ∀ k, bv.ownBlock = some k → k ≠ w.heap.size + 2
  row : wq.heap[w.heap.size + 2]? = some (.cells (a8 m) 3 (0, 0))
  bel : Below (w.heap.size + 1) (w.alloc (cM m lv)) wq
theorem RP.start (w : World) (m : Mg) (lv : Value) : RP w (((w.alloc (cM m lv)).alloc (.cells #[] 5)).alloc (.cells (a8 m) 3)) m lv (.slice (some ⟨w.heap.size + 1, 0, none⟩) 0 0) [] := by
  have e1 : (w.alloc (cM m lv)).heap.size = w.heap.size + 1 := by simp
  have e2 : ((w.alloc (cM m lv)).alloc (.cells #[] 5)).heap.size = w.heap.size + 2 := by simp
  refine ⟨?_, ?_, ?_, ?_⟩
  · have := World.ownsRow_made (base := w.heap.size + 1) (e := 5) (size := 1) (w.alloc (cM m lv)) #[] 0 (by omega) (by unfold maxLen; omega) rfl
    rw [e1] at this
    exact this.alloc _
  · intro k hk
    simp [Value.ownBlock] at hk
    omega
  · have := heap_alloc_new ((w.alloc (cM m lv)).alloc (.cells #[] 5)) (.cells (a8 m) 3)
    rw [e2] at this
    exact this
  · have := ba (ba (Below.refl (w.alloc (cM m lv)).heap.size (w.alloc (cM m lv))) (.cells #[] 5)) (.cells (a8 m) 3)
    rw [e1] at this
    exact this
theorem RP.below {w wq w' : World} {m : Mg} {lv bv : Value} {xs : List Int} (h : RP w wq m lv bv xs) (hb : Below wq.heap.size wq w') : RP w w' m lv bv xs := by
  refine ⟨ownN_kept h.own (kept_of_below hb) (fun k e hge => by have := (h.own.lt k e).2; omega), h.ne, (hb.block _ (lt_of_heap h.row)).trans h.row, h.bel.trans (hb.mono (by have := lt_of_heap h.row; omega))⟩
theorem RP.grown {w wq w' : World} {m : Mg} {lv bv bv' : Value} {xs ys : List Int} (h : RP w wq m lv bv xs) (ho : w'.ownsRow (w.heap.size + 1) 5 1 bv' ys.length (ys.map (Value.int .u8))) (hg : wq.grownBy w' bv.ownBlock) (hat : bv'.ownBlock = bv.ownBlock ∨ bv'.ownBlock = some wq.heap.size) : RP w w' m lv bv' ys := by
  have hlt := lt_of_heap h.row
  refine ⟨ho, fun k hk => ?_, ?_, h.bel.grown hg (by have := h.bel.size; simp at this; omega) (fun k hk => (h.own.lt k hk).1)⟩
  · rcases hat with e | e
    · exact h.ne k (by rw [← e]; exact hk)
    · rw [e] at hk
      simp at hk
      omega
  · have hk := Kept.grown hg (F := fun k => bv.ownBlock = some k) (fun k hk => hk)
    exact (hk.block _ hlt (fun e => h.ne _ e rfl)).trans h.row
theorem RP.q8 {w wq : World} {m : Mg} {lv bv : Value} {xs : List Int} (h : RP w wq m lv bv xs) : wq.cell? ⟨w.heap.size, 8, none⟩ = some lv :=
  (msg_cells ((h.bel.block w.heap.size (by omega)).trans (msgO w m lv))).2.2.2.2.2.2.2.2
theorem RP.num {w wq : World} {m : Mg} {lv bv : Value} {xs : List Int} (h : RP w wq m lv bv xs) {k : Nat} {x : Int} (hx : (mnum m)[k]? = some x) : wq.cell? ⟨w.heap.size + 2, k, none⟩ = some (.int .i64 x) := by
  refine cell_of_block h.row ?_
  have : a8 m = ((mnum m).map (Value.int .i64)).toArray := rfl
  rw [this]
  simp [hx]
set_option maxHeartbeats 12800000 in
theorem rputM_any (w : World) (m : Mg) (v : Value) (ps : List Ep) (h : Ens w v ps) (hls : fs1 ps = m.ls) (hf : inM m) :
    Calls Tryd.prog 27 #[vM m v] w fun r w' => ∃ v', r = .returned v' ∧ w'.ownsRow w.heap.size 5 1 v' (sealM m).length ((sealM m).map (Value.int .u8)) ∧ Below w.heap.size w w' := by
  obtain ⟨i0, hi, hz0, hz1, hz2⟩ := info_parts Tryd.info5
  have hie := mkHid (And.intro hi (And.intro hz0 (And.intro hz1 hz2)))
  clear hi hz0 hz1 hz2
  have hlen : ps.length ≤ 64 := by have := hf.led.1; rw [← hls] at this; simpa [fs1] using this
  have hall : ∀ t ∈ ps, inF t.1 := fun t ht => hf.led.2 _ (by rw [← hls]; exact List.mem_map.mpr ⟨t, ht, rfl⟩)
  have HWR := mkHid (fun W (hW : Below w.heap.size w W) => rwrite_yes W v ps (h.below hW) hlen hall)
  rw [hls] at HWR
  have HF := mkHid hf
  obtain ⟨a, cap, rfl⟩ : ∃ a cap, v = .slice a ps.length cap := by obtain ⟨a, cap, e, _⟩ := h; exact ⟨a, cap, e⟩
  clear h hls hlen hall hf
  have HST := mkHid (RP.start w m (.slice a ps.length cap))
  obtain ⟨kd, fr, to, jb, br, bn, ar, an, ls⟩ := m
  simp only [vM] at ⊢
  simp only at HWR
  go_enter Tryd.func27, Tryd.ntmps27
  go_wp2
  go_loopw [3, 31] (fun bv iv wr => ∃ j : Nat, iv = .int .i64 (j : Int) ∧ j ≤ 8 ∧ Hid (RP w wr ⟨kd, fr, to, jb, br, bn, ar, an, ls⟩ (.slice a ps.length cap) bv (encL ((mnum ⟨kd, fr, to, jb, br, bn, ar, an, ls⟩).take j)))) (fun _ iv _ => 8 - (intOf iv).toNat)
  case atStart => exact ⟨0, rfl, Nat.zero_le _, HST⟩
  case round =>
    obtain ⟨j, rfl, hj, HB⟩ := hrel
    obtain ⟨ba2, bc2, rfl⟩ := own_shape HB.out.own
    by_cases hlt : j < 8
    · obtain ⟨x, hx⟩ : ∃ x, (mnum ⟨kd, fr, to, jb, br, bn, ar, an, ls⟩)[j]? = some x := ⟨_, List.getElem?_eq_getElem (by show j < 8; exact hlt)⟩
      have hcell := HB.out.num hx
      have hji : (j : Int) < 8 := by omega
      have hamt := HF.out.amts x (List.mem_of_getElem? hx)
      obtain ⟨n, rfl⟩ := Int.eq_ofNat_of_zero_le hamt.1
      have hn63 : (n : Int) ≤ 9223372036854775807 := by have := hamt.2; omega
      have HT := mkHid (encL_take hx)
      have HLN : Hid ((encL ((mnum ⟨kd, fr, to, jb, br, bn, ar, an, ls⟩).take j)).length ≤ 100 ∧ (enc n).length ≤ 9) := mkHid ⟨mnum_part' HF.out j, enc_len9 n (by omega)⟩
      clear hx hamt
      go_wp2_with (first
        | (go_at_call 57; refine (refnum_any _ n hn63).mono ?_; rintro r w3 ⟨v3, rfl, ho3, hb3⟩; obtain ⟨a3, c3, rfl⟩ := own_shape ho3; have HS3 := mkHid (Rd.of_owns (enc_byts n) ho3).src; have HB3 := mkHid (HB.out.below hb3); clear ho3 hb3)
        | (at_builtin; refine wpList_append_src _ rfl (.tmp 35) (.tmp 37) 32 32 rfl (w.heap.size + 1) 5 i0 Tryd.underlying32 hie.out.1 hie.out.2.1 hie.out.2.2.1 hie.out.2.2.2 _ _ _ rfl HB3.out.own _ _ _ rfl HS3.out (by have := HLN.out; unfold maxLen; omega) (by have := HLN.out; omega) (by have := lt_of_heap HB3.out.row; omega) ?_; intro v4 w4 ho4 hg4 hat4; have HO4 : Hid (RP w w4 ⟨kd, fr, to, jb, br, bn, ar, an, ls⟩ (.slice a ps.length cap) v4 (encL ((mnum ⟨kd, fr, to, jb, br, bn, ar, an, ls⟩).take (j + 1)))) := mkHid (HB3.out.grown (by rw [HT.out, List.length_append, List.map_append]; exact ho4) hg4 hat4); clear ho4 hg4 hat4))
      go_roundw
      case rel => exact ⟨j + 1, by go_num, by omega, HO4⟩
      case measure => simp [intOf]; omega
    · obtain rfl : j = 8 := by omega
      have hq := HB.out
      rw [List.take_of_length_le (by show (8 : Nat) ≤ 8; omega)] at hq
      have HQ := mkHid hq
      have hcell := hq.q8
      have hbel := hq.bel
      have hll := bytesM_len HF.out
      unfold bytesM at hll
      rw [List.length_append, List.length_append] at hll
      have HLL := mkHid hll
      have HBW : Hid (Below w.heap.size w wr) := mkHid ((ba (Below.refl _ w) _).trans (hbel.mono (by omega)))
      clear hq hll hbel
      go_wp2_with (first
        | (go_at_call 52; refine (HWR.out _ HBW.out).mono ?_; rintro r w2 ⟨lv, rfl, hlo, b2⟩; obtain ⟨la, lc, rfl⟩ := own_shape hlo; have HLO := mkHid hlo; have HQ2 := mkHid (HQ.out.below b2); have HB2 := mkHid (bt HBW.out b2); clear hlo b2)
        | (go_at_call 59; refine (refbytes_any w2 _ _ (Rd.of_owns (bytesL_byts ls) HLO.out) (by have := HLL.out; omega)).mono ?_; rintro r w3 ⟨v3, rfl, ho3, b3⟩; obtain ⟨xs3, hxs3⟩ : ∃ xs3, xs3 = enc (bytesL ls).length ++ bytesL ls := ⟨_, rfl⟩; rw [← hxs3] at ho3; have HXS := mkHid hxs3; clear hxs3; obtain ⟨a3, c3, rfl⟩ := own_shape ho3; have HS3 := mkHid (Rd.of_owns (by rw [HXS.out]; exact (enc_byts _).append (bytesL_byts ls)) ho3).src; have HQ3 := mkHid (HQ2.out.below b3); have HB3 := mkHid (bt HB2.out b3); clear ho3 b3)
        | (at_builtin; refine wpList_append_src _ rfl (.tmp 46) (.tmp 48) 32 32 rfl (w.heap.size + 1) 5 i0 Tryd.underlying32 hie.out.1 hie.out.2.1 hie.out.2.2.1 hie.out.2.2.2 _ _ _ rfl HQ3.out.own _ _ _ rfl HS3.out (by have := HLL.out; rw [HXS.out, List.length_append]; unfold maxLen; omega) (by have := HLL.out; rw [HXS.out, List.length_append]; omega) (by have := lt_of_heap HQ3.out.row; omega) ?_; intro v4 w4 ho4 hg4 hat4; have HO4 : Hid (RP w w4 ⟨kd, fr, to, jb, br, bn, ar, an, ls⟩ (.slice a ps.length cap) v4 (bytesM ⟨kd, fr, to, jb, br, bn, ar, an, ls⟩)) := mkHid (HQ3.out.grown (by unfold bytesM; rw [← HXS.out, List.length_append, List.map_append]; exact ho4) hg4 hat4); obtain ⟨a4, c4', rfl⟩ := own_shape HO4.out.own; have HB4 : Hid (Below w.heap.size w w4) := mkHid ((ba (Below.refl _ w) _).trans (HO4.out.bel.mono (by omega))); clear ho4 hg4 hat4)
        | (go_at_call 58; refine (refseal_any w4 _ _ (Rd.of_owns (bytesM_byts _) HO4.out.own) (by have := bytesM_len HF.out; omega)).mono ?_; rintro r w7 ⟨v7, rfl, ho7', b7⟩; have ho7 : w7.ownsRow w4.heap.size 5 1 v7 (sealM ⟨kd, fr, to, jb, br, bn, ar, an, ls⟩).length ((sealM ⟨kd, fr, to, jb, br, bn, ar, an, ls⟩).map (Value.int .u8)) := ho7'; clear ho7'; obtain ⟨a7, c7, rfl⟩ := own_shape ho7; have HO7 := mkHid (And.intro ho7 (bt HB4.out b7)); clear ho7 b7))
      go_ret
      exact ⟨_, rfl, own_up HO7.out.1 HB4.out.size, HO7.out.2⟩
end Go.Proofs.YtaiklaipdocdmaaDoor
