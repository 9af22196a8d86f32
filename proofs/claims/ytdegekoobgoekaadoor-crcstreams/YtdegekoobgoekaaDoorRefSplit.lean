/- The document's Split; two lists of lists of bytes that are alike. -/
import Derived.Test.YtdegekoobgoekaaDoorSplit
import Derived.Test.YtdegekoobgoekaaDoorRefRead
namespace Go.Proofs.YtdegekoobgoekaaDoor
open Go.ChangeShapes Go.WideShapes Go.ChangeAt Go.RowKit

def RefSplitPost (w : World) (out : Except Nat (List (List Int) × Nat)) (e : Ending) (w' : World) : Prop :=
  Below w.heap.size w w' ∧ match out with
    | .ok (ps, k) => ∃ v' G, e = .returned (.tuple #[v', .int .i64 (k : Int), .int .i64 0]) ∧ Lst G w.heap.size w' v' ps ∧ (∀ j, G j → w.heap.size ≤ j ∧ j < w'.heap.size)
    | .error n => e = .returned (.tuple #[.slice none 0 0, .int .i64 0, .int .i64 (n : Int)])
set_option maxHeartbeats 6400000 in
theorem refsplit_any (w : World) (v : Value) (bs : List Int) (h : Rd w v bs) (hl : (bs.length : Int) ≤ 5000000) :
    Calls Tryd.prog 17 #[v] w fun e w' => RefSplitPost w (splits bs) e w' := by
  obtain ⟨i0, hi, hz0, hz1, hz2⟩ := info_parts Tryd.info22
  go_enter Tryd.func17, Tryd.ntmps17
  go_wp2
  go_loopw [5, 6] (fun lv kv wr => ∃ (k f : Nat) (ps : List (List Int)) (G : Nat → Prop), kv = .int .i64 (k : Int) ∧ k ≤ bs.length ∧ bs.length - k < f ∧ Hid (splits bs = pre ps k (spl f (bs.drop k))) ∧ 8 * ps.length ≤ k ∧ Lst G w.heap.size wr lv ps ∧ (∀ j, G j → w.heap.size ≤ j ∧ j < wr.heap.size) ∧ Below w.heap.size w wr) (fun _ kv _ => bs.length - (intOf kv).toNat)
  case atStart => exact ⟨0, bs.length + 1, [], fun _ => False, rfl, Nat.zero_le _, by omega, mkHid (by rw [pre_nil]; rfl), by simp, ⟨[], World.ownsRow_made (base := w.heap.size) w #[] 0 (Nat.le_refl _) (by unfold maxLen; omega) rfl, trivial, fun _ _ hf => hf⟩, fun _ hj => hj.elim, (Below.refl _ _).alloc (Nat.le_refl _) _⟩
  case round =>
    obtain ⟨k, f, ps, G, rfl, hk, hf, HE, h8, hL, hG, hbel⟩ := hrel
    obtain ⟨f, rfl⟩ : ∃ j, f = j + 1 := ⟨f - 1, by omega⟩
    obtain ⟨u, su, ru⟩ := (h.later hbel).tailS (k : Int) k rfl hk
    have hul : (bs.drop k).length = bs.length - k := by rw [List.length_drop]
    have HG := mkHid hG
    clear hG
    have hsz := hbel.size
    rcases kind_cases (bs.drop k) with hc | hc | hc | hc
    · rw [pre_end hc] at HE
      have HP : Hid (∀ W, Below wr.heap.size wr W → RefSplitPost w (splits bs) (.returned (.tuple #[u5, .int .i64 (k : Int), .int .i64 0])) W) := mkHid (fun W hW => by
        rw [HE.out]
        refine ⟨hbel.trans (hW.mono hsz), u5, G, rfl, hL.kept (kept_of_below hW) (fun j hj hge => by have := HG.out j hj; omega) (fun j hj hge => ?_), fun j hj => ⟨(HG.out j hj).1, by have := HG.out j hj; have := hW.size; omega⟩⟩
        obtain ⟨vs, ho, _⟩ := hL
        have := ho.lt j hj
        omega)
      clear hL HE
      rcases kind_zero hc with h0 | ⟨h0, h1, h2⟩
      · go_wp2_with (go_at_call 15; refine (refread_short1 _ _ _ ru (by omega)).mono ?_; rintro e w1 ⟨rfl, hb1⟩)
        go_ret3
        exact HP.out _ hb1
      · go_wp2_with (go_at_call 15; refine (refread_short2 _ _ _ ru h0 h1 h2).mono ?_; rintro e w1 ⟨rfl, hb1⟩)
        go_ret3
        exact HP.out _ hb1
    · have hk1 := kind_one hc
      rw [pre_step hc, List.drop_drop] at HE
      obtain ⟨n, hn⟩ : ∃ n, n = word (bs.drop k) := ⟨_, rfl⟩
      rw [← hn] at HE hk1
      have HN := mkHid hn
      have hpl := pay_len hc
      rw [← hn] at hpl
      have hpB := pay_byts ru.1
      have hpe : ((bs.drop k).drop 4).take n = pay (bs.drop k) := by rw [hn]; rfl
      obtain ⟨vs, ho, hra, hd⟩ := hL
      obtain ⟨la, lc, rfl⟩ := own_shape ho
      have hne8 : ¬ (n : Int) + 8 = 0 := by omega
      have hki : (k : Int) + ((n : Int) + 8) ≤ bs.length := by omega
      have hni : (n : Int) ≤ 32768 := by omega
      have HB : Hid (ps.length + 1 ≤ maxLen ∧ (ps.length + 1) * 24 ≤ 140737488355328) := mkHid ⟨by unfold maxLen; omega, by omega⟩
      have HK := mkHid hk1
      have HPE := mkHid hpe
      have HPL := mkHid hpl
      have HUL : Hid ((n : Int) + 8 ≤ (bs.drop k).length) := mkHid (by rw [hul]; omega)
      have hkn : k + (n + 8) ≤ bs.length := by omega
      have HC := mkHid hc
      clear hn hc hk1 hpe hpl hul
      go_wp2_with (first | (go_at_call 15; refine (refread_good _ _ _ ru HC.out).mono ?_; rintro e w1 ⟨v1, rfl, ho1, hb1⟩; rw [← HN.out] at ho1 ⊢; obtain ⟨a1, c1, rfl⟩ := own_shape ho1; have r1 := Rd.of_owns hpB (by rw [HPL.out]; exact ho1); have hb1' := hbel.trans (hb1.mono hsz); have hsz1 := hb1.size; have HO : Hid (∀ j, (Value.slice a1 n c1).ownBlock = some j → wr.heap.size ≤ j ∧ j < w1.heap.size) := mkHid (fun j hj => ho1.lt j hj); have ho' := own_late ho hb1; have HRA := mkHid (hra.kept (kept_of_below hb1) (fun j hj hge => by have := HG.out j hj; omega)); have HD : Hid (∀ j, (Value.slice la ps.length lc).ownBlock = some j → ¬ G j ∧ j < wr.heap.size) := mkHid (fun j hj => ⟨hd j hj, (ho.lt j hj).2⟩); clear ho1 hra hd ho) | (at_builtin; refine wpList_append_srcV _ rfl (.tmp 26) (.tmp 28) 35 35 rfl w.heap.size 22 i0 Tryd.underlying35 hi (.slice none 0 0) 24 hz0 rfl hz1 hz2 _ _ _ rfl (ho'.alloc _) _ _ _ rfl (src_oneV w1 _ r1.one) HB.out.1 HB.out.2 (by have := hb1'.size; simp; omega) ?_; intro v2 w2 ho2 hg2 hat; have HL2 := mkHid (lst_put HRA.out (fun j hj => (HG.out j hj).2) HD.out r1 HO.out hsz1 _ ho2 hg2 hat); have hb2 := (hb1'.alloc hb1'.size _).grown hg2 (by have := hb1'.size; simp; omega) (fun j hj => (ho'.lt j hj).1); have HS2 := mkHid hg2.size; clear hg2 hat ho2 ho'))
      go_roundw
      case rel =>
        have hs2 : w1.heap.size < w2.heap.size := by have := HS2.out; simp at this; omega
        exact ⟨k + (n + 8), f, ps ++ [pay (bs.drop k)], _, by go_num, by omega, by omega, HE, by rw [List.length_append, List.length_singleton]; omega, HL2.out, fun j hj => hj.elim (fun hj => by have := HG.out j hj; omega) (fun hj => by omega), hb2⟩
      case measure => simp [intOf]; omega
    · rw [pre_bad hc (by omega) (by omega)] at HE
      go_wp2_with (go_at_call 15; refine (refread_bad _ _ _ ru hc).mono ?_; rintro e w1 ⟨rfl, hb1⟩; have hb1' := hbel.trans (hb1.mono hsz))
      go_ret3
      rw [HE.out]
      exact ⟨hb1', by rfl⟩
    · rw [pre_bad hc (by omega) (by omega)] at HE
      have hk1 := kind_eight hc
      go_wp2_with (go_at_call 15; refine (refread_large _ _ _ ru hk1.1 hk1.2).mono ?_; rintro e w1 ⟨rfl, hb1⟩; have hb1' := hbel.trans (hb1.mono hsz))
      go_ret3
      rw [HE.out]
      exact ⟨hb1', by rfl⟩
theorem Lst.cellAt {G : Nat → Prop} {base : Nat} {w : World} {v : Value} {ps : List (List Int)} (h : Lst G base w v ps) (i : Nat) (hi : i < ps.length) : ∃ g cap u, v = .slice (some ⟨g, 0, none⟩) ps.length cap ∧ w.cell? ⟨g, i, none⟩ = some u ∧ Rd w u (ps.getD i []) := by
  obtain ⟨vs, ho, hr, hd⟩ := h
  obtain ⟨u, hu, hru, _⟩ := hr.at i hi
  rcases ho.2 with ⟨rfl, h0⟩ | ⟨g, cap, cur, rfl, _⟩
  · omega
  · refine ⟨g, cap, u, rfl, ?_, hru⟩
    have := ho.cells (g := g) rfl i u hu
    rwa [add_none, Nat.zero_add] at this
theorem Lst.shape {G : Nat → Prop} {base : Nat} {w : World} {v : Value} {ps : List (List Int)} (h : Lst G base w v ps) : ∃ a c, v = .slice a ps.length c := by
  obtain ⟨vs, ho, _⟩ := h
  exact own_shape ho
theorem Lst.drewN {G : Nat → Prop} {base : Nat} {w : World} {v : Value} {ps : List (List Int)} (h : Lst G base w v ps) (k : Nat) : Lst G base (w.drewN k) v ps :=
  h.kept (drewN_kept (fun _ => False) w k) (fun _ _ hf => hf) (fun _ _ hf => hf)
set_option maxHeartbeats 3200000 in
theorem same_any (w : World) (va vb : Value) (ps : List (List Int)) (G H : Nat → Prop) (ba bb : Nat) (ha : Lst G ba w va ps) (hb : Lst H bb w vb ps) (hl : (ps.length : Int) ≤ 140737488355328) :
    Calls Tryd.prog 18 #[va, vb] w fun e w' => e = .returned (.bool true) ∧ ∃ k, w' = w.drewN k := by
  obtain ⟨aa, ca, rfl⟩ := ha.shape
  obtain ⟨ab, cb, rfl⟩ := hb.shape
  go_enter Tryd.func18, Tryd.ntmps18
  go_wp2
  go_loopw [13] (fun iv wr => ∃ (i k : Nat), iv = .int .i64 (i : Int) ∧ i ≤ ps.length ∧ wr = w.drewN k) (fun iv _ => ps.length - (intOf iv).toNat)
  case atStart => exact ⟨0, 0, rfl, Nat.zero_le _, rfl⟩
  case round =>
    obtain ⟨i, k, rfl, hi, rfl⟩ := hrel
    by_cases hlt : i < ps.length
    · obtain ⟨g, c1, u, e1, hu, ru⟩ := (ha.drewN k).cellAt i hlt
      obtain ⟨g2, c2, u2, e2, hu2, ru2⟩ := (hb.drewN k).cellAt i hlt
      simp at e1 e2
      obtain ⟨rfl, rfl⟩ := e1
      obtain ⟨rfl, rfl⟩ := e2
      have hii : (i : Int) < ps.length := by omega
      obtain ⟨wq, hwq⟩ : ∃ wq, Hid (wq = w.drewN k) := ⟨_, mkHid rfl⟩
      rw [← hwq.out] at hu hu2 ru ru2 ⊢
      have cv1 := ru.convs
      have cv2 := ru2.convs
      clear ru ru2
      go_wp2
      go_quiet (fail)
      go_wp2
      go_roundw
      case rel => exact ⟨i + 1, k + nq, by go_num, by omega, by rw [hwq.out, World.drewN_drewN]⟩
      case measure => simp [intOf]; omega
    · obtain rfl : i = ps.length := by omega
      go_wp2
      go_ret
      exact ⟨rfl, _, rfl⟩
end Go.Proofs.YtdegekoobgoekaaDoor
