/- Split of package crc. -/
import Derived.Test.YtdegekoobgoekaaDoorRead
import Derived.Test.YtdegekoobgoekaaDoorLists
import Derived.Test.YtdegekoobgoekaaDoorSplMath
namespace Go.Proofs.YtdegekoobgoekaaDoor
open Go.ChangeShapes Go.WideShapes Go.ChangeAt Go.RowKit

theorem lst_put {G : Nat → Prop} {base : Nat} {wr w1 w2 : World} {lv lv' v1 : Value} {vs : List Value} {ps : List (List Int)} {p : List Int} (hr : RdAll G w1 vs ps) (hG : ∀ j, G j → j < wr.heap.size) (hd : ∀ k, lv.ownBlock = some k → ¬ G k ∧ k < wr.heap.size)
    (r1 : Rd w1 v1 p) (hb1 : ∀ k, v1.ownBlock = some k → wr.heap.size ≤ k ∧ k < w1.heap.size) (hsz : wr.heap.size ≤ w1.heap.size) (o : Obj) (ho2 : w2.ownsRow base 22 1 lv' (ps.length + 1) (vs ++ [v1])) (hg : (w1.alloc o).grownBy w2 lv.ownBlock) (hat : lv'.ownBlock = lv.ownBlock ∨ lv'.ownBlock = some (w1.alloc o).heap.size) :
    Lst (fun j => G j ∨ (wr.heap.size ≤ j ∧ j < w1.heap.size)) base w2 lv' (ps ++ [p]) := by
  have hk : Kept (fun k => lv.ownBlock = some k) w1 w2 := (Kept.alloc _ w1 o).trans (Kept.grown hg (fun k hk => hk)) (fun i hi => .inl hi)
  have hn : ∀ k, (G k ∨ (wr.heap.size ≤ k ∧ k < w1.heap.size)) → ¬ lv.ownBlock = some k := by
    intro k h1 h2
    have := hd k h2
    rcases h1 with h1 | h1
    · exact this.1 h1
    · omega
  refine ⟨vs ++ [v1], by rw [List.length_append]; exact ho2, ?_, ?_⟩
  · refine RdAll.kept ((hr.mono (fun k hk => .inl hk)).append ⟨⟨r1, fun _ k hk => .inr (hb1 k hk)⟩, trivial⟩) hk hn
  · intro k hk' h1
    rcases hat with e | e
    · exact hn k h1 (e ▸ hk')
    · rw [e] at hk'
      simp at hk'
      rcases h1 with h1 | h1
      · have := hG k h1
        omega
      · omega
def SplitPost (w : World) (out : Except Nat (List (List Int) × Nat)) (evL evS : Value) (e : Ending) (w' : World) : Prop :=
  Below w.heap.size w w' ∧ match out with
    | .ok (ps, k) => ∃ v' G, e = .returned (.tuple #[v', .int .i64 (k : Int), .nilIface]) ∧ Lst G w.heap.size w' v' ps ∧ (∀ j, G j → w.heap.size ≤ j ∧ j < w'.heap.size)
    | .error n => e = .returned (.tuple #[.slice none 0 0, .int .i64 0, if n = 8 then evL else evS])
set_option maxHeartbeats 6400000 in
theorem split_any (w : World) (v : Value) (bs : List Int) (evL evS : Value) (tL tS : TypeId) (dL dS : Value) (hvL : evL = .iface tL dL) (hvS : evS = .iface tS dS) (h : Rd w v bs) (hl : (bs.length : Int) ≤ 5000000) (heL : w.cell? ⟨0, 0, none⟩ = some evL) (heS : w.cell? ⟨4, 0, none⟩ = some evS) :
    Calls Tryd.prog 16 #[v] w fun e w' => SplitPost w (splits bs) evL evS e w' := by
  obtain ⟨i0, hi, hz0, hz1, hz2⟩ := info_parts Tryd.info22
  subst hvL hvS
  go_enter Tryd.func16, Tryd.ntmps16
  go_wp2
  go_loopw [5, 6] (fun lv kv wr => ∃ (k f : Nat) (ps : List (List Int)) (G : Nat → Prop), kv = .int .i64 (k : Int) ∧ k ≤ bs.length ∧ bs.length - k < f ∧ Hid (splits bs = pre ps k (spl f (bs.drop k))) ∧ 8 * ps.length ≤ k ∧ Lst G w.heap.size wr lv ps ∧ (∀ j, G j → w.heap.size ≤ j ∧ j < wr.heap.size) ∧ Below w.heap.size w wr) (fun _ kv _ => bs.length - (intOf kv).toNat)
  case atStart => exact ⟨0, bs.length + 1, [], fun _ => False, rfl, Nat.zero_le _, by omega, mkHid (by rw [pre_nil]; rfl), by simp, Lst.nil _ _ _, fun _ hj => hj.elim, Below.refl _ _⟩
  case round =>
    obtain ⟨k, f, ps, G, rfl, hk, hf, HE, h8, hL, hG, hbel⟩ := hrel
    obtain ⟨f, rfl⟩ : ∃ j, f = j + 1 := ⟨f - 1, by omega⟩
    obtain ⟨u, su, ru⟩ := (h.later hbel).tailS (k : Int) k rfl hk
    have hul : (bs.drop k).length = bs.length - k := by rw [List.length_drop]
    have heL1 := cell_later hbel heL
    have heS1 := cell_later hbel heS
    have HG := mkHid hG
    clear hG
    have hsz := hbel.size
    rcases kind_cases (bs.drop k) with hc | hc | hc | hc
    · rw [pre_end hc] at HE
      have HP : Hid (∀ W, Below wr.heap.size wr W → SplitPost w (splits bs) (.iface tL dL) (.iface tS dS) (.returned (.tuple #[u5, .int .i64 (k : Int), .nilIface])) W) := mkHid (fun W hW => by
        rw [HE.out]
        refine ⟨hbel.trans (hW.mono hsz), u5, G, rfl, hL.kept (kept_of_below hW) (fun j hj hge => by have := HG.out j hj; omega) (fun j hj hge => ?_), fun j hj => ⟨(HG.out j hj).1, by have := HG.out j hj; have := hW.size; omega⟩⟩
        obtain ⟨vs, ho, _⟩ := hL
        have := ho.lt j hj
        omega)
      clear hL HE
      rcases kind_zero hc with h0 | ⟨h0, h1, h2⟩
      · go_wp2_with (go_at_call 13; refine (read_short1 _ _ _ ru (by omega)).mono ?_; rintro e w1 ⟨rfl, hb1⟩)
        go_ret3
        exact HP.out _ hb1
      · go_wp2_with (go_at_call 13; refine (read_short2 _ _ _ ru h0 h1 h2).mono ?_; rintro e w1 ⟨rfl, hb1⟩)
        go_ret3
        exact HP.out _ hb1
    · have hk1 := kind_one hc
      rw [pre_step hc, List.drop_drop] at HE
      obtain ⟨n, hn⟩ : ∃ n, n = word (bs.drop k) := ⟨_, rfl⟩
      rw [← hn] at HE hk1
      have HN := mkHid hn
      have hpl := pay_len hc
      rw [← hn] at hpl
      have hpB := pay_byts ru.1
      have hpe : ((bs.drop k).drop 4).take n = pay (bs.drop k) := by rw [hn]; rfl
      obtain ⟨vs, ho, hra, hd⟩ := hL
      obtain ⟨la, lc, rfl⟩ := own_shape ho
      have hne8 : ¬ (n : Int) + 8 = 0 := by omega
      have hki : (k : Int) + ((n : Int) + 8) ≤ bs.length := by omega
      have hni : (n : Int) ≤ 32768 := by omega
      have HB : Hid (ps.length + 1 ≤ maxLen ∧ (ps.length + 1) * 24 ≤ 140737488355328) := mkHid ⟨by unfold maxLen; omega, by omega⟩
      have HK := mkHid hk1
      have HPE := mkHid hpe
      have HPL := mkHid hpl
      have HUL : Hid ((n : Int) + 8 ≤ (bs.drop k).length) := mkHid (by rw [hul]; omega)
      have hkn : k + (n + 8) ≤ bs.length := by omega
      clear hn hc hk1 hpe hpl hul
      go_wp2_with (first | (go_at_call 13; refine (read_good _ _ _ n ru HN.out hni HUL.out HK.out.2.2).mono ?_; rintro e w1 ⟨v1, rfl, ho1, hb1⟩; rw [HPE.out] at ho1; obtain ⟨a1, c1, rfl⟩ := own_shape ho1; have r1 := Rd.of_owns hpB (by rw [HPL.out]; exact ho1); have hb1' := hbel.trans (hb1.mono hsz); have hsz1 := hb1.size; have HO : Hid (∀ j, (Value.slice a1 n c1).ownBlock = some j → wr.heap.size ≤ j ∧ j < w1.heap.size) := mkHid (fun j hj => ho1.lt j hj); have ho' := own_late ho hb1; have HRA := mkHid (hra.kept (kept_of_below hb1) (fun j hj hge => by have := HG.out j hj; omega)); have HD : Hid (∀ j, (Value.slice la ps.length lc).ownBlock = some j → ¬ G j ∧ j < wr.heap.size) := mkHid (fun j hj => ⟨hd j hj, (ho.lt j hj).2⟩); clear ho1 hra hd ho) | (at_builtin; refine wpList_append_srcV _ rfl (.tmp 25) (.tmp 27) 35 35 rfl w.heap.size 22 i0 Tryd.underlying35 hi (.slice none 0 0) 24 hz0 rfl hz1 hz2 _ _ _ rfl (ho'.alloc _) _ _ _ rfl (src_oneV w1 _ r1.one) HB.out.1 HB.out.2 (by have := hb1'.size; simp; omega) ?_; intro v2 w2 ho2 hg2 hat; have HL2 := mkHid (lst_put HRA.out (fun j hj => (HG.out j hj).2) HD.out r1 HO.out hsz1 _ ho2 hg2 hat); have hb2 := (hb1'.alloc hb1'.size _).grown hg2 (by have := hb1'.size; simp; omega) (fun j hj => (ho'.lt j hj).1); have HS2 := mkHid hg2.size; clear hg2 hat ho2 ho'))
      go_roundw
      case rel =>
        have hs2 : w1.heap.size < w2.heap.size := by have := HS2.out; simp at this; omega
        exact ⟨k + (n + 8), f, ps ++ [pay (bs.drop k)], _, by go_num, by omega, by omega, HE, by rw [List.length_append, List.length_singleton]; omega, HL2.out, fun j hj => hj.elim (fun hj => by have := HG.out j hj; omega) (fun hj => by omega), hb2⟩
      case measure => simp [intOf]; omega
    · rw [pre_bad hc (by omega) (by omega)] at HE
      have hk1 := kind_four hc
      go_wp2_with (go_at_call 13; refine (read_bad _ _ _ _ _ ru rfl (by omega) (by rw [hul] at hk1 ⊢; omega) hk1.2.2 heS1).mono ?_; rintro e w1 ⟨rfl, hb1⟩; have hb1' := hbel.trans (hb1.mono hsz))
      go_ret3
      rw [HE.out]
      exact ⟨hb1', by rfl⟩
    · rw [pre_bad hc (by omega) (by omega)] at HE
      have hk1 := kind_eight hc
      go_wp2_with (go_at_call 13; refine (read_large _ _ _ _ ru hk1.1 hk1.2 heL1).mono ?_; rintro e w1 ⟨rfl, hb1⟩; have hb1' := hbel.trans (hb1.mono hsz))
      go_ret3
      rw [HE.out]
      exact ⟨hb1', by rfl⟩
end Go.Proofs.YtdegekoobgoekaaDoor
