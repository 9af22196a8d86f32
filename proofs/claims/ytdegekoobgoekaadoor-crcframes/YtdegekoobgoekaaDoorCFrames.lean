/- CrcFrames: Frame writes just the frame, and Read gives the payload back, whatever stands behind. -/
import Derived.Test.YtdegekoobgoekaaDoorRead
import Derived.Test.YtdegekoobgoekaaDoorRefFrame
import Derived.Test.YtdegekoobgoekaaDoorApart
import Derived.Test.YtdegekoobgoekaaDoorErrNum
import Derived.Test.YtdegekoobgoekaaDoorSrcW
namespace Go.Proofs.YtdegekoobgoekaaDoor
open Go.ChangeShapes Go.WideShapes Go.ChangeAt Go.RowKit

theorem frame_read {p q : List Int} (hB : Byts p) (hp : p.length ≤ 32768) :
    word (frame p ++ q) = p.length ∧ csum ((frame p ++ q).take (4 + p.length)) = word ((frame p ++ q).drop (4 + p.length)) ∧ ((frame p ++ q).drop 4).take p.length = p := by
  have hbl : (four p.length ++ p).length = 4 + p.length := by rw [List.length_append, four_len]
  have hcs := csum_lt ((four_byts p.length).append hB)
  unfold frame
  refine ⟨?_, ?_, ?_⟩
  · rw [List.append_assoc, List.append_assoc, word_four _ (by omega)]
  · rw [List.append_assoc, List.take_left' hbl, List.drop_left' hbl, word_four _ hcs]
  · rw [List.append_assoc, List.append_assoc, List.drop_left' (four_len _), List.take_left' rfl]
theorem src_frame {w : World} {base n c : Nat} {a : Option Addr} {F : List Int} (hn : F.length = n) (hB : Byts F) (ho : w.ownsRow base 5 1 (.slice a n c) n (F.map (Value.int .u8))) (o : Obj) : Src Tryd.prog 1 22 (.slice a n c) n (F.map (Value.int .u8)) (w.alloc o) := by
  subst hn
  exact ((Rd.of_owns hB ho).alloc o).src
theorem Rd.apart8 {w7 w8 : World} {v7 v8 : Value} {xs ys : List Int} {n : Nat} (r : Rd w7 v7 xs) (hb : Below w7.heap.size w7 w8) (ho : w8.ownsRow w7.heap.size 5 1 v8 n (ys.map (Value.int .u8))) (hv : ∀ k, v7.ownBlock = some k → k < w7.heap.size) :
    ∀ w', Kept (fun k => v8.ownBlock = some k) w8 w' → Rd w' v7 xs := fun w' hk =>
  (r.later hb).kept hk (fun k h7 h8 => by have := hv k h7; have := (ho.lt k h8).1; omega)
set_option maxHeartbeats 3200000 in
theorem cframes_large (w : World) (v u : Value) (bs : List Int) (a : Nat → Addr) (h : Rd w v bs) (hl : (32768 : Int) < bs.length) (hl2 : (bs.length : Int) ≤ 140737488355300) (hE : Errs w a) :
    Calls Tryd.prog 3 #[v, u] w fun e w' => e = .returned (.bool true) ∧ Below w.heap.size w w' := by
  obtain ⟨a0, c0, rfl⟩ : ∃ a c, v = .slice a bs.length c := h.2.imp fun a h => h.imp fun c h => h.1
  go_enter Tryd.func3, Tryd.ntmps3
  go_wp2_with (first | (go_at_call 7; refine (crcalive_any _).mono ?_; rintro e w1 ⟨rfl, hb1⟩; have r1 := h.later hb1) | (go_at_call 8; refine (nbytes_any _ _ bs r1 hl2).mono ?_; rintro e w2 ⟨g, cap, rfl, hmk, hb2⟩; have hb2' := hb1.trans (hb2.mono hb1.size); have ri := hmk.rd h.1; have hE2 := hE.late hb2'; have hgl := hmk.lt; clear r1 hb2) | (go_at_call 9; refine (frame_large _ _ bs _ ri (by omega) hE2.cell_large).mono ?_; rintro e w3 ⟨rfl, hb3⟩; have hE3 := hE2.late hb3; have hm3 := hmk.kept (kept_of_below hb3) (by omega); have hb3' := hb2'.trans (hb3.mono hb2'.size); have r3 := h.later hb3'; clear hE2 ri hmk hgl) | (go_at_call 10; refine (nkept_any _ _ g cap _ bs hm3 r3 hl2).mono ?_; rintro e w4 ⟨rfl, hk⟩; have hb4 : Below w3.heap.size w3 w4 := (by obtain ⟨k, rfl⟩ := hk; exact drewN_below _ k); have hE4 := hE3.late hb4; have hb4' := hb3'.trans (hb4.mono hb3'.size); clear hk hb4 hE3) | (go_at_call 11; refine (errnum_large _ a hE4).mono ?_; rintro e w5 ⟨rfl, hb5⟩; have hb5' := hb4'.trans (hb5.mono hb4'.size)))
  go_ret
  exact ⟨rfl, hb5'⟩
set_option maxHeartbeats 6400000 in
theorem cframes_walk (w : World) (v u : Value) (bs qs : List Int) (h : Rd w v bs) (hq : Rd w u qs) (hl : (bs.length : Int) ≤ 32768) (hlq : (qs.length : Int) ≤ 140737488355300) :
    Calls Tryd.prog 3 #[v, u] w fun e w' => e = .returned (.bool true) ∧ Below w.heap.size w w' := by
  obtain ⟨i0, hi, hz0, hz1, hz2⟩ := info_parts Tryd.info5
  obtain ⟨a0, c0, rfl⟩ : ∃ a c, v = .slice a bs.length c := h.2.imp fun a h => h.imp fun c h => h.1
  have hlm : (bs.length : Int) ≤ 140737488355300 := by omega
  have hfl : (frame bs).length = bs.length + 8 := frame_len bs
  have hFB := frame_byts h.1
  obtain ⟨F, hF⟩ : ∃ F, F = frame bs := ⟨_, rfl⟩
  have HFR : Hid (word (F ++ qs) = bs.length ∧ csum ((F ++ qs).take (4 + bs.length)) = word ((F ++ qs).drop (4 + bs.length)) ∧ ((F ++ qs).drop 4).take bs.length = bs) := mkHid (by rw [hF]; exact frame_read h.1 (by omega))
  have HFr : Hid (frame bs = F) := mkHid hF.symm
  rw [← hF] at hfl hFB
  have HL : Hid ((0 + (bs.length + 8) ≤ maxLen ∧ 0 + (bs.length + 8) ≤ 140737488355328) ∧ bs.length + 8 + qs.length ≤ maxLen ∧ bs.length + 8 + qs.length ≤ 200000000000000) := mkHid ⟨⟨by unfold maxLen; omega, by omega⟩, by unfold maxLen; omega, by omega⟩
  have HFB := mkHid hFB
  clear hF hFB
  have M1 : Hid True := trivial
  go_enter Tryd.func3, Tryd.ntmps3
  go_wp2_with (first | (go_at_call 7; refine (crcalive_any _).mono ?_; rintro e w1 ⟨rfl, hb1⟩; have r1 := h.later hb1) | (go_at_call 8; refine (nbytes_any _ _ bs r1 hlm).mono ?_; rintro e w2 ⟨g, cap, rfl, hmk, hb2⟩; have hb2' := hb1.trans (hb2.mono hb1.size); have ri := hmk.rd h.1; have hgl := hmk.lt; clear r1 hb2) | (go_at_call 9; refine (frame_any _ _ bs ri hl).mono ?_; rintro e w3 ⟨v3, rfl, ho3, hb3⟩; rw [HFr.out] at ho3; have ho3' := own_weak (base' := w.heap.size) ho3 hb2'.size; have hm3 := hmk.kept (kept_of_below hb3) (by omega); have hb3' := hb2'.trans (hb3.mono hb2'.size); have r3 := h.later hb3'; clear ri hmk hgl ho3 hb2' hb1) | (go_at_call 10; refine (nkept_any _ _ g cap _ bs hm3 r3 hlm).mono ?_; rintro e w4 ⟨rfl, hk⟩; have hb4 : Below w3.heap.size w3 w4 := (by obtain ⟨k, rfl⟩ := hk; exact drewN_below _ k); have ho4 := own_late ho3' hb4; have hb4' := hb3'.trans (hb4.mono hb3'.size); have r4 := h.later hb4'; obtain ⟨a4, c4, rfl⟩ := own_shape ho4; clear hk hb4 hb3' ho3' r3 hm3))
  have cvf := (Rd.of_owns (w := w4) (base := w.heap.size) HFB.out (by rw [hfl]; exact ho4)).drew.conv
  go_region_with (go_at_call 12; refine (refframe_any _ _ bs r4.drew hl).mono ?_; rintro e w5 ⟨v5, rfl, ho5, hb5⟩; rw [HFr.out] at ho5; have cv5 := (Rd.of_owns HFB.out (by rw [hfl]; exact ho5)).conv; have ho5' := own_late (own_late ho4 (drewN_below w4 1)) hb5; have cvf5 := (Rd.of_owns HFB.out (by rw [hfl]; exact ho5')).conv; have hb5' := hb4'.trans (((Below.refl _ w4).drew.trans hb5).mono hb4'.size); clear hb5 ho5)
  all_goals clear cvf cv5 cvf5 r4 ho4 hb4' hb3
  all_goals go_wp2_with (first | (at_builtin; clear M1; have hm := World.ownsRow_made (base := w.heap.size) (e := 5) (size := 1) w5 #[] 0 hb5'.size (by unfold maxLen; omega) rfl; refine wpList_append_src _ rfl (.tmp 45) (.tmp 46) 22 22 rfl w.heap.size 5 i0 Tryd.underlying22 hi hz0 hz1 hz2 _ _ _ rfl hm _ _ _ rfl (src_frame hfl HFB.out ho5' _) HL.out.1.1 HL.out.1.2 (by have := hb5'.size; simp; omega) ?_; intro v6 w6 ho6 hg6 _; have hb6 := (hb5'.alloc hb5'.size _).grown hg6 (by have := hb5'.size; simp; omega) (fun k hk => (hm.lt k hk).1); rw [Nat.zero_add, List.nil_append] at ho6; clear hg6 ho5' hm hb5') | (at_builtin; refine wpList_append_srcW _ rfl (.tmp 47) (.tmp 48) 22 22 rfl w.heap.size 5 i0 Tryd.underlying22 hi hz0 hz1 hz2 _ _ _ rfl ho6 _ _ _ rfl (hq.later hb6).src HL.out.2.1 HL.out.2.2 hb6.size ?_; intro v7 w7 ho7 hg7 _; have hb7 := hb6.grown hg7 hb6.size (fun k hk => (ho6.lt k hk).1); rw [← List.map_append] at ho7; have r7 := Rd.of_owns (HFB.out.append hq.1) (by rw [List.length_append, hfl]; exact ho7); have HV7 : Hid (∀ k, v7.ownBlock = some k → k < w7.heap.size) := mkHid (fun k hk => (ho7.lt k hk).2); clear hg7 ho7 ho6 hb6) | (go_at_call 13; refine (read_good _ _ _ bs.length r7 HFR.out.1.symm hl (by rw [List.length_append, hfl]; omega) HFR.out.2.1).mono ?_; rintro e w8 ⟨v8, rfl, ho8, hb8⟩; rw [HFR.out.2.2] at ho8; have cv8 := (Rd.of_owns h.1 ho8).conv; have hb8' := hb7.trans (hb8.mono hb7.size); have cvp := (h.later hb8').conv; have HR8 := mkHid (Rd.apart8 r7 hb8 ho8 HV7.out); have HS8 := mkHid (Nat.le_trans hb7.size hb8.size); have HV8 : Hid (∀ k, v8.ownBlock = some k → w7.heap.size ≤ k) := mkHid (fun k hk => (ho8.lt k hk).1); have hsz8 := hb8.size; have hsz7 := hb7.size; clear r7 hb7 hb8) | (go_at_call 14; refine (apart_any _ _ _ _ bs w7.heap.size bs.length (fun k => v8.ownBlock = some k) HR8.out ho8 h.1 (fun k hk => hk) hsz8 hlm).mono ?_; rintro e w9 ⟨rfl, hk9⟩; have hb9 := hb8'.trans (hk9.below (B := w.heap.size) (fun k hk => Nat.le_trans hsz7 (HV8.out k hk)) HS8.out)))
  all_goals go_ret
  all_goals exact ⟨rfl, hb9⟩
end Go.Proofs.YtdegekoobgoekaaDoor
