/- The document's Num and Bytes. -/
import Derived.Test.YtaiklaipdocdmaaDoorRd
namespace Go.Proofs.YtaiklaipdocdmaaDoor
open Go.ChangeShapes Go.WideShapes Go.ChangeAt Go.RowKit
set_option maxRecDepth 100000

set_option maxHeartbeats 3200000 in
theorem refnum_any (w : World) (n : Nat) (hn : (n : Int) ≤ 9223372036854775807) :
    Calls Tryd.prog 57 #[.int .i64 n] w fun e w' => ∃ v', e = .returned v' ∧ w'.ownsRow w.heap.size 5 1 v' (enc n).length ((enc n).map (Value.int .u8)) ∧ Below w.heap.size w w' := by
  obtain ⟨i0, hi, hz0, hz1, hz2⟩ := info_parts Tryd.info5
  go_enter Tryd.func57, Tryd.ntmps57
  go_wp2
  go_loopw [0, 3] (fun nv sv wr => ∃ (m : Nat) (ds : List Int), nv = .int .i64 m ∧ (m : Int) ≤ 9223372036854775807 ∧ Hid (enc n = ds ++ enc m) ∧ wr.ownsRow w.heap.size 5 1 sv ds.length (ds.map (Value.int .u8)) ∧ Below w.heap.size w wr) (fun nv _ _ => (intOf nv).toNat)
  case atStart => exact ⟨n, [], rfl, hn, mkHid rfl, World.ownsRow_made (base := w.heap.size) w #[] 0 (Nat.le_refl _) (by unfold maxLen; omega) rfl, (Below.refl _ _).alloc (Nat.le_refl _) _⟩
  case round =>
    obtain ⟨m, ds, rfl, hm, HE, ho, hb⟩ := hrel
    have hE := enc_len9 n (by omega)
    have hdl : (ds ++ enc m).length ≤ 9 := by rw [← HE.out]; exact hE
    have hpos := enc_len_pos m
    rw [List.length_append] at hdl
    obtain ⟨sa, sc, rfl⟩ := own_shape ho
    have HL : Hid (ds.length + 1 ≤ maxLen ∧ ds.length + 1 ≤ 140737488355328) := mkHid ⟨by unfold maxLen; omega, by omega⟩
    have hsz := hb.size
    clear hE hdl hpos
    by_cases h128 : (128 : Int) ≤ m
    · have hnz : ¬ (m : Int) / 128 = 0 := by omega
      go_wp2_with (at_builtin; refine wpList_append_src _ rfl (.tmp 17) (.tmp 20) 32 32 rfl w.heap.size 5 i0 Tryd.underlying32 hi hz0 hz1 hz2 _ _ _ rfl (ho.alloc _) _ 1 [.int .u8 ((m : Int) % 128 + 128)] rfl (src_one wr _) HL.out.1 HL.out.2 (by simp; omega) ?_; intro v2 w2 ho2 hg2 _; have hb2 := (hb.alloc hsz _).grown hg2 (by simp; omega) (fun k hk => (ho.lt k hk).1); have HO : Hid (w2.ownsRow w.heap.size 5 1 v2 (ds ++ [(m : Int) % 128 + 128]).length ((ds ++ [(m : Int) % 128 + 128]).map (Value.int .u8))) := mkHid (by simpa using ho2); clear ho2 hg2 ho)
      go_roundw
      case rel =>
        refine ⟨m / 128, ds ++ [(m : Int) % 128 + 128], by go_num, by omega, ?_, HO.out, hb2⟩
        show enc n = _
        rw [HE.out, enc_ge (by omega)]
        simp
      case measure => simp [intOf]; omega
    · have HC : Hid (enc m = [(m : Int)]) := mkHid (enc_lt (by omega))
      have hlt : (m : Int) < 128 := by omega
      have hz : (m : Int) / 128 = 0 := by omega
      have hmm : (m : Int) % 128 = m := by omega
      go_wp2_with (at_builtin; refine wpList_append_src _ rfl (.tmp 13) (.tmp 15) 32 32 rfl w.heap.size 5 i0 Tryd.underlying32 hi hz0 hz1 hz2 _ _ _ rfl (ho.alloc _) _ 1 [.int .u8 (m : Int)] rfl (src_one wr _) HL.out.1 HL.out.2 (by simp; omega) ?_; intro v2 w2 ho2 hg2 _; have hb2 := (hb.alloc hsz _).grown hg2 (by simp; omega) (fun k hk => (ho.lt k hk).1); have HO : Hid (w2.ownsRow w.heap.size 5 1 v2 (enc n).length ((enc n).map (Value.int .u8))) := mkHid (by rw [HE.out, HC.out]; simpa using ho2); clear ho2 hg2 ho)
      go_ret
      exact ⟨_, rfl, HO.out, hb2⟩
set_option maxHeartbeats 3200000 in
theorem refbytes_any (w : World) (v : Value) (bs : List Int) (h : Rd w v bs) (hl : (bs.length : Int) ≤ 140737488350000) :
    Calls Tryd.prog 59 #[v] w fun e w' => ∃ v', e = .returned v' ∧ w'.ownsRow w.heap.size 5 1 v' (enc bs.length ++ bs).length ((enc bs.length ++ bs).map (Value.int .u8)) ∧ Below w.heap.size w w' := by
  obtain ⟨i0, hi, hz0, hz1, hz2⟩ := info_parts Tryd.info5
  obtain ⟨a, c, rfl⟩ : ∃ a c, v = .slice a bs.length c := h.2.imp fun a h => h.imp fun c h => h.1
  have hE := enc_len9 bs.length (by omega)
  have HL : Hid ((enc bs.length).length + bs.length ≤ maxLen ∧ (enc bs.length).length + bs.length ≤ 140737488355328) := mkHid ⟨by unfold maxLen; omega, by omega⟩
  go_enter Tryd.func59, Tryd.ntmps59
  go_wp2_with (first | (go_at_call 57; refine (refnum_any _ bs.length (by omega)).mono ?_; rintro e w1 ⟨v1, rfl, ho1, hb1⟩; have r1 := h.later hb1) | (at_builtin; refine wpList_append_src _ rfl (.tmp 5) (.tmp 6) 32 32 rfl w.heap.size 5 i0 Tryd.underlying32 hi hz0 hz1 hz2 _ _ _ rfl ho1 _ _ _ rfl r1.src HL.out.1 HL.out.2 hb1.size ?_; intro v2 w2 ho2 hg2 _; have hb2 := hb1.grown hg2 hb1.size (fun k hk => (ho1.lt k hk).1); have HO : Hid (w2.ownsRow w.heap.size 5 1 v2 (enc bs.length ++ bs).length ((enc bs.length ++ bs).map (Value.int .u8))) := mkHid (by rw [List.length_append, List.map_append]; exact ho2); clear ho2 hg2 ho1 r1))
  go_ret
  exact ⟨_, rfl, HO.out, hb2⟩
end Go.Proofs.YtaiklaipdocdmaaDoor
