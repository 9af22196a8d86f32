/- The document's Sum, Seal and Open. -/
import Derived.Test.YtaiklaipdocdmaaDoorSeal
namespace Go.Proofs.YtaiklaipdocdmaaDoor
open Go.ChangeShapes Go.WideShapes Go.ChangeAt Go.RowKit
set_option maxRecDepth 100000

set_option maxHeartbeats 1600000 in
theorem refsum_any (w : World) (v : Value) (bs : List Int) (h : Rd w v bs) (hl : (bs.length : Int) ≤ 140737488355328) :
    Calls Tryd.prog 86 #[v] w fun e w' => e = .returned (.int .u32 (fnv bs)) ∧ w' = w := by
  obtain ⟨hB, a, cap, rfl, hc, h0, hr⟩ := h
  go_enter Tryd.func86, Tryd.ntmps86
  go_wp2
  go_loop [3, 8] (fun sv iv => ∃ k : Nat, k ≤ bs.length ∧ iv = .int .i64 k ∧ sv = .int .u64 (fnv (bs.take k))) (fun _ iv => bs.length - (intOf iv).toNat)
  case atStart => exact ⟨0, Nat.zero_le _, rfl, rfl⟩
  case round =>
    obtain ⟨k, hk, rfl, rfl⟩ := hrel
    by_cases hlt : k < bs.length
    · obtain ⟨b, off, rfl, hbl, hcell⟩ := hr (by omega)
      have hck := hcell k hlt
      have hb := hB.at k
      have HS : Hid (fnv (bs.take (k + 1)) = fs (fnv (bs.take k)) (bs.getD k 0)) := mkHid (by rw [take_snoc bs k hlt, fnv_snoc])
      have hf := fnv_lt (bs.take k)
      clear hcell hr
      generalize fnv (bs.take k) = s at *
      generalize bs.getD k 0 = c at *
      have e1 : bits .xor .u64 (s : Int) c = ((s ^^^ c.toNat : Nat) : Int) := by
        have := u64_xor (s : Int) c (by omega) (by omega) hb.1 (by omega)
        simpa using this
      have hx : s ^^^ c.toNat < 4294967296 := Nat.xor_lt_two_pow (n := 32) (by simpa using hf) (by simp; omega)
      have HT : Hid (fs s c = (s ^^^ c.toNat) * 16777619 % 4294967296) := mkHid rfl
      obtain ⟨x, hx2⟩ : ∃ x : Nat, x = s ^^^ c.toNat := ⟨_, rfl⟩
      rw [← hx2] at e1 hx
      rw [← hx2] at HT
      have hxi : (x : Int) ≤ 4294967295 := by omega
      have hsi : (s : Int) ≤ 4294967295 := by omega
      clear hx hx2 hf
      go_wp2
      go_round
      case rel => exact ⟨k + 1, by omega, by go_num, by rw [HS.out, HT.out]; congr 1⟩
      case measure => simp [intOf]; omega
    · have hk' : bs.take k = bs := List.take_of_length_le (by omega)
      have hl' : k = bs.length := by omega
      rw [hk']
      have hf := fnv_lt bs
      have hfi : (fnv bs : Int) ≤ 4294967295 := by omega
      clear hr hf
      subst hl'
      go_wp2
      go_ret
      exact ⟨rfl, rfl⟩
set_option maxHeartbeats 3200000 in
theorem refseal_any (w : World) (v : Value) (bs : List Int) (h : Rd w v bs) (hl : (bs.length : Int) ≤ 140737488355320) :
    Calls Tryd.prog 58 #[v] w fun e w' => ∃ v', e = .returned v' ∧ w'.ownsRow w.heap.size 5 1 v' (bs ++ sumb (fnv bs)).length ((bs ++ sumb (fnv bs)).map (Value.int .u8)) ∧ Below w.heap.size w w' := by
  obtain ⟨i0, hi, hz0, hz1, hz2⟩ := info_parts Tryd.info5
  have hf := fnv_lt bs
  have hfi : (fnv bs : Int) ≤ 4294967295 := by omega
  have HL : Hid ((0 + bs.length ≤ maxLen ∧ 0 + bs.length ≤ 140737488355328) ∧ (bs.length + (sumb (fnv bs)).length ≤ maxLen ∧ bs.length + (sumb (fnv bs)).length ≤ 140737488355328)) := mkHid ⟨⟨by unfold maxLen; omega, by omega⟩, by rw [sumb_len]; unfold maxLen; omega, by rw [sumb_len]; omega⟩
  have hm2 := World.ownsRow_made (base := w.heap.size) (e := 5) (size := 1) w #[] 0 (Nat.le_refl _) (by unfold maxLen; omega) rfl
  have HS : Hid ([(fnv bs : Int) / 16777216, (fnv bs : Int) / 65536 % 256, (fnv bs : Int) / 256 % 256, (fnv bs : Int) % 256] = sumb (fnv bs)) := mkHid (by simp only [sumb, List.cons.injEq, and_true]; omega)
  clear hf
  have M1 : Hid True := trivial
  go_enter Tryd.func58, Tryd.ntmps58
  go_wp2_with (first | (go_at_call 86; refine (refsum_any _ _ bs h (by omega)).mono ?_; rintro e wx ⟨rfl, hw⟩; rw [hw]; clear hw) | (at_builtin; clear M1; refine wpList_append_src _ rfl (.tmp 6) (.tmp 7) 32 32 rfl w.heap.size 5 i0 Tryd.underlying32 hi hz0 hz1 hz2 _ _ _ rfl hm2 _ _ _ rfl (h.alloc _).src HL.out.1.1 HL.out.1.2 (by simp) ?_; intro v2 w2 ho2 hg2 _; have hb2 := ((Below.refl w.heap.size w).alloc (Nat.le_refl _) _).grown hg2 (by simp) (fun k hk => (hm2.lt k hk).1); rw [Nat.zero_add, List.nil_append] at ho2; clear hg2) | (at_builtin; refine wpList_append_src _ rfl (.tmp 8) (.tmp 20) 32 32 rfl w.heap.size 5 i0 Tryd.underlying32 hi hz0 hz1 hz2 _ _ _ rfl (ho2.alloc _) _ _ _ rfl (rd_sumb w2 (fnv bs) _ _ _ _ HS.out).src HL.out.2.1 HL.out.2.2 (by have := hb2.size; simp; omega) ?_; intro v3 w3 ho3 hg3 _; have hb3 := (hb2.alloc hb2.size _).grown hg3 (by have := hb2.size; simp; omega) (fun k hk => (ho2.lt k hk).1); rw [← List.map_append] at ho3; have HQ : Hid (w3.ownsRow w.heap.size 5 1 v3 (bs ++ sumb (fnv bs)).length ((bs ++ sumb (fnv bs)).map (Value.int .u8))) := mkHid (by rw [List.length_append]; exact ho3); clear hg3 ho3 ho2))
  go_ret
  exact ⟨_, rfl, HQ.out, hb3⟩
end Go.Proofs.YtaiklaipdocdmaaDoor
