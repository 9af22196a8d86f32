/- Done, Sum of package wire; the chapter's examples. -/
import Derived.Test.YtaiklaipdocdmaaDoorWriter
import Derived.Laws.BitsAllLaws
import Derived.Lib.SlBytesConst
import Derived.Deep.QuietTactic
import Derived.BigQuiet
namespace Go.Proofs.YtaiklaipdocdmaaDoor
open Go.ChangeShapes Go.WideShapes Go.ChangeAt Go.RowKit
set_option maxRecDepth 100000

set_option maxHeartbeats 800000 in
theorem done_ok (F : Nat → Prop) (w : World) (p : Nat) (bs : List Int) (h : Wr F w p bs false) (hl : (bs.length : Int) ≤ 140737488355328) :
    Calls Tryd.prog 48 #[.pointer (some ⟨p, 0, none⟩)] w fun e w' => ∃ v', e = .returned (.tuple #[v', .nilIface]) ∧ w'.ownsRow w.heap.size 5 1 v' bs.length (bs.map (Value.int .u8)) ∧ Below w.heap.size w w' := by
  obtain ⟨v, c0, c1, f0, f1, hr⟩ := h.parts
  go_enter Tryd.func48, Tryd.ntmps48
  go_wp2_with (go_at_call 68; refine (clone_any _ v bs hr hl).mono ?_; rintro e w1 ⟨v', rfl, hw, hk⟩)
  go_ret2
  exact ⟨_, rfl, hw, hk⟩
set_option maxHeartbeats 800000 in
theorem done_spoilt (F : Nat → Prop) (w : World) (p : Nat) (bs : List Int) (ev : Value) (h : Wr F w p bs true) (he : w.cell? ⟨3, 0, none⟩ = some ev) :
    Calls Tryd.prog 48 #[.pointer (some ⟨p, 0, none⟩)] w fun e w' => e = .returned (.tuple #[.slice none 0 0, ev]) ∧ Below w.heap.size w w' := by
  obtain ⟨v, c0, c1, f0, f1, hr⟩ := h.parts
  go_enter Tryd.func48, Tryd.ntmps48
  go_wp2
  go_region
  all_goals go_wp2
  all_goals go_ret2
  all_goals exact ⟨rfl, (Below.refl _ _).drew⟩
def fs (s : Nat) (c : Int) : Nat := (s ^^^ c.toNat) * 16777619 % 4294967296
def fnv (bs : List Int) : Nat := bs.foldl fs 2166136261
theorem fnv_snoc (bs : List Int) (c : Int) : fnv (bs ++ [c]) = fs (fnv bs) c := by
  unfold fnv
  rw [List.foldl_append, List.foldl_cons, List.foldl_nil]
theorem fs_lt (s : Nat) (c : Int) : fs s c < 4294967296 := Nat.mod_lt _ (by omega)
theorem fold_lt (bs : List Int) (s : Nat) (h : s < 4294967296) : bs.foldl fs s < 4294967296 := by
  induction bs generalizing s with
  | nil => exact h
  | cons c bs ih => exact ih _ (fs_lt s c)
theorem fnv_lt (bs : List Int) : fnv bs < 4294967296 := by
  unfold fnv
  exact fold_lt bs _ (by omega)
theorem take_snoc (bs : List Int) (k : Nat) (h : k < bs.length) : bs.take (k + 1) = bs.take k ++ [bs.getD k 0] := by
  rw [List.take_succ_eq_append_getElem h]
  simp [List.getD, h]
set_option maxHeartbeats 800000 in
theorem sum_any (w : World) (v : Value) (bs : List Int) (h : Rd w v bs) (hl : (bs.length : Int) ≤ 140737488355328) :
    Calls Tryd.prog 98 #[v] w fun e w' => e = .returned (.int .u32 (fnv bs)) ∧ w' = w := by
  obtain ⟨hB, a, cap, rfl, hc, h0, hr⟩ := h
  go_enter Tryd.func98, Tryd.ntmps98
  go_wp2
  go_loop [3, 8] (fun sv iv => ∃ k : Nat, k ≤ bs.length ∧ iv = .int .i64 k ∧ sv = .int .u32 (fnv (bs.take k))) (fun _ iv => bs.length - (intOf iv).toNat)
  case atStart => exact ⟨0, Nat.zero_le _, rfl, rfl⟩
  case round =>
    obtain ⟨k, hk, rfl, rfl⟩ := hrel
    by_cases hlt : k < bs.length
    · obtain ⟨b, off, rfl, hbl, hcell⟩ := hr (by omega)
      have hck := hcell k hlt
      have hb := hB.at k
      have HS : Hid (fnv (bs.take (k + 1)) = fs (fnv (bs.take k)) (bs.getD k 0)) := mkHid (by rw [take_snoc bs k hlt, fnv_snoc])
      have hf := fnv_lt (bs.take k)
      clear hcell hr
      generalize fnv (bs.take k) = s at *
      generalize bs.getD k 0 = c at *
      have e1 : bits .xor .u32 (s : Int) c = ((s ^^^ c.toNat : Nat) : Int) := by
        have := u32_xor (s : Int) c (by omega) (by omega) hb.1 (by omega)
        simpa using this
      have hx : s ^^^ c.toNat < 4294967296 := Nat.xor_lt_two_pow (n := 32) (by simpa using hf) (by simp; omega)
      have HT : Hid (fs s c = (s ^^^ c.toNat) * 16777619 % 4294967296) := mkHid rfl
      obtain ⟨x, hx2⟩ : ∃ x : Nat, x = s ^^^ c.toNat := ⟨_, rfl⟩
      rw [← hx2] at e1 hx
      rw [← hx2] at HT
      have hxi : (x : Int) ≤ 4294967295 := by omega
      have hsi : (s : Int) ≤ 4294967295 := by omega
      clear hx hx2 hf
      go_wp2
      go_round
      case rel => exact ⟨k + 1, by omega, by go_num, by rw [HS.out, HT.out]; congr 1⟩
      case measure => simp [intOf]; omega
    · have hk' : bs.take k = bs := List.take_of_length_le (by omega)
      have hl' : k = bs.length := by omega
      rw [hk']
      clear hr
      subst hl'
      go_wp2
      go_ret
      exact ⟨rfl, rfl⟩
theorem enc300 : enc 300 = [172, 2] := by rw [enc_ge (by omega), enc_lt (by omega)]; rfl
theorem enc2 : enc 2 = [2] := by rw [enc_lt (by omega)]; rfl
theorem fnv_a : fnv [97] = 3826002220 := by
  unfold fnv
  rw [List.foldl_cons, List.foldl_nil]
  unfold fs
  decide +kernel
theorem alive_list : (([] : List Int) ++ enc 300 ++ (enc ([97, 98] : List Int).length ++ [97, 98])) = [172, 2, 2, 97, 98] := by
  rw [enc300]
  simp [enc2]
theorem alive_byts : Byts [172, 2, 2, 97, 98] := by intro b hb; simp at hb; omega
theorem alive_str : strOfNums [172, 2, 2, 97, 98] = ⟨#[172, 2, 2, 97, 98]⟩ := by decide +kernel
theorem rd_a (w : World) : Rd (w.alloc (.cells #[.int .u8 97] 5 (1, 2))) (.slice (some ⟨w.heap.size, 0, none⟩) 1 1) [97] := by
  refine ⟨Byts.one (by omega) (by omega), some ⟨w.heap.size, 0, none⟩, 1, rfl, by simp, fun e => by simp at e, fun _ => ⟨w.heap.size, 0, rfl, by simp, fun k hk => ?_⟩⟩
  obtain rfl : k = 0 := by simp at hk; omega
  simp [World.cell?_alloc_mark]
end Go.Proofs.YtaiklaipdocdmaaDoor
