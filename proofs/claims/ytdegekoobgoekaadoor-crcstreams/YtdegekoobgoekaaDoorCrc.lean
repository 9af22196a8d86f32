/- The check of package crc and the document's. -/
import Derived.Test.YtdegekoobgoekaaDoorAlive
import Derived.Test.YtdegekoobgoekaaDoorCrcMath
namespace Go.Proofs.YtdegekoobgoekaaDoor
open Go.ChangeShapes Go.WideShapes Go.ChangeAt Go.RowKit

theorem shifted_any (w : World) (x : Nat) (hx : (x : Int) ≤ 4294967295) : Calls Tryd.prog 29 #[.int .u32 x] w fun e w' => e = .returned (.int .u32 (sh x)) ∧ w' = w := by
  have e1 : bits .and .u32 (x : Int) 1 = ((x % 2 : Nat) : Int) := by
    have := u32_and (x : Int) 1 (by omega) (by omega) (by omega) (by omega)
    simpa [Nat.and_one_is_mod] using this
  have e2 : bits .xor .u32 ((x : Int) / 2) 3988292384 = ((x / 2 ^^^ 3988292384 : Nat) : Int) := by
    have := u32_xor ((x : Int) / 2) 3988292384 (by omega) (by omega) (by omega) (by omega)
    rw [this]
    congr 2
  by_cases h : x % 2 = 1
  · have hs : sh x = x / 2 ^^^ 3988292384 := by unfold sh; rw [if_pos h]
    rw [h] at e1
    rw [hs]
    go_enter Tryd.func29, Tryd.ntmps29
    go_wp2
    go_ret
    exact ⟨rfl, rfl⟩
  · have hs : sh x = x / 2 := by unfold sh; rw [if_neg h]
    rw [show x % 2 = 0 by omega] at e1
    rw [hs]
    go_enter Tryd.func29, Tryd.ntmps29
    go_wp2
    go_ret
    exact ⟨rfl, rfl⟩
set_option maxHeartbeats 800000 in
theorem update_any (w : World) (v : Value) (bs : List Int) (s : Nat) (hs : (s : Int) ≤ 4294967295) (h : Rd w v bs) (hl : (bs.length : Int) ≤ 140737488356000) :
    Calls Tryd.prog 26 #[.int .u32 s, v] w fun e w' => e = .returned (.int .u32 (crcW s bs)) ∧ w' = w := by
  obtain ⟨hB, a, cap, rfl, hc, h0, hr⟩ := h
  go_enter Tryd.func26, Tryd.ntmps26
  go_wp2
  go_loop [0, 9] (fun sv iv => ∃ k : Nat, k ≤ bs.length ∧ iv = .int .i64 k ∧ sv = .int .u32 (crcW s (bs.take k))) (fun _ iv => bs.length - (intOf iv).toNat)
  case atStart => exact ⟨0, Nat.zero_le _, rfl, rfl⟩
  case round =>
    obtain ⟨k, hk, rfl, rfl⟩ := hrel
    by_cases hlt : k < bs.length
    · obtain ⟨b, off, rfl, hbl, hcell⟩ := hr (by omega)
      have hck := hcell k hlt
      have hb := hB.at k
      have HS : Hid (crcW s (bs.take (k + 1)) = up (crcW s (bs.take k)) (bs.getD k 0)) := mkHid (by rw [take_snoc bs k hlt, crcW_snoc])
      have hf := crcW_lt (s := s) (by omega) (hB.take k)
      clear hcell hr
      generalize crcW s (bs.take k) = t at *
      generalize bs.getD k 0 = c at *
      have e1 : bits .xor .u32 (t : Int) c = ((t ^^^ c.toNat : Nat) : Int) := by
        have := u32_xor (t : Int) c (by omega) (by omega) hb.1 (by omega)
        simpa using this
      have hx : t ^^^ c.toNat < 4294967296 := xor_byte_lt hf hb.2
      have HT : Hid (up t c = shN 8 (t ^^^ c.toNat)) := mkHid rfl
      obtain ⟨x, hx2⟩ : ∃ x : Nat, x = t ^^^ c.toNat := ⟨_, rfl⟩
      rw [← hx2] at e1 hx
      rw [← hx2] at HT
      have HX := mkHid hx
      have hxi : (x : Int) ≤ 4294967295 := by omega
      clear hx hx2 hf
      go_wp2
      go_loop [0, 17] (fun sv iv => ∃ j : Nat, j ≤ 8 ∧ iv = .int .i64 j ∧ sv = .int .u32 (shN j x)) (fun _ iv => 8 - (intOf iv).toNat)
      case atStart => exact ⟨0, by omega, rfl, rfl⟩
      case round =>
        obtain ⟨j, hj, rfl, rfl⟩ := hrel
        by_cases hj8 : (j : Int) < 8
        · have hy := shN_lt j HX.out
          have hyi : (shN j x : Int) ≤ 4294967295 := by omega
          have HJ : Hid (shN (j + 1) x = sh (shN j x)) := mkHid rfl
          generalize shN j x = y at *
          clear hy
          go_wp2_with (go_at_call 29; refine (shifted_any _ y hyi).mono ?_; rintro e wx ⟨rfl, hw⟩; rw [hw]; clear hw)
          go_round
          case rel => exact ⟨j + 1, by omega, by go_num, by rw [HJ.out]⟩
          case measure => simp [intOf]; omega
        · obtain rfl : j = 8 := by omega
          go_wp2
          go_round
          case rel => exact ⟨k + 1, by omega, by go_num, by rw [HS.out, HT.out]⟩
          case measure => simp [intOf]; omega
    · have hk' : bs.take k = bs := List.take_of_length_le (by omega)
      have hl' : k = bs.length := by omega
      rw [hk']
      clear hr
      subst hl'
      go_wp2
      go_ret
      exact ⟨rfl, rfl⟩
set_option maxHeartbeats 800000 in
theorem crcsum_any (w : World) (v : Value) (bs : List Int) (h : Rd w v bs) (hl : (bs.length : Int) ≤ 140737488356000) :
    Calls Tryd.prog 19 #[v] w fun e w' => e = .returned (.int .u32 (csum bs)) ∧ w' = w := by
  have hf := crcW_lt (s := 4294967295) (by omega) h.1
  have e1 : bits .xor .u32 IntKind.u32.max (crcW 4294967295 bs : Int) = ((csum bs : Nat) : Int) := by
    have := u32_xor IntKind.u32.max (crcW 4294967295 bs : Int) (by decide) (by decide) (by omega) (by omega)
    rw [this, Nat.xor_comm]
    rfl
  go_enter Tryd.func19, Tryd.ntmps19
  go_wp2_with (go_at_call 26; refine (update_any _ _ bs 4294967295 (by omega) h hl).mono ?_; rintro e wx ⟨rfl, hw⟩; rw [hw]; clear hw hf)
  go_ret
  exact ⟨rfl, rfl⟩
set_option maxHeartbeats 1600000 in
theorem refupdate_any (w : World) (v : Value) (bs : List Int) (s : Nat) (hs : (s : Int) ≤ 4294967295) (h : Rd w v bs) (hl : (bs.length : Int) ≤ 140737488356000) :
    Calls Tryd.prog 28 #[.int .u32 s, v] w fun e w' => e = .returned (.int .u32 (crcW s bs)) ∧ w' = w := by
  obtain ⟨hB, a, cap, rfl, hc, h0, hr⟩ := h
  go_enter Tryd.func28, Tryd.ntmps28
  go_wp2
  go_loop [0, 10] (fun sv iv => ∃ k : Nat, k ≤ bs.length ∧ iv = .int .i64 k ∧ sv = .int .u32 (crcW s (bs.take k))) (fun _ iv => bs.length - (intOf iv).toNat)
  case atStart => exact ⟨0, Nat.zero_le _, rfl, rfl⟩
  case round =>
    obtain ⟨k, hk, rfl, rfl⟩ := hrel
    by_cases hlt : k < bs.length
    · obtain ⟨b, off, rfl, hbl, hcell⟩ := hr (by omega)
      have hck := hcell k hlt
      have hb := hB.at k
      have HS : Hid (crcW s (bs.take (k + 1)) = up (crcW s (bs.take k)) (bs.getD k 0)) := mkHid (by rw [take_snoc bs k hlt, crcW_snoc])
      have hf := crcW_lt (s := s) (by omega) (hB.take k)
      clear hcell hr
      generalize crcW s (bs.take k) = t at *
      generalize bs.getD k 0 = c at *
      have e1 : bits .xor .u32 (t : Int) c = ((t ^^^ c.toNat : Nat) : Int) := by
        have := u32_xor (t : Int) c (by omega) (by omega) hb.1 (by omega)
        simpa using this
      have hx : t ^^^ c.toNat < 4294967296 := xor_byte_lt hf hb.2
      have HT : Hid (up t c = shN 8 (t ^^^ c.toNat)) := mkHid rfl
      obtain ⟨x, hx2⟩ : ∃ x : Nat, x = t ^^^ c.toNat := ⟨_, rfl⟩
      rw [← hx2] at e1 hx
      rw [← hx2] at HT
      have HX := mkHid hx
      have hxi : (x : Int) ≤ 4294967295 := by omega
      clear hx hx2 hf
      go_wp2
      go_loop [0, 7] (fun sv iv => ∃ j : Nat, j ≤ 8 ∧ iv = .int .i64 j ∧ sv = .int .u32 (shN j x)) (fun _ iv => 8 - (intOf iv).toNat)
      case atStart => exact ⟨0, by omega, rfl, rfl⟩
      case round =>
        obtain ⟨j, hj, rfl, rfl⟩ := hrel
        by_cases hj8 : (j : Int) < 8
        · have hy := shN_lt j HX.out
          have hyi : (shN j x : Int) ≤ 4294967295 := by omega
          have HJ : Hid (shN (j + 1) x = sh (shN j x)) := mkHid rfl
          generalize shN j x = y at *
          clear hy
          have e2 : bits .xor .u32 ((y : Int) / 2) 3988292384 = ((y / 2 ^^^ 3988292384 : Nat) : Int) := by
            have := u32_xor ((y : Int) / 2) 3988292384 (by omega) (by omega) (by omega) (by omega)
            rw [this]
            congr 2
          by_cases hp : (y : Int) % 2 = 1
          · have hs : sh y = y / 2 ^^^ 3988292384 := by unfold sh; rw [if_pos (by omega)]
            rw [hs] at HJ
            clear hs
            go_wp2
            go_round
            case rel => exact ⟨j + 1, by omega, by go_num, by rw [HJ.out]⟩
            case measure => simp [intOf]; omega
          · have hs : sh y = y / 2 := by unfold sh; rw [if_neg (by omega)]
            rw [hs] at HJ
            clear hs
            go_wp2
            go_round
            case rel => exact ⟨j + 1, by omega, by go_num, by rw [HJ.out]; rfl⟩
            case measure => simp [intOf]; omega
        · obtain rfl : j = 8 := by omega
          go_wp2
          go_round
          case rel => exact ⟨k + 1, by omega, by go_num, by rw [HS.out, HT.out]⟩
          case measure => simp [intOf]; omega
    · have hk' : bs.take k = bs := List.take_of_length_le (by omega)
      have hl' : k = bs.length := by omega
      rw [hk']
      clear hr
      subst hl'
      go_wp2
      go_ret
      exact ⟨rfl, rfl⟩
set_option maxHeartbeats 800000 in
theorem refcsum_any (w : World) (v : Value) (bs : List Int) (h : Rd w v bs) (hl : (bs.length : Int) ≤ 140737488356000) :
    Calls Tryd.prog 23 #[v] w fun e w' => e = .returned (.int .u32 (csum bs)) ∧ w' = w := by
  have hf := crcW_lt (s := 4294967295) (by omega) h.1
  have e1 : bits .xor .u32 (crcW 4294967295 bs : Int) 4294967295 = ((csum bs : Nat) : Int) := by
    have := u32_xor (crcW 4294967295 bs : Int) 4294967295 (by omega) (by omega) (by omega) (by omega)
    rw [this]
    rfl
  go_enter Tryd.func23, Tryd.ntmps23
  go_wp2_with (go_at_call 28; refine (refupdate_any _ _ bs 4294967295 (by omega) h hl).mono ?_; rintro e wx ⟨rfl, hw⟩; rw [hw]; clear hw hf)
  go_ret
  exact ⟨rfl, rfl⟩
theorem nine_byts : Byts [49, 50, 51, 52, 53, 54, 55, 56, 57] := by intro b hb; simp at hb; omega
theorem rd_nine (w : World) : Rd (w.alloc (.cells #[.int .u8 49, .int .u8 50, .int .u8 51, .int .u8 52, .int .u8 53, .int .u8 54, .int .u8 55, .int .u8 56, .int .u8 57] 5 (9, 10))) (.slice (some ⟨w.heap.size, 0, none⟩) 9 9) [49, 50, 51, 52, 53, 54, 55, 56, 57] := by
  refine ⟨nine_byts, some ⟨w.heap.size, 0, none⟩, 9, rfl, by simp, fun e => by simp at e, fun _ => ⟨w.heap.size, 0, rfl, by simp, fun k hk => ?_⟩⟩
  have : k = 0 ∨ k = 1 ∨ k = 2 ∨ k = 3 ∨ k = 4 ∨ k = 5 ∨ k = 6 ∨ k = 7 ∨ k = 8 := by simp at hk; omega
  rcases this with rfl | rfl | rfl | rfl | rfl | rfl | rfl | rfl | rfl <;> simp [World.cell?_alloc_mark]
set_option maxHeartbeats 1600000 in
theorem crcalive_any (w : World) : Calls Tryd.prog 7 #[] w fun e w' => e = .returned (.bool true) ∧ Below w.heap.size w w' := by
  have kc := fun (w : World) (C : Array Value) (n c : Nat) => Lib.run_convert_bytes_const (P := Tryd.prog) w 22 5 C n c Tryd.underlying22 Tryd.underlying5
  go_enter Tryd.func7, Tryd.ntmps7
  go_wp2_with (go_at_call 19; refine (crcsum_any _ _ [49, 50, 51, 52, 53, 54, 55, 56, 57] (rd_nine _) (by simp)).mono ?_; rintro e wx ⟨rfl, hw⟩; rw [hw, csum_alive]; clear hw)
  go_ret
  exact ⟨rfl, (Below.refl _ _).alloc (Nat.le_refl _) _⟩
end Go.Proofs.YtdegekoobgoekaaDoor
