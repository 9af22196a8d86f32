/- alive. -/
import Derived.Test.YtcglonefifldnaaDoorDread
namespace Go.Proofs.YtcglonefifldnaaDoor
open Go.ChangeShapes Go.WideShapes Go.ChangeAt Go.RowKit

theorem rd_byte (w : World) (b : Int) (h : 0 ≤ b ∧ b ≤ 255) : Rd (w.alloc (.cells #[.int .u8 b] 5)) (.slice (some ⟨w.heap.size, 0, none⟩) 1 1) [b] := by
  refine ⟨by intro x hx; simp at hx; subst hx; exact h, some ⟨w.heap.size, 0, none⟩, 1, rfl, by simp, fun e => by simp at e, fun _ => ⟨w.heap.size, 0, rfl, by simp, fun k hk => ?_⟩⟩
  have : k = 0 := by simp at hk; omega
  subst this
  rw [Nat.zero_add, cell_of_row _ w.heap.size 0 _ _ _ (heap_alloc_new w _)]
  rfl
theorem filled_rd {w : World} {base g : Nat} {bs : List Int} (hb : Byts bs) (h : w.ownsRow base 5 1 (.slice (some ⟨g, 0, none⟩) 64 64) 64 ((filledB bs).map (Value.int .u8))) : Rd w (.slice (some ⟨g, 0, none⟩) 64 64) (filledB bs) := by
  have hl := (filledB_sec hb).len
  exact Rd.of_owns (filledB_sec hb).byts (by rw [hl]; exact h)
theorem laid_full {s bs : List Int} (hs : Sec s) (hb : Sec bs) : laid s bs = bs := by
  unfold laid
  rw [hb.len, List.drop_eq_nil_of_le (by rw [hs.len]; exact Nat.le_refl _), List.append_nil]
theorem byts5 : Byts [5] := by intro b hb; simp at hb; omega
theorem byts6 : Byts [6] := by intro b hb; simp at hb; omega
theorem kbit0 (k : Nat) : kbit 0 k = false := by
  unfold kbit
  rw [Int.zero_ediv]
  rfl
theorem alive_val : seenOf (crashedTo (kbit 0) 9 (flushed (fun _ => zeros) ([] ++ [(1, filledB [5])])) ([] ++ [(1, filledB [6])]) ([] ++ [((1 : Int), filledB [6])]).length) [] 1 = filledB [5] := by
  have h := laid_full zeros_sec (filledB_sec byts5)
  simp [seenOf, crashedTo, crash1, kbit0, flushed, lay1, updI, h]
set_option maxHeartbeats 6400000 in
theorem alive_d (w : World) : Calls Tryd.prog 7 #[] w fun e w' => e = .returned (.bool true) ∧ Below w.heap.size w w' := by
  have M1 : Hid True := trivial
  go_enter Tryd.func7, Tryd.ntmps7
  go_wp2_with (first
    | (go_at_call 8; refine (dnew_ok _ 2 (by omega) (by omega)).mono ?_; rintro e w1 ⟨p, F, rfl, hD1, hF1, hb1⟩; have HD1 := mkHid hD1; have HF1 := mkHid hF1; have HB1 := mkHid hb1; clear hD1 hF1 hb1)
    | (go_at_call 16; clear M1; refine (filled_any _ _ [5] (rd_byte w1 5 (by omega)) (by simp)).mono ?_; rintro e w2 ⟨g2, rfl, ho2, hb2⟩; have HR2 := mkHid (filled_rd byts5 ho2); have HB2 := mkHid (((Below.refl _ w1).alloc (Nat.le_refl _) _).trans (hb2.mono (by simp))); clear ho2 hb2)
    | (go_at_call 17; refine (write_ok F w2 p 2 _ [] 0 1 _ (filledB [5]) (HD1.out.below HB2.out) (by omega) (by omega) HR2.out (filledB_sec byts5).len (by simp) (by omega)).mono ?_; rintro e w3 ⟨rfl, F3, hD3, hF3, hk3⟩; have HD3 := mkHid hD3; have HF3 := mkHid hF3; have HK3 := mkHid hk3; clear hD3 hF3 hk3 HR2)
    | (go_at_call 18; refine (flush_ok F3 w3 p 2 _ _ _ HD3.out (by simp)).mono ?_; rintro e w4 ⟨rfl, hD4, hk4⟩; have HD4 := mkHid hD4; have HK4 := mkHid hk4; clear hD4 hk4)
    | (go_at_call 16; refine (filled_any _ _ [6] (rd_byte w4 6 (by omega)) (by simp)).mono ?_; rintro e w5 ⟨g5, rfl, ho5, hb5⟩; have HR5 := mkHid (filled_rd byts6 ho5); have HB5 := mkHid (((Below.refl _ w4).alloc (Nat.le_refl _) _).trans (hb5.mono (by simp))); clear ho5 hb5)
    | (go_at_call 17; refine (write_ok F3 w5 p 2 _ [] _ 1 _ (filledB [6]) (HD4.out.below HB5.out) (by omega) (by omega) HR5.out (filledB_sec byts6).len (by simp) (by omega)).mono ?_; rintro e w6 ⟨rfl, F6, hD6, hF6, hk6⟩; have HD6 := mkHid hD6; have HF6 := mkHid hF6; have HK6 := mkHid hk6; clear hD6 hF6 hk6 HR5)
    | (go_at_call 19; refine (crash_any F6 w6 p 2 _ _ _ false 0 9 HD6.out (by simp)).mono ?_; rintro e w7 ⟨rfl, hD7, hk7⟩; have HD7 := mkHid hD7; have HK7 := mkHid hk7; clear hD7 hk7)
    | (go_at_call 20; refine (read_ok F6 w7 p 2 _ [] _ 1 HD7.out (by simp) (by omega) (by omega)).mono ?_; rintro e w8 ⟨z8, rfl, ho8, hb8⟩; rw [alive_val] at ho8; have HO8 := mkHid ho8; have HB8 := mkHid hb8; clear ho8 hb8))
  have hR8 : Rd w8 z8 (filledB [5]) := Rd.of_owns (filledB_sec byts5).byts HO8.out
  have hcv := (hR8.later (show Below w8.heap.size w8 w8.drew from ⟨rfl, rfl, rfl, Nat.le_refl _, fun _ _ => rfl⟩)).conv
  have HRD := mkHid hR8
  have hcvd : ∀ W : World, Below w8.heap.size w8 W → (convert 33 9 z8).run Tryd.prog W = .ok (.string (strOfNums (filledB [5]))) W := fun W hW => (HRD.out.later hW).conv
  have HCVD := mkHid hcvd
  have hcva : (convert 33 9 z8).run Tryd.prog (w8.drew.alloc (.cells #[.int .u8 5] 5)) = .ok (.string (strOfNums (filledB [5]))) (w8.drew.alloc (.cells #[.int .u8 5] 5)) := hcvd _ (((Below.refl _ w8).drew).alloc (Nat.le_refl _) _)
  have HBE : Hid (Below w.heap.size w w8) := mkHid (by
    have b2 := HB1.out.trans (HB2.out.mono HB1.out.size)
    have b3 : Below w.heap.size w w3 := b2.trans (HK3.out.below HF1.out b2.size)
    have f3 : ∀ k, F3 k → w.heap.size ≤ k := fun k hk => (HF3.out k hk).elim (HF1.out k) (fun h => Nat.le_trans b2.size h)
    have b4 := b3.trans (HK4.out.below f3 b3.size)
    have b5 := b4.trans (HB5.out.mono b4.size)
    have b6 := b5.trans (HK6.out.below f3 b5.size)
    have f6 : ∀ k, F6 k → w.heap.size ≤ k := fun k hk => (HF6.out k hk).elim (f3 k) (fun h => Nat.le_trans b5.size h)
    have b7 := b6.trans (HK7.out.below f6 b6.size)
    exact b7.trans (HB8.out.mono b7.size))
  clear HD1 HD3 HD4 HD6 HD7 HK3 HK4 HK6 HK7 HF1 HF3 HF6 HB1 HB2 HB5 HO8 hR8 hcvd
  go_region_held (fun w' => (convert 33 9 z8).run Tryd.prog w' = .ok (.string (strOfNums (filledB [5]))) w') (first | assumption) (first | (go_at_call 16; refine (filled_any _ _ [5] (rd_byte w8.drew 5 (by omega)) (by simp)).mono ?_; rintro e w9 ⟨g9, rfl, ho9, hb9⟩; have cv9 := (filled_rd byts5 ho9).conv; have hb9' : Below w8.heap.size w8 w9 := (((Below.refl _ w8).drew).alloc (Nat.le_refl _) _).trans (hb9.mono (by simp)); have cvz := HCVD.out w9 hb9'; have HB9 := mkHid hb9'; clear ho9 hb9 hb9'))
  go_wp2
  go_ret
  exact ⟨rfl, HBE.out.trans (HB9.out.mono HBE.out.size)⟩
end Go.Proofs.YtcglonefifldnaaDoor
