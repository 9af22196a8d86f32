/- Crash. -/
import Derived.Test.YtcglonefifldnaaDoorDflush
namespace Go.Proofs.YtcglonefifldnaaDoor
open Go.ChangeShapes Go.WideShapes Go.ChangeAt Go.RowKit

/-- Is write number k kept? -/
def kbit (keep : Int) (k : Nat) : Bool := !(bits .and .u64 (keep / 2 ^ (k % 64)) 1 == 0)
def crash1 (kb : Nat → Bool) (t : Int) (g : Int → List Int) (k : Nat) (x : Int × List Int) : Int → List Int := if kb k then updI g x.1 (laid (g x.1) (if (k : Int) = t then x.2.take 32 else x.2)) else g
def crashedTo (kb : Nat → Bool) (t : Int) (f : Int → List Int) (c : List (Int × List Int)) : Nat → Int → List Int
  | 0 => f
  | j + 1 => match c[j]? with
    | some x => crash1 kb t (crashedTo kb t f c j) j x
    | none => crashedTo kb t f c j
theorem crashedTo_succ (kb : Nat → Bool) (t : Int) (f : Int → List Int) (c : List (Int × List Int)) (j : Nat) (x : Int × List Int) (h : c[j]? = some x) : crashedTo kb t f c (j + 1) = crash1 kb t (crashedTo kb t f c j) j x := by
  simp [crashedTo, h]
theorem rd_write32 (w : World) (x : Int × List Int) (hx : Sec x.2) : Rd (w.alloc (.cells (wcell x).toArray 67)) (.slice (some ⟨w.heap.size, 1, none⟩) 32 64) (x.2.take 32) := by
  have hl : (x.2.take 32).length = 32 := by rw [List.length_take, hx.len]; rfl
  refine ⟨fun b hb => hx.byts b (List.mem_of_mem_take hb), some ⟨w.heap.size, 1, none⟩, 64, by rw [hl], by omega, fun e => by simp at e, fun _ => ⟨w.heap.size, 1, rfl, by simp, fun k hk => ?_⟩⟩
  have hk2 : k < x.2.length := by rw [hx.len]; omega
  have hk3 : k < 32 := by omega
  rw [cell_of_row _ w.heap.size (1 + k) _ _ _ (heap_alloc_new w _)]
  simp [wcell, scells, Nat.add_comm 1 k, List.getD, hk2, hk3]
set_option maxHeartbeats 6400000 in
theorem crash_any (F : Nat → Prop) (w : World) (p : Nat) (n : Int) (f : Int → List Int) (c : List (Int × List Int)) (nw : Int) (lost : Bool) (keep torn : Int) (h : Dk F w p n f c nw lost) (hcl : c.length ≤ 1000000000000) :
    Calls Tryd.prog 19 #[.pointer (some ⟨p, 0, none⟩), .int .u64 keep, .int .i64 torn] w fun e w' => e = .returned (.tuple #[]) ∧ Dk F w' p n (crashedTo (kbit keep) torn f c c.length) [] nw lost ∧ Kept F w w' := by
  obtain ⟨hF, hp, hc, mb, cv, hmb, hpm, hd, hM, hcv, ho⟩ := h
  have HM0 : Hid (Mid5 F w w p mb n cv nw lost c f) := mkHid ⟨hd, hM, ho, Kept.refl F w, fun k hk => ⟨(hcv k hk).2.2, hF k (hcv k hk).1⟩, hpm, hc⟩
  have HF : Hid ((∀ k, F k → k < w.heap.size) ∧ F p ∧ F mb) := mkHid ⟨hF, hp, hmb⟩
  have c2 : w.cell? ⟨p, 2, none⟩ = some cv := cell_of_block hd rfl
  have hsh : ∃ a cap, cv = .slice a c.length cap ∧ (0 < c.length → ∃ g, a = some ⟨g, 0, none⟩) := by
    rcases ho.2 with ⟨e, h0⟩ | ⟨g, cap, _, e, _⟩
    · exact ⟨none, 0, by rw [e, h0], fun h => by omega⟩
    · exact ⟨_, cap, e, fun _ => ⟨g, rfl⟩⟩
  obtain ⟨sa, cap, rfl, hsa⟩ := hsh
  have hci : (c.length : Int) ≤ 1000000000000 := by omega
  clear hF hp hc hmb hpm hd hM hcv ho
  go_enter Tryd.func19, Tryd.ntmps19
  go_wp2
  go_loopw [13] (fun iv wr => ∃ j : Nat, iv = .int .i64 (j : Int) ∧ j ≤ c.length ∧ Mid5 F w wr p mb n (.slice sa c.length cap) nw lost c (crashedTo (kbit keep) torn f c j)) (fun iv _ => c.length - (intOf iv).toNat)
  case atStart => exact ⟨0, rfl, Nat.zero_le _, HM0.out⟩
  case round =>
    clear HM0
    obtain ⟨j, rfl, hj, hMid⟩ := hrel
    have HMid := mkHid hMid
    clear hMid
    by_cases hlt : j < c.length
    · obtain ⟨g, rfl⟩ := hsa (by omega)
      have hji : (j : Int) < c.length := by omega
      have hx : c[j]? = some c[j] := by simp [hlt]
      have hS : Sec (c[j]).2 := HMid.out.sec _ (by simp)
      have hstep := crashedTo_succ (kbit keep) torn f c j _ hx
      have HR := mkHid (HMid.out.range rfl hx)
      generalize c[j] = x at *
      have HS := mkHid hS
      have HST := mkHid hstep
      clear hx hS hstep
      by_cases hb : bits .and .u64 (keep / 2 ^ (j % 64)) 1 = 0
      · have HC : Hid (crash1 (kbit keep) torn (crashedTo (kbit keep) torn f c j) j x = crashedTo (kbit keep) torn f c j) := mkHid (by simp [crash1, kbit, hb])
        go_wp2_with (first | (refine wpList_load_mid rfl 67 (.tmp 16) rfl g (j * 65) rfl (wcell x) _ HR.out Tryd.underlying67 rfl (by rw [wcell_len HS.out]; exact size67) ?_) | (refine wpList_alloc_z rfl 67 rfl (wcell (0, zeros)).toArray (zero67 _) ?_) | (refine wpList_store_new rfl 67 (.tmp 7) (.tmp 17) rfl _ (wcell x) rfl rfl (by rw [wcell_len HS.out]; exact size67) (by rw [List.size_toArray, wcell_len zeros_sec, wcell_len HS.out]) (wcell_one _) ?_))
        go_roundw
        case rel => exact ⟨j + 1, by go_num, by omega, by rw [HST.out, HC.out]; exact HMid.out.later ((Below.refl _ wr).alloc (Nat.le_refl _) _)⟩
        case measure => simp [intOf]; omega
      · by_cases ht : (j : Int) = torn
        · have HC : Hid (crash1 (kbit keep) torn (crashedTo (kbit keep) torn f c j) j x = updI (crashedTo (kbit keep) torn f c j) x.1 (laid (crashedTo (kbit keep) torn f c j x.1) (x.2.take 32))) := mkHid (by simp [crash1, kbit, hb, ht])
          have ht2 : ((j : Int) == torn) = true := by simp [ht]
          clear ht
          go_wp2_with (first | (refine wpList_load_mid rfl 67 (.tmp 16) rfl g (j * 65) rfl (wcell x) _ HR.out Tryd.underlying67 rfl (by rw [wcell_len HS.out]; exact size67) ?_) | (refine wpList_alloc_z rfl 67 rfl (wcell (0, zeros)).toArray (zero67 _) ?_) | (refine wpList_store_new rfl 67 (.tmp 7) (.tmp 17) rfl _ (wcell x) rfl rfl (by rw [wcell_len HS.out]; exact size67) (by rw [List.size_toArray, wcell_len zeros_sec, wcell_len HS.out]) (wcell_one _) ?_))
          obtain ⟨W1, hW1⟩ : ∃ W1, W1 = wr.alloc (.cells (wcell x).toArray 67) := ⟨_, rfl⟩
          have hb1 : Below wr.heap.size wr W1 := by rw [hW1]; exact (Below.refl _ wr).alloc (Nat.le_refl _) _
          have q0 : W1.cell? ⟨wr.heap.size, 0, none⟩ = some (.int .i64 x.1) := by
            rw [hW1, cell_of_row _ wr.heap.size 0 _ _ _ (heap_alloc_new wr _)]
            rfl
          have HRW : Hid (Rd W1.drew (.slice (some ⟨wr.heap.size, 1, none⟩) 32 64) (x.2.take 32)) := mkHid (by
            have := rd_write32 wr x HS.out
            rw [← hW1] at this
            exact this.later ⟨rfl, rfl, rfl, Nat.le_refl _, fun _ _ => rfl⟩)
          have HLL : Hid (1 ≤ (x.2.take 32).length ∧ (x.2.take 32).length ≤ 64) := mkHid (by have := HS.out.len; simp [this])
          have HM1 := mkHid ((HMid.out.later hb1).later (show Below W1.heap.size W1 W1.drew from ⟨rfl, rfl, rfl, Nat.le_refl _, fun _ _ => rfl⟩))
          have HN : Hid (mb ≠ wr.heap.size) := mkHid (by have := HMid.out.ms.lt; omega)
          rw [← hW1]
          clear hW1 hb1 c2
          go_region_held3 (fun w' => w'.cell? ⟨wr.heap.size, 0, none⟩ = some (.int .i64 x.1)) (go_keep) (first | (go_at_call 29; refine (lay_any W1.drew p mb _ x.1 _ (x.2.take 32) (cell_of_block HM1.out.hd rfl) HM1.out.ms HRW.out HLL.out.1 HLL.out.2).mono ?_; rintro e w2 ⟨rfl, hM2, hk2⟩; have HM2 := mkHid (HM1.out.laid HF.out.2.2 hM2 hk2); have q2 : w2.cell? ⟨wr.heap.size, 0, none⟩ = some (.int .i64 x.1) := hk2.cell (show W1.drew.cell? ⟨wr.heap.size, 0, none⟩ = some (.int .i64 x.1) from q0) HN.out.symm; clear hM2 hk2))
          go_wp2
          go_roundw
          case rel => exact ⟨j + 1, by go_num, by omega, by rw [HST.out, HC.out]; exact HM2.out⟩
          case measure => simp [intOf]; omega
        · have HC : Hid (crash1 (kbit keep) torn (crashedTo (kbit keep) torn f c j) j x = updI (crashedTo (kbit keep) torn f c j) x.1 (laid (crashedTo (kbit keep) torn f c j x.1) x.2)) := mkHid (by simp [crash1, kbit, hb, ht])
          go_wp2_with (first | (refine wpList_load_mid rfl 67 (.tmp 16) rfl g (j * 65) rfl (wcell x) _ HR.out Tryd.underlying67 rfl (by rw [wcell_len HS.out]; exact size67) ?_) | (refine wpList_alloc_z rfl 67 rfl (wcell (0, zeros)).toArray (zero67 _) ?_) | (refine wpList_store_new rfl 67 (.tmp 7) (.tmp 17) rfl _ (wcell x) rfl rfl (by rw [wcell_len HS.out]; exact size67) (by rw [List.size_toArray, wcell_len zeros_sec, wcell_len HS.out]) (wcell_one _) ?_))
          obtain ⟨W1, hW1⟩ : ∃ W1, W1 = wr.alloc (.cells (wcell x).toArray 67) := ⟨_, rfl⟩
          have hb1 : Below wr.heap.size wr W1 := by rw [hW1]; exact (Below.refl _ wr).alloc (Nat.le_refl _) _
          have q0 : W1.cell? ⟨wr.heap.size, 0, none⟩ = some (.int .i64 x.1) := by
            rw [hW1, cell_of_row _ wr.heap.size 0 _ _ _ (heap_alloc_new wr _)]
            rfl
          have HRW : Hid (Rd W1.drew (.slice (some ⟨wr.heap.size, 1, none⟩) 64 64) (x.2)) := mkHid (by
            have := rd_write wr x HS.out
            rw [← hW1] at this
            exact this.later ⟨rfl, rfl, rfl, Nat.le_refl _, fun _ _ => rfl⟩)
          have HLL : Hid (1 ≤ (x.2).length ∧ (x.2).length ≤ 64) := mkHid (by have := HS.out.len; simp [this])
          have HM1 := mkHid ((HMid.out.later hb1).later (show Below W1.heap.size W1 W1.drew from ⟨rfl, rfl, rfl, Nat.le_refl _, fun _ _ => rfl⟩))
          have HN : Hid (mb ≠ wr.heap.size) := mkHid (by have := HMid.out.ms.lt; omega)
          rw [← hW1]
          clear hW1 hb1 c2
          go_region_held3 (fun w' => w'.cell? ⟨wr.heap.size, 0, none⟩ = some (.int .i64 x.1)) (go_keep) (first | (go_at_call 29; refine (lay_any W1.drew p mb _ x.1 _ (x.2) (cell_of_block HM1.out.hd rfl) HM1.out.ms HRW.out HLL.out.1 HLL.out.2).mono ?_; rintro e w2 ⟨rfl, hM2, hk2⟩; have HM2 := mkHid (HM1.out.laid HF.out.2.2 hM2 hk2); have q2 : w2.cell? ⟨wr.heap.size, 0, none⟩ = some (.int .i64 x.1) := hk2.cell (show W1.drew.cell? ⟨wr.heap.size, 0, none⟩ = some (.int .i64 x.1) from q0) HN.out.symm; clear hM2 hk2))
          go_wp2
          go_roundw
          case rel => exact ⟨j + 1, by go_num, by omega, by rw [HST.out, HC.out]; exact HM2.out⟩
          case measure => simp [intOf]; omega
    · obtain rfl : j = c.length := by omega
      have e2 : wr.cell? ⟨p, 2, none⟩ = some (.slice sa c.length cap) := cell_of_block HMid.out.hd rfl
      have g2 : wr.frozen? ⟨p, 2, none⟩ = false := frozen_of_block HMid.out.hd
      clear c2
      go_wp2
      go_end0
      have hm := HMid.out
      have k7 : Kept (fun k => k = p) wr (wr.setCell ⟨p, 2, none⟩ (.slice none 0 0)) := Kept.setCell (F := fun k => k = p) wr (p := ⟨p, 2, none⟩) rfl _
      have hsz := hm.kp.size
      refine ⟨rfl, ⟨fun k hk => by have := HF.out.1 k hk; have := k7.size; omega, HF.out.2.1, fun x hx => by simp at hx, mb, .slice none 0 0, HF.out.2.2, hm.pm, ?_, hm.ms.kept k7 (fun e => hm.pm e.symm), fun k hk => by simp [Value.ownBlock] at hk, World.ownsRow_nil _ _ _ _⟩, hm.kp.trans k7 (fun k hk => .inl (by rw [hk]; exact HF.out.2.1))⟩
      rw [heap_set hm.hd]
      simp
end Go.Proofs.YtcglonefifldnaaDoor
