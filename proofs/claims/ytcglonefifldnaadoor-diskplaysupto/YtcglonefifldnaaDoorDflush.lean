/- Flush. -/
import Derived.Test.YtcglonefifldnaaDoorDwriteb
namespace Go.Proofs.YtcglonefifldnaaDoor
open Go.ChangeShapes Go.WideShapes Go.ChangeAt Go.RowKit

def lay1 (g : Int → List Int) (x : Int × List Int) : Int → List Int := updI g x.1 (laid (g x.1) x.2)
def flushed (f : Int → List Int) (c : List (Int × List Int)) : Int → List Int := c.foldl lay1 f
theorem flushed_snoc (f : Int → List Int) (c : List (Int × List Int)) (j : Nat) (x : Int × List Int) (h : c[j]? = some x) : flushed f (c.take (j + 1)) = lay1 (flushed f (c.take j)) x := by
  rw [List.take_add_one, h]
  simp [flushed]
/-- A disk in the midst of a loop over its cache. -/
structure Mid5 (F : Nat → Prop) (w wr : World) (p mb : Nat) (n : Int) (cv : Value) (nw : Int) (lost : Bool) (c : List (Int × List Int)) (f : Int → List Int) : Prop where
  hd : wr.heap[p]? = some (.cells #[.int .i64 n, .map (some mb), cv, .int .i64 nw, .bool lost] 58 (0, 0))
  ms : Ms wr mb f
  ho : wr.ownsRow 0 67 65 cv c.length (wcells c)
  kp : Kept F w wr
  cv : ∀ k, cv.ownBlock = some k → k ≠ mb ∧ k < wr.heap.size
  pm : p ≠ mb
  sec : ∀ x ∈ c, Sec x.2
theorem Mid5.later {F : Nat → Prop} {w wr w' : World} {p mb : Nat} {n : Int} {cv : Value} {nw : Int} {lost : Bool} {c : List (Int × List Int)} {f : Int → List Int} (h : Mid5 F w wr p mb n cv nw lost c f) (hb : Below wr.heap.size wr w') : Mid5 F w w' p mb n cv nw lost c f := by
  have hp := (Array.getElem?_eq_some_iff.1 h.hd).1
  exact ⟨by rw [hb.block p hp]; exact h.hd, h.ms.kept (kept_of_below hb) (by have := h.ms.lt; omega), own_keep65 h.ho (kept_of_below hb) (fun k hk => by have := (h.cv k hk).2; omega), h.kp.trans (kept_below F hb) (fun _ h => .inl h), fun k hk => ⟨(h.cv k hk).1, Nat.lt_of_lt_of_le (h.cv k hk).2 hb.size⟩, h.pm, h.sec⟩
theorem Mid5.laid {F : Nat → Prop} {w wr w' : World} {p mb : Nat} {n : Int} {cv : Value} {nw : Int} {lost : Bool} {c : List (Int × List Int)} {f f' : Int → List Int} (h : Mid5 F w wr p mb n cv nw lost c f) (hm : F mb) (hM : Ms w' mb f') (hk : Kept (fun j => j = mb) wr w') : Mid5 F w w' p mb n cv nw lost c f' := by
  have hp := (Array.getElem?_eq_some_iff.1 h.hd).1
  exact ⟨by rw [hk.block p hp h.pm]; exact h.hd, hM, own_keep65 h.ho hk (fun k e => (h.cv k e).1), h.kp.trans hk (fun k e => .inl (by rw [e]; exact hm)), fun k e => ⟨(h.cv k e).1, Nat.lt_of_lt_of_le (h.cv k e).2 hk.size⟩, h.pm, h.sec⟩
theorem Mid5.range {F : Nat → Prop} {w wr : World} {p mb : Nat} {n : Int} {cv : Value} {nw : Int} {lost : Bool} {c : List (Int × List Int)} {f : Int → List Int} (h : Mid5 F w wr p mb n cv nw lost c f) {g cap : Nat} (hv : cv = .slice (some ⟨g, 0, none⟩) c.length cap) {j : Nat} {x : Int × List Int} (hx : c[j]? = some x) : wr.rangeAt g (j * 65) (wcell x) := by
  intro k v hk
  subst hv
  have := h.ho.cells (g := g) rfl (j * 65 + k) v (wcells_at c h.sec j x hx k v hk)
  rwa [add_none, Nat.zero_add] at this
theorem rd_write (w : World) (x : Int × List Int) (hx : Sec x.2) : Rd (w.alloc (.cells (wcell x).toArray 67)) (.slice (some ⟨w.heap.size, 1, none⟩) 64 64) x.2 := by
  refine ⟨hx.byts, some ⟨w.heap.size, 1, none⟩, 64, by rw [hx.len], by rw [hx.len]; exact Nat.le_refl _, fun e => by simp at e, fun _ => ⟨w.heap.size, 1, rfl, by simp, fun k hk => ?_⟩⟩
  rw [cell_of_row _ w.heap.size (1 + k) _ _ _ (heap_alloc_new w _)]
  simp [wcell, scells, Nat.add_comm 1 k, List.getD, hk]
set_option maxHeartbeats 6400000 in
theorem flush_ok (F : Nat → Prop) (w : World) (p : Nat) (n : Int) (f : Int → List Int) (c : List (Int × List Int)) (nw : Int) (h : Dk F w p n f c nw false) (hcl : c.length ≤ 1000000000000) :
    Calls Tryd.prog 18 #[.pointer (some ⟨p, 0, none⟩)] w fun e w' => e = .returned .nilIface ∧ Dk F w' p n (flushed f c) [] nw false ∧ Kept F w w' := by
  obtain ⟨hF, hp, hc, mb, cv, hmb, hpm, hd, hM, hcv, ho⟩ := h
  have HM0 : Hid (Mid5 F w w p mb n cv nw false c f) := mkHid ⟨hd, hM, ho, Kept.refl F w, fun k hk => ⟨(hcv k hk).2.2, hF k (hcv k hk).1⟩, hpm, hc⟩
  have HF : Hid ((∀ k, F k → k < w.heap.size) ∧ F p ∧ F mb) := mkHid ⟨hF, hp, hmb⟩
  have c4 : w.cell? ⟨p, 4, none⟩ = some (.bool false) := cell_of_block hd rfl
  have c2 : w.cell? ⟨p, 2, none⟩ = some cv := cell_of_block hd rfl
  have hsh : ∃ a cap, cv = .slice a c.length cap ∧ (0 < c.length → ∃ g, a = some ⟨g, 0, none⟩) := by
    rcases ho.2 with ⟨e, h0⟩ | ⟨g, cap, _, e, _⟩
    · exact ⟨none, 0, by rw [e, h0], fun h => by omega⟩
    · exact ⟨_, cap, e, fun _ => ⟨g, rfl⟩⟩
  obtain ⟨sa, cap, rfl, hsa⟩ := hsh
  have hci : (c.length : Int) ≤ 1000000000000 := by omega
  clear hF hp hc hmb hpm hd hM hcv ho
  go_enter Tryd.func18, Tryd.ntmps18
  go_wp2
  go_loopw [15] (fun iv wr => ∃ j : Nat, iv = .int .i64 (j : Int) ∧ j ≤ c.length ∧ Mid5 F w wr p mb n (.slice sa c.length cap) nw false c (flushed f (c.take j))) (fun iv _ => c.length - (intOf iv).toNat)
  case atStart => exact ⟨0, rfl, Nat.zero_le _, by simpa [flushed] using HM0.out⟩
  case round =>
    clear HM0
    obtain ⟨j, rfl, hj, hMid⟩ := hrel
    have HMid := mkHid hMid
    clear hMid
    by_cases hlt : j < c.length
    · obtain ⟨g, rfl⟩ := hsa (by omega)
      have hji : (j : Int) < c.length := by omega
      have hx : c[j]? = some c[j] := by simp [hlt]
      have hS : Sec (c[j]).2 := HMid.out.sec _ (by simp)
      have hstep := flushed_snoc f c j _ hx
      have HR := mkHid (HMid.out.range rfl hx)
      generalize c[j] = x at *
      have HS := mkHid hS
      have HST := mkHid hstep
      clear hx hS hstep
      go_wp2_with (first | (refine wpList_load_mid rfl 67 (.tmp 17) rfl g (j * 65) rfl (wcell x) _ HR.out Tryd.underlying67 rfl (by rw [wcell_len HS.out]; exact size67) ?_) | (refine wpList_alloc_z rfl 67 rfl (wcell (0, zeros)).toArray (zero67 _) ?_) | (refine wpList_store_new rfl 67 (.tmp 4) (.tmp 18) rfl _ (wcell x) rfl rfl (by rw [wcell_len HS.out]; exact size67) (by rw [List.size_toArray, wcell_len zeros_sec, wcell_len HS.out]) (wcell_one _) ?_))
      obtain ⟨W1, hW1⟩ : ∃ W1, W1 = wr.alloc (.cells (wcell x).toArray 67) := ⟨_, rfl⟩
      have hb1 : Below wr.heap.size wr W1 := by rw [hW1]; exact (Below.refl _ wr).alloc (Nat.le_refl _) _
      have q0 : W1.cell? ⟨wr.heap.size, 0, none⟩ = some (.int .i64 x.1) := by
        rw [hW1, cell_of_row _ wr.heap.size 0 _ _ _ (heap_alloc_new wr _)]
        rfl
      have HRW : Hid (Rd W1.drew (.slice (some ⟨wr.heap.size, 1, none⟩) 64 64) x.2) := mkHid (by
        have := rd_write wr x HS.out
        rw [← hW1] at this
        exact this.later ⟨rfl, rfl, rfl, Nat.le_refl _, fun _ _ => rfl⟩)
      have HM1 := mkHid ((HMid.out.later hb1).later (show Below W1.heap.size W1 W1.drew from ⟨rfl, rfl, rfl, Nat.le_refl _, fun _ _ => rfl⟩))
      have HN : Hid (mb ≠ wr.heap.size) := mkHid (by have := HMid.out.ms.lt; omega)
      rw [← hW1]
      simp only [Act.put]
      clear hW1 hb1 c4 c2
      go_region_held3 (fun w' => w'.cell? ⟨wr.heap.size, 0, none⟩ = some (.int .i64 x.1)) (go_keep) (first | (go_at_call 29; refine (lay_any W1.drew p mb _ x.1 _ x.2 (cell_of_block HM1.out.hd rfl) HM1.out.ms HRW.out (by rw [HS.out.len]; omega) (by rw [HS.out.len]; omega)).mono ?_; rintro e w2 ⟨rfl, hM2, hk2⟩; have HM2 := mkHid (HM1.out.laid HF.out.2.2 hM2 hk2); have q2 : w2.cell? ⟨wr.heap.size, 0, none⟩ = some (.int .i64 x.1) := hk2.cell (show W1.drew.cell? ⟨wr.heap.size, 0, none⟩ = some (.int .i64 x.1) from q0) HN.out.symm; clear hM2 hk2))
      go_wp2
      go_roundw
      case rel => exact ⟨j + 1, by go_num, by omega, by rw [HST.out]; exact HM2.out⟩
      case measure => simp [intOf]; omega
    · obtain rfl : j = c.length := by omega
      have e2 : wr.cell? ⟨p, 2, none⟩ = some (.slice sa c.length cap) := cell_of_block HMid.out.hd rfl
      have g2 : wr.frozen? ⟨p, 2, none⟩ = false := frozen_of_block HMid.out.hd
      clear c2 c4
      go_wp2
      go_ret
      have hm := HMid.out
      rw [List.take_length] at hm
      have k7 : Kept (fun k => k = p) wr (wr.setCell ⟨p, 2, none⟩ (.slice none 0 0)) := Kept.setCell (F := fun k => k = p) wr (p := ⟨p, 2, none⟩) rfl _
      have hsz := hm.kp.size
      refine ⟨rfl, ⟨fun k hk => by have := HF.out.1 k hk; have := k7.size; omega, HF.out.2.1, fun x hx => by simp at hx, mb, .slice none 0 0, HF.out.2.2, hm.pm, ?_, hm.ms.kept k7 (fun e => hm.pm e.symm), fun k hk => by simp [Value.ownBlock] at hk, World.ownsRow_nil _ _ _ _⟩, hm.kp.trans k7 (fun k hk => .inl (by rw [hk]; exact HF.out.2.1))⟩
      rw [heap_set hm.hd]
      simp
end Go.Proofs.YtcglonefifldnaaDoor
