/- almonernum.Apart: a list may be grown and written over without another one being told. -/
import Derived.Test.YtghpehgefbikeaaDoorMarked
namespace Go.Proofs.YtghpehgefbikeaaDoor
open Go.ChangeShapes Go.WideShapes Go.ChangeAt Go.RowKit

theorem xor85 (z : Int) (h : 0 ≤ z ∧ z ≤ 255) : ∃ y : Int, bits .xor .u8 z 85 = y ∧ 0 ≤ y ∧ y ≤ 255 := by
  have e := u8_xor z 85 h.1 (by omega) (by omega) (by omega)
  have hlt : z.toNat ^^^ (85 : Int).toNat < 2 ^ 8 := Nat.xor_lt_two_pow (by omega) (by decide)
  exact ⟨_, e, by omega, by omega⟩
theorem rd_eight (w : World) : Rd (w.alloc (.cells #[.int .u8 7, .int .u8 7, .int .u8 7, .int .u8 7, .int .u8 7, .int .u8 7, .int .u8 7, .int .u8 7] 5)) (.slice (some ⟨w.heap.size, 0, none⟩) 8 8) [7, 7, 7, 7, 7, 7, 7, 7] := by
  refine ⟨by intro b hb; simp at hb; omega, some ⟨w.heap.size, 0, none⟩, 8, rfl, by simp, fun e => by simp at e, fun _ => ⟨w.heap.size, 0, rfl, by simp, fun k hk => ?_⟩⟩
  have : k = 0 ∨ k = 1 ∨ k = 2 ∨ k = 3 ∨ k = 4 ∨ k = 5 ∨ k = 6 ∨ k = 7 := by simp at hk; omega
  rcases this with rfl | rfl | rfl | rfl | rfl | rfl | rfl | rfl <;> (simp; try go_simp)
set_option maxHeartbeats 3200000 in
theorem apart_any (w : World) (va vb : Value) (xs ys : List Int) (base nb : Nat) (F : Nat → Prop) (hr : ∀ w', Kept F w w' → Rd w' va xs) (ho : w.ownsRow base 5 1 vb nb (ys.map (Value.int .u8))) (hY : Byts ys) (hF : ∀ k, vb.ownBlock = some k → F k) (hbase : base ≤ w.heap.size) (hl : (nb : Int) ≤ 140737488355300) :
    Calls Tryd.prog 34 #[va, vb] w fun e w' => e = .returned (.bool true) ∧ Kept F w w' := by
  obtain ⟨i0, hi, hz0, hz1, hz2⟩ := info_parts Tryd.info5
  have cv0 := (hr w (Kept.refl _ _)).conv
  have HF : Hid (∀ k, vb.ownBlock = some k → F k) := hF
  have HR : Hid (∀ w', Kept F w w' → Rd w' va xs) := hr
  clear hF hr
  obtain ⟨ab, cb, evb⟩ := own_shape ho
  go_enter Tryd.func34, Tryd.ntmps34
  subst evb
  go_wp2
  go_loopw [13] (fun iv wr => ∃ (k : Nat) (zs : List Int), iv = .int .i64 k ∧ k ≤ nb ∧ Byts zs ∧ wr.ownsRow base 5 1 (.slice ab nb cb) nb (zs.map (Value.int .u8)) ∧ Kept F w wr) (fun iv _ => nb - (intOf iv).toNat)
  case atStart => exact ⟨0, ys, rfl, Nat.zero_le _, hY, ho, Kept.refl _ _⟩
  case round =>
    clear ho hY
    obtain ⟨k, zs, rfl, hk, hZ, ho, hkp⟩ := hrel
    by_cases hlt : k < nb
    · obtain ⟨g, cap, e, hg1, hg2, hg3⟩ := own_spot ho (by omega)
      simp at e
      obtain ⟨rfl, rfl⟩ := e
      obtain ⟨y, ey, hy⟩ := xor85 (zs.getD k 0) (hZ.at k)
      obtain ⟨q1, q2, q3⟩ := own_set y ho hlt
      have HQ : Hid ((wr.setCell ⟨g, k, none⟩ (.int .u8 y)).ownsRow base 5 1 (.slice (some ⟨g, 0, none⟩) nb cb) nb ((zs.set k y).map (Value.int .u8)) ∧ Kept F w (wr.setCell ⟨g, k, none⟩ (.int .u8 y))) := ⟨q1, hkp.trans (Kept.setCell (F := F) wr (HF.out g rfl) _) (fun i hi => .inl hi)⟩
      generalize zs.getD k 0 = z at *
      clear q1
      go_wp2
      go_roundw
      case rel => exact ⟨k + 1, zs.set k y, by go_num, by omega, hZ.set k hy, HQ.out.1, HQ.out.2⟩
      case measure => simp [intOf]; omega
    · obtain rfl : k = nb := by omega
      have cv1 := (HR.out wr hkp).conv
      have HL : Hid (k + ([7, 7, 7, 7, 7, 7, 7, 7] : List Int).length ≤ maxLen ∧ k + ([7, 7, 7, 7, 7, 7, 7, 7] : List Int).length ≤ 140737488355328) := mkHid ⟨by simp; unfold maxLen; omega, by simp; omega⟩
      have hsz := hkp.size
      go_wp2_with (at_builtin; refine wpList_append_src _ rfl (.tmp 29) (.tmp 30) 27 27 rfl base 5 i0 Tryd.underlying27 hi hz0 hz1 hz2 _ _ _ rfl (ho.alloc _) _ _ _ rfl (rd_eight wr).src HL.out.1 HL.out.2 (by simp; omega) ?_; intro v3 w3 ho3 hg3 hat; rw [← List.map_append] at ho3; have hk3 := (hkp.trans (Kept.alloc (fun _ => False) wr _) (fun i hi => hi.elim)).trans (Kept.grown (F := F) hg3 (fun k hk => HF.out k hk)) (fun i hi => .inl hi); have HV : Hid (∀ j, v3.ownBlock = some j → F j ∨ w.heap.size ≤ j) := mkHid (fun j hj => by rcases hat with e | e; exact .inl (HF.out j (e.symm.trans hj)); right; have e2 := e.symm.trans hj; simp at e2; omega); obtain ⟨g3, c3, hv3, hgb, hgl, hgc⟩ := own_spot ho3 (by simp); subst hv3; clear hat hg3; simp only [List.length_cons, List.length_nil, Nat.zero_add, Nat.reduceAdd] at ho3 hgc)
      go_loopw [8] (fun iv wr => ∃ (j : Nat) (zs : List Int), iv = .int .i64 j ∧ j ≤ k + 8 ∧ Byts zs ∧ wr.ownsRow base 5 1 (.slice (some ⟨g3, 0, none⟩) (k + 8) c3) (k + 8) (zs.map (Value.int .u8)) ∧ Kept F w wr) (fun iv _ => k + 8 - (intOf iv).toNat)
      case atStart => exact ⟨k, _, rfl, by omega, hZ.append (by intro b hb; simp at hb; omega), ho3, hk3⟩
      case round =>
        clear ho3 hk3 ho hZ cv1
        obtain ⟨j, us, rfl, hj, hU, ho, hkj⟩ := hrel
        by_cases hjl : j < k + 8
        · obtain ⟨y, ey, hy⟩ := xor85 (us.getD j 0) (hU.at j)
          obtain ⟨q1, q2, q3⟩ := own_set y ho hjl
          have HQ : Hid (∀ W, W = wr.setCell ⟨g3, j, none⟩ (.int .u8 y) → W.ownsRow base 5 1 (.slice (some ⟨g3, 0, none⟩) (k + 8) c3) (k + 8) ((us.set j y).map (Value.int .u8)) ∧ Kept F w W) := mkHid (fun W hW => by subst hW; exact ⟨q1, hkj.trans (Kept.setCell (F := fun i => i = g3) _ rfl _) (fun i hi => by rw [hi]; exact HV.out g3 rfl)⟩)
          generalize us.getD j 0 = z at *
          clear q1
          go_wp2
          go_roundw
          case rel => exact ⟨j + 1, us.set j y, by go_num, by omega, hU.set j hy, (HQ.out _ rfl).1, (HQ.out _ rfl).2⟩
          case measure => simp [intOf]; omega
        · obtain rfl : j = k + 8 := by omega
          have cv2 := (HR.out _ hkj).conv
          go_wp2
          go_ret
          exact ⟨rfl, hkj⟩
end Go.Proofs.YtghpehgefbikeaaDoor
