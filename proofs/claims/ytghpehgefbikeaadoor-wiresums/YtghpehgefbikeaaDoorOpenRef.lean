/- The document's Open. -/
import Derived.Test.YtghpehgefbikeaaDoorSumsRef
namespace Go.Proofs.YtghpehgefbikeaaDoor
open Go.ChangeShapes Go.WideShapes Go.ChangeAt Go.RowKit

theorem Rd.takeD {w : World} {b off n cap : Nat} {bs : List Int} (h : Rd w (.slice (some ⟨b, off, none⟩) bs.length cap) bs) (hn : n ≤ bs.length) : Rd w (.slice (some ⟨b, off, none⟩) n n) (bs.take n) := by
  obtain ⟨hB, a, c, e, hc, h0, hr⟩ := Rd.take h hn
  simp at e
  have hl : (bs.take n).length = n := by rw [List.length_take]; omega
  exact ⟨hB, some ⟨b, off, none⟩, n, by rw [hl], by omega, fun e => by simp at e, fun hp => by obtain ⟨b', o', e', r⟩ := hr hp; rw [← e.1] at e'; exact ⟨b', o', e', r⟩⟩
theorem refopen_short (w : World) (v : Value) (bs : List Int) (h : Rd w v bs) (hl : bs.length < 4) :
    Calls Tryd.prog 30 #[v] w fun e w' => e = .returned (.tuple #[.slice none 0 0, .int .i64 3]) ∧ w' = w := by
  obtain ⟨a, c, rfl⟩ : ∃ a c, v = .slice a bs.length c := h.2.imp fun a h => h.imp fun c h => h.1
  have hi : (bs.length : Int) < 4 := by omega
  go_enter Tryd.func30, Tryd.ntmps30
  go_wp2
  go_ret2
  exact ⟨rfl, rfl⟩
set_option maxHeartbeats 3200000 in
theorem refopen_bad (w : World) (b off cap n : Nat) (xs ys : List Int) (hx : xs.length = n) (hy : ys.length = 4) (h : Rd w (.slice (some ⟨b, off, none⟩) (n + 4) cap) (xs ++ ys)) (hl : (n : Int) ≤ 140737488355320) (hne : ys ≠ sumb (fnv xs)) :
    Calls Tryd.prog 30 #[.slice (some ⟨b, off, none⟩) (n + 4 : Nat) cap] w fun e w' => e = .returned (.tuple #[.slice none 0 0, .int .i64 4]) ∧ Below w.heap.size w w' := by
  have hle : (xs ++ ys).length = n + 4 := by rw [List.length_append]; omega
  have hc : n + 4 ≤ cap := by obtain ⟨_, _, _, e, hc, _⟩ := h; simp at e; omega
  have hB := h.1
  have h2 := h
  rw [← hle] at h
  have r1 := Rd.takeD h (n := n) (by omega)
  rw [List.take_left' hx] at r1
  have hn2 := str_neL (r1.1.append (sumb_byts (fnv xs))) hB (fun e => hne ((List.append_inj_right e rfl).symm))
  obtain ⟨A, hA⟩ : ∃ A, A = xs ++ sumb (fnv xs) := ⟨_, rfl⟩
  obtain ⟨B, hBB⟩ : ∃ B, B = xs ++ ys := ⟨_, rfl⟩
  have hn3 : ((strOfNums A).toList == (strOfNums B).toList) = false := by rw [hA, hBB]; simpa using hn2
  rw [← hA, ← hBB] at hn2
  have HA : Hid (xs ++ sumb (fnv xs) = A ∧ xs ++ ys = B) := ⟨hA.symm, hBB.symm⟩
  have cvb := h2.drew.conv
  rw [HA.out.2] at cvb
  clear hA hBB
  go_enter Tryd.func30, Tryd.ntmps30
  go_wp2
  go_region_with (go_at_call 33; refine (refseal_any _ _ xs r1.drew (by omega)).mono ?_; rintro e w2 ⟨v2, rfl, ho2, hb2⟩; have cv2 := (Rd.of_owns (r1.1.append (sumb_byts (fnv xs))) ho2).conv; have cvb2 := (h2.drew.later hb2).conv; rw [HA.out.1] at cv2; rw [HA.out.2] at cvb2; have hbw : Below w.heap.size w w2 := ((Below.refl _ _).drew).trans hb2; clear hb2 ho2)
  all_goals go_wp2
  all_goals go_ret2
  all_goals exact ⟨rfl, hbw⟩
set_option maxHeartbeats 3200000 in
theorem refopen_good (w : World) (b off cap n : Nat) (xs : List Int) (hx : xs.length = n) (h : Rd w (.slice (some ⟨b, off, none⟩) (n + 4) cap) (xs ++ sumb (fnv xs))) (hl : (n : Int) ≤ 140737488355320) :
    Calls Tryd.prog 30 #[.slice (some ⟨b, off, none⟩) (n + 4 : Nat) cap] w fun e w' => ∃ v', e = .returned (.tuple #[v', .int .i64 0]) ∧ Rd w' v' xs ∧ Below w.heap.size w w' := by
  obtain ⟨i0, hi, hz0, hz1, hz2⟩ := info_parts Tryd.info5
  have hle : (xs ++ sumb (fnv xs)).length = n + 4 := by rw [List.length_append, sumb_len]; omega
  have hc : n + 4 ≤ cap := by obtain ⟨_, _, _, e, hc, _⟩ := h; simp [sumb_len] at e hc; omega
  have h2 := h
  rw [← hle] at h
  have r1 := Rd.takeD h (n := n) (by omega)
  have r3 := Rd.take h (n := n) (by omega)
  rw [List.take_left' hx] at r1 r3
  have cvb := h2.drew.conv
  have HL : Hid (0 + xs.length ≤ maxLen ∧ 0 + xs.length ≤ 140737488355328) := mkHid ⟨by unfold maxLen; omega, by omega⟩
  go_enter Tryd.func30, Tryd.ntmps30
  go_wp2
  go_region_with (go_at_call 33; refine (refseal_any _ _ xs r1.drew (by omega)).mono ?_; rintro e w2 ⟨v2, rfl, ho2, hb2⟩; have cv2 := (Rd.of_owns (r1.1.append (sumb_byts (fnv xs))) ho2).conv; have cvb2 := (h2.drew.later hb2).conv; have hbw : Below w.heap.size w w2 := ((Below.refl _ _).drew).trans hb2; have r4 := r3.drew.later hb2; clear hb2 ho2)
  all_goals
    have hm2 := World.ownsRow_made (base := w2.heap.size) (e := 5) (size := 1) w2 #[] 0 (Nat.le_refl _) (by unfold maxLen; omega) rfl
    have hs4 := (r4.alloc (.cells #[] 5)).src
    rw [hx] at hs4
    have HL2 : Hid (0 + n ≤ maxLen ∧ 0 + n ≤ 140737488355328) := mkHid (by rw [← hx]; exact HL.out)
    go_wp2_with (at_builtin; refine wpList_append_src _ rfl (.tmp 20) (.tmp 23) 27 27 rfl w2.heap.size 5 i0 Tryd.underlying27 hi hz0 hz1 hz2 _ _ _ rfl hm2 _ _ _ rfl hs4 HL2.out.1 HL2.out.2 (by simp) ?_; intro v3 w3 ho3 hg3 _; have hb3 := (hbw.alloc hbw.size _).grown hg3 (by have := hbw.size; simp; omega) (fun k hk => Nat.le_trans hbw.size (hm2.lt k hk).1); rw [Nat.zero_add, List.nil_append, ← hx] at ho3; have HR : Hid (Rd w3 v3 xs) := mkHid (Rd.of_owns r1.1 ho3); clear ho3 hg3)
    go_ret2
    exact ⟨_, rfl, HR.out, hb3⟩
end Go.Proofs.YtghpehgefbikeaaDoor
