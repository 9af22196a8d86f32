/- Frame and Read of package crc. -/
import Derived.Test.YtdegekoobgoekaaDoorCrc
import Derived.Test.YtdegekoobgoekaaDoorSeal
import Derived.Test.YtdegekoobgoekaaDoorLaid
namespace Go.Proofs.YtdegekoobgoekaaDoor
open Go.ChangeShapes Go.WideShapes Go.ChangeAt Go.RowKit

theorem rd_fourc (w : World) (s : Nat) (a b c d : Int) (h : [a, b, c, d] = four s) : Rd (w.alloc (.cells #[.int .u8 a, .int .u8 b, .int .u8 c, .int .u8 d] 5)) (.slice (some ⟨w.heap.size, 0, none⟩) 4 4) (four s) := by
  have := rd_four w a b c d (by rw [h]; exact four_byts s)
  rwa [h] at this
theorem bytesof_any (w : World) (s : Nat) (hs : (s : Int) ≤ 4294967295) :
    Calls Tryd.prog 21 #[.int .u32 s] w fun e w' => e = .returned (.slice (some ⟨w.heap.size, 0, none⟩) 4 4) ∧ Rd w' (.slice (some ⟨w.heap.size, 0, none⟩) 4 4) (four s) ∧ Below w.heap.size w w' := by
  go_enter Tryd.func21, Tryd.ntmps21
  go_wp2
  go_ret
  refine ⟨rfl, rd_fourc w s _ _ _ _ ?_, (Below.refl _ _).alloc (Nat.le_refl _) _⟩
  simp only [four, List.cons.injEq, and_true]
  omega
theorem own_weak {w : World} {base base' : Nat} {e : TypeId} {v : Value} {n : Nat} {xs : List Value} (h : w.ownsRow base e 1 v n xs) (hb : base' ≤ base) : w.ownsRow base' e 1 v n xs := by
  refine ⟨h.1, h.2.imp id ?_⟩
  rintro ⟨g, cap, cur, e, hg, rest⟩
  exact ⟨g, cap, cur, e, Nat.le_trans hb hg, rest⟩
theorem own_keep {F : Nat → Prop} {w w' : World} {base : Nat} {e : TypeId} {v : Value} {n : Nat} {xs : List Value} (h : w.ownsRow base e 1 v n xs) (hk : Kept F w w') (hn : ∀ k, v.ownBlock = some k → ¬ F k) : w'.ownsRow base e 1 v n xs := by
  refine ⟨h.1, h.2.imp id ?_⟩
  rintro ⟨g, cap, cur, rfl, hb, hg, rest⟩
  exact ⟨g, cap, cur, rfl, hb, by rw [hk.block g (Array.getElem?_eq_some_iff.1 hg).1 (hn g rfl)]; exact hg, rest⟩
theorem own_late {w w' : World} {base : Nat} {e : TypeId} {v : Value} {n : Nat} {xs : List Value} (h : w.ownsRow base e 1 v n xs) (hb : Below w.heap.size w w') : w'.ownsRow base e 1 v n xs :=
  own_keep h (kept_of_below hb) (fun k hk hge => by have := (h.lt k hk).2; omega)
set_option maxHeartbeats 3200000 in
theorem frame_large (w : World) (v : Value) (bs : List Int) (ev : Value) (h : Rd w v bs) (hl : 32768 < bs.length) (he : w.cell? ⟨0, 0, none⟩ = some ev) :
    Calls Tryd.prog 9 #[v] w fun e w' => e = .returned (.tuple #[.slice none 0 0, ev]) ∧ Below w.heap.size w w' := by
  obtain ⟨a, c, rfl⟩ : ∃ a c, v = .slice a bs.length c := h.2.imp fun a h => h.imp fun c h => h.1
  have hi : (32768 : Int) < bs.length := by omega
  go_enter Tryd.func9, Tryd.ntmps9
  go_wp2
  go_region
  all_goals go_wp2
  all_goals go_ret2
  all_goals exact ⟨rfl, (Below.refl _ _).drew⟩
set_option maxHeartbeats 3200000 in
theorem frame_any (w : World) (v : Value) (bs : List Int) (h : Rd w v bs) (hl : (bs.length : Int) ≤ 32768) :
    Calls Tryd.prog 9 #[v] w fun e w' => ∃ v', e = .returned (.tuple #[v', .nilIface]) ∧ w'.ownsRow w.heap.size 5 1 v' (bs.length + 8) ((frame bs).map (Value.int .u8)) ∧ Below w.heap.size w w' := by
  obtain ⟨i0, hi, hz0, hz1, hz2⟩ := info_parts Tryd.info5
  obtain ⟨a, c, ev⟩ : ∃ a c, v = .slice a bs.length c := h.2.imp fun a h => h.imp fun c h => h.1
  have hbody : (four bs.length ++ bs).length = 4 + bs.length := by rw [List.length_append, four_len]
  have hB := (four_byts bs.length).append h.1
  have hcs := csum_lt hB
  have hci : (csum (four bs.length ++ bs) : Int) ≤ 4294967295 := by omega
  have HL : Hid (4 + bs.length + 4 ≤ maxLen ∧ 4 + bs.length + 4 ≤ 140737488355328) := mkHid ⟨by unfold maxLen; omega, by omega⟩
  clear hcs
  subst ev
  go_enter Tryd.func9, Tryd.ntmps9
  have M1 : Hid True := trivial
  go_wp2_with (first | (go_at_call 21; clear M1; refine (bytesof_any _ bs.length (by omega)).mono ?_; rintro e w1 ⟨rfl, r1, hb1⟩; have r0 := h.later hb1) | (go_at_call 20; refine (concat_any _ w1.heap.size _ _ (four bs.length) bs (by go_simp) (by go_simp) (r1.alloc _) (r0.alloc _) (by rw [four_len]; omega) (by rw [four_len]; omega)).mono ?_; rintro e w2 ⟨v2, rfl, ho2, hb2⟩; rw [four_len] at ho2; have hb2' := (hb1.alloc hb1.size _).trans (hb2.mono (by have := hb1.size; simp; omega)); have ho2' := own_weak (base' := w.heap.size) ho2 (by have := hb1.size; simp; omega); clear ho2 hb2 r1 r0) | (go_at_call 19; refine (crcsum_any _ _ (four bs.length ++ bs) (Rd.of_owns hB (by rw [hbody]; exact ho2')) (by rw [hbody]; omega)).mono ?_; rintro e wx ⟨rfl, hw⟩; rw [hw]; clear hw) | (go_at_call 21; refine (bytesof_any _ _ hci).mono ?_; rintro e w3 ⟨rfl, r3, hb3⟩; have ho3 := own_late ho2' hb3; have hb3' := hb2'.trans (hb3.mono hb2'.size); clear hb3 ho2') | (at_builtin; refine wpList_append_src _ rfl (.tmp 16) (.tmp 19) 22 22 rfl w.heap.size 5 i0 Tryd.underlying22 hi hz0 hz1 hz2 _ _ _ rfl ho3 _ _ _ rfl r3.src HL.out.1 HL.out.2 hb3'.size ?_; intro v4 w4 ho4 hg4 _; have hb4 := hb3'.grown hg4 hb3'.size (fun k hk => (ho3.lt k hk).1); rw [← List.map_append] at ho4; have HQ : Hid (w4.ownsRow w.heap.size 5 1 v4 (bs.length + 8) ((frame bs).map (Value.int .u8))) := mkHid (by have e : 4 + bs.length + (four (csum (four bs.length ++ bs))).length = bs.length + 8 := (by rw [four_len]; omega); rw [e] at ho4; exact ho4); clear hg4 ho4))
  go_ret2
  exact ⟨_, rfl, HQ.out, hb4⟩
end Go.Proofs.YtdegekoobgoekaaDoor
