/- The document's four and Frame. -/
import Derived.Test.YtdegekoobgoekaaDoorFrame
namespace Go.Proofs.YtdegekoobgoekaaDoor
open Go.ChangeShapes Go.WideShapes Go.ChangeAt Go.RowKit

theorem own_fourc (w : World) (s : Nat) (a b c d : Int) (h : [a, b, c, d] = four s) : (w.alloc (.cells #[.int .u8 a, .int .u8 b, .int .u8 c, .int .u8 d] 5)).ownsRow w.heap.size 5 1 (.slice (some ⟨w.heap.size, 0, none⟩) 4 4) 4 ((four s).map (Value.int .u8)) := by
  have := World.ownsRow_lit (base := w.heap.size) (e := 5) (size := 1) w #[.int .u8 a, .int .u8 b, .int .u8 c, .int .u8 d] 4 (Nat.le_refl _) (by unfold maxLen; omega) rfl
  rw [← h]
  exact this
theorem reffour_any (w : World) (s : Nat) (hs : (s : Int) ≤ 4294967295) :
    Calls Tryd.prog 22 #[.int .u32 s] w fun e w' => ∃ v', e = .returned v' ∧ w'.ownsRow w.heap.size 5 1 v' 4 ((four s).map (Value.int .u8)) ∧ Below w.heap.size w w' := by
  go_enter Tryd.func22, Tryd.ntmps22
  go_wp2
  go_ret
  refine ⟨_, rfl, own_fourc w s _ _ _ _ ?_, (Below.refl _ _).alloc (Nat.le_refl _) _⟩
  simp only [four, List.cons.injEq, and_true]
  omega
set_option maxHeartbeats 3200000 in
theorem refframe_any (w : World) (v : Value) (bs : List Int) (h : Rd w v bs) (hl : (bs.length : Int) ≤ 32768) :
    Calls Tryd.prog 12 #[v] w fun e w' => ∃ v', e = .returned v' ∧ w'.ownsRow w.heap.size 5 1 v' (bs.length + 8) ((frame bs).map (Value.int .u8)) ∧ Below w.heap.size w w' := by
  obtain ⟨i0, hi, hz0, hz1, hz2⟩ := info_parts Tryd.info5
  obtain ⟨a, c, ev⟩ : ∃ a c, v = .slice a bs.length c := h.2.imp fun a h => h.imp fun c h => h.1
  have hbody : (four bs.length ++ bs).length = 4 + bs.length := by rw [List.length_append, four_len]
  have hB := (four_byts bs.length).append h.1
  have hcs := csum_lt hB
  have hci : (csum (four bs.length ++ bs) : Int) ≤ 4294967295 := by omega
  have HL : Hid ((4 + bs.length ≤ maxLen ∧ 4 + bs.length ≤ 140737488355328) ∧ 4 + bs.length + 4 ≤ maxLen ∧ 4 + bs.length + 4 ≤ 140737488355328) := mkHid ⟨⟨by unfold maxLen; omega, by omega⟩, by unfold maxLen; omega, by omega⟩
  clear hcs
  subst ev
  have M1 : Hid True := trivial
  have M2 : Hid True := trivial
  go_enter Tryd.func12, Tryd.ntmps12
  go_wp2_with (first | (go_at_call 22; clear M1; refine (reffour_any _ bs.length (by omega)).mono ?_; rintro e w1 ⟨v1, rfl, ho1, hb1⟩; have r0 := h.later hb1) | (at_builtin; clear M2; refine wpList_append_src _ rfl (.tmp 7) (.tmp 8) 22 22 rfl w.heap.size 5 i0 Tryd.underlying22 hi hz0 hz1 hz2 _ _ _ rfl ho1 _ _ _ rfl r0.src HL.out.1.1 HL.out.1.2 hb1.size ?_; intro v2 w2 ho2 hg2 _; have hb2' := hb1.grown hg2 hb1.size (fun k hk => (ho1.lt k hk).1); rw [← List.map_append] at ho2; clear hg2 ho1 r0) | (go_at_call 23; refine (refcsum_any _ _ (four bs.length ++ bs) (Rd.of_owns hB (by rw [hbody]; exact ho2)) (by rw [hbody]; omega)).mono ?_; rintro e wx ⟨rfl, hw⟩; rw [hw]; clear hw) | (go_at_call 22; refine (reffour_any _ _ hci).mono ?_; rintro e w3 ⟨v3, rfl, ho3', hb3⟩; have r3 := Rd.of_owns (four_byts _) ho3'; have ho3 := own_late ho2 hb3; have hb3' := hb2'.trans (hb3.mono hb2'.size); clear hb3 ho2 ho3') | (at_builtin; refine wpList_append_src _ rfl (.tmp 10) (.tmp 13) 22 22 rfl w.heap.size 5 i0 Tryd.underlying22 hi hz0 hz1 hz2 _ _ _ rfl ho3 _ _ _ rfl r3.src HL.out.2.1 HL.out.2.2 hb3'.size ?_; intro v4 w4 ho4 hg4 _; have hb4 := hb3'.grown hg4 hb3'.size (fun k hk => (ho3.lt k hk).1); rw [← List.map_append] at ho4; have HQ : Hid (w4.ownsRow w.heap.size 5 1 v4 (bs.length + 8) ((frame bs).map (Value.int .u8))) := mkHid (by have e : 4 + bs.length + (four (csum (four bs.length ++ bs))).length = bs.length + 8 := (by rw [four_len]; omega); rw [e] at ho4; exact ho4); clear hg4 ho4))
  go_ret
  exact ⟨_, rfl, HQ.out, hb4⟩
end Go.Proofs.YtdegekoobgoekaaDoor
