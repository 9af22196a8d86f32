/- Copies with marked room behind, and whether they stand as they stood. -/
import Derived.Test.YtehnimafjgodeaaDoorSeal
import Derived.Test.YtehnimafjgodeaaDoorSlips
namespace Go.Proofs.YtehnimafjgodeaaDoor
open Go.ChangeShapes Go.WideShapes Go.ChangeAt Go.RowKit
set_option maxRecDepth 100000

def marks : List Int := [201, 202, 203, 204, 205, 206]
theorem marks_byts : Byts marks := by intro b hb; simp [marks] at hb; omega
/-- A copy of bs with marked room behind. -/
def Mk (w : World) (base g cap : Nat) (bs : List Int) : Prop := w.ownsRow base 5 1 (.slice (some ⟨g, 0, none⟩) (bs.length + 6) cap) (bs.length + 6) ((bs ++ marks).map (Value.int .u8))
theorem Mk.lt {w : World} {base g cap : Nat} {bs : List Int} (h : Mk w base g cap bs) : base ≤ g ∧ g < w.heap.size := World.ownsRow.lt h g rfl
theorem Mk.whole {w : World} {base g cap : Nat} {bs : List Int} (hB : Byts bs) (h : Mk w base g cap bs) : Rd w (.slice (some ⟨g, 0, none⟩) (bs ++ marks).length cap) (bs ++ marks) :=
  Rd.of_owns (hB.append marks_byts) (by rw [List.length_append]; exact h)
theorem Mk.rd {w : World} {base g cap : Nat} {bs : List Int} (hB : Byts bs) (h : Mk w base g cap bs) : Rd w (.slice (some ⟨g, 0, none⟩) bs.length cap) bs := by
  have := Rd.take (n := bs.length) (h.whole hB) (by rw [List.length_append]; omega)
  rwa [List.take_left] at this
theorem Mk.kept {F : Nat → Prop} {w w' : World} {base g cap : Nat} {bs : List Int} (h : Mk w base g cap bs) (hk : Kept F w w') (hn : ¬ F g) : Mk w' base g cap bs := by
  refine ⟨h.1, ?_⟩
  rcases h.2 with ⟨e, _⟩ | ⟨g', cap', cur, e, hb, hg, rest⟩
  · simp at e
  · simp at e
    obtain ⟨rfl, rfl⟩ := e
    exact .inr ⟨g, cap, cur, rfl, hb, by rw [hk.block g (Array.getElem?_eq_some_iff.1 hg).1 hn]; exact hg, rest⟩
theorem rd_six (w : World) : Rd (w.alloc (.cells #[.int .u8 201, .int .u8 202, .int .u8 203, .int .u8 204, .int .u8 205, .int .u8 206] 5)) (.slice (some ⟨w.heap.size, 0, none⟩) 6 6) marks := by
  refine ⟨marks_byts, some ⟨w.heap.size, 0, none⟩, 6, rfl, by simp [marks], fun e => by simp at e, fun _ => ⟨w.heap.size, 0, rfl, by simp, fun k hk => ?_⟩⟩
  have : k = 0 ∨ k = 1 ∨ k = 2 ∨ k = 3 ∨ k = 4 ∨ k = 5 := by simp [marks] at hk; omega
  rcases this with rfl | rfl | rfl | rfl | rfl | rfl <;> (simp [marks]; try go_simp)
set_option maxHeartbeats 3200000 in
theorem nbytes_any (w : World) (v : Value) (bs : List Int) (h : Rd w v bs) (hl : (bs.length : Int) ≤ 140737488355300) :
    Calls Tryd.prog 18 #[v] w fun e w' => ∃ g cap, e = .returned (.slice (some ⟨g, 0, none⟩) bs.length cap) ∧ Mk w' w.heap.size g cap bs ∧ Below w.heap.size w w' := by
  obtain ⟨i0, hi, hz0, hz1, hz2⟩ := info_parts Tryd.info5
  obtain ⟨a, c, rfl⟩ : ∃ a c, v = .slice a bs.length c := h.2.imp fun a h => h.imp fun c h => h.1
  have HL : Hid ((bs.length + 6 ≤ 140737488355328 ∧ bs.length + 6 ≤ maxLen) ∧ (i0.bytes * (bs.length + 6) ≤ 281474976710656) ∧ (0 + bs.length ≤ maxLen ∧ 0 + bs.length ≤ 140737488355328)) := mkHid ⟨⟨by omega, by unfold maxLen; omega⟩, by rw [hz2]; omega, by unfold maxLen; omega, by omega⟩
  have hml : marks.length = 6 := rfl
  have HM : Hid (bs.length + marks.length ≤ maxLen ∧ bs.length + marks.length ≤ 140737488355328) := mkHid ⟨by rw [hml]; exact HL.out.1.2, by rw [hml]; exact HL.out.1.1⟩
  clear hml
  have M1 : Hid True := trivial
  go_enter Tryd.func18, Tryd.ntmps18
  go_wp2_with (first | (refine wpList_make_own _ rfl (.const (.int .i64 0)) (.tmp 6) 35 rfl w.heap.size 5 i0 (.int .u8 0) 1 Tryd.underlying35 hi hz0 hz1 .i64 .i64 ((bs.length : Int) + 6) (bs.length + 6) rfl rfl (by omega) HL.out.2.1 HL.out.1.2 (Nat.le_refl _) ?_; intro w1 ho1 hg1; have hb1 := (Below.refl w.heap.size w).grown hg1 (Nat.le_refl _) (fun k hk => by simp at hk)) | (at_builtin; clear M1; refine wpList_append_src _ rfl (.tmp 7) (.tmp 8) 35 35 rfl w.heap.size 5 i0 Tryd.underlying35 hi hz0 hz1 hz2 _ _ _ rfl ho1 _ _ _ rfl (h.later hb1).src HL.out.2.2.1 HL.out.2.2.2 hb1.size ?_; intro v2 w2 ho2 hg2 _; have hb2 := hb1.grown hg2 hb1.size (fun k hk => (ho1.lt k hk).1); rw [Nat.zero_add, List.nil_append] at ho2; clear hg2 ho1) | (at_builtin; refine wpList_append_src _ rfl (.tmp 9) (.tmp 10) 35 35 rfl w.heap.size 5 i0 Tryd.underlying35 hi hz0 hz1 hz2 _ _ _ rfl (ho2.alloc _) _ _ _ rfl (rd_six w2).src HM.out.1 HM.out.2 (by have := hb2.size; simp; omega) ?_; intro v3 w3 ho3 hg3 _; have hb3 := (hb2.alloc hb2.size _).grown hg3 (by have := hb2.size; simp; omega) (fun k hk => (ho2.lt k hk).1); rw [← List.map_append] at ho3; obtain ⟨g, cap, hv3, hgb, hgl, hgc⟩ := own_spot ho3 (by simp [marks]); have HK : Hid (Mk w3 w.heap.size g cap bs) := mkHid (by subst hv3; exact ho3); subst hv3; clear hg3 ho3 ho2; simp only [marks, List.length_cons, List.length_nil] at hgc))
  go_ret
  exact ⟨g, cap, rfl, HK.out, hb3⟩
theorem mark_at (bs : List Int) (k : Nat) (h : k < 6) : (bs ++ marks).getD (bs.length + k) 0 = 201 + (k : Int) := by
  have : k = 0 ∨ k = 1 ∨ k = 2 ∨ k = 3 ∨ k = 4 ∨ k = 5 := by omega
  rw [List.getD, List.getElem?_append_right (by omega)]
  rcases this with rfl | rfl | rfl | rfl | rfl | rfl <;> simp [marks]
set_option maxHeartbeats 3200000 in
theorem nkept_any (w : World) (base g cap : Nat) (was : Value) (bs : List Int) (h : Mk w base g cap bs) (hr : Rd w was bs) (hl : (bs.length : Int) ≤ 140737488355300) :
    Calls Tryd.prog 23 #[.slice (some ⟨g, 0, none⟩) bs.length cap, was] w fun e w' => e = .returned (.bool true) ∧ ∃ n, w' = w.drewN n := by
  obtain ⟨a, c, rfl⟩ : ∃ a c, was = .slice a bs.length c := hr.2.imp fun a h => h.imp fun c h => h.1
  have hwh := h.whole hr.1
  have hcap : bs.length + 6 ≤ cap := by
    obtain ⟨_, _, _, e, hc, _⟩ := hwh
    simp [marks] at e
    simp [marks] at hc
    omega
  have cm : cap ≤ maxLen := by
    rcases h.2 with ⟨e, _⟩ | ⟨g', cap', cur, e, _, _, _, hm, _⟩
    · simp at e
    · simp at e; omega
  have hcm : (cap : Int) ≤ 9223372036854775807 := by unfold maxLen at cm; omega
  clear cm
  have hcells : ∀ k, k < 6 → w.cell? ⟨g, bs.length + k, none⟩ = some (.int .u8 (201 + (k : Int))) := by
    intro k hk
    obtain ⟨_, a', cap', e, _, _, hr'⟩ := hwh
    simp at e
    obtain ⟨b, off, e', _, hc⟩ := hr' (by simp [marks])
    have := hc (bs.length + k) (by simp [marks]; omega)
    rw [mark_at bs k hk] at this
    rw [← e.1] at e'
    simp at e'
    obtain ⟨rfl, rfl⟩ := e'
    simpa using this
  have HC : Hid (∀ k, k < 6 → w.cell? ⟨g, bs.length + k, none⟩ = some (.int .u8 (201 + (k : Int)))) := hcells
  have cv1 := (h.rd hr.1).convs
  have cv2 := hr.convs
  have hlt : decide ((cap : Int) < (bs.length : Int) + 6) = false := by simp; omega
  have hci : (bs.length : Int) + 6 ≤ cap := by omega
  clear hcells hwh
  go_enter Tryd.func23, Tryd.ntmps23
  go_wp2
  go_quiet (fail)
  go_wp2
  go_loop [6] (fun iv => ∃ k : Nat, k ≤ 6 ∧ iv = .int .i64 k) (fun iv => 6 - (intOf iv).toNat)
  case atStart => exact ⟨0, by omega, rfl⟩
  case round =>
    obtain ⟨k, hk, rfl⟩ := hrel
    by_cases hk6 : (k : Int) < 6
    · have hck := HC.out k (by omega)
      have hki : (bs.length : Int) + (k : Int) < cap := by omega
      go_wp2
      go_round
      case rel => exact ⟨k + 1, by omega, by go_num⟩
      case measure => simp [intOf]; omega
    · go_wp2
      go_ret
      exact ⟨rfl, _, rfl⟩
end Go.Proofs.YtehnimafjgodeaaDoor
