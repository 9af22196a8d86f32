/- almonernum.Ints and KeptInts. -/
import Derived.Test.YtjlmkmhggkcbhaaDoorQmerge
namespace Go.Proofs.YtjlmkmhggkcbhaaDoor
open Go.ChangeShapes Go.WideShapes Go.ChangeAt Go.RowKit
set_option maxRecDepth 100000
set_option linter.unusedVariables false

theorem make_room2 (t : Nat) (ht : t ≤ 16777216) (W : World) : (Instr.makeSlice 36 (.int .i64 0) (.int .i64 (t : Int))).run Tryd.prog W = .ok (.slice (some ⟨W.heap.size, 0, none⟩) 0 t) (W.alloc (.cells (madeCells #[.int .i64 0] t) 3)) := by
  obtain ⟨i, h1, h2, h3, h4⟩ := info_parts infoIntM
  have := run_makeSlice (P := Tryd.prog) W 36 3 i (.int .i64 0) Tryd.underlying36 h1 h2 .i64 .i64 0 (t : Int) (by omega) (by omega) (by rw [h3]; simp; omega) (by rw [h4]; omega) (by omega)
  rw [this, h3]
  simp [Value.cells]
theorem Slc.sl {w : World} {v : Value} {xs : List Int} (h : Slc w v xs) : Sl w v xs := by
  obtain ⟨a, c, rfl, _, hr⟩ := h
  exact ⟨a, c, rfl, hr⟩
theorem Sl.src {w : World} {v : Value} {xs : List Int} (h : Sl w v xs) : Src Tryd.prog 1 36 v xs.length (xs.map (Value.int .i64)) w := by
  obtain ⟨a, cap, rfl, hr⟩ := h
  cases a with
  | none =>
    have hl : xs = [] := by
      by_cases hp : 0 < xs.length
      · obtain ⟨b, off, e, _⟩ := hr hp
        simp at e
      · exact List.length_eq_zero_iff.mp (by omega)
    subst hl
    exact Src.ofNil w Tryd.underlying36 cap
  | some ad =>
    refine Src.ofSlice w Tryd.underlying36 ad _ cap _ (by simp) (fun j u hj => ?_) (ints_one xs)
    have hjl : j < xs.length := by
      have := (List.getElem?_eq_some_iff.mp hj).1
      simpa using this
    obtain ⟨b, off, e, hcell⟩ := hr (by omega)
    simp at e
    subst e
    rw [add_none, hcell j hjl]
    simp [hjl] at hj
    simp [List.getD, hjl, hj]
/-- The four numbers behind a list. -/
def four : List Int := [-91, -92, -93, -94]
theorem src_four (w : World) (n : Nat) (hn : n = w.heap.size) : Src Tryd.prog 1 36 (.slice (some ⟨n, 0, none⟩) 4 4) 4 (four.map (Value.int .i64)) (w.alloc (.cells #[.int .i64 (-91), .int .i64 (-92), .int .i64 (-93), .int .i64 (-94)] 3)) := by
  subst hn
  refine Src.ofSlice _ Tryd.underlying36 _ 4 4 _ rfl (fun j u hj => ?_) (ints_one four)
  match j, hj with
  | 0, hj => simp [four] at hj; subst hj; rw [add_none]; simp
  | 1, hj => simp [four] at hj; subst hj; rw [add_none]; simp
  | 2, hj => simp [four] at hj; subst hj; rw [add_none]; simp
  | 3, hj => simp [four] at hj; subst hj; rw [add_none]; simp
  | j + 4, hj => simp [four] at hj
/-- A copy with four numbers in its room. -/
def Cp (w : World) (base g c : Nat) (xs : List Int) : Prop := w.ownsRow base 3 1 (.slice (some ⟨g, 0, none⟩) (xs.length + 4) c) (xs.length + 4) ((xs ++ four).map (Value.int .i64))
set_option maxHeartbeats 1600000 in
theorem ints_is (w : World) (v : Value) (xs : List Int) (h : Sl w v xs) (hl : xs.length ≤ 1048576) :
    Calls Tryd.prog 11 #[v] w fun e w' => ∃ g c, e = .returned (.slice (some ⟨g, 0, none⟩) xs.length c) ∧ Hid (Cp w' w.heap.size g c xs ∧ Below w.heap.size w w') := by
  obtain ⟨a0, c0, rfl, _⟩ := id h
  have H := mkHid h
  have HL := mkHid hl
  have hli : (xs.length : Int) ≤ 1048576 := by omega
  obtain ⟨ie, hie⟩ : ∃ ie, Hid (Tryd.prog.info? 3 = some ie ∧ ie.zero = some (.int .i64 0) ∧ ie.size = 1 ∧ ie.bytes = 8) := by
    obtain ⟨ie, h1, h2, h3, h4⟩ := info_parts infoIntM
    exact ⟨ie, mkHid ⟨h1, h2, h3, h4⟩⟩
  have hmk := make_room2 (xs.length + 4) (by omega)
  rw [Int.natCast_add] at hmk
  have hmk' : ∀ W : World, (Instr.makeSlice 36 (.int .i64 0) (.int .i64 ((xs.length : Int) + 4))).run Tryd.prog W = .ok (.slice (some ⟨W.heap.size, 0, none⟩) 0 (xs.length + 4)) (W.alloc (.cells (madeCells #[.int .i64 0] (xs.length + 4)) 3)) := hmk
  have M1 : Hid True := mkHid trivial
  have hm : (w.alloc (.cells (madeCells #[.int .i64 0] (xs.length + 4)) 3)).ownsRow w.heap.size 3 1 (.slice (some ⟨w.heap.size, 0, none⟩) 0 (xs.length + 4)) 0 [] := World.ownsRow_made w _ (xs.length + 4) (Nat.le_refl _) (by unfold maxLen; omega) (by rw [size_madeCells, Nat.mul_one])
  have HM := mkHid hm
  clear h hl hm hmk
  go_enter Tryd.func11, Tryd.ntmps11
  go_wp2_with (first
    | (at_builtin; refine wpList_append_srcV _ rfl (.tmp 7) (.tmp 8) 36 36 rfl w.heap.size 3 ie Tryd.underlying36 hie.out.1 (.int .i64 0) 8 hie.out.2.1 rfl hie.out.2.2.1 hie.out.2.2.2 (.slice (some ⟨w.heap.size, 0, none⟩) 0 (xs.length + 4)) 0 [] rfl HM.out (.slice a0 xs.length c0) xs.length (xs.map (Value.int .i64)) rfl (H.out.below ((Below.refl _ w).alloc (Nat.le_refl _) _)).src (by have := HL.out; unfold maxLen; omega) (by have := HL.out; omega) (by simp) ?_; intro v2 w2 ho2 hg2 hat2; rw [Nat.zero_add, List.nil_append] at ho2; have HO2 := mkHid ho2; have HB2 := mkHid (((Below.refl _ w).alloc (Nat.le_refl _) (.cells (madeCells #[.int .i64 0] (xs.length + 4)) 3)).grown hg2 (by simp) (fun k hk => by simp [Value.ownBlock] at hk; omega)); obtain ⟨a2, c2, rfl⟩ := own_shape ho2; clear ho2 hg2 hat2)
    | (at_builtin; refine wpList_append_srcV _ rfl (.tmp 9) (.tmp 10) 36 36 rfl w.heap.size 3 ie Tryd.underlying36 hie.out.1 (.int .i64 0) 8 hie.out.2.1 rfl hie.out.2.2.1 hie.out.2.2.2 (.slice a2 xs.length c2) xs.length (xs.map (Value.int .i64)) rfl (own_keep HO2.out (kept_below (fun _ => False) ((Below.refl _ w2).alloc (Nat.le_refl _) _)) (fun _ _ => id)) (.slice (some ⟨w2.heap.size, 0, none⟩) 4 4) 4 (four.map (Value.int .i64)) rfl (src_four w2 _ rfl) (by have := HL.out; unfold maxLen; omega) (by have := HL.out; omega) (by have := HB2.out.size; simp; omega) ?_; intro v3 w3 ho3 hg3 hat3; rw [← List.map_append] at ho3; have HO3 := mkHid ho3; have HB3 := mkHid ((HB2.out.alloc HB2.out.size (.cells #[.int .i64 (-91), .int .i64 (-92), .int .i64 (-93), .int .i64 (-94)] 3)).grown hg3 (by have := HB2.out.size; simp; omega) (fun k hk => (HO2.out.lt k hk).1)); obtain ⟨a3, c3, rfl⟩ := own_shape ho3; obtain ⟨g3, hg3', _⟩ := own_some ho3 (by omega); subst hg3'; have hc3 : ((xs.length : Int) ≤ c3) := (by rcases ho3.2 with ⟨e, _⟩ | ⟨g', cap', cur, e, _, _, hnc, _⟩ <;> simp at e; omega); clear ho3 hg3 hat3))
  go_ret
  exact ⟨g3, c3, rfl, HO3.out, HB3.out⟩
theorem Cp.view {w : World} {base g c : Nat} {xs : List Int} (h : Cp w base g c xs) : xs.length + 4 ≤ c ∧ (∀ i, i < xs.length + 4 → w.cell? ⟨g, i, none⟩ = some (.int .i64 ((xs ++ four).getD i 0))) ∧ g < w.heap.size := by
  refine ⟨?_, fun i hi => ?_, (h.lt g rfl).2⟩
  · rcases h.2 with ⟨e, _⟩ | ⟨g', cap', cur, e, _, _, hnc, _⟩ <;> simp at e
    omega
  · exact own_at h i _ (by have : i < (xs ++ four).length := by simp [four]; omega
                           simp only [List.getElem?_map, List.getD, List.getElem?_eq_getElem this]; rfl)
theorem four_at (xs : List Int) (i : Nat) (hi : i < 4) : (xs ++ four).getD (xs.length + i) 0 = -91 - (i : Int) := by
  simp only [List.getD, List.getElem?_append_right (Nat.le_add_right _ _), Nat.add_sub_cancel_left]
  match i, hi with
  | 0, _ => rfl
  | 1, _ => rfl
  | 2, _ => rfl
  | 3, _ => rfl
theorem Cp.sl {w : World} {base g c : Nat} {xs : List Int} (h : Cp w base g c xs) (c' : Nat) : Sl w (.slice (some ⟨g, 0, none⟩) xs.length c') xs := by
  refine ⟨_, _, rfl, fun hp => ⟨g, 0, rfl, fun i hi => ?_⟩⟩
  have := h.view.2.1 i (by omega)
  rw [Nat.zero_add, this]
  simp [List.getD, List.getElem?_append_left hi]
set_option maxHeartbeats 1600000 in
theorem keptints_is (w : World) (base g c : Nat) (v1 : Value) (xs : List Int) (h : Cp w base g c xs) (h1 : Sl w v1 xs) (hl : xs.length ≤ 1048576) :
    Calls Tryd.prog 15 #[.slice (some ⟨g, 0, none⟩) xs.length c, v1] w fun e w' => e = .returned (.bool true) ∧ Below w.heap.size w w' := by
  obtain ⟨a0, c0, rfl, _⟩ := id h1
  obtain ⟨hc, hcell, hgl⟩ := h.view
  have HCELL := mkHid hcell
  have HGL := mkHid hgl
  have hli : (xs.length : Int) ≤ 1048576 := by omega
  have hci : (xs.length : Int) + 4 ≤ c := by omega
  have hcn : ¬ (c : Int) < (xs.length : Int) + 4 := by omega
  have HSAME := mkHid (same_true w (.slice (some ⟨g, 0, none⟩) xs.length c) (.slice a0 xs.length c0) xs (h.sl c) h1 (by omega))
  clear h h1 hl hc hcell hgl
  go_enter Tryd.func15, Tryd.ntmps15
  go_wp2_with (first | (go_at_call 13; refine HSAME.out.mono ?_; rintro e w1 ⟨rfl, hb1⟩; have HB1 := mkHid hb1; clear hb1))
  go_loopw [6] (fun iv wr => ∃ i : Nat, iv = .int .i64 (i : Int) ∧ i ≤ 4 ∧ Below w.heap.size w wr) (fun iv _ => 4 - (intOf iv).toNat)
  case atStart => exact ⟨0, rfl, by omega, HB1.out⟩
  case round =>
    clear HB1 HSAME
    obtain ⟨i, rfl, hi, hb⟩ := hrel
    have HB := mkHid hb
    clear hb
    by_cases hi4 : (i : Int) < 4
    · have x0 := bcell HB.out (HCELL.out (xs.length + i) (by omega))
      rw [four_at xs i (by omega)] at x0
      go_wp2
      go_roundw
      case rel => exact ⟨i + 1, by go_num, by omega, HB.out⟩
      case measure => simp [intOf]; omega
    · go_wp2
      go_ret
      exact ⟨rfl, HB.out⟩
end Go.Proofs.YtjlmkmhggkcbhaaDoor
