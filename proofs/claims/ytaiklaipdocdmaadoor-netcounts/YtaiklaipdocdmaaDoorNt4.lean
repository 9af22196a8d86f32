/- slices.Delete of letters; takeOut. -/
import Derived.Test.YtaiklaipdocdmaaDoorNt3
namespace Go.Proofs.YtaiklaipdocdmaaDoor
open Go.ChangeShapes Go.WideShapes Go.ChangeAt Go.RowKit
set_option maxRecDepth 100000
attribute [local go_sem] World.cell?_alloc_some frozen_alloc_some

theorem sizeL (W : World) : (Go.sizeOf 50).run Tryd.prog W = .ok 4 W := by
  obtain ⟨i, hi, _, hs, _⟩ := info_parts info_letter
  simp [Go.sizeOf, typeInfo, hi, hs]
theorem elemL : Tryd.prog.underlying 79 = some (.slice (Tryd.prog.elem 79)) ∧ Tryd.prog.elem 79 = 50 := by
  constructor <;> kernel_rfl
set_option maxHeartbeats 12800000 in
theorem delL_is (base : Nat) (w : World) (g cap J : Nat) (ps : List Lp) (hown : w.ownsRow base 50 4 (.slice (some ⟨g, 0, none⟩) ps.length cap) ps.length (ps.flatMap cl)) (hl : ps.length ≤ 4096) (hJ : J < ps.length) :
    Calls Tryd.prog 72 #[.slice (some ⟨g, 0, none⟩) ps.length cap, .int .i64 (J : Int), .int .i64 ((J : Int) + 1)] w fun e w' => e = .returned (.slice (some ⟨g, 0, none⟩) (ps.length - 1) cap) ∧ w'.ownsRow base 50 4 (.slice (some ⟨g, 0, none⟩) (ps.length - 1) cap) (ps.length - 1) ((ps.eraseIdx J).flatMap cl) ∧ Kept (fun k => k = g) w w' := by
  obtain ⟨ie, hi, hz0, hz1, hz2⟩ := info_parts info_letter
  have hie := mkHid (And.intro hi (And.intro hz0 (And.intro hz1 hz2)))
  clear hi hz0 hz1 hz2
  have hcap : ps.length ≤ cap := by obtain ⟨_, _, e, h⟩ := own_sh hown; simp only [Value.slice.injEq] at e; rw [e.2.2]; exact h
  have HO := mkHid hown
  have hsl0 : ∀ W, (Instr.slice 79 (.slice (some ⟨g, 0, none⟩) ps.length cap) (some (.int .i64 (J : Int))) (some (.int .i64 ((J : Int) + 1))) (some (.int .i64 (ps.length : Int)))).run Tryd.prog W = .ok (Go.sliced (some ⟨g, 0, none⟩) J (J + 1) ps.length 4) W := fun W => by
    rw [run_slice_lhm W 79 _ _ _ elemL.1 .i64 .i64 .i64 _ _ _ (by omega) (by omega) (by omega) (by omega), elemL.2, sizeL]
    simp only [Result.andThen]
    rfl
  have hsl1 : ∀ W, (Instr.slice 79 (.slice (some ⟨g, 0, none⟩) ps.length cap) none (some (.int .i64 (J : Int))) none).run Tryd.prog W = .ok (.slice (some ⟨g, 0, none⟩) J cap) W := fun W => by
    rw [run_slice_h W 79 _ _ _ elemL.1 .i64 _ (by omega) (by omega), elemL.2, sizeL]
    simp only [Result.andThen, Go.sliced]
    simp [add_none]
  obtain ⟨SV, hSV⟩ : ∃ SV, SV = Go.sliced (some ⟨g, 0, none⟩) (J + 1) ps.length cap 4 := ⟨_, rfl⟩
  have hsl2 : ∀ W, (Instr.slice 79 (.slice (some ⟨g, 0, none⟩) ps.length cap) (some (.int .i64 ((J : Int) + 1))) none none).run Tryd.prog W = .ok SV W := fun W => by
    rw [run_slice_l W 79 _ _ _ elemL.1 .i64 _ (by omega) (by omega), elemL.2, sizeL, hSV]
    simp only [Result.andThen]
    rfl
  have HSR : Hid (∀ W, Below w.heap.size w W → Src Tryd.prog 4 79 SV (ps.drop (J + 1)).length ((ps.drop (J + 1)).flatMap cl) W) := mkHid (fun W hW => by
    refine RowIn.src Tryd.underlying79 (by omega) cl_len one_cl (RowIn.below ?_ hW)
    rw [hSV]
    unfold Go.sliced
    by_cases hc : cap = J + 1
    · have : ps.drop (J + 1) = [] := by rw [List.drop_eq_nil_iff]; omega
      rw [if_pos hc, this]
      exact ⟨_, _, by rw [show ps.length - (J + 1) = 0 by omega]; rfl, Nat.zero_le _, by simp, fun hp => by simp at hp⟩
    · rw [if_neg hc]
      refine ⟨_, _, by rw [List.length_drop], by rw [List.length_drop]; omega, by rw [List.length_drop]; omega, fun hp => ⟨g, (J + 1) * 4, by simp [add_none], fun i x hx r u hr hu => ?_⟩⟩
      rw [List.getElem?_drop] at hx
      have := (own_cell HO.out ((fl_get cl 4 cl_len ps (J + 1 + i) r x hx hr).trans hu)).1
      rw [show (J + 1) * 4 + i * 4 + r = (J + 1 + i) * 4 + r by omega]
      exact this)
  have HO1 : Hid (w.ownsRow base 50 4 (.slice (some ⟨g, 0, none⟩) J cap) J ((ps.take J).flatMap cl)) := mkHid (by
    have := own_shorter (m := J) HO.out (by omega)
    rwa [fl_take cl 4 cl_len] at this)
  have hne : ((J : Int) == (J : Int) + 1) = false := by simp; omega
  have hsl3 : ∀ W, (Instr.slice 79 (.slice (some ⟨g, 0, none⟩) (ps.length - 1) cap) (some (.int .i64 ((ps.length - 1 : Nat) : Int))) (some (.int .i64 (ps.length : Int))) none).run Tryd.prog W = .ok (.slice (some ⟨g, (ps.length - 1) * 4, none⟩) (ps.length - (ps.length - 1)) (cap - (ps.length - 1))) W := fun W => by
    rw [run_slice_lh W 79 _ _ _ elemL.1 .i64 .i64 _ _ (by omega) (by omega) (by omega), elemL.2, sizeL]
    simp only [Result.andThen, Go.sliced]
    rw [if_neg (by simp; omega)]
    simp [add_none]
  clear hown hSV
  go_enter Tryd.func72, Tryd.ntmps72
  go_wp2
  refine wp_region_held_drew (S := fun _ => True) (by kernel_rfl) trivial (fun hHeld => ?_)
  refine takeD 0 20 (.slice (some ⟨g, 0, none⟩) ps.length cap) rfl rfl (by kernel_rfl) (by kernel_rfl) (by kernel_rfl) (fun _ _ _ h => h) (Or.inl ⟨by kernel_rfl, by intro w hSw; (try dsimp only at hSw); go_simp⟩) hHeld ?_
  simp only [List.set_cons_zero, List.set_cons_succ]
  refine takeD 1 21 (.int .i64 (J : Int)) rfl rfl (by kernel_rfl) (by kernel_rfl) (by kernel_rfl) (fun _ _ _ h => h) (Or.inl ⟨by kernel_rfl, by intro w hSw; (try dsimp only at hSw); go_simp⟩) hHeld ?_
  simp only [List.set_cons_zero, List.set_cons_succ]
  refine takeD 2 22 (.slice (some ⟨g, 0, none⟩) J cap) rfl rfl (by kernel_rfl) (by kernel_rfl) (by kernel_rfl) (fun _ _ _ h => h) (Or.inl ⟨by kernel_rfl, by intro w _; exact yields_slice (t := 79) rfl elemL.1 (by simpa [Act.eval] using hsl1) w⟩) hHeld ?_
  simp only [List.set_cons_zero, List.set_cons_succ]
  refine takeD 3 23 (.slice (some ⟨g, 0, none⟩) ps.length cap) rfl rfl (by kernel_rfl) (by kernel_rfl) (by kernel_rfl) (fun _ _ _ h => h) (Or.inl ⟨by kernel_rfl, by intro w hSw; (try dsimp only at hSw); go_simp⟩) hHeld ?_
  simp only [List.set_cons_zero, List.set_cons_succ]
  refine takeD 4 24 (.int .i64 ((J : Int) + 1)) rfl rfl (by kernel_rfl) (by kernel_rfl) (by kernel_rfl) (fun _ _ _ h => h) (Or.inl ⟨by kernel_rfl, by intro w hSw; (try dsimp only at hSw); go_simp⟩) hHeld ?_
  simp only [List.set_cons_zero, List.set_cons_succ]
  refine takeD 5 25 (SV) rfl rfl (by kernel_rfl) (by kernel_rfl) (by kernel_rfl) (fun _ _ _ h => h) (Or.inl ⟨by kernel_rfl, by intro w _; exact yields_slice (t := 79) rfl elemL.1 (by simpa [Act.eval] using hsl2) w⟩) hHeld ?_
  simp only [List.set_cons_zero, List.set_cons_succ]
  refine wpAnyH_ready (rs := [6]) (by kernel_rfl) (by simp) (AllReadyH.cons rfl (fun K hK => ?_) AllReadyH.nil)
  refine step_append_room4 (w := w.drew) rfl (.tmp 22) (.tmp 25) 79 79 rfl base 50 ie Tryd.underlying79 hie.out.1 hie.out.2.2.1 g J cap ((ps.take J).flatMap cl) (by simp [Act.eval]) (ownN_kept HO1.out (Kept.drew (fun _ => False) w) (fun _ _ h => h)) SV (ps.drop (J + 1)).length ((ps.drop (J + 1)).flatMap cl) (by simp [Act.eval]) (HSR.out _ (Below.refl _ w).drew) (by rw [List.length_drop]; omega) ?_
  intro w4 ho4 hg4
  have elen : J + (ps.drop (J + 1)).length = ps.length - 1 := by rw [List.length_drop]; omega
  rw [elen] at ho4 ⊢
  rw [← List.flatMap_append, ← List.eraseIdx_eq_take_drop_succ] at ho4
  have HO4 := mkHid ho4
  have HK4 : Hid (Kept (fun k => k = g) w w4) := mkHid ((Kept.drew _ w).trans (Kept.grown hg4 (F := fun k => k = g) (fun k e => by cases e; rfl)) (fun _ h => .inl h))
  refine hK.out _ _ trivial (fun hHeld => ?_)
  clear hK K ho4 hg4 elen
  (try simp only [Act.put])
  refine takeD 7 0 (.slice (some ⟨g, 0, none⟩) (ps.length - 1) cap) rfl rfl (by kernel_rfl) (by kernel_rfl) (by kernel_rfl) (fun _ _ _ h => h) (Or.inl ⟨by kernel_rfl, by intro w hSw; (try dsimp only at hSw); go_simp⟩) hHeld ?_
  simp only [List.set_cons_zero, List.set_cons_succ]
  refine wpAnyH_done (by kernel_rfl) ?_ _
  clear hHeld
  obtain ⟨ys, hy1, hy2⟩ := own_longer (n := ps.length) HO4.out (by omega) hcap
  obtain ⟨w5, hr5, ho5, hg5⟩ := run_clear_own (P := Tryd.prog) w4 base 79 0 50 ie Tryd.underlying79 hie.out.1 (.agg #[.int .i64 0, .int .i64 0, .int .i64 0, .slice none 0 0]) 4 (by omega) hie.out.2.1 rfl (by intro u hu; simp [Value.cells] at hu; rcases hu with rfl | rfl | rfl | rfl | rfl <;> rfl) g ps.length cap (ps.length - 1) (cap - (ps.length - 1)) ys hy1 (by omega)
  rw [hy2] at ho5
  have HO5 := mkHid ho5
  have HK5 := mkHid (HK4.out.trans (Kept.grown hg5 (F := fun k => k = g) (fun k e => by cases e; rfl)) (fun _ h => .inl h))
  have ep : ((ps.length - 1 : Nat) : Int) = (ps.length : Int) - 1 := by omega
  clear ho5 hg5 hy1 hy2 HO4 HK4
  go_wp2
  go_ret
  exact ⟨rfl, HO5.out, HK5.out⟩
end Go.Proofs.YtaiklaipdocdmaaDoor
