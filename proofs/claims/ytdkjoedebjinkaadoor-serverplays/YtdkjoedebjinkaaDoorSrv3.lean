/- Package server: New, Kind; the law's legal, and the chapter's first example. -/
import Derived.Test.YtdkjoedebjinkaaDoorSrv2
namespace Go.Proofs.YtdkjoedebjinkaaDoor
open Go.ChangeShapes Go.WideShapes Go.ChangeAt Go.RowKit

theorem check_ok (w : World) (s : Sv) (h : okS s) : Calls Tryd.prog 26 #[vS s] w fun e w' => e = .returned .nilIface ∧ Below w.heap.size w w' := by
  obtain ⟨k, q, t⟩ := s
  obtain ⟨h1, h2, h3, h4, h5⟩ := h
  simp only at h1 h2 h3 h4 h5
  go_enter Tryd.func26, Tryd.ntmps26
  go_wp2
  go_ret
  exact ⟨rfl, ba (Below.refl _ _) _⟩
theorem check_no (w : World) (s : Sv) (h : ¬ okS s) (a : Addr) (he : w.cell? ⟨10, 0, none⟩ = some (vE a)) : Calls Tryd.prog 26 #[vS s] w fun e w' => e = .returned (vE a) ∧ Below w.heap.size w w' := by
  obtain ⟨k, q, t⟩ := s
  have hc : k < 1 ∨ (1 ≤ k ∧ 3 < k) ∨ ((1 ≤ k ∧ k ≤ 3) ∧ q < 1) ∨ ((1 ≤ k ∧ k ≤ 3) ∧ 1 ≤ q ∧ t < q) ∨ ((1 ≤ k ∧ k ≤ 3) ∧ 1 ≤ q ∧ q ≤ t ∧ 256 < t) := by
    refine Decidable.byContradiction fun hn => h ?_
    refine ⟨?_, ?_, ?_, ?_, ?_⟩ <;> simp only <;> omega
  have hb : ∀ o, (w.alloc o).cell? ⟨10, 0, none⟩ = some (vE a) := fun o => kl he o
  clear h
  rcases hc with h1 | ⟨h1, h2⟩ | ⟨⟨h1, h2⟩, h3⟩ | ⟨⟨h1, h2⟩, h3, h4⟩ | ⟨⟨h1, h2⟩, h3, h4, h5⟩
  all_goals
    go_enter Tryd.func26, Tryd.ntmps26
    go_wp2
    go_ret
    exact ⟨rfl, ba (Below.refl _ _) _⟩
theorem reflegal_ok (w : World) (s : Sv) (h : okS s) : Calls Tryd.prog 12 #[vS s] w fun e w' => e = .returned (.bool true) ∧ Below w.heap.size w w' := by
  obtain ⟨k, q, t⟩ := s
  obtain ⟨h1, h2, h3, h4, h5⟩ := h
  simp only at h1 h2 h3 h4 h5
  have hk : k = 1 ∨ (¬ k = 1 ∧ k = 2) ∨ (¬ k = 1 ∧ ¬ k = 2 ∧ k = 3) := by omega
  rcases hk with rfl | ⟨_, rfl⟩ | ⟨_, _, rfl⟩
  all_goals
    clear h1 h2
    go_enter Tryd.func12, Tryd.ntmps12
    go_wp2
    go_ret
    exact ⟨rfl, ba (Below.refl _ _) _⟩
theorem reflegal_no (w : World) (s : Sv) (h : ¬ okS s) : Calls Tryd.prog 12 #[vS s] w fun e w' => e = .returned (.bool false) ∧ Below w.heap.size w w' := by
  obtain ⟨k, q, t⟩ := s
  have hc : (¬ k = 1 ∧ ¬ k = 2 ∧ ¬ k = 3) ∨ ((k = 1 ∨ k = 2 ∨ k = 3) ∧ (q < 1 ∨ (1 ≤ q ∧ t < q) ∨ (1 ≤ q ∧ q ≤ t ∧ ¬ t ≤ 256))) := by
    refine Decidable.byContradiction fun hn => h ?_
    refine ⟨?_, ?_, ?_, ?_, ?_⟩ <;> simp only <;> omega
  clear h
  rcases hc with ⟨h1, h2, h3⟩ | ⟨rfl | rfl | rfl, h4 | ⟨h3, h4⟩ | ⟨h3, h4, h5⟩⟩
  all_goals
    go_enter Tryd.func12, Tryd.ntmps12
    go_wp2
    go_ret
    exact ⟨rfl, ba (Below.refl _ _) _⟩
/-- A server that can be made. -/
def okN (s : Sv) (now : Int) : Prop := okS s ∧ 0 ≤ now ∧ now ≤ 1099511627776
theorem legal_yes (w : World) (s : Sv) (now : Int) (h : okN s now) : Calls Tryd.prog 11 #[vS s, .int .i64 now] w fun e w' => e = .returned (.bool true) ∧ Below w.heap.size w w' := by
  obtain ⟨hs, h0, h1⟩ := h
  have HO := mkHid hs
  clear hs
  obtain ⟨k, q, t⟩ := s
  go_enter Tryd.func11, Tryd.ntmps11
  go_wp2_with (go_at_call 12; refine (reflegal_ok _ (k, q, t) HO.out).mono ?_; rintro e w3 ⟨rfl, hb3⟩)
  go_ret
  exact ⟨rfl, (new_last hb3).2⟩
theorem legal_no (w : World) (s : Sv) (now : Int) (h : ¬ okN s now) : Calls Tryd.prog 11 #[vS s, .int .i64 now] w fun e w' => e = .returned (.bool false) ∧ Below w.heap.size w w' := by
  have hc : ¬ okS s ∨ (okS s ∧ now < 0) ∨ (okS s ∧ 0 ≤ now ∧ decide (now ≤ 1099511627776) = false) := by
    by_cases e : okS s
    · by_cases e2 : now < 0
      · exact .inr (.inl ⟨e, e2⟩)
      · exact .inr (.inr ⟨e, by omega, decide_eq_false fun hn => h ⟨e, by omega, hn⟩⟩)
    · exact .inl e
  clear h
  obtain ⟨k, q, t⟩ := s
  rcases hc with e | ⟨e, e1⟩ | ⟨e, e1, e2⟩
  · have HO := mkHid e
    clear e
    go_enter Tryd.func11, Tryd.ntmps11
    go_wp2_with (go_at_call 12; refine (reflegal_no _ (k, q, t) HO.out).mono ?_; rintro e w3 ⟨rfl, hb3⟩)
    go_ret
    exact ⟨rfl, (new_last hb3).2⟩
  all_goals
    have HO := mkHid e
    clear e
    go_enter Tryd.func11, Tryd.ntmps11
    go_wp2_with (go_at_call 12; refine (reflegal_ok _ (k, q, t) HO.out).mono ?_; rintro e w3 ⟨rfl, hb3⟩)
    go_ret
    exact ⟨rfl, (new_last hb3).2⟩
theorem new_none (w : World) (s : Sv) (now : Int) (a : Addr) (h : ¬ okS s) (he : w.cell? ⟨10, 0, none⟩ = some (vE a)) : Calls Tryd.prog 10 #[vS s, .int .i64 now] w fun e w' => e = .returned (.tuple #[.pointer none, vE a]) ∧ Below w.heap.size w w' := by
  have HO := mkHid h
  have HE : Hid (∀ o, (w.alloc o).cell? ⟨10, 0, none⟩ = some (vE a)) := mkHid (fun o => kl he o)
  clear h
  obtain ⟨k, q, t⟩ := s
  go_enter Tryd.func10, Tryd.ntmps10
  go_wp2_with (go_at_call 26; refine (check_no _ (k, q, t) HO.out a (HE.out _)).mono ?_; rintro e w3 ⟨rfl, hb3⟩)
  go_ret2
  exact ⟨rfl, (new_last hb3).2⟩
theorem new_far (w : World) (s : Sv) (now : Int) (a : Addr) (h : okS s) (hn : now < 0 ∨ (0 ≤ now ∧ 1099511627776 < now)) (he : w.cell? ⟨1, 0, none⟩ = some (vE a)) : Calls Tryd.prog 10 #[vS s, .int .i64 now] w fun e w' => e = .returned (.tuple #[.pointer none, vE a]) ∧ Below w.heap.size w w' := by
  have HO := mkHid h
  clear h
  obtain ⟨k, q, t⟩ := s
  rcases hn with h1 | ⟨h1, h2⟩
  all_goals
    go_enter Tryd.func10, Tryd.ntmps10
    go_wp2_with (go_at_call 26; refine (check_ok _ (k, q, t) HO.out).mono ?_; rintro e w3 ⟨rfl, hb3⟩; have he3 := kc he (new_last hb3).2; have HB3 := mkHid (new_last hb3).2; clear hb3)
    go_quiet (fail)
    go_wp2
    go_ret2
    exact ⟨rfl, ⟨HB3.out.os, HB3.out.tape, HB3.out.output, HB3.out.size, HB3.out.block⟩⟩
set_option maxHeartbeats 1600000 in
theorem new_ok (w : World) (s : Sv) (now : Int) (h : okN s now) : Calls Tryd.prog 10 #[vS s, .int .i64 now] w fun e w' => ∃ b, e = .returned (.tuple #[.pointer (some ⟨b, 0, none⟩), .nilIface]) ∧ w.heap.size ≤ b ∧ SB w' b s now false ⟨false, 0, now⟩ ∧ Below w.heap.size w w' := by
  obtain ⟨hs, h0, h1⟩ := h
  have HO := mkHid hs
  clear hs
  obtain ⟨k, q, t⟩ := s
  have HE : Hid (∀ w, Calls Tryd.prog 27 #[.int .i64 k] w fun e w' => e = .returned (.func (.func (ent (k, q, t))) #[] #[]) ∧ w' = w) := mkHid (fun w => entry_is w (k, q, t) HO.out)
  go_enter Tryd.func10, Tryd.ntmps10
  go_wp2_with (go_at_call 26; refine (check_ok _ (k, q, t) HO.out).mono ?_; rintro e w3 ⟨rfl, hb3⟩; obtain ⟨r0, hb⟩ := new_last hb3; have HB3 := mkHid hb; have c0 : w3.cell? ⟨w.heap.size, 0, none⟩ = some (.int .i64 k) := cell_of_block (i := 0) r0 rfl; have c1 : w3.cell? ⟨w.heap.size, 1, none⟩ = some (.int .i64 q) := cell_of_block (i := 1) r0 rfl; have c2 : w3.cell? ⟨w.heap.size, 2, none⟩ = some (.int .i64 t) := cell_of_block (i := 2) r0 rfl; clear hb3 r0 hb)
  obtain ⟨B, hB⟩ : ∃ B, B = w.heap.size := ⟨_, rfl⟩
  rw [← hB] at c0 c1 c2 ⊢
  have HBB := mkHid hB
  clear hB
  obtain ⟨E, hE⟩ : ∃ E, E = ent (k, q, t) := ⟨_, rfl⟩
  rw [← hE] at HE
  have HEE := mkHid hE
  clear hE
  go_region_held3 (fun w' => w'.cell? ⟨B, 0, none⟩ = some (.int .i64 k) ∧ w'.cell? ⟨B, 1, none⟩ = some (.int .i64 q) ∧ w'.cell? ⟨B, 2, none⟩ = some (.int .i64 t)) (go_keep) (first | (go_at_call 27; refine (HE.out _).mono ?_; rintro e w5 ⟨rfl, hw⟩; rw [hw]; clear hw))
  all_goals
    go_wp2
    go_ret2
    refine ⟨w3.heap.size, rfl, HB3.out.size, ?_, (HB3.out.alloc HB3.out.size _).drew⟩
    unfold SB
    rw [← HEE.out]
    exact heap_alloc_new w3 _
theorem results_cell1 {fn : Func} {p : Tmp} {ty : TypeId} (h : fn.results = #[.cell p ty]) (tmps : Array Value) (P : Program) (w : World) :
    (results fn tmps).run P w = ((asAddr (tmps.getD p undef)).run P w).andThen fun a w₁ => (loadVar ty a).run P w₁ := by
  simp only [results, h]
  simp [Sem.run_bind, Result.andThen]
theorem kind_leaves {W : World} {R : Nat} {a b c : Value} (hR : W.heap[R]? = some (.cells #[a, b, c] 23 (0, 0))) (tmps : Array Value) (h2 : tmps.getD 2 undef = .pointer (some ⟨R, 0, none⟩)) : (results Tryd.f23 tmps).run Tryd.prog W = .ok (.agg #[a, b, c]) W := by
  have hl := run_loadVar_row (P := Tryd.prog) W R 23 23 #[a, b, c] (0, 0) _ hR Tryd.underlying23 rfl size_server
  rw [results_cell1 (p := 2) (ty := 23) rfl, h2]
  simp [asAddr, Result.andThen, hl]
theorem kind_is (w : World) (b : Nat) (s : Sv) (m : Int) (wk : Bool) (x : Ss) (h : SB w b s m wk x) : Calls Tryd.prog 23 #[.pointer (some ⟨b, 0, none⟩)] w fun e w' => e = .returned (vS s) ∧ Below w.heap.size w w' := by
  have h2 := h.alloc (.cells #[.int .i64 0, .int .i64 0, .int .i64 0] 23)
  have c3 := h2.c3
  have c4 := h2.c4
  have c5 := h2.c5
  clear h h2
  go_enter Tryd.func23, Tryd.ntmps23
  go_wp2
  exact bodyPost_ret (kind_leaves (heap_alloc_new w _) _ rfl) rfl ⟨rfl, ba (Below.refl _ _) _⟩
end Go.Proofs.YtdkjoedebjinkaaDoor
