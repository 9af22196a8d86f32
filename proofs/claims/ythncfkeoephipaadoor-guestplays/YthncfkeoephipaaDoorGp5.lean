/- The law's asks: all that a guest tells. -/
import Derived.Test.YthncfkeoephipaaDoorGp4
namespace Go.Proofs.YthncfkeoephipaaDoor
open Go.ChangeShapes Go.WideShapes Go.ChangeAt Go.RowKit
attribute [local go_sem] World.cell?_alloc_some frozen_alloc_some

theorem own_left {w : World} {base : Nat} {e : TypeId} {g n cap : Nat} {js : List Jb} (h : w.ownsRow base e 5 (.slice (some ⟨g, 0, none⟩) n cap) n (js.flatMap cj)) {j : Nat} {x : Jb} (hx : js[j]? = some x) (v : Int) : (w.setCell ⟨g, j * 5 + 3, none⟩ (.int .i64 v)).ownsRow base e 5 (.slice (some ⟨g, 0, none⟩) n cap) n ((js.set j ⟨x.tk, x.rl, x.dl, v, x.dn⟩).flatMap cj) := by
  have a0 := own_put h (j * 5 + 3) (.int .i64 v)
  rw [fl_set cj 5 cj_len js j 3 x ⟨x.tk, x.rl, x.dl, v, x.dn⟩ _ hx (by omega) rfl] at a0
  exact a0
set_option maxHeartbeats 12800000 in
theorem asks_none (B0 D0 : Nat) (w : World) (b d : Nat) (p : Int) (tv jv tv' lv' jv' : Value) (ls : List Int) (s : Gt) (now : Int) (h : GB B0 w b p tv jv s) (hd : DG D0 w d p tv' lv' jv' ls s) (ok : s.Ok p) (hz : s.js.length = 0) : Calls Tryd.prog 17 #[.pointer (some ⟨b, 0, none⟩), .pointer (some ⟨d, 0, none⟩), .int .i64 now] w fun e w' => e = .returned (.bool true) ∧ Below w.heap.size w w' := by
  have HNX : Hid (∀ W, Below w.heap.size w W → Calls Tryd.prog 18 #[.pointer (some ⟨b, 0, none⟩)] W fun e w' => e = .returned (.tuple #[vJ j0, .bool false]) ∧ Below W.heap.size W w') := mkHid (fun W hW => next_none B0 W b p tv jv s (h.below hW) hz)
  have HDN : Hid (∀ W, Below w.heap.size w W → Calls Tryd.prog 26 #[.pointer (some ⟨d, 0, none⟩)] W fun e w' => e = .returned (.int .i64 (-1)) ∧ Below W.heap.size W w') := mkHid (fun W hW => dnext_is D0 W d p tv' lv' jv' ls s (hd.below hW) ok _ (by rw [if_pos hz]))
  have HWK : Hid (∀ W, Below w.heap.size w W → Calls Tryd.prog 23 #[.pointer (some ⟨b, 0, none⟩)] W fun e w' => e = .returned (.bool false) ∧ Below W.heap.size W w') := mkHid (fun W hW => by
    refine (work_is B0 W b p tv jv s (h.below hW)).mono ?_
    rintro e w' ⟨rfl, rfl⟩
    exact ⟨by rw [decide_eq_false (by omega)], Below.refl _ _⟩)
  obtain ⟨LN, hLN⟩ : ∃ LN : Int, LN = (lateN now s.js : Int) := ⟨_, rfl⟩
  have HLT : Hid (∀ W, Below w.heap.size w W → Calls Tryd.prog 27 #[.pointer (some ⟨b, 0, none⟩), .int .i64 now] W fun e w' => e = .returned (.int .i64 LN) ∧ Below W.heap.size W w') := mkHid (fun W hW => by rw [hLN]; exact late_is B0 W b p tv jv s now (h.below hW) ok.l)
  have HDL : Hid (∀ W, Below w.heap.size w W → Calls Tryd.prog 28 #[.pointer (some ⟨d, 0, none⟩), .int .i64 now] W fun e w' => e = .returned (.int .i64 LN) ∧ Below W.heap.size W w') := mkHid (fun W hW => by rw [hLN]; exact dlate_is D0 W d p tv' lv' jv' ls s now (hd.below hW) ok.l)
  have HJB : Hid (∀ W, Below w.heap.size w W → Calls Tryd.prog 19 #[.pointer (some ⟨b, 0, none⟩)] W fun r w' => ∃ a2 c2, r = .returned (.slice a2 s.js.length c2) ∧ w'.ownsRow W.heap.size 45 5 (.slice a2 s.js.length c2) s.js.length (s.js.flatMap cj) ∧ Below W.heap.size W w') := mkHid (fun W hW => jobs_is B0 W b p tv jv s (h.below hW) ok.l)
  have hl64 := ok.l
  have HD := mkHid hd
  obtain ⟨ja', jc', hjv', _⟩ := own_sh hd.jown
  subst hjv'
  have HDL2 : Hid (d < w.heap.size) := mkHid hd.lt
  clear h ok hLN hz
  clear hd
  go_enter Tryd.func17, Tryd.ntmps17
  go_wp2_with (first | (go_at_call 18; refine (HNX.out _ (Below.refl _ w)).mono ?_; rintro e w1 ⟨rfl, b1⟩; have HB1 : Hid (Below w.heap.size w (w1.alloc (.cells #[.int .i64 0, .int .i64 0, .int .i64 0, .int .i64 0, .int .i64 0] 45))) := mkHid (ba b1 _); have HX1 : Hid ((w1.alloc (.cells #[.int .i64 0, .int .i64 0, .int .i64 0, .int .i64 0, .int .i64 0] 45)).heap[w1.heap.size]? = some (.cells #[.int .i64 0, .int .i64 0, .int .i64 0, .int .i64 0, .int .i64 0] 45 (0, 0))) := mkHid (heap_alloc_new w1 _); clear b1) | (go_at_call 26; refine (HDN.out _ HB1.out).mono ?_; rintro e w2 ⟨rfl, b2⟩; have HB2 := mkHid (bt HB1.out b2); have HX2 := mkHid (blk_late HX1.out b2); clear b2))
  generalize w1.heap.size = X at *
  have z0 := cell_of_block (i := 0) HX2.out rfl
  have z1 := cell_of_block (i := 1) HX2.out rfl
  have z2 := cell_of_block (i := 2) HX2.out rfl
  have z3 := cell_of_block (i := 3) HX2.out rfl
  have z4 := cell_of_block (i := 4) HX2.out rfl
  have HD2 := mkHid (HD.out.below HB2.out)
  have y3 := HD2.out.c3
  refine wp_region_held_drew (S := fun w' => w'.cell? ⟨X, 0, none⟩ = some (.int .i64 0) ∧ w'.cell? ⟨X, 1, none⟩ = some (.int .i64 0) ∧ w'.cell? ⟨X, 2, none⟩ = some (.int .i64 0) ∧ w'.cell? ⟨X, 3, none⟩ = some (.int .i64 0) ∧ w'.cell? ⟨X, 4, none⟩ = some (.int .i64 0)) (by kernel_rfl) ⟨z0, z1, z2, z3, z4⟩ (fun hHeld => ?_)
  refine takeD 0 19 (.bool false) rfl rfl (by kernel_rfl) (by kernel_rfl) (by kernel_rfl) (fun _ _ _ h => h) (Or.inl ⟨by kernel_rfl, by intro w hSw; (try dsimp only at hSw); go_simp⟩) hHeld ?_
  simp only [List.set_cons_zero, List.set_cons_succ]
  refine takeD 1 20 (.int .i64 (-1)) rfl rfl (by kernel_rfl) (by kernel_rfl) (by kernel_rfl) (fun _ _ _ h => h) (Or.inl ⟨by kernel_rfl, by intro w hSw; (try dsimp only at hSw); go_simp⟩) hHeld ?_
  simp only [List.set_cons_zero, List.set_cons_succ]
  refine takeD 2 21 (.bool false) rfl rfl (by kernel_rfl) (by kernel_rfl) (by kernel_rfl) (fun _ _ _ h => h) (Or.inl ⟨by kernel_rfl, by intro w hSw; (try dsimp only at hSw); go_simp⟩) hHeld ?_
  simp only [List.set_cons_zero, List.set_cons_succ]
  refine takeD 3 22 (.bool false) rfl rfl (by kernel_rfl) (by kernel_rfl) (by kernel_rfl) (fun _ _ _ h => h) (Or.inl ⟨by kernel_rfl, by intro w hSw; (try dsimp only at hSw); go_simp⟩) hHeld ?_
  simp only [List.set_cons_zero, List.set_cons_succ]
  refine takeD 4 23 (.bool false) rfl rfl (by kernel_rfl) (by kernel_rfl) (by kernel_rfl) (fun _ _ _ h => h) (Or.inl ⟨by kernel_rfl, by intro w hSw; (try dsimp only at hSw); go_simp⟩) hHeld ?_
  simp only [List.set_cons_zero, List.set_cons_succ]
  refine takeD 5 24 (.pointer (some ⟨b, 0, none⟩)) rfl rfl (by kernel_rfl) (by kernel_rfl) (by kernel_rfl) (fun _ _ _ h => h) (Or.inl ⟨by kernel_rfl, by intro w hSw; (try dsimp only at hSw); go_simp⟩) hHeld ?_
  simp only [List.set_cons_zero, List.set_cons_succ]
  refine takeD 7 26 (.int .i64 (-1)) rfl rfl (by kernel_rfl) (by kernel_rfl) (by kernel_rfl) (fun _ _ _ h => h) (Or.inl ⟨by kernel_rfl, by intro w hSw; (try dsimp only at hSw); go_simp⟩) hHeld ?_
  simp only [List.set_cons_zero, List.set_cons_succ]
  refine takeD 8 27 (.bool false) rfl rfl (by kernel_rfl) (by kernel_rfl) (by kernel_rfl) (fun _ _ _ h => h) (Or.inl ⟨by kernel_rfl, by intro w hSw; (try dsimp only at hSw); go_simp⟩) hHeld ?_
  simp only [List.set_cons_zero, List.set_cons_succ]
  refine wpAnyH_ready (rs := [6]) (by kernel_rfl) (by simp) (AllReadyH.cons rfl (fun K hK => ?_) AllReadyH.nil)
  go_simp
  refine (HWK.out w2.drew (HB2.out.drew)).mono ?_
  rintro e w3 ⟨rfl, bw3⟩
  have fw3_0 : w3.cell? ⟨X, 0, none⟩ = some (.int .i64 0) := kc (show w2.drew.cell? _ = _ from z0) bw3
  have fw3_1 : w3.cell? ⟨X, 1, none⟩ = some (.int .i64 0) := kc (show w2.drew.cell? _ = _ from z1) bw3
  have fw3_2 : w3.cell? ⟨X, 2, none⟩ = some (.int .i64 0) := kc (show w2.drew.cell? _ = _ from z2) bw3
  have fw3_3 : w3.cell? ⟨X, 3, none⟩ = some (.int .i64 0) := kc (show w2.drew.cell? _ = _ from z3) bw3
  have fw3_4 : w3.cell? ⟨X, 4, none⟩ = some (.int .i64 0) := kc (show w2.drew.cell? _ = _ from z4) bw3
  have HB3 := mkHid (bt HB2.out.drew bw3)
  clear bw3 hHeld
  refine hK.out _ _ ⟨fw3_0, fw3_1, fw3_2, fw3_3, fw3_4⟩ (fun hHeld => ?_)
  clear hK K
  refine takeD 9 28 (.bool false) rfl rfl (by kernel_rfl) (by kernel_rfl) (by kernel_rfl) (fun _ _ _ h => h) (Or.inl ⟨by kernel_rfl, by intro w hSw; (try dsimp only at hSw); go_simp⟩) hHeld ?_
  simp only [List.set_cons_zero, List.set_cons_succ]
  refine takeD 10 29 (.bool false) rfl rfl (by kernel_rfl) (by kernel_rfl) (by kernel_rfl) (fun _ _ _ h => h) (Or.inl ⟨by kernel_rfl, by intro w hSw; (try dsimp only at hSw); go_simp⟩) hHeld ?_
  simp only [List.set_cons_zero, List.set_cons_succ]
  refine takeD 11 30 (.bool false) rfl rfl (by kernel_rfl) (by kernel_rfl) (by kernel_rfl) (fun _ _ _ h => h) (Or.inl ⟨by kernel_rfl, by intro w hSw; (try dsimp only at hSw); go_simp⟩) hHeld ?_
  simp only [List.set_cons_zero, List.set_cons_succ]
  refine takeD 12 31 (.int .i64 (-1)) rfl rfl (by kernel_rfl) (by kernel_rfl) (by kernel_rfl) (fun _ _ _ h => h) (Or.inl ⟨by kernel_rfl, by intro w hSw; (try dsimp only at hSw); go_simp⟩) hHeld ?_
  simp only [List.set_cons_zero, List.set_cons_succ]
  refine takeD 13 32 (.bool false) rfl rfl (by kernel_rfl) (by kernel_rfl) (by kernel_rfl) (fun _ _ _ h => h) (Or.inl ⟨by kernel_rfl, by intro w hSw; (try dsimp only at hSw); go_simp⟩) hHeld ?_
  simp only [List.set_cons_zero, List.set_cons_succ]
  refine takeD 14 33 (.bool false) rfl rfl (by kernel_rfl) (by kernel_rfl) (by kernel_rfl) (fun _ _ _ h => h) (Or.inl ⟨by kernel_rfl, by intro w hSw; (try dsimp only at hSw); go_simp⟩) hHeld ?_
  simp only [List.set_cons_zero, List.set_cons_succ]
  refine takeD 15 34 (undef) rfl rfl (by kernel_rfl) (by kernel_rfl) (by kernel_rfl) (fun _ _ _ h => h) (Or.inr ⟨by kernel_rfl, rfl⟩) hHeld ?_
  simp only [List.set_cons_zero, List.set_cons_succ]
  refine takeD 16 35 (undef) rfl rfl (by kernel_rfl) (by kernel_rfl) (by kernel_rfl) (fun _ _ _ h => h) (Or.inr ⟨by kernel_rfl, rfl⟩) hHeld ?_
  simp only [List.set_cons_zero, List.set_cons_succ]
  refine takeD 17 36 (undef) rfl rfl (by kernel_rfl) (by kernel_rfl) (by kernel_rfl) (fun _ _ _ h => h) (Or.inr ⟨by kernel_rfl, rfl⟩) hHeld ?_
  simp only [List.set_cons_zero, List.set_cons_succ]
  refine takeD 18 37 (undef) rfl rfl (by kernel_rfl) (by kernel_rfl) (by kernel_rfl) (fun _ _ _ h => h) (Or.inr ⟨by kernel_rfl, rfl⟩) hHeld ?_
  simp only [List.set_cons_zero, List.set_cons_succ]
  refine takeD 19 38 (undef) rfl rfl (by kernel_rfl) (by kernel_rfl) (by kernel_rfl) (fun _ _ _ h => h) (Or.inr ⟨by kernel_rfl, rfl⟩) hHeld ?_
  simp only [List.set_cons_zero, List.set_cons_succ]
  refine takeD 20 39 (undef) rfl rfl (by kernel_rfl) (by kernel_rfl) (by kernel_rfl) (fun _ _ _ h => h) (Or.inr ⟨by kernel_rfl, rfl⟩) hHeld ?_
  simp only [List.set_cons_zero, List.set_cons_succ]
  refine takeD 21 40 (undef) rfl rfl (by kernel_rfl) (by kernel_rfl) (by kernel_rfl) (fun _ _ _ h => h) (Or.inr ⟨by kernel_rfl, rfl⟩) hHeld ?_
  simp only [List.set_cons_zero, List.set_cons_succ]
  refine takeD 22 41 (undef) rfl rfl (by kernel_rfl) (by kernel_rfl) (by kernel_rfl) (fun _ _ _ h => h) (Or.inr ⟨by kernel_rfl, rfl⟩) hHeld ?_
  simp only [List.set_cons_zero, List.set_cons_succ]
  refine takeD 23 42 (undef) rfl rfl (by kernel_rfl) (by kernel_rfl) (by kernel_rfl) (fun _ _ _ h => h) (Or.inr ⟨by kernel_rfl, rfl⟩) hHeld ?_
  simp only [List.set_cons_zero, List.set_cons_succ]
  refine takeD 24 43 (.bool false) rfl rfl (by kernel_rfl) (by kernel_rfl) (by kernel_rfl) (fun _ _ _ h => h) (Or.inl ⟨by kernel_rfl, by intro w hSw; (try dsimp only at hSw); go_simp⟩) hHeld ?_
  simp only [List.set_cons_zero, List.set_cons_succ]
  refine takeD 25 44 (.bool false) rfl rfl (by kernel_rfl) (by kernel_rfl) (by kernel_rfl) (fun _ _ _ h => h) (Or.inl ⟨by kernel_rfl, by intro w hSw; (try dsimp only at hSw); go_simp⟩) hHeld ?_
  simp only [List.set_cons_zero, List.set_cons_succ]
  refine takeD 26 45 (.bool false) rfl rfl (by kernel_rfl) (by kernel_rfl) (by kernel_rfl) (fun _ _ _ h => h) (Or.inl ⟨by kernel_rfl, by intro w hSw; (try dsimp only at hSw); go_simp⟩) hHeld ?_
  simp only [List.set_cons_zero, List.set_cons_succ]
  refine takeD 27 46 (.int .i64 (-1)) rfl rfl (by kernel_rfl) (by kernel_rfl) (by kernel_rfl) (fun _ _ _ h => h) (Or.inl ⟨by kernel_rfl, by intro w hSw; (try dsimp only at hSw); go_simp⟩) hHeld ?_
  simp only [List.set_cons_zero, List.set_cons_succ]
  refine takeD 28 47 (.bool true) rfl rfl (by kernel_rfl) (by kernel_rfl) (by kernel_rfl) (fun _ _ _ h => h) (Or.inl ⟨by kernel_rfl, by intro w hSw; (try dsimp only at hSw); go_simp⟩) hHeld ?_
  simp only [List.set_cons_zero, List.set_cons_succ]
  refine takeD 29 48 (.bool true) rfl rfl (by kernel_rfl) (by kernel_rfl) (by kernel_rfl) (fun _ _ _ h => h) (Or.inl ⟨by kernel_rfl, by intro w hSw; (try dsimp only at hSw); go_simp⟩) hHeld ?_
  simp only [List.set_cons_zero, List.set_cons_succ]
  refine takeD 30 49 (.agg #[.int .i64 0, .int .i64 0, .int .i64 0, .int .i64 0, .int .i64 0]) rfl rfl (by kernel_rfl) (by kernel_rfl) (by kernel_rfl) (fun _ _ _ h => h) (Or.inl ⟨by kernel_rfl, by intro w hSw; (try dsimp only at hSw); go_simp⟩) hHeld ?_
  simp only [List.set_cons_zero, List.set_cons_succ]
  refine takeD 31 50 (.agg #[.int .i64 0, .int .i64 0, .int .i64 0, .int .i64 0, .int .i64 0]) rfl rfl (by kernel_rfl) (by kernel_rfl) (by kernel_rfl) (fun _ _ _ h => h) (Or.inl ⟨by kernel_rfl, by intro w hSw; (try dsimp only at hSw); go_simp⟩) hHeld ?_
  simp only [List.set_cons_zero, List.set_cons_succ]
  refine takeD 32 51 (.bool false) rfl rfl (by kernel_rfl) (by kernel_rfl) (by kernel_rfl) (fun _ _ _ h => h) (Or.inl ⟨by kernel_rfl, by intro w hSw; (try dsimp only at hSw); go_simp⟩) hHeld ?_
  simp only [List.set_cons_zero, List.set_cons_succ]
  refine takeD 33 52 (.bool false) rfl rfl (by kernel_rfl) (by kernel_rfl) (by kernel_rfl) (fun _ _ _ h => h) (Or.inl ⟨by kernel_rfl, by intro w hSw; (try dsimp only at hSw); go_simp⟩) hHeld ?_
  simp only [List.set_cons_zero, List.set_cons_succ]
  refine takeD 34 53 (.bool false) rfl rfl (by kernel_rfl) (by kernel_rfl) (by kernel_rfl) (fun _ _ _ h => h) (Or.inl ⟨by kernel_rfl, by intro w hSw; (try dsimp only at hSw); go_simp⟩) hHeld ?_
  simp only [List.set_cons_zero, List.set_cons_succ]
  refine takeD 35 54 (.bool false) rfl rfl (by kernel_rfl) (by kernel_rfl) (by kernel_rfl) (fun _ _ _ h => h) (Or.inl ⟨by kernel_rfl, by intro w hSw; (try dsimp only at hSw); go_simp⟩) hHeld ?_
  simp only [List.set_cons_zero, List.set_cons_succ]
  refine takeD 36 55 (.pointer (some ⟨b, 0, none⟩)) rfl rfl (by kernel_rfl) (by kernel_rfl) (by kernel_rfl) (fun _ _ _ h => h) (Or.inl ⟨by kernel_rfl, by intro w hSw; (try dsimp only at hSw); go_simp⟩) hHeld ?_
  simp only [List.set_cons_zero, List.set_cons_succ]
  refine takeD 37 56 (.int .i64 now) rfl rfl (by kernel_rfl) (by kernel_rfl) (by kernel_rfl) (fun _ _ _ h => h) (Or.inl ⟨by kernel_rfl, by intro w hSw; (try dsimp only at hSw); go_simp⟩) hHeld ?_
  simp only [List.set_cons_zero, List.set_cons_succ]
  refine takeD 39 58 (.pointer (some ⟨d, 0, none⟩)) rfl rfl (by kernel_rfl) (by kernel_rfl) (by kernel_rfl) (fun _ _ _ h => h) (Or.inl ⟨by kernel_rfl, by intro w hSw; (try dsimp only at hSw); go_simp⟩) hHeld ?_
  simp only [List.set_cons_zero, List.set_cons_succ]
  refine takeD 40 59 (.int .i64 now) rfl rfl (by kernel_rfl) (by kernel_rfl) (by kernel_rfl) (fun _ _ _ h => h) (Or.inl ⟨by kernel_rfl, by intro w hSw; (try dsimp only at hSw); go_simp⟩) hHeld ?_
  simp only [List.set_cons_zero, List.set_cons_succ]
  refine wpAnyH_ready (rs := [38]) (by kernel_rfl) (by simp) (AllReadyH.cons rfl (fun K hK => ?_) AllReadyH.nil)
  go_simp
  refine (HLT.out w3 HB3.out).mono ?_
  rintro e w4 ⟨rfl, bw4⟩
  have gw4_0 : w4.cell? ⟨X, 0, none⟩ = some (.int .i64 0) := kc fw3_0 bw4
  have gw4_1 : w4.cell? ⟨X, 1, none⟩ = some (.int .i64 0) := kc fw3_1 bw4
  have gw4_2 : w4.cell? ⟨X, 2, none⟩ = some (.int .i64 0) := kc fw3_2 bw4
  have gw4_3 : w4.cell? ⟨X, 3, none⟩ = some (.int .i64 0) := kc fw3_3 bw4
  have gw4_4 : w4.cell? ⟨X, 4, none⟩ = some (.int .i64 0) := kc fw3_4 bw4
  have HB4 := mkHid (bt HB3.out bw4)
  clear bw4 hHeld
  refine hK.out _ _ ⟨gw4_0, gw4_1, gw4_2, gw4_3, gw4_4⟩ (fun hHeld => ?_)
  clear hK K
  refine wpAnyH_ready (rs := [41]) (by kernel_rfl) (by simp) (AllReadyH.cons rfl (fun K hK => ?_) AllReadyH.nil)
  go_simp
  refine (HDL.out w4 HB4.out).mono ?_
  rintro e w5 ⟨rfl, bw5⟩
  have hw5_0 : w5.cell? ⟨X, 0, none⟩ = some (.int .i64 0) := kc gw4_0 bw5
  have hw5_1 : w5.cell? ⟨X, 1, none⟩ = some (.int .i64 0) := kc gw4_1 bw5
  have hw5_2 : w5.cell? ⟨X, 2, none⟩ = some (.int .i64 0) := kc gw4_2 bw5
  have hw5_3 : w5.cell? ⟨X, 3, none⟩ = some (.int .i64 0) := kc gw4_3 bw5
  have hw5_4 : w5.cell? ⟨X, 4, none⟩ = some (.int .i64 0) := kc gw4_4 bw5
  have HB5 := mkHid (bt HB4.out bw5)
  clear bw5 hHeld
  refine hK.out _ _ ⟨hw5_0, hw5_1, hw5_2, hw5_3, hw5_4⟩ (fun hHeld => ?_)
  clear hK K
  refine takeD 42 61 (.bool false) rfl rfl (by kernel_rfl) (by kernel_rfl) (by kernel_rfl) (fun _ _ _ h => h) (Or.inl ⟨by kernel_rfl, by intro w hSw; (try dsimp only at hSw); go_simp⟩) hHeld ?_
  simp only [List.set_cons_zero, List.set_cons_succ]
  refine takeD 43 62 (.bool false) rfl rfl (by kernel_rfl) (by kernel_rfl) (by kernel_rfl) (fun _ _ _ h => h) (Or.inl ⟨by kernel_rfl, by intro w hSw; (try dsimp only at hSw); go_simp⟩) hHeld ?_
  simp only [List.set_cons_zero, List.set_cons_succ]
  refine wpAnyH_done (by kernel_rfl) ?_ _
  clear hHeld
  clear fw3_0 fw3_1 fw3_2 fw3_3 fw3_4 gw4_0 gw4_1 gw4_2 gw4_3 gw4_4 hw5_0 hw5_1 hw5_2 hw5_3 hw5_4 z0 z1 z2 z3 z4 y3
  have y5 := (HD.out.below HB5.out).c3
  go_wp2_with (go_at_call 19; refine (HJB.out _ HB5.out).mono ?_; rintro e w6 ⟨la, lc, rfl, ho6, b6⟩; have HB6 := mkHid (bt HB5.out b6); have HO6 := mkHid ho6; have HS6 : Hid (w.heap.size ≤ w5.heap.size) := mkHid HB5.out.size; have y6 := kc y5 b6; clear ho6 b6)
  clear y5 y6
  go_loopw [75] (fun iv wr => ∃ (k : Nat) (L : List Jb), iv = .int .i64 (k : Int) ∧ k ≤ s.js.length ∧ Hid (wr.ownsRow w5.heap.size 45 5 (.slice la s.js.length lc) s.js.length (L.flatMap cj)) ∧ Hid (L.length = s.js.length ∧ ∀ i, k ≤ i → L[i]? = s.js[i]?) ∧ Hid (Below w.heap.size w wr)) (fun iv _ => s.js.length - (intOf iv).toNat)
  case atStart => exact ⟨0, s.js, rfl, Nat.zero_le _, HO6, mkHid ⟨rfl, fun _ _ => rfl⟩, HB6⟩
  case round =>
    clear HO6 HB6
    obtain ⟨k, L, rfl, hk, HO, HL, HB⟩ := hrel
    by_cases hlt : k < s.js.length
    · obtain ⟨x, hx⟩ : ∃ x, s.js[k]? = some x := ⟨_, List.getElem?_eq_getElem hlt⟩
      have hLx : L[k]? = some x := by rw [HL.out.2 k (Nat.le_refl _)]; exact hx
      have ho' : wr.ownsRow w5.heap.size 45 5 (.slice la s.js.length lc) L.length (L.flatMap cj) := by rw [HL.out.1]; exact HO.out
      obtain ⟨gl, cl, el, ql⟩ := own_job ho' hLx
      rw [HL.out.1] at el
      simp only [Value.slice.injEq] at el
      obtain ⟨rfl, _, rfl⟩ := el
      have HDw := mkHid (HD.out.below HB.out)
      obtain ⟨gd, cd, ed, qd⟩ := own_job HDw.out.jown hx
      simp only [Value.slice.injEq] at ed
      obtain ⟨rfl, _, rfl⟩ := ed
      obtain ⟨l0, l1, l2, l3, l4, lf⟩ := ql
      obtain ⟨d0, d1, d2, d3, d4, _⟩ := qd
      have y7 := HDw.out.c3
      have f3 := lf (k * 5 + 3)
      have hki : (k : Int) < s.js.length := by omega
      have HX := mkHid (And.intro hLx (HO.out.lt gl rfl).1)
      have HOL := mkHid ho'
      clear hx hLx ho' lf
      obtain ⟨tx, rx, dx, lx, ex⟩ := x
      simp only at l0 l1 l2 l3 l4 d0 d1 d2 d3 d4
      go_wp2
      go_quiet (fail)
      obtain ⟨W8, hW8⟩ : ∃ W8, W8 = wr.drewN nq := ⟨_, rfl⟩
      have m3 : W8.cell? ⟨gl, k * 5 + 3, none⟩ = some (.int .i64 lx) := by rw [hW8]; exact l3
      have mf : W8.frozen? ⟨gl, k * 5 + 3, none⟩ = false := by rw [hW8]; exact f3
      have HO8 : Hid (W8.ownsRow w5.heap.size 45 5 (.slice (some ⟨gl, 0, none⟩) s.js.length lc) s.js.length (L.flatMap cj)) := mkHid (by rw [hW8]; exact HO.out)
      have HB8 : Hid (Below w.heap.size w W8) := mkHid (by rw [hW8]; exact below_drewN HB.out _)
      rw [← hW8]
      clear hW8 l0 l1 l2 l3 l4 d0 d1 d2 d3 d4 y7 f3
      go_wp2
      go_roundw
      case rel => exact ⟨k + 1, L.set k ⟨tx, rx, dx, -1, ex⟩, by go_num, by omega, mkHid (own_left HO8.out HX.out.1 (-1)), mkHid ⟨by rw [List.length_set]; exact HL.out.1, fun i hi => by rw [List.getElem?_set_ne (by omega)]; exact HL.out.2 i (by omega)⟩, mkHid (HB8.out.trans ((Kept.setCell (F := fun q => q = gl) W8 (p := ⟨gl, k * 5 + 3, none⟩) rfl _).below (fun q e => by have := HX.out.2; have := HS6.out; omega) HB8.out.size))⟩
      case measure => simp [intOf]; omega
    · obtain rfl : k = s.js.length := by omega
      go_wp2
      go_ret
      exact ⟨rfl, HB.out⟩
set_option maxHeartbeats 12800000 in
theorem asks_some (B0 D0 : Nat) (w : World) (b d : Nat) (p : Int) (tv jv tv' lv' jv' : Value) (ls : List Int) (s : Gt) (now : Int) (h : GB B0 w b p tv jv s) (hd : DG D0 w d p tv' lv' jv' ls s) (ok : s.Ok p) (j : Jb) (hj : s.js[nx p s.ts s.js]? = some j) : Calls Tryd.prog 17 #[.pointer (some ⟨b, 0, none⟩), .pointer (some ⟨d, 0, none⟩), .int .i64 now] w fun e w' => e = .returned (.bool true) ∧ Below w.heap.size w w' := by
  have hn := (List.getElem?_eq_some_iff.mp hj).1
  have hl0 : ¬ s.js.length = 0 := by omega
  obtain ⟨N, hN⟩ : ∃ N, N = nx p s.ts s.js := ⟨_, rfl⟩
  have HNX : Hid (∀ W, Below w.heap.size w W → Calls Tryd.prog 18 #[.pointer (some ⟨b, 0, none⟩)] W fun e w' => e = .returned (.tuple #[vJ j, .bool true]) ∧ Below W.heap.size W w') := mkHid (fun W hW => next_some B0 W b p tv jv s j (h.below hW) ok hj)
  have HDN : Hid (∀ W, Below w.heap.size w W → Calls Tryd.prog 26 #[.pointer (some ⟨d, 0, none⟩)] W fun e w' => e = .returned (.int .i64 (N : Int)) ∧ Below W.heap.size W w') := mkHid (fun W hW => dnext_is D0 W d p tv' lv' jv' ls s (hd.below hW) ok _ (by rw [if_neg hl0, hN]))
  have HWK : Hid (∀ W, Below w.heap.size w W → Calls Tryd.prog 23 #[.pointer (some ⟨b, 0, none⟩)] W fun e w' => e = .returned (.bool true) ∧ Below W.heap.size W w') := mkHid (fun W hW => by
    refine (work_is B0 W b p tv jv s (h.below hW)).mono ?_
    rintro e w' ⟨rfl, rfl⟩
    exact ⟨by rw [decide_eq_true (by omega)], Below.refl _ _⟩)
  obtain ⟨LN, hLN⟩ : ∃ LN : Int, LN = (lateN now s.js : Int) := ⟨_, rfl⟩
  have HLT : Hid (∀ W, Below w.heap.size w W → Calls Tryd.prog 27 #[.pointer (some ⟨b, 0, none⟩), .int .i64 now] W fun e w' => e = .returned (.int .i64 LN) ∧ Below W.heap.size W w') := mkHid (fun W hW => by rw [hLN]; exact late_is B0 W b p tv jv s now (h.below hW) ok.l)
  have HDL : Hid (∀ W, Below w.heap.size w W → Calls Tryd.prog 28 #[.pointer (some ⟨d, 0, none⟩), .int .i64 now] W fun e w' => e = .returned (.int .i64 LN) ∧ Below W.heap.size W w') := mkHid (fun W hW => by rw [hLN]; exact dlate_is D0 W d p tv' lv' jv' ls s now (hd.below hW) ok.l)
  have HJB : Hid (∀ W, Below w.heap.size w W → Calls Tryd.prog 19 #[.pointer (some ⟨b, 0, none⟩)] W fun r w' => ∃ a2 c2, r = .returned (.slice a2 s.js.length c2) ∧ w'.ownsRow W.heap.size 45 5 (.slice a2 s.js.length c2) s.js.length (s.js.flatMap cj) ∧ Below W.heap.size W w') := mkHid (fun W hW => jobs_is B0 W b p tv jv s (h.below hW) ok.l)
  have hl64 := ok.l
  have HD := mkHid hd
  obtain ⟨ja', jc', hjv', _⟩ := own_sh hd.jown
  subst hjv'
  have HDL2 : Hid (d < w.heap.size) := mkHid hd.lt
  clear h ok hLN 
  rw [← hN] at hj hn
  have HJ := mkHid hj
  have hNi : (N : Int) < s.js.length := by omega
  have hN0 : (0 : Int) ≤ (N : Int) := by omega
  have hNn : decide ((N : Int) < 0) = false := decide_eq_false (by omega)
  clear hj hN
  obtain ⟨tj, rj, dj, lj, nj⟩ := j
  clear hd
  go_enter Tryd.func17, Tryd.ntmps17
  go_wp2_with (first | (go_at_call 18; refine (HNX.out _ (Below.refl _ w)).mono ?_; rintro e w1 ⟨rfl, b1⟩; have HB1 : Hid (Below w.heap.size w (w1.alloc (.cells #[.int .i64 (tj : Int), .int .i64 rj, .int .i64 dj, .int .i64 lj, .int .i64 nj] 45))) := mkHid (ba b1 _); have HX1 : Hid ((w1.alloc (.cells #[.int .i64 (tj : Int), .int .i64 rj, .int .i64 dj, .int .i64 lj, .int .i64 nj] 45)).heap[w1.heap.size]? = some (.cells #[.int .i64 (tj : Int), .int .i64 rj, .int .i64 dj, .int .i64 lj, .int .i64 nj] 45 (0, 0))) := mkHid (heap_alloc_new w1 _); clear b1) | (go_at_call 26; refine (HDN.out _ HB1.out).mono ?_; rintro e w2 ⟨rfl, b2⟩; have HB2 := mkHid (bt HB1.out b2); have HX2 := mkHid (blk_late HX1.out b2); clear b2))
  generalize w1.heap.size = X at *
  have z0 := cell_of_block (i := 0) HX2.out rfl
  have z1 := cell_of_block (i := 1) HX2.out rfl
  have z2 := cell_of_block (i := 2) HX2.out rfl
  have z3 := cell_of_block (i := 3) HX2.out rfl
  have z4 := cell_of_block (i := 4) HX2.out rfl
  have HD2 := mkHid (HD.out.below HB2.out)
  have y3 := HD2.out.c3
  obtain ⟨g', c', eg', qx⟩ := own_job HD2.out.jown HJ.out
  simp only [Value.slice.injEq] at eg'
  obtain ⟨rfl, _, rfl⟩ := eg'
  obtain ⟨x0, x1, x2, x3, x4, _⟩ := qx
  simp only at x0 x1 x2 x3 x4
  refine wp_region_held_drew (S := fun w' => w'.cell? ⟨X, 0, none⟩ = some (.int .i64 (tj : Int)) ∧ w'.cell? ⟨X, 1, none⟩ = some (.int .i64 rj) ∧ w'.cell? ⟨X, 2, none⟩ = some (.int .i64 dj) ∧ w'.cell? ⟨X, 3, none⟩ = some (.int .i64 lj) ∧ w'.cell? ⟨X, 4, none⟩ = some (.int .i64 nj) ∧ w'.cell? ⟨d, 3, none⟩ = some ((.slice (some ⟨g', 0, none⟩) s.js.length jc')) ∧ w'.cell? ⟨g', N * 5, none⟩ = some (.int .i64 (tj : Int)) ∧ w'.cell? ⟨g', N * 5 + 1, none⟩ = some (.int .i64 rj) ∧ w'.cell? ⟨g', N * 5 + 2, none⟩ = some (.int .i64 dj) ∧ w'.cell? ⟨g', N * 5 + 3, none⟩ = some (.int .i64 lj) ∧ w'.cell? ⟨g', N * 5 + 4, none⟩ = some (.int .i64 nj)) (by kernel_rfl) ⟨z0, z1, z2, z3, z4, y3, x0, x1, x2, x3, x4⟩ (fun hHeld => ?_)
  refine takeD 0 19 (.bool true) rfl rfl (by kernel_rfl) (by kernel_rfl) (by kernel_rfl) (fun _ _ _ h => h) (Or.inl ⟨by kernel_rfl, by intro w hSw; (try dsimp only at hSw); go_simp⟩) hHeld ?_
  simp only [List.set_cons_zero, List.set_cons_succ]
  refine takeD 1 20 (.int .i64 (N : Int)) rfl rfl (by kernel_rfl) (by kernel_rfl) (by kernel_rfl) (fun _ _ _ h => h) (Or.inl ⟨by kernel_rfl, by intro w hSw; (try dsimp only at hSw); go_simp⟩) hHeld ?_
  simp only [List.set_cons_zero, List.set_cons_succ]
  refine takeD 2 21 (.bool true) rfl rfl (by kernel_rfl) (by kernel_rfl) (by kernel_rfl) (fun _ _ _ h => h) (Or.inl ⟨by kernel_rfl, by intro w hSw; (try dsimp only at hSw); go_simp⟩) hHeld ?_
  simp only [List.set_cons_zero, List.set_cons_succ]
  refine takeD 3 22 (.bool false) rfl rfl (by kernel_rfl) (by kernel_rfl) (by kernel_rfl) (fun _ _ _ h => h) (Or.inl ⟨by kernel_rfl, by intro w hSw; (try dsimp only at hSw); go_simp⟩) hHeld ?_
  simp only [List.set_cons_zero, List.set_cons_succ]
  refine takeD 4 23 (.bool false) rfl rfl (by kernel_rfl) (by kernel_rfl) (by kernel_rfl) (fun _ _ _ h => h) (Or.inl ⟨by kernel_rfl, by intro w hSw; (try dsimp only at hSw); go_simp⟩) hHeld ?_
  simp only [List.set_cons_zero, List.set_cons_succ]
  refine takeD 5 24 (.pointer (some ⟨b, 0, none⟩)) rfl rfl (by kernel_rfl) (by kernel_rfl) (by kernel_rfl) (fun _ _ _ h => h) (Or.inl ⟨by kernel_rfl, by intro w hSw; (try dsimp only at hSw); go_simp⟩) hHeld ?_
  simp only [List.set_cons_zero, List.set_cons_succ]
  refine takeD 7 26 (.int .i64 (N : Int)) rfl rfl (by kernel_rfl) (by kernel_rfl) (by kernel_rfl) (fun _ _ _ h => h) (Or.inl ⟨by kernel_rfl, by intro w hSw; (try dsimp only at hSw); go_simp⟩) hHeld ?_
  simp only [List.set_cons_zero, List.set_cons_succ]
  refine takeD 8 27 (.bool true) rfl rfl (by kernel_rfl) (by kernel_rfl) (by kernel_rfl) (fun _ _ _ h => h) (Or.inl ⟨by kernel_rfl, by intro w hSw; (try dsimp only at hSw); go_simp⟩) hHeld ?_
  simp only [List.set_cons_zero, List.set_cons_succ]
  refine wpAnyH_ready (rs := [6]) (by kernel_rfl) (by simp) (AllReadyH.cons rfl (fun K hK => ?_) AllReadyH.nil)
  go_simp
  refine (HWK.out w2.drew (HB2.out.drew)).mono ?_
  rintro e w3 ⟨rfl, bw3⟩
  have fw3_0 : w3.cell? ⟨X, 0, none⟩ = some (.int .i64 (tj : Int)) := kc (show w2.drew.cell? _ = _ from z0) bw3
  have fw3_1 : w3.cell? ⟨X, 1, none⟩ = some (.int .i64 rj) := kc (show w2.drew.cell? _ = _ from z1) bw3
  have fw3_2 : w3.cell? ⟨X, 2, none⟩ = some (.int .i64 dj) := kc (show w2.drew.cell? _ = _ from z2) bw3
  have fw3_3 : w3.cell? ⟨X, 3, none⟩ = some (.int .i64 lj) := kc (show w2.drew.cell? _ = _ from z3) bw3
  have fw3_4 : w3.cell? ⟨X, 4, none⟩ = some (.int .i64 nj) := kc (show w2.drew.cell? _ = _ from z4) bw3
  have fw3_5 : w3.cell? ⟨d, 3, none⟩ = some ((.slice (some ⟨g', 0, none⟩) s.js.length jc')) := kc (show w2.drew.cell? _ = _ from y3) bw3
  have fw3_6 : w3.cell? ⟨g', N * 5, none⟩ = some (.int .i64 (tj : Int)) := kc (show w2.drew.cell? _ = _ from x0) bw3
  have fw3_7 : w3.cell? ⟨g', N * 5 + 1, none⟩ = some (.int .i64 rj) := kc (show w2.drew.cell? _ = _ from x1) bw3
  have fw3_8 : w3.cell? ⟨g', N * 5 + 2, none⟩ = some (.int .i64 dj) := kc (show w2.drew.cell? _ = _ from x2) bw3
  have fw3_9 : w3.cell? ⟨g', N * 5 + 3, none⟩ = some (.int .i64 lj) := kc (show w2.drew.cell? _ = _ from x3) bw3
  have fw3_10 : w3.cell? ⟨g', N * 5 + 4, none⟩ = some (.int .i64 nj) := kc (show w2.drew.cell? _ = _ from x4) bw3
  have HB3 := mkHid (bt HB2.out.drew bw3)
  clear bw3 hHeld
  refine hK.out _ _ ⟨fw3_0, fw3_1, fw3_2, fw3_3, fw3_4, fw3_5, fw3_6, fw3_7, fw3_8, fw3_9, fw3_10⟩ (fun hHeld => ?_)
  clear hK K
  refine takeD 9 28 (.bool false) rfl rfl (by kernel_rfl) (by kernel_rfl) (by kernel_rfl) (fun _ _ _ h => h) (Or.inl ⟨by kernel_rfl, by intro w hSw; (try dsimp only at hSw); go_simp⟩) hHeld ?_
  simp only [List.set_cons_zero, List.set_cons_succ]
  refine takeD 10 29 (.bool false) rfl rfl (by kernel_rfl) (by kernel_rfl) (by kernel_rfl) (fun _ _ _ h => h) (Or.inl ⟨by kernel_rfl, by intro w hSw; (try dsimp only at hSw); go_simp⟩) hHeld ?_
  simp only [List.set_cons_zero, List.set_cons_succ]
  refine takeD 11 30 (.bool false) rfl rfl (by kernel_rfl) (by kernel_rfl) (by kernel_rfl) (fun _ _ _ h => h) (Or.inl ⟨by kernel_rfl, by intro w hSw; (try dsimp only at hSw); go_simp⟩) hHeld ?_
  simp only [List.set_cons_zero, List.set_cons_succ]
  refine takeD 12 31 (.int .i64 (N : Int)) rfl rfl (by kernel_rfl) (by kernel_rfl) (by kernel_rfl) (fun _ _ _ h => h) (Or.inl ⟨by kernel_rfl, by intro w hSw; (try dsimp only at hSw); go_simp⟩) hHeld ?_
  simp only [List.set_cons_zero, List.set_cons_succ]
  refine takeD 13 32 (.bool true) rfl rfl (by kernel_rfl) (by kernel_rfl) (by kernel_rfl) (fun _ _ _ h => h) (Or.inl ⟨by kernel_rfl, by intro w hSw; (try dsimp only at hSw); go_simp⟩) hHeld ?_
  simp only [List.set_cons_zero, List.set_cons_succ]
  refine takeD 14 33 (.bool true) rfl rfl (by kernel_rfl) (by kernel_rfl) (by kernel_rfl) (fun _ _ _ h => h) (Or.inl ⟨by kernel_rfl, by intro w hSw; (try dsimp only at hSw); go_simp⟩) hHeld ?_
  simp only [List.set_cons_zero, List.set_cons_succ]
  refine takeD 15 34 (.agg #[.int .i64 (tj : Int), .int .i64 rj, .int .i64 dj, .int .i64 lj, .int .i64 nj]) rfl rfl (by kernel_rfl) (by kernel_rfl) (by kernel_rfl) (fun _ _ _ h => h) (Or.inl ⟨by kernel_rfl, by intro w hSw; (try dsimp only at hSw); go_simp⟩) hHeld ?_
  simp only [List.set_cons_zero, List.set_cons_succ]
  refine takeD 16 35 (.pointer (some ⟨d, 0, none⟩)) rfl rfl (by kernel_rfl) (by kernel_rfl) (by kernel_rfl) (fun _ _ _ h => h) (Or.inl ⟨by kernel_rfl, by intro w hSw; (try dsimp only at hSw); go_simp⟩) hHeld ?_
  simp only [List.set_cons_zero, List.set_cons_succ]
  refine takeD 17 36 (.pointer (some ⟨d, 0, none⟩)) rfl rfl (by kernel_rfl) (by kernel_rfl) (by kernel_rfl) (fun _ _ _ h => h) (Or.inl ⟨by kernel_rfl, by intro w hSw; (try dsimp only at hSw); go_simp⟩) hHeld ?_
  simp only [List.set_cons_zero, List.set_cons_succ]
  refine takeD 18 37 (.pointer (some ⟨d, 3, none⟩)) rfl rfl (by kernel_rfl) (by kernel_rfl) (by kernel_rfl) (fun _ _ _ h => h) (Or.inl ⟨by kernel_rfl, by intro w hSw; (try dsimp only at hSw); go_simp⟩) hHeld ?_
  simp only [List.set_cons_zero, List.set_cons_succ]
  refine takeD 19 38 ((.slice (some ⟨g', 0, none⟩) s.js.length jc')) rfl rfl (by kernel_rfl) (by kernel_rfl) (by kernel_rfl) (fun _ _ _ h => h) (Or.inl ⟨by kernel_rfl, by intro w hSw; (try dsimp only at hSw); go_simp⟩) hHeld ?_
  simp only [List.set_cons_zero, List.set_cons_succ]
  refine takeD 20 39 (.int .i64 (N : Int)) rfl rfl (by kernel_rfl) (by kernel_rfl) (by kernel_rfl) (fun _ _ _ h => h) (Or.inl ⟨by kernel_rfl, by intro w hSw; (try dsimp only at hSw); go_simp⟩) hHeld ?_
  simp only [List.set_cons_zero, List.set_cons_succ]
  refine takeD 21 40 ((.pointer (some ⟨g', N * 5, none⟩))) rfl rfl (by kernel_rfl) (by kernel_rfl) (by kernel_rfl) (fun _ _ _ h => h) (Or.inl ⟨by kernel_rfl, by intro w hSw; (try dsimp only at hSw); go_simp⟩) hHeld ?_
  simp only [List.set_cons_zero, List.set_cons_succ]
  refine takeD 22 41 (.agg #[.int .i64 (tj : Int), .int .i64 rj, .int .i64 dj, .int .i64 lj, .int .i64 nj]) rfl rfl (by kernel_rfl) (by kernel_rfl) (by kernel_rfl) (fun _ _ _ h => h) (Or.inl ⟨by kernel_rfl, by intro w hSw; (try dsimp only at hSw); go_simp⟩) hHeld ?_
  simp only [List.set_cons_zero, List.set_cons_succ]
  refine takeD 23 42 (.bool false) rfl rfl (by kernel_rfl) (by kernel_rfl) (by kernel_rfl) (fun _ _ _ h => h) (Or.inl ⟨by kernel_rfl, by intro w hSw; (try dsimp only at hSw); go_simp⟩) hHeld ?_
  simp only [List.set_cons_zero, List.set_cons_succ]
  refine takeD 24 43 (.bool false) rfl rfl (by kernel_rfl) (by kernel_rfl) (by kernel_rfl) (fun _ _ _ h => h) (Or.inl ⟨by kernel_rfl, by intro w hSw; (try dsimp only at hSw); go_simp⟩) hHeld ?_
  simp only [List.set_cons_zero, List.set_cons_succ]
  refine takeD 25 44 (.bool false) rfl rfl (by kernel_rfl) (by kernel_rfl) (by kernel_rfl) (fun _ _ _ h => h) (Or.inl ⟨by kernel_rfl, by intro w hSw; (try dsimp only at hSw); go_simp⟩) hHeld ?_
  simp only [List.set_cons_zero, List.set_cons_succ]
  refine takeD 26 45 (.bool false) rfl rfl (by kernel_rfl) (by kernel_rfl) (by kernel_rfl) (fun _ _ _ h => h) (Or.inl ⟨by kernel_rfl, by intro w hSw; (try dsimp only at hSw); go_simp⟩) hHeld ?_
  simp only [List.set_cons_zero, List.set_cons_succ]
  refine takeD 27 46 (.int .i64 (N : Int)) rfl rfl (by kernel_rfl) (by kernel_rfl) (by kernel_rfl) (fun _ _ _ h => h) (Or.inl ⟨by kernel_rfl, by intro w hSw; (try dsimp only at hSw); go_simp⟩) hHeld ?_
  simp only [List.set_cons_zero, List.set_cons_succ]
  refine takeD 28 47 (.bool false) rfl rfl (by kernel_rfl) (by kernel_rfl) (by kernel_rfl) (fun _ _ _ h => h) (Or.inl ⟨by kernel_rfl, by intro w hSw; (try dsimp only at hSw); go_simp⟩) hHeld ?_
  simp only [List.set_cons_zero, List.set_cons_succ]
  refine takeD 29 48 (.bool false) rfl rfl (by kernel_rfl) (by kernel_rfl) (by kernel_rfl) (fun _ _ _ h => h) (Or.inl ⟨by kernel_rfl, by intro w hSw; (try dsimp only at hSw); go_simp⟩) hHeld ?_
  simp only [List.set_cons_zero, List.set_cons_succ]
  refine takeD 30 49 (undef) rfl rfl (by kernel_rfl) (by kernel_rfl) (by kernel_rfl) (fun _ _ _ h => h) (Or.inr ⟨by kernel_rfl, rfl⟩) hHeld ?_
  simp only [List.set_cons_zero, List.set_cons_succ]
  refine takeD 31 50 (undef) rfl rfl (by kernel_rfl) (by kernel_rfl) (by kernel_rfl) (fun _ _ _ h => h) (Or.inr ⟨by kernel_rfl, rfl⟩) hHeld ?_
  simp only [List.set_cons_zero, List.set_cons_succ]
  refine takeD 32 51 (undef) rfl rfl (by kernel_rfl) (by kernel_rfl) (by kernel_rfl) (fun _ _ _ h => h) (Or.inr ⟨by kernel_rfl, rfl⟩) hHeld ?_
  simp only [List.set_cons_zero, List.set_cons_succ]
  refine takeD 33 52 (.bool false) rfl rfl (by kernel_rfl) (by kernel_rfl) (by kernel_rfl) (fun _ _ _ h => h) (Or.inl ⟨by kernel_rfl, by intro w hSw; (try dsimp only at hSw); go_simp⟩) hHeld ?_
  simp only [List.set_cons_zero, List.set_cons_succ]
  refine takeD 34 53 (.bool false) rfl rfl (by kernel_rfl) (by kernel_rfl) (by kernel_rfl) (fun _ _ _ h => h) (Or.inl ⟨by kernel_rfl, by intro w hSw; (try dsimp only at hSw); go_simp⟩) hHeld ?_
  simp only [List.set_cons_zero, List.set_cons_succ]
  refine takeD 35 54 (.bool false) rfl rfl (by kernel_rfl) (by kernel_rfl) (by kernel_rfl) (fun _ _ _ h => h) (Or.inl ⟨by kernel_rfl, by intro w hSw; (try dsimp only at hSw); go_simp⟩) hHeld ?_
  simp only [List.set_cons_zero, List.set_cons_succ]
  refine takeD 36 55 (.pointer (some ⟨b, 0, none⟩)) rfl rfl (by kernel_rfl) (by kernel_rfl) (by kernel_rfl) (fun _ _ _ h => h) (Or.inl ⟨by kernel_rfl, by intro w hSw; (try dsimp only at hSw); go_simp⟩) hHeld ?_
  simp only [List.set_cons_zero, List.set_cons_succ]
  refine takeD 37 56 (.int .i64 now) rfl rfl (by kernel_rfl) (by kernel_rfl) (by kernel_rfl) (fun _ _ _ h => h) (Or.inl ⟨by kernel_rfl, by intro w hSw; (try dsimp only at hSw); go_simp⟩) hHeld ?_
  simp only [List.set_cons_zero, List.set_cons_succ]
  refine takeD 39 58 (.pointer (some ⟨d, 0, none⟩)) rfl rfl (by kernel_rfl) (by kernel_rfl) (by kernel_rfl) (fun _ _ _ h => h) (Or.inl ⟨by kernel_rfl, by intro w hSw; (try dsimp only at hSw); go_simp⟩) hHeld ?_
  simp only [List.set_cons_zero, List.set_cons_succ]
  refine takeD 40 59 (.int .i64 now) rfl rfl (by kernel_rfl) (by kernel_rfl) (by kernel_rfl) (fun _ _ _ h => h) (Or.inl ⟨by kernel_rfl, by intro w hSw; (try dsimp only at hSw); go_simp⟩) hHeld ?_
  simp only [List.set_cons_zero, List.set_cons_succ]
  refine wpAnyH_ready (rs := [38]) (by kernel_rfl) (by simp) (AllReadyH.cons rfl (fun K hK => ?_) AllReadyH.nil)
  go_simp
  refine (HLT.out w3 HB3.out).mono ?_
  rintro e w4 ⟨rfl, bw4⟩
  have gw4_0 : w4.cell? ⟨X, 0, none⟩ = some (.int .i64 (tj : Int)) := kc fw3_0 bw4
  have gw4_1 : w4.cell? ⟨X, 1, none⟩ = some (.int .i64 rj) := kc fw3_1 bw4
  have gw4_2 : w4.cell? ⟨X, 2, none⟩ = some (.int .i64 dj) := kc fw3_2 bw4
  have gw4_3 : w4.cell? ⟨X, 3, none⟩ = some (.int .i64 lj) := kc fw3_3 bw4
  have gw4_4 : w4.cell? ⟨X, 4, none⟩ = some (.int .i64 nj) := kc fw3_4 bw4
  have gw4_5 : w4.cell? ⟨d, 3, none⟩ = some ((.slice (some ⟨g', 0, none⟩) s.js.length jc')) := kc fw3_5 bw4
  have gw4_6 : w4.cell? ⟨g', N * 5, none⟩ = some (.int .i64 (tj : Int)) := kc fw3_6 bw4
  have gw4_7 : w4.cell? ⟨g', N * 5 + 1, none⟩ = some (.int .i64 rj) := kc fw3_7 bw4
  have gw4_8 : w4.cell? ⟨g', N * 5 + 2, none⟩ = some (.int .i64 dj) := kc fw3_8 bw4
  have gw4_9 : w4.cell? ⟨g', N * 5 + 3, none⟩ = some (.int .i64 lj) := kc fw3_9 bw4
  have gw4_10 : w4.cell? ⟨g', N * 5 + 4, none⟩ = some (.int .i64 nj) := kc fw3_10 bw4
  have HB4 := mkHid (bt HB3.out bw4)
  clear bw4 hHeld
  refine hK.out _ _ ⟨gw4_0, gw4_1, gw4_2, gw4_3, gw4_4, gw4_5, gw4_6, gw4_7, gw4_8, gw4_9, gw4_10⟩ (fun hHeld => ?_)
  clear hK K
  refine wpAnyH_ready (rs := [41]) (by kernel_rfl) (by simp) (AllReadyH.cons rfl (fun K hK => ?_) AllReadyH.nil)
  go_simp
  refine (HDL.out w4 HB4.out).mono ?_
  rintro e w5 ⟨rfl, bw5⟩
  have hw5_0 : w5.cell? ⟨X, 0, none⟩ = some (.int .i64 (tj : Int)) := kc gw4_0 bw5
  have hw5_1 : w5.cell? ⟨X, 1, none⟩ = some (.int .i64 rj) := kc gw4_1 bw5
  have hw5_2 : w5.cell? ⟨X, 2, none⟩ = some (.int .i64 dj) := kc gw4_2 bw5
  have hw5_3 : w5.cell? ⟨X, 3, none⟩ = some (.int .i64 lj) := kc gw4_3 bw5
  have hw5_4 : w5.cell? ⟨X, 4, none⟩ = some (.int .i64 nj) := kc gw4_4 bw5
  have hw5_5 : w5.cell? ⟨d, 3, none⟩ = some ((.slice (some ⟨g', 0, none⟩) s.js.length jc')) := kc gw4_5 bw5
  have hw5_6 : w5.cell? ⟨g', N * 5, none⟩ = some (.int .i64 (tj : Int)) := kc gw4_6 bw5
  have hw5_7 : w5.cell? ⟨g', N * 5 + 1, none⟩ = some (.int .i64 rj) := kc gw4_7 bw5
  have hw5_8 : w5.cell? ⟨g', N * 5 + 2, none⟩ = some (.int .i64 dj) := kc gw4_8 bw5
  have hw5_9 : w5.cell? ⟨g', N * 5 + 3, none⟩ = some (.int .i64 lj) := kc gw4_9 bw5
  have hw5_10 : w5.cell? ⟨g', N * 5 + 4, none⟩ = some (.int .i64 nj) := kc gw4_10 bw5
  have HB5 := mkHid (bt HB4.out bw5)
  clear bw5 hHeld
  refine hK.out _ _ ⟨hw5_0, hw5_1, hw5_2, hw5_3, hw5_4, hw5_5, hw5_6, hw5_7, hw5_8, hw5_9, hw5_10⟩ (fun hHeld => ?_)
  clear hK K
  refine takeD 42 61 (.bool false) rfl rfl (by kernel_rfl) (by kernel_rfl) (by kernel_rfl) (fun _ _ _ h => h) (Or.inl ⟨by kernel_rfl, by intro w hSw; (try dsimp only at hSw); go_simp⟩) hHeld ?_
  simp only [List.set_cons_zero, List.set_cons_succ]
  refine takeD 43 62 (.bool false) rfl rfl (by kernel_rfl) (by kernel_rfl) (by kernel_rfl) (fun _ _ _ h => h) (Or.inl ⟨by kernel_rfl, by intro w hSw; (try dsimp only at hSw); go_simp⟩) hHeld ?_
  simp only [List.set_cons_zero, List.set_cons_succ]
  refine wpAnyH_done (by kernel_rfl) ?_ _
  clear hHeld
  clear fw3_0 fw3_1 fw3_2 fw3_3 fw3_4 fw3_5 fw3_6 fw3_7 fw3_8 fw3_9 fw3_10 gw4_0 gw4_1 gw4_2 gw4_3 gw4_4 gw4_5 gw4_6 gw4_7 gw4_8 gw4_9 gw4_10 hw5_0 hw5_1 hw5_2 hw5_3 hw5_4 hw5_5 hw5_6 hw5_7 hw5_8 hw5_9 hw5_10 z0 z1 z2 z3 z4 y3 x0 x1 x2 x3 x4 
  have y5 := (HD.out.below HB5.out).c3
  go_wp2_with (go_at_call 19; refine (HJB.out _ HB5.out).mono ?_; rintro e w6 ⟨la, lc, rfl, ho6, b6⟩; have HB6 := mkHid (bt HB5.out b6); have HO6 := mkHid ho6; have HS6 : Hid (w.heap.size ≤ w5.heap.size) := mkHid HB5.out.size; have y6 := kc y5 b6; clear ho6 b6)
  clear y5 y6
  go_loopw [75] (fun iv wr => ∃ (k : Nat) (L : List Jb), iv = .int .i64 (k : Int) ∧ k ≤ s.js.length ∧ Hid (wr.ownsRow w5.heap.size 45 5 (.slice la s.js.length lc) s.js.length (L.flatMap cj)) ∧ Hid (L.length = s.js.length ∧ ∀ i, k ≤ i → L[i]? = s.js[i]?) ∧ Hid (Below w.heap.size w wr)) (fun iv _ => s.js.length - (intOf iv).toNat)
  case atStart => exact ⟨0, s.js, rfl, Nat.zero_le _, HO6, mkHid ⟨rfl, fun _ _ => rfl⟩, HB6⟩
  case round =>
    clear HO6 HB6
    obtain ⟨k, L, rfl, hk, HO, HL, HB⟩ := hrel
    by_cases hlt : k < s.js.length
    · obtain ⟨x, hx⟩ : ∃ x, s.js[k]? = some x := ⟨_, List.getElem?_eq_getElem hlt⟩
      have hLx : L[k]? = some x := by rw [HL.out.2 k (Nat.le_refl _)]; exact hx
      have ho' : wr.ownsRow w5.heap.size 45 5 (.slice la s.js.length lc) L.length (L.flatMap cj) := by rw [HL.out.1]; exact HO.out
      obtain ⟨gl, cl, el, ql⟩ := own_job ho' hLx
      rw [HL.out.1] at el
      simp only [Value.slice.injEq] at el
      obtain ⟨rfl, _, rfl⟩ := el
      have HDw := mkHid (HD.out.below HB.out)
      obtain ⟨gd, cd, ed, qd⟩ := own_job HDw.out.jown hx
      simp only [Value.slice.injEq, Option.some.injEq, Addr.mk.injEq] at ed
      obtain ⟨⟨rfl, _⟩, _, rfl⟩ := ed
      obtain ⟨l0, l1, l2, l3, l4, lf⟩ := ql
      obtain ⟨d0, d1, d2, d3, d4, _⟩ := qd
      have y7 := HDw.out.c3
      have f3 := lf (k * 5 + 3)
      have hki : (k : Int) < s.js.length := by omega
      have HX := mkHid (And.intro hLx (HO.out.lt gl rfl).1)
      have HOL := mkHid ho'
      clear hx hLx ho' lf
      obtain ⟨tx, rx, dx, lx, ex⟩ := x
      simp only at l0 l1 l2 l3 l4 d0 d1 d2 d3 d4
      go_wp2
      go_quiet (fail)
      obtain ⟨W8, hW8⟩ : ∃ W8, W8 = wr.drewN nq := ⟨_, rfl⟩
      have m3 : W8.cell? ⟨gl, k * 5 + 3, none⟩ = some (.int .i64 lx) := by rw [hW8]; exact l3
      have mf : W8.frozen? ⟨gl, k * 5 + 3, none⟩ = false := by rw [hW8]; exact f3
      have HO8 : Hid (W8.ownsRow w5.heap.size 45 5 (.slice (some ⟨gl, 0, none⟩) s.js.length lc) s.js.length (L.flatMap cj)) := mkHid (by rw [hW8]; exact HO.out)
      have HB8 : Hid (Below w.heap.size w W8) := mkHid (by rw [hW8]; exact below_drewN HB.out _)
      rw [← hW8]
      clear hW8 l0 l1 l2 l3 l4 d0 d1 d2 d3 d4 y7 f3
      go_wp2
      go_roundw
      case rel => exact ⟨k + 1, L.set k ⟨tx, rx, dx, -1, ex⟩, by go_num, by omega, mkHid (own_left HO8.out HX.out.1 (-1)), mkHid ⟨by rw [List.length_set]; exact HL.out.1, fun i hi => by rw [List.getElem?_set_ne (by omega)]; exact HL.out.2 i (by omega)⟩, mkHid (HB8.out.trans ((Kept.setCell (F := fun q => q = gl) W8 (p := ⟨gl, k * 5 + 3, none⟩) rfl _).below (fun q e => by have := HX.out.2; have := HS6.out; omega) HB8.out.size))⟩
      case measure => simp [intOf]; omega
    · obtain rfl : k = s.js.length := by omega
      go_wp2
      go_ret
      exact ⟨rfl, HB.out⟩
theorem asks_is (B0 D0 : Nat) (w : World) (b d : Nat) (p : Int) (tv jv tv' lv' jv' : Value) (ls : List Int) (s : Gt) (now : Int) (h : GB B0 w b p tv jv s) (hd : DG D0 w d p tv' lv' jv' ls s) (ok : s.Ok p) : Calls Tryd.prog 17 #[.pointer (some ⟨b, 0, none⟩), .pointer (some ⟨d, 0, none⟩), .int .i64 now] w fun e w' => e = .returned (.bool true) ∧ Below w.heap.size w w' := by
  by_cases hz : s.js.length = 0
  · exact asks_none B0 D0 w b d p tv jv tv' lv' jv' ls s now h hd ok hz
  · obtain ⟨j, hj⟩ : ∃ j, s.js[nx p s.ts s.js]? = some j := ⟨_, List.getElem?_eq_getElem (nx_lt p s.ts s.js (by omega))⟩
    exact asks_some B0 D0 w b d p tv jv tv' lv' jv' ls s now h hd ok j hj
end Go.Proofs.YthncfkeoephipaaDoor
