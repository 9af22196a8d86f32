/- The law AdmitKids: which servers fit below which parent. -/
import Derived.Test.YtnmmphnaelpjdaaDoorAd10
namespace Go.Proofs.YtnmmphnaelpjdaaDoor
open Go.ChangeShapes Go.WideShapes Go.ChangeAt Go.RowKit
set_option maxRecDepth 100000
set_option linter.unusedVariables false
attribute [local go_sem] World.cell?_alloc_some frozen_alloc_some

theorem Errs.tight {w : World} {a : Nat → Addr} (h : Errs w a) : Err w 1 text1 (a 1) := h.2.1
theorem num_ev6 (w : World) (a : Nat → Addr) (E : Errs w a) (n : Int) (hn : n = 0 ∨ n = 1 ∨ n = 7 ∨ n = 10 ∨ n = 11 ∨ n = 12) : Calls Tryd.prog 13 #[ev6 a n] w fun e w' => e = .returned (.int .i64 n) ∧ Below w.heap.size w w' := by
  by_cases h : n = 12
  · subst h; exact errnum_tight w a E
  · have e : ev6 a n = ev a n := if_neg h
    rw [e]
    exact num_ev w a E n (by omega)
theorem svs_of_owns_cap {w : World} {base : Nat} {v : Value} {xs : List Sv} (hl : (xs.length : Int) ≤ 9223372036854775807) (h : w.ownsRow base 23 3 v xs.length (xs.flatMap c3)) : ∃ a cap, v = .slice a xs.length cap ∧ Svs w (.slice a xs.length cap) xs ∧ xs.length ≤ cap := by
  obtain ⟨a, cap, rfl, ht⟩ := svs_of_owns hl h
  refine ⟨a, cap, rfl, ht, ?_⟩
  obtain ⟨_, ⟨e, hn⟩ | ⟨g, cap', cur, e, hbg, hg, hnc, _⟩⟩ := h
  · rw [hn]; exact Nat.zero_le _
  · cases e; exact hnc
theorem tks_of_owns_cap {w : World} {base : Nat} {v : Value} {xs : List Tk} (hl : (xs.length : Int) ≤ 9223372036854775807) (h : w.ownsRow base 64 4 v xs.length (xs.flatMap c4)) : ∃ a cap, v = .slice a xs.length cap ∧ Tks w (.slice a xs.length cap) xs ∧ xs.length ≤ cap := by
  obtain ⟨a, cap, rfl, ht⟩ := tks_of_owns hl h
  refine ⟨a, cap, rfl, ht, ?_⟩
  obtain ⟨_, ⟨e, hn⟩ | ⟨g, cap', cur, e, hbg, hg, hnc, _⟩⟩ := h
  · rw [hn]; exact Nat.zero_le _
  · cases e; exact hnc
theorem ie_ex : ∃ ie, Hid (Tryd.prog.info? 23 = some ie ∧ ie.zero = some (.agg #[.int .i64 0, .int .i64 0, .int .i64 0]) ∧ ie.size = 3 ∧ ie.bytes = 24) := by
  obtain ⟨i, hi, h0, h1, h2⟩ := info_parts info_server
  exact ⟨i, hi, h0, h1, h2⟩
theorem je_ex : ∃ je, Hid (Tryd.prog.info? 64 = some je ∧ je.zero = some (.agg #[.int .i64 0, .int .i64 0, .int .i64 0, .int .i64 0]) ∧ je.size = 4 ∧ je.bytes = 32) := by
  obtain ⟨i, hi, h0, h1, h2⟩ := info_parts info_task
  exact ⟨i, hi, h0, h1, h2⟩
set_option maxHeartbeats 12800000 in
theorem kids_walk (w : World) (s : Sv) (al : Option Addr) (cl : Nat) (xs : List Sv) (a : Nat → Addr) (n1 r n2 : Int) (hx : Svs w (.slice al xs.length cl) xs) (hlen : xs.length * 24 ≤ 140737488355328) (E : Errs w a) (h1 : KC s xs n1) (h2 : DC s xs r n2) :
    Calls Tryd.prog 3 #[vS s, .slice al xs.length cl] w fun e w' => e = .returned (.bool true) ∧ Below w.heap.size w w' := by
  obtain ⟨k, q, t⟩ := s
  obtain ⟨ie, hie⟩ := ie_ex
  have hl : (xs.length : Int) ≤ 9223372036854775807 := by omega
  have HAL : Hid (∀ W, Below w.heap.size w W → Calls Tryd.prog 9 #[] W fun e w' => e = .returned (.bool true) ∧ Below W.heap.size W w') := mkHid (fun W hW => aalive W a (E.late hW).er6 (E.late hW).tight)
  have HK : Hid (∀ W v, Below w.heap.size w W → Svs W v xs → Calls Tryd.prog 10 #[vS (k, q, t), v] W fun e w' => e = .returned (ev6 a n1) ∧ Below W.heap.size W w') := mkHid (fun W v hW hv => kids_is W (k, q, t) v xs a n1 hv (E.late hW).er6 h1)
  have HD : Hid (∀ W v, Below w.heap.size w W → Svs W v xs → Calls Tryd.prog 11 #[vS (k, q, t), v] W fun e w' => e = .returned (.tuple #[.int .i64 r, ev6 a n2]) ∧ Below W.heap.size W w') := mkHid (fun W v hW hv => drain_is W (k, q, t) v xs a r n2 hv (E.late hW).er6 h2)
  have HRK : Hid (∀ W, Below w.heap.size w W → Calls Tryd.prog 14 #[vS (k, q, t), .slice al xs.length cl] W fun e w' => e = .returned (.int .i64 n1) ∧ Below W.heap.size W w') := mkHid (fun W hW => rkids_is W (k, q, t) _ xs n1 (hx.below hW) h1)
  have HRD : Hid (∀ W, Below w.heap.size w W → Calls Tryd.prog 12 #[vS (k, q, t), .slice al xs.length cl] W fun e w' => e = .returned (.tuple #[.int .i64 r, .int .i64 n2]) ∧ Below W.heap.size W w') := mkHid (fun W hW => rdrain_is W (k, q, t) _ xs r n2 (hx.below hW) h2)
  have HN1 : Hid (∀ W, Below w.heap.size w W → Calls Tryd.prog 13 #[ev6 a n1] W fun e w' => e = .returned (.int .i64 n1) ∧ Below W.heap.size W w') := mkHid (fun W hW => num_ev6 W a (E.late hW) n1 (by rcases h1.codes with h | h | h | h <;> omega))
  have HN2 : Hid (∀ W, Below w.heap.size w W → Calls Tryd.prog 13 #[ev6 a n2] W fun e w' => e = .returned (.int .i64 n2) ∧ Below W.heap.size W w') := mkHid (fun W hW => num_ev6 W a (E.late hW) n2 (by rcases h2.codes with h | h | h | h <;> omega))
  have HS := mkHid hx
  have HL := mkHid hlen
  have M1 : Hid True := mkHid trivial
  clear E h1 h2 hx hlen
  generalize ev6 a n1 = V1 at *
  generalize ev6 a n2 = V2 at *
  go_enter Tryd.func3, Tryd.ntmps3
  go_wp2_with (first
    | (go_at_call 9; refine (HAL.out _ (ba (Below.refl _ _) _)).mono ?_; rintro e w1 ⟨rfl, b1⟩; have c0 := kc (a := ⟨w.heap.size, 0, none⟩) (v := .int .i64 k) (by simp [go_sem]) b1; have c1 := kc (a := ⟨w.heap.size, 1, none⟩) (v := .int .i64 q) (by simp [go_sem]) b1; have c2 := kc (a := ⟨w.heap.size, 2, none⟩) (v := .int .i64 t) (by simp [go_sem]) b1; have HB1 := mkHid (bt (ba (Below.refl _ _) _) b1); clear b1)
    | (at_builtin; clear M1; have hm := World.ownsRow_made (base := w1.heap.size) (e := 23) (size := 3) w1 #[] 0 (Nat.le_refl _) (by unfold maxLen; omega) rfl; refine wpList_append_src3 _ rfl (.tmp 14) (.tmp 15) 24 24 rfl w1.heap.size 23 ie Tryd.underlying24 hie.out.1 (.agg #[.int .i64 0, .int .i64 0, .int .i64 0]) 24 hie.out.2.1 rfl hie.out.2.2.1 hie.out.2.2.2 (.slice (some ⟨w1.heap.size, 0, none⟩) 0 0) 0 [] rfl hm (.slice al xs.length cl) xs.length (xs.flatMap c3) rfl (HS.out.below (ba HB1.out _)).src (by have := HL.out; unfold maxLen; omega) (by have := HL.out; omega) (by simp) ?_; intro v4 w2 ho4 hg4 hat4; rw [Nat.zero_add, List.nil_append] at ho4; have bw2 : Below w1.heap.size w1 w2 := ((Below.refl _ w1).alloc (Nat.le_refl _) (.cells #[] 23)).grown hg4 (by simp) (fun k hk => by simp [Value.ownBlock] at hk; omega); have HB2 := mkHid (bt HB1.out bw2); have c0n := kc c0 bw2; have c1n := kc c1 bw2; have c2n := kc c2 bw2; obtain ⟨pw2, rw2, rfl, ht4, hq4⟩ := svs_of_owns_cap (xs := xs) (by have := HL.out; omega) ho4; have HVw2 := mkHid (And.intro ht4 hq4); clear hm ho4 hg4 hat4 bw2 ht4 hq4 c0 c1 c2)
    | (go_at_call 10; refine (HK.out _ _ HB2.out HVw2.out.1).mono ?_; rintro e w3 ⟨rfl, b3⟩; have d0 := kc c0n b3; have d1 := kc c1n b3; have d2 := kc c2n b3; have HB3 := mkHid (bt HB2.out b3); have HV3 := mkHid (HVw2.out.1.below b3); clear b3 c0n c1n c2n)
    | (go_at_call 11; refine (HD.out _ _ HB3.out HV3.out).mono ?_; rintro e w4 ⟨rfl, b4⟩; have e0 := kc d0 b4; have e1 := kc d1 b4; have e2 := kc d2 b4; have HB4 := mkHid (bt HB3.out b4); have HV4 := mkHid (HV3.out.below b4); clear b4 d0 d1 d2)
    | (go_at_call 12; refine (HRD.out _ HB4.out).mono ?_; rintro e w5 ⟨rfl, b5⟩; have f0 := kc e0 b5; have f1 := kc e1 b5; have f2 := kc e2 b5; have HB5 := mkHid (bt HB4.out b5); have HV5 := mkHid (HV4.out.below b5); clear b5 e0 e1 e2))
  have HCE := mkHid (And.intro f0 (And.intro f1 f2))
  clear f0 f1 f2
  go_loopw [34] (fun iv wr => ∃ j : Nat, iv = .int .i64 (j : Int) ∧ j ≤ xs.length ∧ Hid (Below w5.heap.size w5 wr)) (fun iv _ => xs.length - (intOf iv).toNat)
  case atStart => exact ⟨0, rfl, Nat.zero_le _, mkHid (Below.refl _ _)⟩
  case round =>
    obtain ⟨j, rfl, hj, HB⟩ := hrel
    by_cases hlt : j < xs.length
    · obtain ⟨b, off, kk, qx, tt, rfl, hxj, c0, c1, c2⟩ := HS.out.at (bt HB5.out HB.out) j hlt
      obtain ⟨b', off', kk', qx', tt', rfl, hxj', e0, e1, e2⟩ := HV5.out.at HB.out j hlt
      rw [hxj] at hxj'
      simp at hxj'
      obtain ⟨rfl, rfl, rfl⟩ := hxj'
      have hji : (j : Int) < xs.length := by omega
      clear hxj
      go_wp2
      go_quiet (fail)
      go_wp2
      go_roundw
      case rel => exact ⟨j + 1, by go_num, by omega, mkHid (bdN HB.out _)⟩
      case measure => simp [intOf]; omega
    · obtain rfl : j = xs.length := by omega
      obtain ⟨g0, g1, g2⟩ := HCE.out
      have z0 := kc g0 HB.out
      have z1 := kc g1 HB.out
      have z2 := kc g2 HB.out
      have HB6 := mkHid (bt HB5.out HB.out)
      clear g0 g1 g2
      go_wp2
      obtain ⟨p1, hp1⟩ : ∃ p1, p1 = w.heap.size := ⟨_, rfl⟩
      rw [← hp1] at z0 z1 z2 ⊢
      clear hp1
      refine wp_region_held_drew (S := fun w' => w'.cell? ⟨p1, 0, none⟩ = some (.int .i64 k) ∧ w'.cell? ⟨p1, 1, none⟩ = some (.int .i64 q) ∧ w'.cell? ⟨p1, 2, none⟩ = some (.int .i64 t)) (by kernel_rfl) ⟨z0, z1, z2⟩ (fun hHeld => ?_)
      refine takeD 0 47 (V1) rfl rfl (by kernel_rfl) (by kernel_rfl) (by kernel_rfl) (fun _ _ _ h => h) (Or.inl ⟨by kernel_rfl, by intro w hSw; (try dsimp only at hSw); go_simp⟩) hHeld ?_
      simp only [List.set_cons_zero, List.set_cons_succ]
      refine takeD 2 49 (.agg #[.int .i64 k, .int .i64 q, .int .i64 t]) rfl rfl (by kernel_rfl) (by kernel_rfl) (by kernel_rfl) (fun _ _ _ h => h) (Or.inl ⟨by kernel_rfl, by intro w hSw; (try dsimp only at hSw); go_simp⟩) hHeld ?_
      simp only [List.set_cons_zero, List.set_cons_succ]
      refine takeD 3 50 (.slice al xs.length cl) rfl rfl (by kernel_rfl) (by kernel_rfl) (by kernel_rfl) (fun _ _ _ h => h) (Or.inl ⟨by kernel_rfl, by intro w hSw; (try dsimp only at hSw); go_simp⟩) hHeld ?_
      simp only [List.set_cons_zero, List.set_cons_succ]
      refine wpAnyH_ready (rs := [1]) (by kernel_rfl) (by simp) (AllReadyH.cons rfl (fun K hK => ?_) AllReadyH.nil)
      go_simp
      refine (HN1.out wr.drew HB6.out.drew).mono ?_
      rintro e w7 ⟨rfl, bw7⟩
      have fw7_0 : w7.cell? ⟨p1, 0, none⟩ = some (.int .i64 k) := kc (show wr.drew.cell? _ = _ from z0) bw7
      have fw7_1 : w7.cell? ⟨p1, 1, none⟩ = some (.int .i64 q) := kc (show wr.drew.cell? _ = _ from z1) bw7
      have fw7_2 : w7.cell? ⟨p1, 2, none⟩ = some (.int .i64 t) := kc (show wr.drew.cell? _ = _ from z2) bw7
      have HB7 := mkHid (bt HB6.out.drew bw7)
      clear bw7 hHeld
      refine hK.out _ _ ⟨fw7_0, fw7_1, fw7_2⟩ (fun hHeld => ?_)
      clear hK K
      refine wpAnyH_ready (rs := [4]) (by kernel_rfl) (by simp) (AllReadyH.cons rfl (fun K hK => ?_) AllReadyH.nil)
      go_simp
      refine (HRK.out w7 HB7.out).mono ?_
      rintro e w8 ⟨rfl, bw8⟩
      have fw8_0 : w8.cell? ⟨p1, 0, none⟩ = some (.int .i64 k) := kc fw7_0 bw8
      have fw8_1 : w8.cell? ⟨p1, 1, none⟩ = some (.int .i64 q) := kc fw7_1 bw8
      have fw8_2 : w8.cell? ⟨p1, 2, none⟩ = some (.int .i64 t) := kc fw7_2 bw8
      have HB8 := mkHid (bt HB7.out bw8)
      clear bw8 hHeld
      refine hK.out _ _ ⟨fw8_0, fw8_1, fw8_2⟩ (fun hHeld => ?_)
      clear hK K
      refine takeD 5 52 (.bool true) rfl rfl (by kernel_rfl) (by kernel_rfl) (by kernel_rfl) (fun _ _ _ h => h) (Or.inl ⟨by kernel_rfl, by intro w hSw; (try dsimp only at hSw); go_simp⟩) hHeld ?_
      simp only [List.set_cons_zero, List.set_cons_succ]
      refine takeD 6 53 (.bool true) rfl rfl (by kernel_rfl) (by kernel_rfl) (by kernel_rfl) (fun _ _ _ h => h) (Or.inl ⟨by kernel_rfl, by intro w hSw; (try dsimp only at hSw); go_simp⟩) hHeld ?_
      simp only [List.set_cons_zero, List.set_cons_succ]
      refine takeD 7 54 (.int .i64 r) rfl rfl (by kernel_rfl) (by kernel_rfl) (by kernel_rfl) (fun _ _ _ h => h) (Or.inl ⟨by kernel_rfl, by intro w hSw; (try dsimp only at hSw); go_simp⟩) hHeld ?_
      simp only [List.set_cons_zero, List.set_cons_succ]
      refine takeD 8 55 (.int .i64 r) rfl rfl (by kernel_rfl) (by kernel_rfl) (by kernel_rfl) (fun _ _ _ h => h) (Or.inl ⟨by kernel_rfl, by intro w hSw; (try dsimp only at hSw); go_simp⟩) hHeld ?_
      simp only [List.set_cons_zero, List.set_cons_succ]
      refine takeD 9 56 (.bool true) rfl rfl (by kernel_rfl) (by kernel_rfl) (by kernel_rfl) (fun _ _ _ h => h) (Or.inl ⟨by kernel_rfl, by intro w hSw; (try dsimp only at hSw); go_simp⟩) hHeld ?_
      simp only [List.set_cons_zero, List.set_cons_succ]
      refine takeD 10 57 (.bool true) rfl rfl (by kernel_rfl) (by kernel_rfl) (by kernel_rfl) (fun _ _ _ h => h) (Or.inl ⟨by kernel_rfl, by intro w hSw; (try dsimp only at hSw); go_simp⟩) hHeld ?_
      simp only [List.set_cons_zero, List.set_cons_succ]
      refine takeD 11 58 (.bool true) rfl rfl (by kernel_rfl) (by kernel_rfl) (by kernel_rfl) (fun _ _ _ h => h) (Or.inl ⟨by kernel_rfl, by intro w hSw; (try dsimp only at hSw); go_simp⟩) hHeld ?_
      simp only [List.set_cons_zero, List.set_cons_succ]
      refine takeD 12 59 (V2) rfl rfl (by kernel_rfl) (by kernel_rfl) (by kernel_rfl) (fun _ _ _ h => h) (Or.inl ⟨by kernel_rfl, by intro w hSw; (try dsimp only at hSw); go_simp⟩) hHeld ?_
      simp only [List.set_cons_zero, List.set_cons_succ]
      refine takeD 14 61 (.int .i64 n2) rfl rfl (by kernel_rfl) (by kernel_rfl) (by kernel_rfl) (fun _ _ _ h => h) (Or.inl ⟨by kernel_rfl, by intro w hSw; (try dsimp only at hSw); go_simp⟩) hHeld ?_
      simp only [List.set_cons_zero, List.set_cons_succ]
      refine wpAnyH_ready (rs := [13]) (by kernel_rfl) (by simp) (AllReadyH.cons rfl (fun K hK => ?_) AllReadyH.nil)
      go_simp
      refine (HN2.out w8 HB8.out).mono ?_
      rintro e w9 ⟨rfl, bw9⟩
      have fw9_0 : w9.cell? ⟨p1, 0, none⟩ = some (.int .i64 k) := kc fw8_0 bw9
      have fw9_1 : w9.cell? ⟨p1, 1, none⟩ = some (.int .i64 q) := kc fw8_1 bw9
      have fw9_2 : w9.cell? ⟨p1, 2, none⟩ = some (.int .i64 t) := kc fw8_2 bw9
      have HB9 := mkHid (bt HB8.out bw9)
      clear bw9 hHeld
      refine hK.out _ _ ⟨fw9_0, fw9_1, fw9_2⟩ (fun hHeld => ?_)
      clear hK K
      refine takeD 15 62 (.bool true) rfl rfl (by kernel_rfl) (by kernel_rfl) (by kernel_rfl) (fun _ _ _ h => h) (Or.inl ⟨by kernel_rfl, by intro w hSw; (try dsimp only at hSw); go_simp⟩) hHeld ?_
      simp only [List.set_cons_zero, List.set_cons_succ]
      refine takeD 16 63 (.bool true) rfl rfl (by kernel_rfl) (by kernel_rfl) (by kernel_rfl) (fun _ _ _ h => h) (Or.inl ⟨by kernel_rfl, by intro w hSw; (try dsimp only at hSw); go_simp⟩) hHeld ?_
      simp only [List.set_cons_zero, List.set_cons_succ]
      refine takeD 17 4 (.bool true) rfl rfl (by kernel_rfl) (by kernel_rfl) (by kernel_rfl) (fun _ _ _ h => h) (Or.inl ⟨by kernel_rfl, by intro w hSw; (try dsimp only at hSw); go_simp⟩) hHeld ?_
      simp only [List.set_cons_zero, List.set_cons_succ]
      refine wpAnyH_done (by kernel_rfl) ?_ _
      go_wp2
      go_ret
      exact ⟨rfl, HB9.out⟩
end Go.Proofs.YtnmmphnaelpjdaaDoor
