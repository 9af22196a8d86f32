/- Read of package crc. -/
import Derived.Test.YtdegekoobgoekaaDoorWordOf
namespace Go.Proofs.YtdegekoobgoekaaDoor
open Go.ChangeShapes Go.WideShapes Go.ChangeAt Go.RowKit

theorem drewN_below (w : World) (k : Nat) : Below w.heap.size w (w.drewN k) := ⟨rfl, rfl, rfl, Nat.le_refl _, fun _ _ => rfl⟩
theorem drewN_kept (F : Nat → Prop) (w : World) (k : Nat) : Kept F w (w.drewN k) := ⟨rfl, rfl, rfl, Nat.le_refl _, fun _ _ _ => rfl⟩
theorem read_short1 (w : World) (v : Value) (bs : List Int) (h : Rd w v bs) (hl : (bs.length : Int) < 4) :
    Calls Tryd.prog 13 #[v] w fun e w' => e = .returned (.tuple #[.slice none 0 0, .int .i64 0, .nilIface]) ∧ Below w.heap.size w w' := by
  obtain ⟨a, c, rfl⟩ : ∃ a c, v = .slice a bs.length c := h.2.imp fun a h => h.imp fun c h => h.1
  go_enter Tryd.func13, Tryd.ntmps13
  go_wp2
  go_ret3
  exact ⟨rfl, Below.refl _ _⟩
theorem read_short2 (w : World) (v : Value) (bs : List Int) (h : Rd w v bs) (hl : 4 ≤ bs.length) (hn : word bs ≤ 32768) (hs : bs.length < word bs + 8) :
    Calls Tryd.prog 13 #[v] w fun e w' => e = .returned (.tuple #[.slice none 0 0, .int .i64 0, .nilIface]) ∧ Below w.heap.size w w' := by
  obtain ⟨a, c, rfl⟩ : ∃ a c, v = .slice a bs.length c := h.2.imp fun a h => h.imp fun c h => h.1
  obtain ⟨b, off, rfl, hc, _⟩ := h.spot (by omega)
  have hli : ¬ (bs.length : Int) < 4 := by omega
  obtain ⟨n, HN⟩ : ∃ n, Hid (n = word bs) := ⟨_, mkHid rfl⟩
  rw [← HN.out] at hn hs
  have hni : (n : Int) ≤ 32768 := by omega
  have hsi : (bs.length : Int) < 4 + (n : Int) + 4 := by omega
  go_enter Tryd.func13, Tryd.ntmps13
  go_wp2_with (go_at_call 24; refine (wordof_any _ _ bs h hl).mono ?_; rintro e w1 ⟨rfl, k, rfl⟩; rw [← HN.out])
  go_ret3
  exact ⟨rfl, drewN_below w k⟩
theorem read_large (w : World) (v : Value) (bs : List Int) (ev : Value) (h : Rd w v bs) (hl : 4 ≤ bs.length) (hn : 32768 < word bs) (he : w.cell? ⟨0, 0, none⟩ = some ev) :
    Calls Tryd.prog 13 #[v] w fun e w' => e = .returned (.tuple #[.slice none 0 0, .int .i64 0, ev]) ∧ Below w.heap.size w w' := by
  obtain ⟨a, c, rfl⟩ : ∃ a c, v = .slice a bs.length c := h.2.imp fun a h => h.imp fun c h => h.1
  obtain ⟨b, off, rfl, hc, _⟩ := h.spot (by omega)
  have hli : ¬ (bs.length : Int) < 4 := by omega
  have hlt := word_lt h.1
  obtain ⟨n, HN⟩ : ∃ n, Hid (n = word bs) := ⟨_, mkHid rfl⟩
  rw [← HN.out] at hn hlt
  have hni : (32768 : Int) < n := by omega
  have hn2 : (n : Int) ≤ 4294967295 := by omega
  clear hlt
  go_enter Tryd.func13, Tryd.ntmps13
  go_wp2_with (go_at_call 24; refine (wordof_any _ _ bs h hl).mono ?_; rintro e w1 ⟨rfl, hk⟩; rw [← HN.out]; have hb1 : Below w.heap.size w w1 := (by obtain ⟨k, rfl⟩ := hk; exact drewN_below w k); have he1 : w1.cell? ⟨0, 0, none⟩ = some ev := cell_later hb1 he; clear hk)
  go_quiet (fail)
  go_wp2
  go_ret3
  exact ⟨rfl, hb1.trans ((drewN_below _ _).mono hb1.size)⟩
set_option maxHeartbeats 3200000 in
theorem read_bad (w : World) (v : Value) (bs : List Int) (ev : Value) (n : Nat) (h : Rd w v bs) (hnn : n = word bs) (hn : (n : Int) ≤ 32768) (hs : (n : Int) + 8 ≤ bs.length) (hbad : csum (bs.take (4 + n)) ≠ word (bs.drop (4 + n))) (he : w.cell? ⟨4, 0, none⟩ = some ev) :
    Calls Tryd.prog 13 #[v] w fun e w' => e = .returned (.tuple #[.slice none 0 0, .int .i64 0, ev]) ∧ Below w.heap.size w w' := by
  obtain ⟨a, c, rfl⟩ : ∃ a c, v = .slice a bs.length c := h.2.imp fun a h => h.imp fun c h => h.1
  have HN := mkHid hnn
  have hli : ¬ (bs.length : Int) < 4 := by omega
  have hsi : ¬ (bs.length : Int) < 4 + (n : Int) + 4 := by omega
  obtain ⟨v1, s1, r1⟩ := h.headS (4 + (n : Int)) (4 + n) (by omega) (by omega)
  obtain ⟨v2, s2, r2⟩ := h.tailS (4 + (n : Int)) (4 + n) (by omega) (by omega)
  have hx := csum_lt r1.1
  have hy := word_lt r2.1
  obtain ⟨C, hC⟩ : ∃ C, C = csum (bs.take (4 + n)) := ⟨_, rfl⟩
  obtain ⟨D, hD⟩ : ∃ D, D = word (bs.drop (4 + n)) := ⟨_, rfl⟩
  have HS : Hid (∀ W, Below w.heap.size w W → ∀ j, Calls Tryd.prog 19 #[v1] (W.drewN j) fun e w' => e = .returned (.int .u32 C) ∧ w' = W.drewN j) := mkHid (fun W hW j => by rw [hC]; exact crcsum_any _ _ _ ((r1.later hW).drewN _) (by rw [List.length_take]; omega))
  have HT : Hid (∀ W, Below w.heap.size w W → ∀ j, Calls Tryd.prog 24 #[v2] (W.drewN j) fun e w' => e = .returned (.int .u32 D) ∧ ∃ i, w' = (W.drewN j).drewN i) := mkHid (fun W hW j => by rw [hD]; exact wordof_any _ _ _ ((r2.later hW).drewN _) (by rw [List.length_drop]; omega))
  rw [← hC, ← hD] at hbad
  rw [← hC] at hx
  rw [← hD] at hy
  have hne : ¬ (C : Int) = D := by omega
  clear hC hD hx hy hbad hnn r1 r2
  go_enter Tryd.func13, Tryd.ntmps13
  go_wp2_with (go_at_call 24; refine (wordof_any _ _ bs h (by omega)).mono ?_; rintro e w1 ⟨rfl, hk⟩; rw [← HN.out]; have hb1 : Below w.heap.size w w1 := (by obtain ⟨k, rfl⟩ := hk; exact drewN_below w k); have he1 : w1.cell? ⟨4, 0, none⟩ = some ev := cell_later hb1 he; have HS1 := mkHid (HS.out w1 hb1); have HT1 := mkHid (HT.out w1 hb1); clear hk HS HT)
  go_quiet (first | (go_at_call 19; exact Calls.quiet_of_same (HS1.out _)) | (go_at_call 24; exact Calls.quiet_of (HT1.out _)))
  go_wp2
  go_quiet (fail)
  go_wp2
  go_ret3
  exact ⟨rfl, hb1.trans (Below.mono ⟨rfl, rfl, rfl, Nat.le_refl _, fun _ _ => rfl⟩ hb1.size)⟩
set_option maxHeartbeats 3200000 in
theorem read_good (w : World) (v : Value) (bs : List Int) (n : Nat) (h : Rd w v bs) (hnn : n = word bs) (hn : (n : Int) ≤ 32768) (hs : (n : Int) + 8 ≤ bs.length) (hgood : csum (bs.take (4 + n)) = word (bs.drop (4 + n))) :
    Calls Tryd.prog 13 #[v] w fun e w' => ∃ v', e = .returned (.tuple #[v', .int .i64 ((n : Int) + 8), .nilIface]) ∧ w'.ownsRow w.heap.size 5 1 v' n (((bs.drop 4).take n).map (Value.int .u8)) ∧ Below w.heap.size w w' := by
  obtain ⟨a, c, rfl⟩ : ∃ a c, v = .slice a bs.length c := h.2.imp fun a h => h.imp fun c h => h.1
  have HN := mkHid hnn
  have hli : ¬ (bs.length : Int) < 4 := by omega
  have hsi : ¬ (bs.length : Int) < 4 + (n : Int) + 4 := by omega
  obtain ⟨v1, s1, r1⟩ := h.headS (4 + (n : Int)) (4 + n) (by omega) (by omega)
  obtain ⟨v2, s2, r2⟩ := h.tailS (4 + (n : Int)) (4 + n) (by omega) (by omega)
  obtain ⟨v3, s3, r3⟩ := h.midS 4 (4 + (n : Int)) 4 (4 + n) (by omega) (by omega) (by omega) (by omega)
  rw [show 4 + n - 4 = n by omega] at r3
  have hx := csum_lt r1.1
  obtain ⟨C, hC⟩ : ∃ C, C = csum (bs.take (4 + n)) := ⟨_, rfl⟩
  have hl3 : ((bs.drop 4).take n).length = n := by rw [List.length_take, List.length_drop]; omega
  have HS : Hid (∀ W, Below w.heap.size w W → ∀ j, Calls Tryd.prog 19 #[v1] (W.drewN j) fun e w' => e = .returned (.int .u32 C) ∧ w' = W.drewN j) := mkHid (fun W hW j => by rw [hC]; exact crcsum_any _ _ _ ((r1.later hW).drewN _) (by rw [List.length_take]; omega))
  have HT : Hid (∀ W, Below w.heap.size w W → ∀ j, Calls Tryd.prog 24 #[v2] (W.drewN j) fun e w' => e = .returned (.int .u32 C) ∧ ∃ i, w' = (W.drewN j).drewN i) := mkHid (fun W hW j => by rw [hC, hgood]; exact wordof_any _ _ _ ((r2.later hW).drewN _) (by rw [List.length_drop]; omega))
  have HC : Hid (∀ W, Below w.heap.size w W → ∀ j, Calls Tryd.prog 25 #[v3] (W.drewN j) fun e w' => ∃ v', e = .returned v' ∧ w'.ownsRow w.heap.size 5 1 v' n (((bs.drop 4).take n).map (Value.int .u8)) ∧ Below w.heap.size w w') := mkHid (fun W hW j => by
    refine (clone_any _ _ _ ((r3.later hW).drewN _) (by rw [hl3]; omega)).mono ?_
    rintro e w' ⟨v', he, ho, hb⟩
    rw [hl3] at ho
    exact ⟨v', he, own_weak ho hW.size, hW.trans ((((drewN_below W j).trans hb)).mono hW.size)⟩)
  rw [← hC] at hx
  have hxi : (C : Int) ≤ 4294967295 := by omega
  have e8 : 4 + (n : Int) + 4 = (n : Int) + 8 := by omega
  clear hC hx hgood hnn r1 r2 r3 hl3
  go_enter Tryd.func13, Tryd.ntmps13
  go_wp2_with (go_at_call 24; refine (wordof_any _ _ bs h (by omega)).mono ?_; rintro e w1 ⟨rfl, hk⟩; rw [← HN.out]; have hb1 : Below w.heap.size w w1 := (by obtain ⟨k, rfl⟩ := hk; exact drewN_below w k); have HS1 := mkHid (HS.out w1 hb1); have HT1 := mkHid (HT.out w1 hb1); have HC1 := mkHid (HC.out w1 hb1); clear hk HS HT HC)
  go_quiet (first | (go_at_call 19; exact Calls.quiet_of_same (HS1.out _)) | (go_at_call 24; exact Calls.quiet_of (HT1.out _)))
  go_wp2_with (go_at_call 25; refine (HC1.out _).mono ?_; rintro e w2 ⟨v', rfl, ho, hb2⟩)
  go_ret3
  refine ⟨v', ?_, ho, hb2⟩
  first | rfl | (rw [← e8]; rfl)
end Go.Proofs.YtdegekoobgoekaaDoor
