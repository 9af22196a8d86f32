/- The document's Read. -/
import Derived.Test.YtdegekoobgoekaaDoorRead
import Derived.Test.YtdegekoobgoekaaDoorRefFrame
import Derived.Test.YtdegekoobgoekaaDoorSplMath
import Derived.Deep.RegionHeld3
namespace Go.Proofs.YtdegekoobgoekaaDoor
open Go.ChangeShapes Go.WideShapes Go.ChangeAt Go.RowKit

/-- The first four bytes of bytes in memory, and the word that they make. -/
theorem Rd.firsts {w : World} {v : Value} {bs : List Int} (h : Rd w v bs) (hl : 4 ≤ bs.length) : ∃ b off cap x0 x1 x2 x3, v = .slice (some ⟨b, off, none⟩) bs.length cap ∧ (0 ≤ x0 ∧ x0 ≤ 255) ∧ (0 ≤ x1 ∧ x1 ≤ 255) ∧ (0 ≤ x2 ∧ x2 ≤ 255) ∧ (0 ≤ x3 ∧ x3 ≤ 255) ∧
    w.cell? ⟨b, off, none⟩ = some (.int .u8 x0) ∧ w.cell? ⟨b, off + 1, none⟩ = some (.int .u8 x1) ∧ w.cell? ⟨b, off + 2, none⟩ = some (.int .u8 x2) ∧ w.cell? ⟨b, off + 3, none⟩ = some (.int .u8 x3) ∧ x0 + 256 * x1 + 65536 * x2 + 16777216 * x3 = ((word bs : Nat) : Int) := by
  obtain ⟨hB, a, cap, rfl, hc, h0, hr⟩ := h
  obtain ⟨b, off, rfl, hlt, hcell⟩ := hr (by omega)
  have q0 := hB.at 0
  have q1 := hB.at 1
  have q2 := hB.at 2
  have q3 := hB.at 3
  exact ⟨b, off, cap, bs.getD 0 0, bs.getD 1 0, bs.getD 2 0, bs.getD 3 0, rfl, q0, q1, q2, q3, hcell 0 (by omega), hcell 1 (by omega), hcell 2 (by omega), hcell 3 (by omega), by unfold word; omega⟩
theorem word_take4 (l : List Int) : word (l.take 4) = word l := by
  unfold word
  simp [List.getD]
theorem refread_short1 (w : World) (v : Value) (bs : List Int) (h : Rd w v bs) (hl : (bs.length : Int) < 4) :
    Calls Tryd.prog 15 #[v] w fun e w' => e = .returned (.tuple #[.slice none 0 0, .int .i64 0, .int .i64 0]) ∧ Below w.heap.size w w' := by
  obtain ⟨a, c, rfl⟩ : ∃ a c, v = .slice a bs.length c := h.2.imp fun a h => h.imp fun c h => h.1
  go_enter Tryd.func15, Tryd.ntmps15
  go_wp2
  go_ret3
  exact ⟨rfl, Below.refl _ _⟩
set_option maxHeartbeats 3200000 in
theorem refread_short2 (w : World) (v : Value) (bs : List Int) (h : Rd w v bs) (hl : 4 ≤ bs.length) (hn : word bs ≤ 32768) (hs : bs.length < word bs + 8) :
    Calls Tryd.prog 15 #[v] w fun e w' => e = .returned (.tuple #[.slice none 0 0, .int .i64 0, .int .i64 0]) ∧ Below w.heap.size w w' := by
  obtain ⟨b, off, cap, x0, x1, x2, x3, rfl, q0, q1, q2, q3, c0, c1, c2, c3, hw⟩ := h.firsts hl
  have hli : ¬ (bs.length : Int) < 4 := by omega
  have hl0 : (0 : Int) < bs.length := by omega
  have hl1 : (1 : Int) < bs.length := by omega
  have hl2 : (2 : Int) < bs.length := by omega
  have hl3 : (3 : Int) < bs.length := by omega
  generalize word bs = n at *
  have hni : (n : Int) ≤ 32768 := by omega
  have hsi : (bs.length : Int) < (n : Int) + 8 := by omega
  clear hl hn hs
  go_enter Tryd.func15, Tryd.ntmps15
  go_wp2
  go_quiet (fail)
  go_wp2
  go_ret3
  exact ⟨rfl, drewN_below w _⟩
set_option maxHeartbeats 3200000 in
theorem refread_large (w : World) (v : Value) (bs : List Int) (h : Rd w v bs) (hl : 4 ≤ bs.length) (hn : 32768 < word bs) :
    Calls Tryd.prog 15 #[v] w fun e w' => e = .returned (.tuple #[.slice none 0 0, .int .i64 0, .int .i64 8]) ∧ Below w.heap.size w w' := by
  obtain ⟨b, off, cap, x0, x1, x2, x3, rfl, q0, q1, q2, q3, c0, c1, c2, c3, hw⟩ := h.firsts hl
  have hli : ¬ (bs.length : Int) < 4 := by omega
  have hl0 : (0 : Int) < bs.length := by omega
  have hl1 : (1 : Int) < bs.length := by omega
  have hl2 : (2 : Int) < bs.length := by omega
  have hl3 : (3 : Int) < bs.length := by omega
  generalize word bs = n at *
  have hni : (32768 : Int) < n := by omega
  clear hl hn
  go_enter Tryd.func15, Tryd.ntmps15
  go_wp2
  go_quiet (fail)
  go_wp2
  go_ret3
  exact ⟨rfl, drewN_below w _⟩
theorem four_word {l : List Int} (hB : Byts l) (hl : l.length = 4) : four (word l) = l := by
  match l, hl with
  | [a, b, c, d], _ =>
    have h0 := hB a (by simp)
    have h1 := hB b (by simp)
    have h2 := hB c (by simp)
    have h3 := hB d (by simp)
    simp only [four, word, List.getD_cons_zero, List.getD_cons_succ, List.cons.injEq, and_true]
    omega
theorem src_pay {w : World} {v : Value} {pl : List Int} {n : Nat} (_ : pl.length = n) (h : Rd w v pl) : Src Tryd.prog 1 22 v pl.length (pl.map (Value.int .u8)) w := h.src
set_option maxHeartbeats 6400000 in
theorem refread_bad (w : World) (v : Value) (bs : List Int) (h : Rd w v bs) (hk : kind bs = 4) :
    Calls Tryd.prog 15 #[v] w fun e w' => e = .returned (.tuple #[.slice none 0 0, .int .i64 0, .int .i64 4]) ∧ Below w.heap.size w w' := by
  obtain ⟨k1, k2, k3⟩ := kind_four hk
  obtain ⟨b, off, cap, x0, x1, x2, x3, rfl, q0, q1, q2, q3, c0, c1, c2, c3, hw⟩ := h.firsts (by omega)
  have hli : ¬ (bs.length : Int) < 4 := by omega
  have hl0 : (0 : Int) < bs.length := by omega
  have hl1 : (1 : Int) < bs.length := by omega
  have hl2 : (2 : Int) < bs.length := by omega
  have hl3 : (3 : Int) < bs.length := by omega
  generalize word bs = n at *
  have hni : (n : Int) ≤ 32768 := by omega
  have hsi : (n : Int) + 8 ≤ (bs.length : Int) := by omega
  have hcap : bs.length ≤ cap := by obtain ⟨_, _, _, e, hc, _⟩ := id h; simp at e; omega
  have hc4 : (n : Int) + 4 ≤ cap := by omega
  have hc8 : (n : Int) + 8 ≤ cap := by omega
  have hcn : ¬ cap = n + 4 := by omega
  have hc0 : ¬ cap = 0 := by omega
  have h04 : (0 : Int) ≤ (n : Int) + 4 := by omega
  have h08 : (0 : Int) ≤ (n : Int) + 8 := by omega
  have h48 : (n : Int) + 4 ≤ (n : Int) + 8 := by omega
  have t4 : ((n : Int) + 4).toNat = n + 4 := by omega
  have wr4 : IntKind.i64.wrap ((n : Int) + 4) = (n : Int) + 4 := by rw [IntKind.wrap_i64]; omega
  have wr8 : IntKind.i64.wrap ((n : Int) + 8) = (n : Int) + 8 := by rw [IntKind.wrap_i64]; omega
  have t8 : ((n : Int) + 8).toNat = n + 8 := by omega
  have t84 : n + 8 - (n + 4) = 4 := by omega
  rw [Nat.add_comm 4 n] at k3
  have r1 := h.take (n := n + 4) (by omega)
  have r2 := h.slicedM (f := n + 4) (t := n + 8) (m := cap) (by omega) (by omega) (by omega) (Nat.le_refl _)
  unfold Go.sliced at r2
  rw [if_neg hcn, show n + 8 - (n + 4) = 4 by omega] at r2
  simp only [Option.map_some, Nat.mul_one, add_none] at r2
  have hC := csum_lt r1.1
  obtain ⟨C, eC⟩ : ∃ C, C = csum (bs.take (n + 4)) := ⟨_, rfl⟩
  rw [← eC] at k3 hC
  have hCi : (C : Int) ≤ 4294967295 := by omega
  have hne : four C ≠ (bs.drop (n + 4)).take 4 := by
    intro e
    apply k3
    have h1 := word_four C hC []
    rw [List.append_nil, e, word_take4] at h1
    exact h1.symm
  have hn2 := str_neL (four_byts C) r2.1 hne
  obtain ⟨A, hA⟩ : ∃ A, A = four C := ⟨_, rfl⟩
  obtain ⟨B, hB⟩ : ∃ B, B = (bs.drop (n + 4)).take 4 := ⟨_, rfl⟩
  rw [← hA, ← hB] at hn2
  rw [← hB] at r2
  have hn3 : ((strOfNums A).toList == (strOfNums B).toList) = false := by simpa using hn2
  have hlT : ((bs.take (n + 4)).length : Int) ≤ 140737488356000 := by rw [List.length_take]; omega
  have HS : Hid (∀ W, Below w.heap.size w W → Calls Tryd.prog 23 #[.slice (some ⟨b, off, none⟩) (n + 4) cap] W fun e w' => e = .returned (.int .u32 C) ∧ w' = W) := mkHid (fun W hW => by rw [eC]; exact refcsum_any _ _ _ (r1.later hW) hlT)
  have HF : Hid (∀ W, Calls Tryd.prog 22 #[.int .u32 C] W fun e w' => ∃ v', e = .returned v' ∧ w'.ownsRow W.heap.size 5 1 v' 4 (A.map (Value.int .u8)) ∧ Below W.heap.size W w') := mkHid (fun W => by rw [hA]; exact reffour_any W C hCi)
  have HA : Hid (Byts A ∧ A.length = 4) := mkHid (by rw [hA]; exact ⟨four_byts C, four_len C⟩)
  have HR2 := mkHid r2
  clear hA hB eC hC hne k1 k2 k3 r1 r2 hlT hk
  go_enter Tryd.func15, Tryd.ntmps15
  go_wp2
  go_quiet (fail)
  go_wp2
  obtain ⟨wq, hwq⟩ : ∃ wq, wq = w.drewN nq := ⟨_, rfl⟩
  have hbq : Below w.heap.size w wq := by rw [hwq]; exact drewN_below w nq
  rw [← hwq]
  clear hwq
  have hbqd := hbq.drew
  have cvB := (HR2.out.later hbqd).conv
  go_region_with (first | (go_at_call 23; with_reducible refine (HS.out _ hbqd).mono ?_; rintro e wx ⟨rfl, hw⟩; rw [hw]; clear hw) | (go_at_call 22; with_reducible refine (HF.out _).mono ?_; rintro e w2 ⟨v4, rfl, ho4, hb4⟩; have cv4 := (Rd.of_owns HA.out.1 (by rw [HA.out.2]; exact ho4)).conv; have hb4' := hbqd.trans (hb4.mono hbqd.size); have cvB4 := (HR2.out.later hb4').conv; clear hb4 ho4))
  all_goals go_wp2
  all_goals go_ret3
  all_goals exact ⟨rfl, hb4'⟩
set_option maxHeartbeats 6400000 in
theorem refread_good (w : World) (v : Value) (bs : List Int) (h : Rd w v bs) (hk : kind bs = 1) :
    Calls Tryd.prog 15 #[v] w fun e w' => ∃ v', e = .returned (.tuple #[v', .int .i64 ((word bs : Int) + 8), .int .i64 0]) ∧ w'.ownsRow w.heap.size 5 1 v' (word bs) ((pay bs).map (Value.int .u8)) ∧ Below w.heap.size w w' := by
  obtain ⟨i0, hi, hz0, hz1, hz2⟩ := info_parts Tryd.info5
  obtain ⟨k1, k2, k3⟩ := kind_one hk
  have hpl := pay_len hk
  have hpe : (bs.drop 4).take (word bs) = pay bs := rfl
  obtain ⟨b, off, cap, x0, x1, x2, x3, rfl, q0, q1, q2, q3, c0, c1, c2, c3, hw⟩ := h.firsts (by omega)
  have hli : ¬ (bs.length : Int) < 4 := by omega
  have hl0 : (0 : Int) < bs.length := by omega
  have hl1 : (1 : Int) < bs.length := by omega
  have hl2 : (2 : Int) < bs.length := by omega
  have hl3 : (3 : Int) < bs.length := by omega
  generalize word bs = n at *
  have hni : (n : Int) ≤ 32768 := by omega
  have hsi : (n : Int) + 8 ≤ (bs.length : Int) := by omega
  have hcap : bs.length ≤ cap := by obtain ⟨_, _, _, e, hc, _⟩ := id h; simp at e; omega
  have hc4 : (n : Int) + 4 ≤ cap := by omega
  have hc8 : (n : Int) + 8 ≤ cap := by omega
  have hcn : ¬ cap = n + 4 := by omega
  have hc0 : ¬ cap = 0 := by omega
  have h04 : (0 : Int) ≤ (n : Int) + 4 := by omega
  have h08 : (0 : Int) ≤ (n : Int) + 8 := by omega
  have h48 : (n : Int) + 4 ≤ (n : Int) + 8 := by omega
  have t4 : ((n : Int) + 4).toNat = n + 4 := by omega
  have wr4 : IntKind.i64.wrap ((n : Int) + 4) = (n : Int) + 4 := by rw [IntKind.wrap_i64]; omega
  have wr8 : IntKind.i64.wrap ((n : Int) + 8) = (n : Int) + 8 := by rw [IntKind.wrap_i64]; omega
  have t8 : ((n : Int) + 8).toNat = n + 8 := by omega
  have t84 : n + 8 - (n + 4) = 4 := by omega
  rw [Nat.add_comm 4 n] at k3
  have r1 := h.take (n := n + 4) (by omega)
  have r2 := h.slicedM (f := n + 4) (t := n + 8) (m := cap) (by omega) (by omega) (by omega) (Nat.le_refl _)
  unfold Go.sliced at r2
  rw [if_neg hcn, show n + 8 - (n + 4) = 4 by omega] at r2
  simp only [Option.map_some, Nat.mul_one, add_none] at r2
  have hC := csum_lt r1.1
  obtain ⟨C, eC⟩ : ∃ C, C = csum (bs.take (n + 4)) := ⟨_, rfl⟩
  rw [← eC] at k3 hC
  have hCi : (C : Int) ≤ 4294967295 := by omega
  have heq : (bs.drop (n + 4)).take 4 = four C := by
    have h1 := four_word r2.1 (by rw [List.length_take, List.length_drop]; omega)
    rw [word_take4, ← k3] at h1
    exact h1.symm
  obtain ⟨A, hA⟩ : ∃ A, A = four C := ⟨_, rfl⟩
  rw [heq, ← hA] at r2
  have r3 := h.slicedM (f := 4) (t := n + 4) (m := cap) (by omega) (by omega) (by omega) (Nat.le_refl _)
  unfold Go.sliced at r3
  rw [if_neg (show ¬ cap = 4 by omega), show n + 4 - 4 = n by omega, hpe] at r3
  simp only [Option.map_some, Nat.mul_one, add_none] at r3
  have hc44 : ¬ cap = 4 := by omega
  have h4n : (4 : Int) ≤ (n : Int) + 4 := by omega
  have t44 : n + 4 - 4 = n := by omega
  obtain ⟨pl, hpp⟩ : ∃ pl, pl = pay bs := ⟨_, rfl⟩
  rw [← hpp] at hpl r3 ⊢
  have HR3 := mkHid r3
  have HPL := mkHid hpl
  have HL : Hid (0 + pl.length ≤ maxLen ∧ 0 + pl.length ≤ 140737488355328) := mkHid ⟨by unfold maxLen; omega, by omega⟩
  have hlT : ((bs.take (n + 4)).length : Int) ≤ 140737488356000 := by rw [List.length_take]; omega
  have HS : Hid (∀ W, Below w.heap.size w W → Calls Tryd.prog 23 #[.slice (some ⟨b, off, none⟩) (n + 4) cap] W fun e w' => e = .returned (.int .u32 C) ∧ w' = W) := mkHid (fun W hW => by rw [eC]; exact refcsum_any _ _ _ (r1.later hW) hlT)
  have HF : Hid (∀ W, Calls Tryd.prog 22 #[.int .u32 C] W fun e w' => ∃ v', e = .returned v' ∧ w'.ownsRow W.heap.size 5 1 v' 4 (A.map (Value.int .u8)) ∧ Below W.heap.size W w') := mkHid (fun W => by rw [hA]; exact reffour_any W C hCi)
  have HA : Hid (Byts A ∧ A.length = 4) := mkHid (by rw [hA]; exact ⟨four_byts C, four_len C⟩)
  have HR2 := mkHid r2
  clear hA eC hC heq k1 k2 k3 r1 r2 hlT hk hpe hpp hpl r3
  go_enter Tryd.func15, Tryd.ntmps15
  go_wp2
  go_quiet (fail)
  go_wp2
  obtain ⟨wq, hwq⟩ : ∃ wq, wq = w.drewN nq := ⟨_, rfl⟩
  have hbq : Below w.heap.size w wq := by rw [hwq]; exact drewN_below w nq
  rw [← hwq]
  clear hwq
  have hbqd := hbq.drew
  have cvB := (HR2.out.later hbqd).conv
  go_region_with (first | (go_at_call 23; with_reducible refine (HS.out _ hbqd).mono ?_; rintro e wx ⟨rfl, hw⟩; rw [hw]; clear hw) | (go_at_call 22; with_reducible refine (HF.out _).mono ?_; rintro e w2 ⟨v4, rfl, ho4, hb4⟩; have cv4 := (Rd.of_owns HA.out.1 (by rw [HA.out.2]; exact ho4)).conv; have hb4' := hbqd.trans (hb4.mono hbqd.size); have cvB4 := (HR2.out.later hb4').conv; clear hb4 ho4))
  all_goals clear cvB cv4 cvB4 hbqd hbq
  all_goals go_wp2_with (at_builtin; have hm := World.ownsRow_made (base := w.heap.size) (e := 5) (size := 1) w2 #[] 0 hb4'.size (by unfold maxLen; omega) rfl; refine wpList_append_src _ rfl (.tmp 53) (.tmp 57) 22 22 rfl w.heap.size 5 i0 Tryd.underlying22 hi hz0 hz1 hz2 _ _ _ rfl hm _ _ _ rfl (src_pay HPL.out ((HR3.out.later hb4').alloc _)) HL.out.1 HL.out.2 (by have := hb4'.size; simp; omega) ?_; intro v6 w6 ho6 hg6 _; have hb6 := (hb4'.alloc hb4'.size _).grown hg6 (by have := hb4'.size; simp; omega) (fun k hk => (hm.lt k hk).1); rw [Nat.zero_add, List.nil_append] at ho6; have HO6 : Hid (w6.ownsRow w.heap.size 5 1 v6 n (pl.map (Value.int .u8))) := mkHid (by rw [HPL.out] at ho6; exact ho6); clear hg6 hm ho6)
  all_goals go_ret3
  all_goals exact ⟨v6, rfl, HO6.out, hb6⟩
end Go.Proofs.YtdegekoobgoekaaDoor
