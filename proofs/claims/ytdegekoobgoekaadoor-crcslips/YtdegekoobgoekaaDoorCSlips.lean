/- CrcSlips: a frame with one bit turned behind its first four bytes is refused. -/
import Derived.Test.YtdegekoobgoekaaDoorRead
import Derived.Test.YtdegekoobgoekaaDoorSlips
import Derived.Test.YtdegekoobgoekaaDoorErrNum
namespace Go.Proofs.YtdegekoobgoekaaDoor
open Go.ChangeShapes Go.WideShapes Go.ChangeAt Go.RowKit

theorem four_word {l : List Int} (hB : Byts l) (hl : l.length = 4) : four (word l) = l := by
  match l, hl with
  | [a, b, c, d], _ =>
    have h0 := hB a (by simp)
    have h1 := hB b (by simp)
    have h2 := hB c (by simp)
    have h3 := hB d (by simp)
    simp only [four, word, List.getD_cons_zero, List.getD_cons_succ, List.cons.injEq, and_true]
    omega
theorem set_word (l : List Int) (I : Nat) (y : Int) (h : 4 ≤ I) : word (l.set I y) = word l := by
  unfold word
  simp [List.getD, show ¬ I = 0 by omega, show ¬ I = 1 by omega, show ¬ I = 2 by omega, show ¬ I = 3 by omega]
theorem slip_frame {p : List Int} {I : Nat} {y : Int} (hB : Byts p) (hp : p.length ≤ 32768) (hI4 : 4 ≤ I) (hI : I < p.length + 8) (hy : 0 ≤ y ∧ y ≤ 255) (hne : (frame p).getD I 0 ≠ y) :
    word ((frame p).set I y) = p.length ∧ csum (((frame p).set I y).take (4 + p.length)) ≠ word (((frame p).set I y).drop (4 + p.length)) := by
  have hbl : (four p.length ++ p).length = 4 + p.length := by rw [List.length_append, four_len]
  have hBb := (four_byts p.length).append hB
  refine ⟨?_, ?_⟩
  · rw [set_word _ _ _ hI4]
    unfold frame
    rw [List.append_assoc, word_four _ (by omega)]
  · generalize hbody : four p.length ++ p = body at *
    have hf : frame p = body ++ four (csum body) := by rw [← hbody]; rfl
    have hcs := csum_lt hBb
    rw [hf] at hne ⊢
    by_cases h : I < 4 + p.length
    · obtain ⟨e1, e2⟩ := set_split body I y (by omega)
      rw [List.set_append_left _ _ (by omega), List.take_left' (by simpa using hbl), List.drop_left' (by simpa using hbl)]
      have := word_four (csum body) hcs []
      rw [List.append_nil] at this
      rw [this, e2]
      conv => rhs; rw [e1]
      have hn : body.getD I 0 ≠ y := by
        intro e
        apply hne
        rw [← e]
        simp [List.getD, List.getElem?_append_left (show I < body.length by omega)]
      exact csum_slip (hBb.take _) (hBb.drop _) hy (hBb.at I) (Ne.symm hn)
    · rw [List.set_append_right _ _ (by omega), List.take_left' hbl, List.drop_left' hbl]
      intro e
      have hl4 : ((four (csum body)).set (I - body.length) y).length = 4 := by simp [four_len]
      have := four_word ((four_byts (csum body)).set (I - body.length) hy) hl4
      rw [← e] at this
      apply hne
      have hlt : I - body.length < (four (csum body)).length := by rw [four_len]; omega
      have h2 : ((four (csum body)).set (I - body.length) y).getD (I - body.length) 0 = (four (csum body)).getD (I - body.length) 0 := by rw [← this]
      rw [List.getD, List.getElem?_append_right (by omega)]
      rw [List.getD, List.getElem?_set_self hlt] at h2
      simpa [List.getD] using h2.symm
theorem slip_rd2 {w : World} {base g cap I n : Nat} {fs : List Int} {x : Int} (hB : Byts fs) (hx : 0 ≤ x ∧ x ≤ 255) (hn : fs.length = n) (q : w.ownsRow base 5 1 (.slice (some ⟨g, 0, none⟩) n cap) n ((fs.set I x).map (Value.int .u8))) :
    Rd w (.slice (some ⟨g, 0, none⟩) n cap) (fs.set I x) := by
  have hl : (fs.set I x).length = n := by simpa using hn
  have := Rd.of_owns (w := w) (base := base) (v := .slice (some ⟨g, 0, none⟩) n cap) (hB.set I hx) (by rw [hl]; exact q)
  exact this
theorem turned (x : Int) (s : Nat) (hs : s < 8) (hx : 0 ≤ x ∧ x ≤ 255) : ∃ y : Int, bits .xor .u8 x (2 ^ s % 256) = y ∧ (0 ≤ y ∧ y ≤ 255) ∧ x ≠ y := by
  have hp : (2 : Int) ^ s = ((2 ^ s : Nat) : Int) := by simp
  have h256 : 2 ^ s < 256 := Nat.pow_lt_pow_right (m := s) (n := 8) (by omega) hs
  have hpos : 0 < 2 ^ s := Nat.pow_pos (by omega)
  refine ⟨((x.toNat ^^^ 2 ^ s : Nat) : Int), ?_, ?_, ?_⟩
  · rw [hp, Int.emod_eq_of_lt (by omega) (by omega), u8_xor x _ hx.1 (by omega) (by omega) (by omega), Int.toNat_natCast]
  · have : x.toNat ^^^ 2 ^ s < 2 ^ 8 := Nat.xor_lt_two_pow (by omega) (by omega)
    omega
  · intro e
    have e2 : x.toNat = x.toNat ^^^ 2 ^ s := by omega
    have e3 : x.toNat ^^^ (x.toNat ^^^ 2 ^ s) = 0 := by rw [← e2, Nat.xor_self]
    rw [← Nat.xor_assoc, Nat.xor_self, Nat.zero_xor] at e3
    omega
set_option maxHeartbeats 3200000 in
theorem cslips_large (w : World) (v : Value) (bs : List Int) (t : Int) (ev : Addr) (h : Rd w v bs) (hl : 32768 < bs.length) (hE : Err w 0 text0 ev) :
    Calls Tryd.prog 5 #[v, .int .i64 t] w fun e w' => e = .returned (.bool true) ∧ Below w.heap.size w w' := by
  obtain ⟨a0, c0, rfl⟩ : ∃ a c, v = .slice a bs.length c := h.2.imp fun a h => h.imp fun c h => h.1
  have hi : (32768 : Int) < bs.length := by omega
  go_enter Tryd.func5, Tryd.ntmps5
  go_wp2_with (first | (go_at_call 7; refine (crcalive_any _).mono ?_; rintro e w1 ⟨rfl, hb1⟩; have r1 := h.later hb1; have he1 := (hE.late hb1).1) | (go_at_call 9; refine (frame_large _ _ bs _ r1 hl he1).mono ?_; rintro e w2 ⟨rfl, hb2⟩; have hb2' := hb1.trans (hb2.mono hb1.size)))
  go_ret
  exact ⟨rfl, hb2'⟩
set_option maxHeartbeats 3200000 in
theorem cslips_walk (w : World) (v : Value) (bs : List Int) (t : Int) (a : Nat → Addr) (h : Rd w v bs) (hl : (bs.length : Int) ≤ 32768) (hE : Errs w a) :
    Calls Tryd.prog 5 #[v, .int .i64 t] w fun e w' => e = .returned (.bool true) ∧ Below w.heap.size w w' := by
  obtain ⟨a0, c0, rfl⟩ : ∃ a c, v = .slice a bs.length c := h.2.imp fun a h => h.imp fun c h => h.1
  obtain ⟨J, eJ, hJ⟩ := rem_ex t (8 * (bs.length + 4)) (by omega)
  have hs1 := Int.lt_tmod_of_pos t (show (0 : Int) < ((8 * (bs.length + 4) : Nat) : Int) by omega)
  have hs2 := Int.tmod_lt_of_pos t (show (0 : Int) < ((8 * (bs.length + 4) : Nat) : Int) by omega)
  rw [show ((8 * (bs.length + 4) : Nat) : Int) = 8 * ((bs.length : Int) + 4) by omega] at eJ hJ hs1 hs2
  have e4 : (bs.length : Int) + 8 - 4 = bs.length + 4 := by omega
  go_enter Tryd.func5, Tryd.ntmps5
  go_wp2_with (first | (go_at_call 7; refine (crcalive_any _).mono ?_; rintro e w1 ⟨rfl, hb1⟩; have r1 := h.later hb1; have hE1 := hE.late hb1) | (go_at_call 9; refine (frame_any _ _ bs r1 hl).mono ?_; rintro e w2 ⟨v2, rfl, ho2, hb2⟩; have hE2 := hE1.late hb2; have hb2' := hb1.trans (hb2.mono hb1.size); obtain ⟨g, cap, rfl, hg1, hg2, hcap⟩ := own_spot ho2 (by omega); have hg0 : w.heap.size ≤ g := Nat.le_trans hb1.size hg1; obtain ⟨y, ey, hy, hne⟩ := turned ((frame bs).getD ((32 + J) / 8) 0) ((32 + J) % 8) (by omega) ((frame_byts h.1).at _); obtain ⟨q1, q2, q3⟩ := own_set y ho2 (show (32 + J) / 8 < bs.length + 8 by omega); have HN := mkHid hne; obtain ⟨x, hx⟩ : ∃ x, x = (frame bs).getD ((32 + J) / 8) 0 := ⟨_, rfl⟩; rw [← hx] at q2 ey; clear hx; clear hne hE1 hb2 hb1 r1) | (go_at_call 13; have HF := slip_frame (I := (32 + J) / 8) (y := y) h.1 (by omega) (by omega) (by omega) hy (by have := HN.out; simpa using this); have r3 := slip_rd2 (frame_byts h.1) hy (frame_len bs) q1; have hb3 := hb2'.setCell (p := ⟨g, (32 + J) / 8, none⟩) hg0 (.int .u8 y); have hE3 := hE.late hb3; refine (read_bad _ _ _ _ bs.length r3 HF.1.symm hl (by rw [List.length_set, frame_len]; omega) HF.2 hE3.cell_sum).mono ?_; rintro e w4 ⟨rfl, hb4⟩; have hE4 := hE3.late hb4; have hb4' := hb3.trans (hb4.mono hb3.size); clear HF r3 hb4 hb3 q1 q2 q3 hE3) | (go_at_call 11; refine (errnum_sum _ a hE4).mono ?_; rintro e w5 ⟨rfl, hb5⟩; have hb5' := hb4'.trans (hb5.mono hb4'.size)))
  go_ret
  exact ⟨rfl, hb5'⟩
end Go.Proofs.YtdegekoobgoekaaDoor
