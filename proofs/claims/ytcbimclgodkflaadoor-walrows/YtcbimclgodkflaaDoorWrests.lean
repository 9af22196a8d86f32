/- What a record that stands at a sector may be made of. -/
import Derived.Test.YtcbimclgodkflaaDoorWwrite
namespace Go.Proofs.YtcbimclgodkflaaDoor
open Go.ChangeShapes Go.WideShapes Go.ChangeAt Go.RowKit
set_option maxRecDepth 100000

def rmark (m : Int) (g : Int → List Int) (p : Int) : Nat → List Int
  | 0 => []
  | n + 1 => if (g p).getD 0 0 = m then (g p).drop 1 ++ cont g (p + 1) n else []
theorem rmark_one (g : Int → List Int) (p : Int) (n : Nat) : rmark 1 g p n = rests g p n := by cases n <;> rfl
theorem rmark_zero (g : Int → List Int) (p : Int) (n : Nat) : rmark 0 g p n = cont g p n := by cases n <;> rfl
theorem cont_byts (g : Int → List Int) (hg : ∀ i, Byts (g i)) : ∀ (n : Nat) (p : Int), Byts (cont g p n) := by
  intro n
  induction n with
  | zero => intro p; exact Byts.nil
  | succ n ih =>
    intro p
    unfold cont
    split
    · exact ((hg p).drop 1).append (ih (p + 1))
    · exact Byts.nil
theorem rests_byts (g : Int → List Int) (hg : ∀ i, Byts (g i)) (n : Nat) (p : Int) : Byts (rests g p n) := by
  cases n with
  | zero => exact Byts.nil
  | succ n =>
    simp only [rests]
    split
    · exact ((hg p).drop 1).append (cont_byts g hg n (p + 1))
    · exact Byts.nil
theorem cont_len (g : Int → List Int) (hg : ∀ i, (g i).length = 64) : ∀ (n : Nat) (p : Int), (cont g p n).length ≤ 63 * n := by
  intro n
  induction n with
  | zero => intro p; simp [cont]
  | succ n ih =>
    intro p
    unfold cont
    split
    · have := ih (p + 1)
      have := hg p
      rw [List.length_append, List.length_drop]; omega
    · simp
theorem rests_len (g : Int → List Int) (hg : ∀ i, (g i).length = 64) (n : Nat) (p : Int) : (rests g p n).length ≤ 63 * n := by
  cases n with
  | zero => simp [rests]
  | succ n =>
    simp only [rests]
    split
    · have := cont_len g hg n (p + 1)
      have := hg p
      rw [List.length_append, List.length_drop]; omega
    · simp
theorem own_some {w : World} {base : Nat} {z : Value} {s : List Int} (hs : Sec s) (h : w.ownsRow base 5 1 z s.length (s.map (Value.int .u8))) : ∃ g c, z = .slice (some ⟨g, 0, none⟩) 64 c ∧ 64 ≤ c := by
  have hl := hs.len
  rcases h.2 with ⟨_, h0⟩ | ⟨g, cap, cur, rfl, _, _, hc, _⟩
  · omega
  · exact ⟨g, cap, by rw [hl], by omega⟩
theorem own_first {w : World} {base g c : Nat} {s : List Int} (hs : Sec s) (h : w.ownsRow base 5 1 (.slice (some ⟨g, 0, none⟩) 64 c) s.length (s.map (Value.int .u8))) : w.cell? ⟨g, 0, none⟩ = some (.int .u8 (s.getD 0 0)) := by
  have hl := hs.len
  have h' : w.ownsRow base 5 1 (.slice (some ⟨g, 0, none⟩) 64 c) 64 (s.map (Value.int .u8)) := by rw [hl] at h; exact h
  have := h'.cells (g := g) rfl 0 (.int .u8 (s.getD 0 0)) (by simp [List.getD, show 0 < s.length by omega])
  rwa [add_none] at this
theorem tail_rd {w : World} {g c : Nat} {s : List Int} (hs : Sec s) (h : Rd w (.slice (some ⟨g, 0, none⟩) 64 c) s) : Rd w (.slice (some ⟨g, 1, none⟩) 63 (c - 1)) (s.drop 1) := by
  have hl := hs.len
  exact Rd.drop (n := 1) (m := 63) (by rw [hl]; exact h) (by omega)
set_option maxHeartbeats 12800000 in
theorem rests_any (F : Nat → Prop) (w : World) (p n : Nat) (f : Int → List Int) (c : List (Int × List Int)) (nw : Int) (pl N : Nat) (h : Dk F w p n f c nw false) (hN : pl + N ≤ n) (hn2 : (n : Int) ≤ 1024) (hcl : c.length ≤ 1000000000000) :
    Calls Tryd.prog 85 #[.pointer (some ⟨p, 0, none⟩), .int .i64 (pl : Int), .int .i64 ((pl : Int) + (N : Int))] w fun e w' => ∃ z, e = .returned z ∧ w'.ownsRow w.heap.size 5 1 z (rests (seenOf f c) (pl : Int) N).length ((rests (seenOf f c) (pl : Int) N).map (Value.int .u8)) ∧ Below w.heap.size w w' := by
  obtain ⟨i0, hi0, hz0, hz1, hz2⟩ := info_parts Tryd.info5
  have HSec := mkHid (fun i => h.seen_sec i)
  have HD := mkHid h
  obtain ⟨g, hg⟩ : ∃ g, g = seenOf f c := ⟨_, rfl⟩
  have HG := mkHid hg
  rw [← hg] at HSec ⊢
  clear hg h
  go_enter Tryd.func85, Tryd.ntmps85
  go_wp2
  go_loopw [1, 7, 8] (fun pv av mv wr => ∃ (j : Nat) (m : Int) (acc : List Int), pv = .int .i64 ((pl : Int) + (j : Int)) ∧ mv = .int .u8 m ∧ (m = 0 ∨ m = 1) ∧ j ≤ N ∧ wr.ownsRow w.heap.size 5 1 av acc.length (acc.map (Value.int .u8)) ∧ acc.length = 63 * j ∧ Below w.heap.size w wr ∧ Hid (acc ++ rmark m g ((pl : Int) + (j : Int)) (N - j) = rests g (pl : Int) N)) (fun pv _ _ _ => ((pl : Int) + (N : Int) + 1 - intOf pv).toNat)
  case atStart => exact ⟨0, 1, [], by simp, rfl, .inr rfl, Nat.zero_le _, World.ownsRow_nil _ _ _ _, by simp, Below.refl _ _, mkHid (by simp [rmark_one])⟩
  case round =>
    obtain ⟨j, m, acc, rfl, rfl, hm, hj, ho, hal, hb, HA⟩ := hrel
    by_cases hjN : j < N
    · have hlt : (pl : Int) + (j : Int) < (pl : Int) + (N : Int) := by omega
      have hS := HSec.out ((pl : Int) + (j : Int))
      obtain ⟨aa, ac, rfl⟩ := own_shape ho
      have HO := mkHid ho
      have HB := mkHid hb
      have hNj : N - j = (N - (j + 1)) + 1 := by omega
      have HA1 : Hid ((g ((pl : Int) + (j : Int))).getD 0 0 = m → acc ++ ((g ((pl : Int) + (j : Int))).drop 1 ++ rmark 0 g ((pl : Int) + ((j + 1 : Nat) : Int)) (N - (j + 1))) = rests g (pl : Int) N) := mkHid (fun e => by
        have := HA.out
        rw [hNj, rmark, if_pos e] at this
        rw [rmark_zero, show (pl : Int) + ((j + 1 : Nat) : Int) = (pl : Int) + (j : Int) + 1 by omega]
        exact this)
      have HA0 : Hid (¬ (g ((pl : Int) + (j : Int))).getD 0 0 = m → acc = rests g (pl : Int) N) := mkHid (fun e => by
        have := HA.out
        rw [hNj, rmark, if_neg e, List.append_nil] at this
        exact this)
      have HRO := mkHid (read_ok F wr p n f c nw ((pl : Int) + (j : Int)) (HD.out.below hb) hcl (by omega) (by omega))
      rw [← HG.out] at HRO
      generalize g ((pl : Int) + (j : Int)) = s at *
      have HS := mkHid hS
      have hs0 := hS.byts.at 0
      clear ho hb hS HA hNj
      have hd1 : (s.drop 1).length = 63 := by rw [List.length_drop, HS.out.len]
      have HJ : Hid (acc.length + (s.drop 1).length ≤ maxLen ∧ acc.length + (s.drop 1).length ≤ 140737488355328) := mkHid (by rw [hd1]; unfold maxLen; omega)
      have HD1 := mkHid hd1
      have HAL := mkHid hal
      clear hal hd1
      have w1 : IntKind.i64.wrap ((pl : Int) + (j : Int) + 1) = (pl : Int) + (j : Int) + 1 := by rw [IntKind.wrap_i64]; omega
      obtain ⟨b0, hb0⟩ : ∃ b0, b0 = s.getD 0 0 := ⟨_, rfl⟩
      rw [← hb0] at HA1 HA0 hs0
      have HB0 := mkHid hb0
      clear hb0
      have hcs : ((b0 == m) = true ∧ b0 = m) ∨ ((b0 == m) = false ∧ ¬ b0 = m) := by
        by_cases e : b0 = m
        · exact .inl ⟨by simp [e], e⟩
        · exact .inr ⟨by simp [e], e⟩
      rcases hcs with ⟨hcs, he⟩ | ⟨hcs, he⟩
      · have HA2 := mkHid (HA1.out he)
        clear he HA1 HA0
        go_wp2_with (first
          | (go_at_call 70; refine HRO.out.mono ?_; rintro e w2 ⟨z2, rfl, ho2, hb2⟩; obtain ⟨g2, c2, rfl, hc2⟩ := own_some HS.out ho2; have q0 : w2.cell? ⟨g2, 0, none⟩ = some (.int .u8 b0) := (by rw [HB0.out]; exact own_first HS.out ho2); have HO2 := mkHid ho2; have hb2' := HB.out.trans (hb2.mono HB.out.size); have hsz := hb2'.size; have ho3 := own_late HO.out hb2; have HB2 := mkHid hb2'; have HSRC := mkHid (tail_rd HS.out (Rd.of_owns HS.out.byts ho2)).src; clear ho2 hb2 hb2')
          | (at_builtin; refine wpList_append_src _ rfl (.tmp 31) (.tmp 33) 32 32 rfl w.heap.size 5 i0 Tryd.underlying32 hi0 hz0 hz1 hz2 _ _ _ rfl ho3 _ _ _ rfl HSRC.out HJ.out.1 HJ.out.2 hsz ?_; intro v4 w4 ho4 hg4 _; have HB4 := mkHid (HB2.out.grown hg4 hsz (fun k hk => (ho3.lt k hk).1)); have HO4 := mkHid ho4; clear ho4 hg4 ho3))
        go_roundw
        case rel => exact ⟨j + 1, 0, acc ++ s.drop 1, by go_num, rfl, .inl rfl, by omega, by have := HO4.out; rw [← List.map_append] at this; rw [List.length_append]; exact this, by rw [List.length_append, HAL.out, HD1.out]; omega, HB4.out, mkHid (by rw [List.append_assoc]; exact HA2.out)⟩
        case measure => simp [intOf]; omega
      · have HA2 := mkHid (HA0.out he)
        clear he HA1 HA0
        go_wp2_with (first
          | (go_at_call 70; refine HRO.out.mono ?_; rintro e w2 ⟨z2, rfl, ho2, hb2⟩; obtain ⟨g2, c2, rfl, hc2⟩ := own_some HS.out ho2; have q0 : w2.cell? ⟨g2, 0, none⟩ = some (.int .u8 b0) := (by rw [HB0.out]; exact own_first HS.out ho2); have HB2 := mkHid (HB.out.trans (hb2.mono HB.out.size)); have HO3 := mkHid (own_late HO.out hb2); clear ho2 hb2))
        go_ret
        exact ⟨_, rfl, by rw [← HA2.out]; exact HO3.out, HB2.out⟩
    · obtain rfl : j = N := by omega
      have hlt : ¬ (pl : Int) + (j : Int) < (pl : Int) + (j : Int) := by omega
      have HA2 : Hid (acc = rests g (pl : Int) j) := mkHid (by have := HA.out; rw [Nat.sub_self] at this; simpa [rmark] using this)
      have HO := mkHid ho
      have HB := mkHid hb
      clear ho hb HA
      go_wp2
      go_ret
      exact ⟨_, rfl, by rw [← HA2.out]; exact HO.out, HB.out⟩
end Go.Proofs.YtcbimclgodkflaaDoor
