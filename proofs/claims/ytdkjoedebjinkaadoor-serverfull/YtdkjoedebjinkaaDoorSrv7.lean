/- The law ServerFull. -/
import Derived.Test.YtdkjoedebjinkaaDoorSrv5
namespace Go.Proofs.YtdkjoedebjinkaaDoor
open Go.ChangeShapes Go.WideShapes Go.ChangeAt Go.RowKit

theorem and_mask (x : Int) : 0 ≤ bits .and .i64 x 274877906943 ∧ bits .and .i64 x 274877906943 ≤ 274877906943 := by
  have h : bits .and .i64 x 274877906943 = IntKind.i64.wrap ((BitVec.ofInt 64 x &&& BitVec.ofInt 64 274877906943).toNat : Int) := rfl
  have h2 : (BitVec.ofInt 64 x &&& BitVec.ofInt 64 274877906943).toNat ≤ 274877906943 := by
    rw [BitVec.toNat_and]; exact Nat.and_le_right
  rw [h, wfit (by omega) (by omega)]; omega
def on14 (_ : Nat) : Bool := true
theorem full_run {s : Sv} (h : okS s) (m : Int) : ∀ (i : Nat) (a r : Int), 0 ≤ r → r < s.2.2 → (i : Int) = a * s.2.2 + r → ((r = 0 → (runS s m on14 ch14 i).dl = m + a * s.2.2) ∧ (0 < r → (runS s m on14 ch14 i).bud = max 0 (s.2.1 - r) ∧ (runS s m on14 ch14 i).dl = m + (a + 1) * s.2.2)) ∧ (midS s m on14 ch14 i).bud = max 0 (s.2.1 - r) ∧ (midS s m on14 ch14 i).dl = m + (a + 1) * s.2.2 := by
  intro i
  have hmid : ∀ (a r : Int), 0 ≤ r → r < s.2.2 → (i : Int) = a * s.2.2 + r → ((r = 0 → (runS s m on14 ch14 i).dl = m + a * s.2.2) ∧ (0 < r → (runS s m on14 ch14 i).bud = max 0 (s.2.1 - r) ∧ (runS s m on14 ch14 i).dl = m + (a + 1) * s.2.2)) → (midS s m on14 ch14 i).bud = max 0 (s.2.1 - r) ∧ (midS s m on14 ch14 i).dl = m + (a + 1) * s.2.2 := by
    intro a r r0 r1 hi ⟨h1, h2⟩
    have g := run_gi h m on14 ch14 i
    have e1 : (a + 1) * s.2.2 = a * s.2.2 + s.2.2 := by rw [Int.add_mul]; omega
    unfold midS begS
    by_cases e : r = 0
    · have hf := g.due h (by rw [h1 e]; omega)
      rw [show on14 i = true from rfl, if_pos hf]
      obtain ⟨g1, g2, g3, g4, g5⟩ := h
      exact ⟨by show s.2.1 = _; omega, by show m + (i : Int) + s.2.2 = _; omega⟩
    · obtain ⟨k1, k2⟩ := h2 (by omega)
      have hf : ¬ flS s m (m + (i : Int)) (on14 i) (runS s m on14 ch14 i) = true := fun hf => by
        have := g.late h hf; omega
      rw [if_neg hf, if_neg (by simp [on14])]
      exact ⟨k1, k2⟩
  have hrun : ∀ (a r : Int), 0 ≤ r → r < s.2.2 → (i : Int) = a * s.2.2 + r → ((r = 0 → (runS s m on14 ch14 i).dl = m + a * s.2.2) ∧ (0 < r → (runS s m on14 ch14 i).bud = max 0 (s.2.1 - r) ∧ (runS s m on14 ch14 i).dl = m + (a + 1) * s.2.2)) := by
    cases i with
    | zero =>
      intro a r r0 r1 hi
      have ha : a * s.2.2 = 0 ∧ r = 0 := by
        have k1 : a ≤ 0 := by
          refine Decidable.byContradiction fun hn => ?_
          have := Int.mul_le_mul_of_nonneg_right (show 1 ≤ a by omega) (show 0 ≤ s.2.2 by omega)
          omega
        have k2 : 0 ≤ a := by
          refine Decidable.byContradiction fun hn => ?_
          have := Int.mul_le_mul_of_nonneg_right (show a ≤ -1 by omega) (show 0 ≤ s.2.2 by omega)
          omega
        have : a = 0 := by omega
        subst this
        omega
      exact ⟨fun _ => by show m = _; omega, fun h => by omega⟩
    | succ j =>
      intro a r r0 r1 hi
      have hT : 1 ≤ s.2.2 := by omega
      obtain ⟨a', r', q0, q1, q2⟩ := parts (j : Int) hT
      have ih := (full_run h m j a' r' q0 q1 q2).2
      have e1 : (a' + 1) * s.2.2 = a' * s.2.2 + s.2.2 := by rw [Int.add_mul]; omega
      have hb : (runS s m on14 ch14 (j + 1)).bud = max 0 (s.2.1 - r' - 1) ∧ (runS s m on14 ch14 (j + 1)).dl = m + (a' + 1) * s.2.2 := by
        rw [run_mid]
        split
        · rename_i e
          have := rdy_bud (b := true) (by rw [e]; rfl)
          exact ⟨by show (midS s m on14 ch14 j).bud - 1 = _; omega, ih.2⟩
        · rename_i e
          have : (midS s m on14 ch14 j).bud = 0 := by
            refine Decidable.byContradiction fun hn => e ?_
            simp [rdyS, on14, hn]
          exact ⟨by omega, ih.2⟩
      by_cases e : r = 0
      · have : a = a' + 1 := by
          have k1 : a ≤ a' + 1 := kT_le hT (by omega)
          have k2 : a' + 1 ≤ a := by
            refine Decidable.byContradiction fun hn => ?_
            have := Int.mul_le_mul_of_nonneg_right (show a ≤ a' by omega) (show 0 ≤ s.2.2 by omega)
            omega
          omega
        subst this
        exact ⟨fun _ => hb.2, fun h => by omega⟩
      · have : a = a' := by
          have k1 : a ≤ a' := kT_le hT (by omega)
          have k2 : a' ≤ a := kT_le hT (by omega)
          omega
        subst this
        exact ⟨fun h => by omega, fun _ => ⟨by omega, hb.2⟩⟩
  intro a r r0 r1 hi
  exact ⟨hrun a r r0 r1 hi, hmid a r r0 r1 hi (hrun a r r0 r1 hi)⟩
theorem full_no (W : World) (s : Sv) (n : Int) (a e1 : Addr) (he : W.cell? ⟨0, 0, none⟩ = some (vE a)) (he1 : W.cell? ⟨10, 0, none⟩ = some (vE e1)) (h : ¬ okS s) : Calls Tryd.prog 7 #[vS s, .int .i64 n] W fun e w' => e = .returned (.bool true) ∧ Below W.heap.size W w' := by
  have HO := mkHid h
  have HE := mkHid he
  have HE1 := mkHid he1
  clear h he he1
  obtain ⟨k, q, t⟩ := s
  go_enter Tryd.func7, Tryd.ntmps7
  go_wp2_with (first | (go_at_call 9; refine (alive14 _ a (kl HE.out _)).mono ?_; rintro e w1 ⟨rfl, b1⟩; obtain ⟨r0, hb⟩ := new_last b1; have HR1 := mkHid r0; have HB1 := mkHid hb; have x0 : w1.cell? ⟨W.heap.size, 0, none⟩ = some (.int .i64 k) := cell_of_block (i := 0) r0 rfl; have x1 : w1.cell? ⟨W.heap.size, 1, none⟩ = some (.int .i64 q) := cell_of_block (i := 1) r0 rfl; have x2 : w1.cell? ⟨W.heap.size, 2, none⟩ = some (.int .i64 t) := cell_of_block (i := 2) r0 rfl; clear b1 r0 hb) | (go_at_call 10; refine (new_none _ (k, q, t) _ e1 HO.out (kc HE1.out HB1.out)).mono ?_; rintro e w2 ⟨rfl, b2⟩; have HB2 := mkHid (bt HB1.out b2); have r0 := hold HR1.out b2; clear x0 x1 x2; have x0 : w2.cell? ⟨W.heap.size, 0, none⟩ = some (.int .i64 k) := cell_of_block (i := 0) r0 rfl; have x1 : w2.cell? ⟨W.heap.size, 1, none⟩ = some (.int .i64 q) := cell_of_block (i := 1) r0 rfl; have x2 : w2.cell? ⟨W.heap.size, 2, none⟩ = some (.int .i64 t) := cell_of_block (i := 2) r0 rfl; clear b2 r0) | (go_at_call 12; refine (reflegal_no _ (k, q, t) HO.out).mono ?_; rintro e w3 ⟨rfl, b3⟩; have HB3 := mkHid (bt HB2.out b3); clear b3))
  go_ret
  exact ⟨rfl, HB3.out⟩
/-- A server and a server's kind in a law's memory. -/
structure LF (W w : World) (R b : Nat) (s : Sv) (m : Int) (wk : Bool) (x : Ss) (a : Addr) : Prop where
  bel : Below W.heap.size W w
  lb : W.heap.size ≤ b
  ne : ¬ R = b
  rb : w.heap[R]? = some (.cells #[.int .i64 s.1, .int .i64 s.2.1, .int .i64 s.2.2] 23 (0, 0))
  sb : SB w b s m wk x
  er : w.cell? ⟨0, 0, none⟩ = some (vE a)
  el : 0 < W.heap.size
theorem LF.step {W w w' : World} {R b : Nat} {s : Sv} {m : Int} {wk wk' : Bool} {x x' : Ss} {a : Addr} (h : LF W w R b s m wk x a) (hk : Kb b w w') (hs : SB w' b s m wk' x') : LF W w' R b s m wk' x' a :=
  ⟨Kb.below hk h.bel h.lb h.sb.lt, h.lb, h.ne, (hk.block R (Array.getElem?_eq_some_iff.1 h.rb).1 h.ne).trans h.rb, hs, Kept.cell hk h.er (by have := h.lb; have := h.el; simp only; omega), h.el⟩
theorem LF.drew {W w : World} {R b : Nat} {s : Sv} {m : Int} {wk : Bool} {x : Ss} {a : Addr} (h : LF W w R b s m wk x a) : LF W w.drew R b s m wk x a := ⟨h.bel.drew, h.lb, h.ne, h.rb, h.sb, h.er, h.el⟩
theorem LF.c1 {W w : World} {R b : Nat} {s : Sv} {m : Int} {wk : Bool} {x : Ss} {a : Addr} (h : LF W w R b s m wk x a) : w.cell? ⟨R, 1, none⟩ = some (.int .i64 s.2.1) := cell_of_block (i := 1) h.rb rfl
theorem LF.c2 {W w : World} {R b : Nat} {s : Sv} {m : Int} {wk : Bool} {x : Ss} {a : Addr} (h : LF W w R b s m wk x a) : w.cell? ⟨R, 2, none⟩ = some (.int .i64 s.2.2) := cell_of_block (i := 2) h.rb rfl
set_option maxRecDepth 100000 in
set_option maxHeartbeats 6400000 in
theorem full_yes (W : World) (s : Sv) (n : Int) (a : Addr) (he : W.cell? ⟨0, 0, none⟩ = some (vE a)) (h : okS s) : Calls Tryd.prog 7 #[vS s, .int .i64 n] W fun e w' => e = .returned (.bool true) ∧ Below W.heap.size W w' := by
  have HO := mkHid h
  have HE := mkHid he
  clear he
  obtain ⟨hn0, hn1⟩ := and_mask n
  obtain ⟨m, hm⟩ : ∃ m, bits .and .i64 n 274877906943 = m := ⟨_, rfl⟩
  rw [hm] at hn0 hn1
  have HN : Hid (okN s m) := mkHid ⟨h, hn0, by omega⟩
  obtain ⟨k, q, t⟩ := s
  obtain ⟨h1, h2, h3, h4, h5⟩ := h
  simp only at h1 h2 h3 h4 h5
  go_enter Tryd.func7, Tryd.ntmps7
  go_wp2_with (first | (go_at_call 9; refine (alive14 _ a (kl HE.out _)).mono ?_; rintro e w1 ⟨rfl, b1⟩; obtain ⟨r0, hb⟩ := new_last b1; have HR1 := mkHid r0; have HB1 := mkHid hb; have x0 : w1.cell? ⟨W.heap.size, 0, none⟩ = some (.int .i64 k) := cell_of_block (i := 0) r0 rfl; have x1 : w1.cell? ⟨W.heap.size, 1, none⟩ = some (.int .i64 q) := cell_of_block (i := 1) r0 rfl; have x2 : w1.cell? ⟨W.heap.size, 2, none⟩ = some (.int .i64 t) := cell_of_block (i := 2) r0 rfl; clear b1 r0 hb) | (go_at_call 10; refine (new_ok _ (k, q, t) m HN.out).mono ?_; rintro e w2 ⟨b, rfl, hb2, hs2, b2⟩; have HL2 : Hid (LF W w2 W.heap.size b (k, q, t) m false ⟨false, 0, m⟩ a) := mkHid ⟨bt HB1.out b2, Nat.le_trans HB1.out.size hb2, (by have := (Array.getElem?_eq_some_iff.1 HR1.out).1; omega), hold HR1.out b2, hs2, kc (kc HE.out HB1.out) b2, World.block_lt_of_cell? W _ HE.out⟩; clear x0 x1 x2 b2 hs2 hb2))
  clear hm
  have e4 : IntKind.i64.wrap (4 * t) = 4 * t := wfit (by omega) (by omega)
  go_loopw [7] (fun iv wr => ∃ (i : Nat) (wk : Bool), iv = .int .i64 (i : Int) ∧ (i : Int) ≤ 4 * t ∧ Hid (LF W wr W.heap.size b (k, q, t) m wk (runS (k, q, t) m on14 ch14 i) a)) (fun iv _ => (4 * t).toNat - (intOf iv).toNat)
  case atStart => exact ⟨0, false, rfl, by simp; omega, HL2⟩
  case round =>
    obtain ⟨i, wk, rfl, hi, HL⟩ := hrel
    have x1 := HL.out.c1
    have x2 := HL.out.c2
    by_cases hlt : (i : Int) < 4 * t
    · obtain ⟨A, r, r0, r1, r2⟩ := parts (i : Int) (show 1 ≤ t by omega)
      have hf := (full_run HO.out m i A r r0 r1 r2).2
      obtain ⟨d1, d2⟩ := dm r0 r1 r2
      have HGM := mkHid (mid_gm HO.out m on14 ch14 i)
      have HC := mkHid (begin_is wr b (k, q, t) m (m + (i : Int)) wk true _ HL.out.sb hn0 (by omega) (by omega) HO.out)
      have hmm : begS (k, q, t) m (m + (i : Int)) true (runS (k, q, t) m on14 ch14 i) = midS (k, q, t) m on14 ch14 i := rfl
      rw [hmm] at HC
      clear hmm
      have HRM := mkHid (run_mid (k, q, t) m on14 i)
      have HB2 := mkHid (HGM.out.b2 HO.out)
      simp only at hf
      obtain ⟨hf1, hf2⟩ := hf
      generalize hy : midS (k, q, t) m on14 ch14 i = y at *
      clear hy
      obtain ⟨on, bud, dl⟩ := y
      simp only at hf1 hf2
      obtain ⟨N, hN⟩ : ∃ N, N = m + (i : Int) := ⟨_, rfl⟩
      have eN : IntKind.i64.wrap (m + (i : Int)) = N := by rw [hN]; exact wfit (by omega) (by omega)
      rw [← hN] at HC
      clear hN
      have A0 : 0 ≤ A := by rw [← d1]; exact Int.ediv_nonneg (by omega) (by omega)
      have A4 : A ≤ 4 := kT_le (T := t) (by omega) (by omega)
      obtain ⟨P, hP⟩ : ∃ P, P = (A + 1) * t := ⟨_, rfl⟩
      have P0 : 0 ≤ P := by rw [hP]; exact Int.mul_nonneg (by omega) (by omega)
      have P1 : P ≤ 5 * 256 := by rw [hP]; exact Int.mul_le_mul (by omega) h5 (by omega) (by omega)
      have q1 : (i : Int).tmod t = r := by rw [Int.tmod_eq_emod_of_nonneg (by omega), d2]
      have q2 : (i : Int).tdiv t = A := by rw [Int.tdiv_eq_ediv_of_nonneg (by omega), d1]
      have q3 : IntKind.i64.wrap r = r := wfit (by omega) (by omega)
      have q4 : IntKind.i64.wrap A = A := wfit (by omega) (by omega)
      have q5 : IntKind.i64.wrap (A + 1) = A + 1 := wfit (by omega) (by omega)
      have q6 : IntKind.i64.wrap ((A + 1) * t) = P := by rw [← hP]; exact wfit (by omega) (by omega)
      have q7 : IntKind.i64.wrap (m + P) = dl := by rw [hf2, ← hP]; exact wfit (by omega) (by omega)
      have t0 : ¬ t = 0 := by omega
      have hcs : (decide (r < q) = true ∧ rdyS true ⟨on, bud, dl⟩ = true) ∨ (decide (r < q) = false ∧ rdyS true ⟨on, bud, dl⟩ = false) := by
        by_cases e : r < q
        · exact .inl ⟨decide_eq_true e, by simp [rdyS]; omega⟩
        · exact .inr ⟨decide_eq_false e, by simp [rdyS]; omega⟩
      have HMu : Hid ((4 * t).toNat - (i + 1) < (4 * t).toNat - i) := mkHid (by omega)
      have HI2 : Hid (((i + 1 : Nat) : Int) ≤ 4 * t) := mkHid (by omega)
      clear hf1 hf2 hP d1 d2 r2 A0 A4 P0 P1
      rcases hcs with ⟨hd, hr⟩ | ⟨hd, hr⟩
      all_goals
        rw [hr] at HC
        have HRR := mkHid hr
        clear hr
        go_wp2_with (first | (go_at_call 15; refine HC.out.mono ?_; rintro e w4 ⟨rfl, hs4, hk4⟩; have HL4 := mkHid (HL.out.step hk4 hs4); have y1 := HL4.out.c1; have y2 := HL4.out.c2; clear hs4 hk4 x1 x2))
        go_region_held3 (fun w' => w'.cell? ⟨W.heap.size, 1, none⟩ = some (.int .i64 q) ∧ w'.cell? ⟨W.heap.size, 2, none⟩ = some (.int .i64 t)) (go_keep) (first | (go_at_call 21; refine (deadline_is _ b _ m _ _ HL4.out.drew.sb).mono ?_; rintro e w5 ⟨rfl, hw⟩; rw [hw]; clear hw) | (go_at_call 17; refine (charge_any _ b _ m _ _ a HL4.out.drew.sb HGM.out.b0 HB2.out HL4.out.drew.er).mono ?_; rintro e w6 ⟨he6, hs6, hk6⟩; rw [HRR.out] at he6; simp only [if_true, if_false, Bool.false_eq_true] at he6; subst he6; have HL6 := mkHid (HL4.out.drew.step hk6 hs6); have z1 := HL6.out.c1; have z2 := HL6.out.c2; clear hs6 hk6))
        all_goals
          go_wp2
          go_roundw
          case rel => exact ⟨i + 1, true, by go_num, HI2.out, mkHid (by rw [HRM.out]; exact HL6.out)⟩
          case measure => exact HMu.out
    · obtain hie : (i : Int) = 4 * t := by omega
      have hge : ¬ (i : Int) < 4 * t := by omega
      clear hie
      go_wp2
      go_ret
      exact ⟨rfl, HL.out.bel⟩
end Go.Proofs.YtdkjoedebjinkaaDoor
