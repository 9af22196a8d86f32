/- How much of a server is charged at least, where it is charged in time. -/
import Derived.Test.YtdkjoedebjinkaaDoorSrvMath
namespace Go.Proofs.YtdkjoedebjinkaaDoor

theorem sbF_lip {d q m : Int} (hd : 0 ≤ d) (hq : 1 ≤ q) (n : Nat) : sbF d q (m + n) ≤ sbF d q m + n := by
  induction n with
  | zero => simp
  | succ n ih =>
    have := sbF_step (m := m + n) hd hq
    rw [show m + ((n + 1 : Nat) : Int) = m + n + 1 by omega, this]; split <;> omega
theorem sbF_lip' {d q m n : Int} (hd : 0 ≤ d) (hq : 1 ≤ q) (h : m ≤ n) : sbF d q n ≤ sbF d q m + (n - m) := by
  have := sbF_lip (m := m) hd hq (n - m).toNat
  rw [show m + ((n - m).toNat : Int) = n by omega] at this
  omega
theorem GI.due {s : Sv} {m now : Int} {x : Ss} (h : okS s) (g : GI s m now x) (hn : now = x.dl) : flS s m now true x = true := by
  obtain ⟨h1, h2, h3, h4, h5⟩ := h
  have hb : ¬ s.1 = 2 → (now - m) % s.2.2 = 0 := by
    intro h6
    obtain ⟨k, hk⟩ := g.d2 h6
    rw [hn, hk, show m + k * s.2.2 - m = k * s.2.2 by omega, Int.mul_emod_left]
  unfold flS
  by_cases e3 : s.1 = 3
  · rw [if_pos e3]; exact decide_eq_true (hb (by omega))
  · rw [if_neg e3]
    by_cases e1 : s.1 = 1
    · rw [if_pos e1]; simp [hb (by omega)]
    · rw [if_neg e1]; simp; omega
/-- Behind a chunk's beginning at b: c ticks were charged, c0 of them ahead of b. -/
def P2 (s : Sv) (b now c c0 : Int) (x : Ss) : Prop := ∃ k : Int, 0 ≤ k ∧ x.dl = b + (k + 1) * s.2.2 ∧ x.dl - s.2.2 < now ∧ now ≤ x.dl ∧ c0 + (k + 1) * s.2.1 ≤ c + x.bud ∧ x.bud ≤ x.dl - now
def M2 (s : Sv) (b now c c0 : Int) (x : Ss) : Prop := ∃ k : Int, 0 ≤ k ∧ x.dl = b + (k + 1) * s.2.2 ∧ x.dl - s.2.2 ≤ now ∧ now < x.dl ∧ c0 + (k + 1) * s.2.1 ≤ c + x.bud ∧ x.bud ≤ x.dl - now
theorem P2.beg {s : Sv} {m b now c c0 : Int} {x : Ss} (h : okS s) (g : GI s m now x) (p : P2 s b now c c0 x) : M2 s b now c c0 (begS s m now true x) := by
  obtain ⟨k, k0, k1, k2, k3, k4, k5⟩ := p
  unfold begS
  by_cases hf : flS s m now true x = true
  · rw [if_pos hf]
    have hl := g.late h hf
    have g0 := g.b0
    obtain ⟨h1, h2, h3, h4, h5⟩ := h
    have e1 : (k + 1 + 1) * s.2.2 = (k + 1) * s.2.2 + s.2.2 := by rw [Int.add_mul (k + 1)]; omega
    have e2 : (k + 1 + 1) * s.2.1 = (k + 1) * s.2.1 + s.2.1 := by rw [Int.add_mul (k + 1)]; omega
    refine ⟨k + 1, by omega, ?_, ?_, ?_, ?_, ?_⟩
    · show now + s.2.2 = _; omega
    · show now + s.2.2 - s.2.2 ≤ _; omega
    · show _ < now + s.2.2; omega
    · show _ ≤ c + s.2.1; omega
    · show s.2.1 ≤ now + s.2.2 - now; omega
  · rw [if_neg hf, if_neg (by simp)]
    have : ¬ now = x.dl := fun e => hf (g.due h e)
    exact ⟨k, k0, k1, by omega, by omega, k4, k5⟩
theorem M2.tick {s : Sv} {b now c c0 : Int} {y : Ss} (p : M2 s b now c c0 y) (_hb : 0 ≤ y.bud) (ch : Bool) (hc : y.dl - now ≤ y.bud → ch = true) :
    P2 s b (now + 1) (if (rdyS true y && ch) = true then c + 1 else c) c0 (if (rdyS true y && ch) = true then chS y else y) := by
  obtain ⟨k, k0, k1, k2, k3, k4, k5⟩ := p
  by_cases e : (rdyS true y && ch) = true
  · rw [if_pos e, if_pos e]
    exact ⟨k, k0, k1, by show y.dl - _ < _; omega, by show _ ≤ y.dl; omega, by show _ ≤ c + 1 + (y.bud - 1); omega, by show y.bud - 1 ≤ y.dl - _; omega⟩
  · rw [if_neg e, if_neg e]
    have : y.bud ≤ y.dl - (now + 1) := by
      by_cases h0 : y.bud = 0
      · omega
      · have : ¬ ch = true := fun e2 => e (by simp [rdyS, h0, e2])
        have : ¬ y.dl - now ≤ y.bud := fun e2 => this (hc e2)
        omega
    exact ⟨k, k0, k1, by omega, by omega, k4, this⟩
/-- Ahead of a chunk's beginning at b. -/
def P1 (s : Sv) (m a b now c : Int) (x : Ss) : Prop := now ≤ b ∧ 0 ≤ c ∧ (s.1 = 1 → ∃ k, b = m + k * s.2.2 ∧ b - s.2.2 < now) ∧ (s.1 = 2 → x.dl ≤ b ∧ (now < b → x.dl = b)) ∧ (s.1 = 3 → x.dl = b ∧ b - a - (s.2.2 - s.2.1) ≤ c + min x.bud (b - now))
theorem P1.fl {s : Sv} {m a b now c : Int} {x : Ss} (h : okS s) (g : GI s m now x) (p : P1 s m a b now c x) : flS s m now true x = decide (now = b) := by
  obtain ⟨p1, p2, p3, p4, p5⟩ := p
  by_cases e3 : s.1 = 3
  · by_cases e : now = b
    · rw [decide_eq_true e]; exact g.due h (by rw [(p5 e3).1]; exact e)
    · rw [decide_eq_false e]
      cases hf : flS s m now true x
      · rfl
      · have := g.late h hf; have := (p5 e3).1; omega
  · obtain ⟨h1, h2, h3, h4, h5⟩ := h
    unfold flS
    rw [if_neg e3]
    by_cases e1 : s.1 = 1
    · rw [if_pos e1, Bool.true_and]
      obtain ⟨k, hk, hk2⟩ := p3 e1
      congr 1
      refine propext ⟨fun e => ?_, fun e => ?_⟩
      · obtain ⟨j, hj⟩ := bound_of (by omega) e
        have k1 : j ≤ k := kT_le (T := s.2.2) (by omega) (by omega)
        have k2 : k ≤ j := by
          refine Decidable.byContradiction fun hn => ?_
          have := Int.mul_le_mul_of_nonneg_right (show j + 1 ≤ k by omega) (show 0 ≤ s.2.2 by omega)
          have e : (j + 1) * s.2.2 = j * s.2.2 + s.2.2 := by rw [Int.add_mul]; omega
          omega
        have : j = k := by omega
        subst this; omega
      · rw [e, hk, show m + k * s.2.2 - m = k * s.2.2 by omega, Int.mul_emod_left]
    · rw [if_neg e1, Bool.true_and]
      congr 1
      have := p4 (by omega)
      refine propext ⟨fun e => ?_, fun e => ?_⟩
      · have := this.2; omega
      · omega
theorem P1.tick {s : Sv} {m a b now c : Int} {x : Ss} (h : okS s) (g : GI s m now x) (_hm : m ≤ now) (p : P1 s m a b now c x) (hn : now < b) (ch : Ss → Bool) (hc : ∀ y : Ss, y.dl - now ≤ y.bud → ch y = true) :
    P1 s m a b (now + 1) (if (rdyS true (begS s m now true x) && ch (begS s m now true x)) = true then c + 1 else c) (tkS s m now true ch x) := by
  have hf := p.fl h g
  rw [decide_eq_false (by omega)] at hf
  have hb : begS s m now true x = x := by unfold begS; rw [hf]; simp
  have hb0 := g.b0
  unfold tkS
  rw [hb]
  obtain ⟨p1, p2, p3, p4, p5⟩ := p
  have p3' : s.1 = 1 → ∃ k, b = m + k * s.2.2 ∧ b - s.2.2 < now + 1 := fun e => by obtain ⟨k, hk, hk2⟩ := p3 e; exact ⟨k, hk, by omega⟩
  have p4' : s.1 = 2 → x.dl ≤ b ∧ (now + 1 < b → x.dl = b) := fun e => ⟨(p4 e).1, fun _ => (p4 e).2 hn⟩
  by_cases e : (rdyS true x && ch x) = true
  · rw [if_pos e, if_pos e]
    have := rdy_bud e
    exact ⟨by omega, by omega, p3', p4', fun e3 => ⟨(p5 e3).1, by have := (p5 e3).2; show _ ≤ c + 1 + min (x.bud - 1) _; clear p3 p3'; omega⟩⟩
  · rw [if_neg e, if_neg e]
    refine ⟨by omega, by omega, p3', p4', fun e3 => ⟨(p5 e3).1, ?_⟩⟩
    have h6 := (p5 e3).2
    have h7 := (p5 e3).1
    clear p3 p3'
    by_cases h0 : x.bud = 0
    · omega
    · have : ¬ ch x = true := fun e2 => e (by simp [rdyS, h0, e2])
      have : ¬ x.dl - now ≤ x.bud := fun e2 => this (hc x e2)
      omega
theorem P1.due {s : Sv} {m a b now c : Int} {x : Ss} (h : okS s) (g : GI s m now x) (p : P1 s m a b now c x) (hn : now = b) : M2 s b now c c (begS s m now true x) := by
  have hf := p.fl h g
  rw [decide_eq_true hn] at hf
  obtain ⟨h1, h2, h3, h4, h5⟩ := h
  unfold begS
  rw [if_pos hf]
  refine ⟨0, Int.le_refl _, ?_, ?_, ?_, ?_, ?_⟩
  · show now + s.2.2 = _; rw [Int.zero_add, Int.one_mul]; omega
  · show now + s.2.2 - s.2.2 ≤ _; omega
  · show _ < now + s.2.2; omega
  · show _ ≤ c + s.2.1; rw [Int.zero_add, Int.one_mul]; omega
  · show s.2.1 ≤ now + s.2.2 - now; omega
theorem P2.end {s : Sv} {b now c c0 : Int} {x : Ss} (h : okS s) (p : P2 s b now c c0 x) (hb : x.bud ≤ s.2.1) : c0 + sbF (s.2.2 - s.2.1) s.2.1 (now - b) ≤ c := by
  obtain ⟨k, k0, k1, k2, k3, k4, k5⟩ := p
  obtain ⟨h1, h2, h3, h4, h5⟩ := h
  have e1 : (k + 1) * s.2.2 = k * s.2.2 + s.2.2 := by rw [Int.add_mul]; omega
  have e2 : (k + 1) * s.2.1 = k * s.2.1 + s.2.1 := by rw [Int.add_mul]; omega
  have eT : s.2.2 - s.2.1 + s.2.1 = s.2.2 := by omega
  by_cases e : now = x.dl
  · rw [sbF_at (a := k + 1) (r := 0) (by omega) (by omega) (by rw [eT]; omega)]; omega
  · rw [sbF_at (a := k) (r := now - b - k * s.2.2) (by omega) (by omega) (by rw [eT]; omega)]; omega
/-- Where the first chunk of an interval begins at latest. -/
theorem P1.start {s : Sv} {m now : Int} {x : Ss} (h : okS s) (g : GI s m now x) : ∃ b, now ≤ b ∧ b ≤ now - 1 + s.2.2 ∧ P1 s m now b now 0 x := by
  have g1 := g.d1
  have g2 := g.d2
  have g3 := g.d3
  have g0 := g.b0
  obtain ⟨h1, h2, h3, h4, h5⟩ := h
  have hc : s.1 = 1 ∨ s.1 = 2 ∨ s.1 = 3 := by omega
  rcases hc with e | e | e
  · obtain ⟨j, r, r0, r1, r2⟩ := parts (now - 1 + s.2.2 - m) (show 1 ≤ s.2.2 by omega)
    clear g2
    exact ⟨m + j * s.2.2, by omega, by omega, by omega, by omega, fun _ => ⟨j, rfl, by omega⟩, fun e2 => by omega, fun e2 => by omega⟩
  · clear g2
    by_cases hd : x.dl ≤ now
    · exact ⟨now, by omega, by omega, by omega, by omega, fun e2 => by omega, fun _ => ⟨hd, fun h => by omega⟩, fun e2 => by omega⟩
    · exact ⟨x.dl, by omega, by omega, by omega, by omega, fun e2 => by omega, fun _ => ⟨by omega, fun h => rfl⟩, fun e2 => by omega⟩
  · have := g3 e
    clear g2
    exact ⟨x.dl, by omega, by omega, by omega, by omega, fun e2 => by omega, fun e2 => by omega, fun _ => ⟨rfl, by omega⟩⟩
theorem sup_inv {s : Sv} (h : okS s) (m : Int) (wk : Nat → Bool) (ch : Nat → Ss → Bool) (hc : ∀ (i : Nat) (y : Ss), y.dl - (m + (i : Int)) ≤ y.bud → ch i y = true) (a : Nat) (b : Int) (hb : P1 s m (m + (a : Int)) b (m + (a : Int)) 0 (runS s m wk ch a)) :
    ∀ l : Nat, (∀ i, i < l → wk (a + i) = true) → P1 s m (m + (a : Int)) b (m + ((a + l : Nat) : Int)) (cnt (chdS s m wk ch) a l) (runS s m wk ch (a + l)) ∨ ∃ c0 : Int, b < m + ((a + l : Nat) : Int) ∧ 0 ≤ c0 ∧ (s.1 = 3 → b - (m + (a : Int)) - (s.2.2 - s.2.1) ≤ c0) ∧ P2 s b (m + ((a + l : Nat) : Int)) (cnt (chdS s m wk ch) a l) c0 (runS s m wk ch (a + l))
  | 0, _ => .inl hb
  | l + 1, hw => by
    have ih := sup_inv h m wk ch hc a b hb l (fun i hi => hw i (by omega))
    have hwl := hw l (by omega)
    have g := run_gi h m wk ch (a + l)
    have gm := g.beg h (by omega) true
    have er : runS s m wk ch (a + (l + 1)) = if chdS s m wk ch (a + l) = true then chS (midS s m wk ch (a + l)) else midS s m wk ch (a + l) := rfl
    have ec : cnt (chdS s m wk ch) a (l + 1) = if chdS s m wk ch (a + l) = true then cnt (chdS s m wk ch) a l + 1 else cnt (chdS s m wk ch) a l := by simp only [cnt]; split <;> omega
    have en : m + ((a + (l + 1) : Nat) : Int) = m + ((a + l : Nat) : Int) + 1 := by omega
    rw [er, ec, en]
    unfold chdS midS
    rw [hwl]
    rcases ih with p | ⟨c0, p0, p1, p2, p⟩
    · by_cases hn : m + ((a + l : Nat) : Int) < b
      · exact .inl (p.tick h g (by omega) hn (ch (a + l)) (hc (a + l)))
      · have hn' : m + ((a + l : Nat) : Int) = b := by have := p.1; omega
        refine .inr ⟨cnt (chdS s m wk ch) a l, by omega, p.2.1, fun e3 => ?_, (p.due h g hn').tick gm.b0 _ (hc (a + l) _)⟩
        have := (p.2.2.2.2 e3).2
        omega
    · exact .inr ⟨c0, by omega, p1, p2, (p.beg h g).tick gm.b0 _ (hc (a + l) _)⟩
/-- P14.3. -/
theorem sup_least {s : Sv} (h : okS s) (m : Int) (wk : Nat → Bool) (ch : Nat → Ss → Bool) (hc : ∀ (i : Nat) (y : Ss), y.dl - (m + (i : Int)) ≤ y.bud → ch i y = true) (a l : Nat) (hw : ∀ i, i < l → wk (a + i) = true) (G : Int) (hG : G = if s.1 = 3 then s.2.2 - s.2.1 else s.2.2 - 1) :
    sb G (s.2.2 - s.2.1) s.2.1 (l : Int) ≤ cnt (chdS s m wk ch) a l := by
  obtain ⟨b, b0, b1, hb⟩ := P1.start h (run_gi h m wk ch a)
  have hi := sup_inv h m wk ch hc a b hb l hw
  have gl := run_gi h m wk ch (a + l)
  have hd : 0 ≤ s.2.2 - s.2.1 := by obtain ⟨h1, h2, h3, h4, h5⟩ := h; omega
  have hq : 1 ≤ s.2.1 := h.2.2.1
  have hc0 := cnt_nonneg (chdS s m wk ch) a l
  rcases hi with p | ⟨c0, p0, p1, p2, p⟩
  · obtain ⟨q1, q2, _, _, q5⟩ := p
    by_cases e3 : s.1 = 3
    · rw [if_pos e3] at hG
      have q6 := (q5 e3).2
      have := sbF_room (m := max 0 ((l : Int) - G)) hd hq (by omega)
      unfold sb
      omega
    · rw [if_neg e3] at hG
      rw [sb_small hd hq (by omega)]; exact hc0
  · have he := p.end h gl.b1
    unfold sb
    by_cases e3 : s.1 = 3
    · rw [if_pos e3] at hG
      have := p2 e3
      by_cases e : b - (m + (a : Int)) ≤ G
      · have := sbF_le (d := s.2.2 - s.2.1) (q := s.2.1) (m := max 0 ((l : Int) - G)) (n := m + ((a + l : Nat) : Int) - b) hd hq (by omega)
        omega
      · have := sbF_lip' (d := s.2.2 - s.2.1) (q := s.2.1) (m := m + ((a + l : Nat) : Int) - b) (n := max 0 ((l : Int) - G)) hd hq (by omega)
        omega
    · rw [if_neg e3] at hG
      have := sbF_le (d := s.2.2 - s.2.1) (q := s.2.1) (m := max 0 ((l : Int) - G)) (n := m + ((a + l : Nat) : Int) - b) hd hq (by omega)
      omega
end Go.Proofs.YtdkjoedebjinkaaDoor
