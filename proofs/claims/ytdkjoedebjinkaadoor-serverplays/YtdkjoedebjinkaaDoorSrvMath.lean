/- A server as numbers: what a tick and a charge make of it, how much is charged at most and at least. -/
import Derived.Test.YtdkjoedebjinkaaDoorSbMath
namespace Go.Proofs.YtdkjoedebjinkaaDoor

/-- A server tick by tick: is it on, its budget, its deadline. -/
structure Ss where
  on : Bool
  bud : Int
  dl : Int
def fillS (s : Sv) (now : Int) : Ss := ⟨true, s.2.1, now + s.2.2⟩
def dropS (x : Ss) : Ss := ⟨false, 0, x.dl⟩
def chS (x : Ss) : Ss := ⟨x.on, x.bud - 1, x.dl⟩
/-- Does a chunk begin? -/
def flS (s : Sv) (m now : Int) (work : Bool) (x : Ss) : Bool :=
  if s.1 = 3 then decide ((now - m) % s.2.2 = 0) else if s.1 = 1 then work && decide ((now - m) % s.2.2 = 0) else work && decide (x.dl ≤ now)
/-- A tick begins. -/
def begS (s : Sv) (m now : Int) (work : Bool) (x : Ss) : Ss := if flS s m now work x then fillS s now else if work = false ∧ ¬ s.1 = 3 then dropS x else x
def rdyS (work : Bool) (x : Ss) : Bool := work && decide (¬ x.bud = 0)
/-- What holds ahead of a tick. -/
structure GI (s : Sv) (m now : Int) (x : Ss) : Prop where
  b0 : 0 ≤ x.bud
  b1 : x.bud ≤ s.2.1
  d0 : m ≤ x.dl
  d1 : x.dl ≤ now - 1 + s.2.2
  d2 : ¬ s.1 = 2 → ∃ k, x.dl = m + k * s.2.2
  d3 : s.1 = 3 → now ≤ x.dl ∧ s.2.1 - s.2.2 + x.dl - now ≤ x.bud
  d4 : 0 < x.bud → now ≤ x.dl
  o : x.on = false → x.bud = 0
/-- What holds within a tick. -/
structure GM (s : Sv) (m now : Int) (work : Bool) (x : Ss) : Prop where
  b0 : 0 ≤ x.bud
  b1 : x.bud ≤ s.2.1
  d0 : m ≤ x.dl
  d1 : x.dl ≤ now + s.2.2
  d2 : ¬ s.1 = 2 → ∃ k, x.dl = m + k * s.2.2
  d3 : s.1 = 3 → now < x.dl ∧ s.2.1 - s.2.2 + x.dl - now ≤ x.bud
  d4 : 0 < x.bud → now < x.dl
  o : x.on = false → x.bud = 0
  nw : work = false → ¬ s.1 = 3 → x.on = false
theorem kT_le {T k j : Int} (hT : 1 ≤ T) (h : k * T ≤ j * T + (T - 1)) : k ≤ j := by
  refine Decidable.byContradiction fun hn => ?_
  have := Int.mul_le_mul_of_nonneg_right (show j + 1 ≤ k by omega) (show 0 ≤ T by omega)
  have e : (j + 1) * T = j * T + T := by rw [Int.add_mul]; omega
  omega
theorem bound_of {T m now : Int} (hT : 1 ≤ T) (h : (now - m) % T = 0) : ∃ k, now = m + k * T := by
  obtain ⟨a, r, h0, h1, h2⟩ := parts (now - m) hT
  have := (dm h0 h1 h2).2
  exact ⟨a, by omega⟩
theorem bound_not {T m now k : Int} (h : ¬ (now - m) % T = 0) : ¬ now = m + k * T := by
  intro e
  apply h
  rw [show now - m = k * T by omega, Int.mul_emod_left]
theorem GI.start {s : Sv} (h : okS s) (m : Int) : GI s m m ⟨false, 0, m⟩ := by
  obtain ⟨h1, h2, h3, h4, h5⟩ := h
  exact ⟨Int.le_refl _, by show (0 : Int) ≤ _; omega, Int.le_refl _, by show m ≤ _; omega, fun _ => ⟨0, by show m = _; omega⟩, fun _ => ⟨Int.le_refl _, by show s.2.1 - s.2.2 + m - m ≤ 0; omega⟩, fun h => absurd h (by show ¬ (0 : Int) < 0; omega), fun _ => rfl⟩
/-- A chunk begins at its deadline or behind it. -/
theorem GI.late {s : Sv} {m now : Int} {work : Bool} {x : Ss} (h : okS s) (g : GI s m now x) (hf : flS s m now work x = true) : x.dl ≤ now := by
  obtain ⟨h1, h2, h3, h4, h5⟩ := h
  have hb : ¬ s.1 = 2 → (now - m) % s.2.2 = 0 → x.dl ≤ now := by
    intro h6 h7
    obtain ⟨k, hk⟩ := g.d2 h6
    obtain ⟨j, hj⟩ := bound_of (by omega) h7
    have := g.d1
    have := kT_le (T := s.2.2) (k := k) (j := j) (by omega) (by omega)
    have := Int.mul_le_mul_of_nonneg_right this (show 0 ≤ s.2.2 by omega)
    omega
  unfold flS at hf
  split at hf
  · exact hb (by omega) (of_decide_eq_true hf)
  · split at hf
    · exact hb (by omega) (of_decide_eq_true (by simp at hf; simp [hf.2]))
    · simp at hf; exact hf.2
theorem GI.beg {s : Sv} {m now : Int} {x : Ss} (h : okS s) (g : GI s m now x) (_hm : m ≤ now) (work : Bool) : GM s m now work (begS s m now work x) := by
  have hl := fun hf => g.late (work := work) h hf
  obtain ⟨h1, h2, h3, h4, h5⟩ := h
  obtain ⟨g1, g2, g3, g4, g5, g6, g7, g8⟩ := g
  unfold begS
  by_cases hf : flS s m now work x = true
  · rw [if_pos hf]
    refine ⟨by show 0 ≤ s.2.1; omega, Int.le_refl _, by show m ≤ now + s.2.2; omega, Int.le_refl _, fun h6 => ?_, fun h6 => ⟨by show now < now + s.2.2; omega, by show s.2.1 - s.2.2 + (now + s.2.2) - now ≤ s.2.1; omega⟩, fun _ => by show now < now + s.2.2; omega, fun h6 => by simp [fillS] at h6, fun h6 h7 => ?_⟩
    · have : (now - m) % s.2.2 = 0 := by
        unfold flS at hf
        split at hf
        · exact of_decide_eq_true hf
        · split at hf
          · simp at hf; exact (by simpa using hf.2)
          · omega
      obtain ⟨k, hk⟩ := bound_of (by omega) this
      exact ⟨k + 1, by show now + s.2.2 = _; rw [Int.add_mul]; omega⟩
    · subst h6
      unfold flS at hf
      rw [if_neg h7] at hf
      split at hf <;> simp at hf
  · rw [if_neg hf]
    by_cases hd : work = false ∧ ¬ s.1 = 3
    · rw [if_pos hd]
      exact ⟨Int.le_refl _, by show 0 ≤ s.2.1; omega, g3, by show x.dl ≤ _; omega, g5, fun h6 => absurd h6 hd.2, fun h6 => absurd h6 (by show ¬ (0 : Int) < 0; omega), fun _ => rfl, fun _ _ => rfl⟩
    · rw [if_neg hd]
      have hk : now ≤ x.dl → now < x.dl := by
        intro h6
        unfold flS at hf
        by_cases e3 : s.1 = 3
        · rw [if_pos e3] at hf
          obtain ⟨k, hk⟩ := g5 (by omega)
          have := bound_not (k := k) (show ¬ (now - m) % s.2.2 = 0 by simpa using hf)
          omega
        · rw [if_neg e3] at hf
          have hw : work = true := by
            cases work
            · exact absurd ⟨rfl, e3⟩ hd
            · rfl
          subst hw
          by_cases e1 : s.1 = 1
          · rw [if_pos e1] at hf
            obtain ⟨k, hk⟩ := g5 (by omega)
            have := bound_not (k := k) (show ¬ (now - m) % s.2.2 = 0 by simpa using hf)
            omega
          · rw [if_neg e1] at hf
            simp at hf; omega
      refine ⟨g1, g2, g3, by omega, g5, fun h6 => ⟨hk (g6 h6).1, (g6 h6).2⟩, fun h6 => hk (g7 h6), g8, fun h6 h7 => absurd ⟨h6, h7⟩ hd⟩
theorem GM.stay {s : Sv} {m now : Int} {work : Bool} {x : Ss} (g : GM s m now work x) : GI s m (now + 1) x := by
  obtain ⟨g1, g2, g3, g4, g5, g6, g7, g8, _⟩ := g
  exact ⟨g1, g2, g3, by omega, g5, fun h => ⟨by have := (g6 h).1; omega, by have := (g6 h).2; omega⟩, fun h => by have := g7 h; omega, g8⟩
theorem GM.charge {s : Sv} {m now : Int} {work : Bool} {x : Ss} (g : GM s m now work x) (hb : ¬ x.bud = 0) : GI s m (now + 1) (chS x) := by
  obtain ⟨g1, g2, g3, g4, g5, g6, g7, g8, _⟩ := g
  have k1 : 0 ≤ x.bud - 1 := by clear g5; omega
  have k2 : x.bud - 1 ≤ s.2.1 := by clear g5; omega
  have k3 : x.dl ≤ now + 1 - 1 + s.2.2 := by clear g5; omega
  have k4 : s.1 = 3 → now + 1 ≤ x.dl ∧ s.2.1 - s.2.2 + x.dl - (now + 1) ≤ x.bud - 1 := fun h => by have := g6 h; clear g5; omega
  have k5 : 0 < x.bud - 1 → now + 1 ≤ x.dl := fun h => by have := g7 (by clear g5; omega); clear g5; omega
  exact ⟨k1, k2, g3, k3, g5, k4, k5, fun h => absurd (g8 h) hb⟩

/-- A row of ticks: in which there is work, and which are charged if it is ready. -/
def tkS (s : Sv) (m now : Int) (work : Bool) (ch : Ss → Bool) (x : Ss) : Ss :=
  if (rdyS work (begS s m now work x) && ch (begS s m now work x)) = true then chS (begS s m now work x) else begS s m now work x
def runS (s : Sv) (m : Int) (wk : Nat → Bool) (ch : Nat → Ss → Bool) : Nat → Ss
  | 0 => ⟨false, 0, m⟩
  | i + 1 => tkS s m (m + (i : Int)) (wk i) (ch i) (runS s m wk ch i)
def midS (s : Sv) (m : Int) (wk : Nat → Bool) (ch : Nat → Ss → Bool) (i : Nat) : Ss := begS s m (m + (i : Int)) (wk i) (runS s m wk ch i)
/-- Is tick i charged? -/
def chdS (s : Sv) (m : Int) (wk : Nat → Bool) (ch : Nat → Ss → Bool) (i : Nat) : Bool := rdyS (wk i) (midS s m wk ch i) && ch i (midS s m wk ch i)
theorem run_succ (s : Sv) (m : Int) (wk : Nat → Bool) (ch : Nat → Ss → Bool) (i : Nat) : runS s m wk ch (i + 1) = if chdS s m wk ch i = true then chS (midS s m wk ch i) else midS s m wk ch i := rfl
theorem rdy_bud {work : Bool} {x : Ss} {b : Bool} (h : (rdyS work x && b) = true) : ¬ x.bud = 0 := by
  simp [rdyS] at h; exact h.1.2
theorem GI.tick {s : Sv} {m now : Int} {x : Ss} (h : okS s) (g : GI s m now x) (hm : m ≤ now) (work : Bool) (ch : Ss → Bool) : GI s m (now + 1) (tkS s m now work ch x) := by
  have g1 := g.beg h hm work
  unfold tkS
  split
  · rename_i e; exact g1.charge (rdy_bud e)
  · exact g1.stay
theorem run_gi {s : Sv} (h : okS s) (m : Int) (wk : Nat → Bool) (ch : Nat → Ss → Bool) : ∀ i : Nat, GI s m (m + (i : Int)) (runS s m wk ch i)
  | 0 => by have := GI.start h m; simpa [runS] using this
  | i + 1 => by
    have := (run_gi h m wk ch i).tick h (by omega) (wk i) (ch i)
    rw [show m + ((i + 1 : Nat) : Int) = m + (i : Int) + 1 by omega]; exact this
/-- How many of j values from a on are true. -/
def cnt (f : Nat → Bool) (a : Nat) : Nat → Int
  | 0 => 0
  | j + 1 => cnt f a j + if f (a + j) = true then 1 else 0
theorem cnt_yes {f : Nat → Bool} {a j : Nat} (h : f (a + j) = true) : cnt f a (j + 1) = cnt f a j + 1 := by simp [cnt, h]
theorem cnt_no {f : Nat → Bool} {a j : Nat} (h : f (a + j) = false) : cnt f a (j + 1) = cnt f a j := by simp [cnt, h]
theorem cnt_nonneg (f : Nat → Bool) (a : Nat) : ∀ j, 0 ≤ cnt f a j
  | 0 => Int.le_refl _
  | j + 1 => by have := cnt_nonneg f a j; simp only [cnt]; split <;> omega
theorem cnt_le (f : Nat → Bool) (a : Nat) : ∀ j : Nat, cnt f a j ≤ (j : Int)
  | 0 => Int.le_refl _
  | j + 1 => by have := cnt_le f a j; simp only [cnt]; split <;> omega
/-- Begun chunks of an interval: what was charged and is left is at most a budget and one more for each. -/
theorem dem_inv {s : Sv} (h : okS s) (m : Int) (wk : Nat → Bool) (ch : Nat → Ss → Bool) (a : Nat) : ∀ j : Nat, ∃ F : Int, 0 ≤ F ∧ cnt (chdS s m wk ch) a j + (runS s m wk ch (a + j)).bud ≤ s.2.1 + F * s.2.1 ∧ (F = 0 ∨ m + (a : Int) + F * s.2.2 ≤ (runS s m wk ch (a + j)).dl)
  | 0 => ⟨0, Int.le_refl _, by have := (run_gi h m wk ch a).b1; simp [cnt]; exact this, .inl rfl⟩
  | j + 1 => by
    obtain ⟨F, hF, h1, h2⟩ := dem_inv h m wk ch a j
    have g := run_gi h m wk ch (a + j)
    have hb : ∃ F' : Int, 0 ≤ F' ∧ cnt (chdS s m wk ch) a j + (midS s m wk ch (a + j)).bud ≤ s.2.1 + F' * s.2.1 ∧ (F' = 0 ∨ m + (a : Int) + F' * s.2.2 ≤ (midS s m wk ch (a + j)).dl) := by
      unfold midS begS
      by_cases hf : flS s m (m + ((a + j : Nat) : Int)) (wk (a + j)) (runS s m wk ch (a + j)) = true
      · rw [if_pos hf]
        have hl := g.late h hf
        have e1 : (F + 1) * s.2.1 = F * s.2.1 + s.2.1 := by rw [Int.add_mul]; omega
        have e2 : (F + 1) * s.2.2 = F * s.2.2 + s.2.2 := by rw [Int.add_mul]; omega
        refine ⟨F + 1, by omega, ?_, .inr ?_⟩
        · have := g.b0
          show _ + s.2.1 ≤ _; omega
        · show _ ≤ m + ((a + j : Nat) : Int) + s.2.2
          rcases h2 with rfl | h2
          · have : (0 : Int) * s.2.2 = 0 := Int.zero_mul _
            omega
          · omega
      · rw [if_neg hf]
        split
        · refine ⟨F, hF, ?_, h2⟩
          have := g.b0
          show _ + 0 ≤ _; omega
        · exact ⟨F, hF, h1, h2⟩
    obtain ⟨F', k0, k1, k2⟩ := hb
    refine ⟨F', k0, ?_, ?_⟩
    · rw [show a + (j + 1) = a + j + 1 from rfl, run_succ]
      cases hc : chdS s m wk ch (a + j)
      · rw [cnt_no hc, if_neg (by simp)]; exact k1
      · rw [cnt_yes hc, if_pos rfl]; show _ + ((midS s m wk ch (a + j)).bud - 1) ≤ _; omega
    · rw [show a + (j + 1) = a + j + 1 from rfl, run_succ]
      split
      · exact k2
      · exact k2
/-- P14.2, the second half. -/
theorem dem_most {s : Sv} (h : okS s) (m : Int) (wk : Nat → Bool) (ch : Nat → Ss → Bool) (a j : Nat) : cnt (chdS s m wk ch) a (j + 1) ≤ (((j : Int) + s.2.2) / s.2.2 + 1) * s.2.1 := by
  obtain ⟨F, hF, h1, h2⟩ := dem_inv h m wk ch a (j + 1)
  have g := run_gi h m wk ch (a + (j + 1))
  obtain ⟨e1, e2, e3, e4, e5⟩ := h
  have hk : F ≤ ((j : Int) + s.2.2) / s.2.2 := by
    obtain ⟨k, r, r0, r1, r2⟩ := parts ((j : Int) + s.2.2) (show 1 ≤ s.2.2 by omega)
    rw [(dm r0 r1 r2).1]
    rcases h2 with rfl | h2
    · refine Decidable.byContradiction fun hn => ?_
      have := Int.mul_le_mul_of_nonneg_right (show k ≤ -1 by omega) (show 0 ≤ s.2.2 by omega)
      omega
    · have := g.d1
      exact kT_le (T := s.2.2) (by omega) (by omega)
  have := Int.mul_le_mul_of_nonneg_right hk (show 0 ≤ s.2.1 by omega)
  have e : (((j : Int) + s.2.2) / s.2.2 + 1) * s.2.1 = ((j : Int) + s.2.2) / s.2.2 * s.2.1 + s.2.1 := by rw [Int.add_mul]; omega
  have := g.b0
  omega
end Go.Proofs.YtdkjoedebjinkaaDoor
