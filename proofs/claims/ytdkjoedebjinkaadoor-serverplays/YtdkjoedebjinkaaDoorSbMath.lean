/- A server's row as numbers: its supply, how it grows, and the least interval with a supply. -/
import Derived.Test.YtdkjoedebjinkaaDoorPlMath
namespace Go.Proofs.YtdkjoedebjinkaaDoor

/-- The supply of m ticks behind the row's silent beginning: d ticks that are not given, q that are, again and again. -/
def sbF (d q m : Int) : Int := m / (d + q) * q + max 0 (m % (d + q) - d)
def sb (g d q l : Int) : Int := sbF d q (max 0 (l - g))
/-- Is tick i of the row given? -/
def sbAt (g d q i : Int) : Bool := decide (g ≤ i ∧ d ≤ (i - g) % (d + q))
/-- The least interval with a supply of x. -/
def lsF (g d q x : Int) : Int := if x = 0 then 0 else g + d + (x - 1) / q * (d + q) + (x - 1) % q + 1
theorem dm {T m a r : Int} (h0 : 0 ≤ r) (h1 : r < T) (h : m = a * T + r) : m / T = a ∧ m % T = r := by
  subst h
  have hT : T ≠ 0 := by omega
  constructor
  · rw [Int.add_comm, Int.add_mul_ediv_right _ _ hT, Int.ediv_eq_zero_of_lt h0 h1]; omega
  · rw [Int.add_comm, Int.add_mul_emod_self_right]; exact Int.emod_eq_of_lt h0 h1
theorem sbF_at {d q m a r : Int} (h0 : 0 ≤ r) (h1 : r < d + q) (h : m = a * (d + q) + r) : sbF d q m = a * q + max 0 (r - d) := by
  obtain ⟨e1, e2⟩ := dm h0 h1 h
  unfold sbF; rw [e1, e2]
theorem parts {T : Int} (m : Int) (hT : 1 ≤ T) : ∃ a r, 0 ≤ r ∧ r < T ∧ m = a * T + r :=
  ⟨m / T, m % T, Int.emod_nonneg m (by omega), Int.emod_lt_of_pos m (by omega), by rw [Int.mul_comm]; exact (Int.mul_ediv_add_emod m T).symm⟩
theorem parts0 {T : Int} (m : Int) (hT : 1 ≤ T) (hm : 0 ≤ m) : ∃ a r, 0 ≤ a ∧ 0 ≤ r ∧ r < T ∧ m = a * T + r :=
  ⟨m / T, m % T, Int.ediv_nonneg hm (by omega), Int.emod_nonneg m (by omega), Int.emod_lt_of_pos m (by omega), by rw [Int.mul_comm]; exact (Int.mul_ediv_add_emod m T).symm⟩
/-- A tick more. -/
theorem sbF_step {d q m : Int} (hd : 0 ≤ d) (hq : 1 ≤ q) : sbF d q (m + 1) = sbF d q m + if d ≤ m % (d + q) then 1 else 0 := by
  obtain ⟨a, r, h0, h1, h2⟩ := parts m (show 1 ≤ d + q by omega)
  rw [sbF_at h0 h1 h2, (dm h0 h1 h2).2]
  by_cases e : r + 1 = d + q
  · have e1 : (a + 1) * (d + q) = a * (d + q) + (d + q) := by rw [Int.add_mul]; omega
    have e2 : (a + 1) * q = a * q + q := by rw [Int.add_mul]; omega
    rw [sbF_at (a := a + 1) (r := 0) (by omega) (by omega) (by rw [e1]; omega), e2]
    split <;> omega
  · rw [sbF_at (a := a) (r := r + 1) (by omega) (by omega) (by omega)]
    split <;> omega
theorem sbF_zero {d q : Int} (hd : 0 ≤ d) (_hq : 1 ≤ q) : sbF d q 0 = 0 := by
  unfold sbF; rw [Int.zero_ediv, Int.zero_emod]; omega
theorem sbF_mono {d q m : Int} (hd : 0 ≤ d) (hq : 1 ≤ q) (n : Nat) : sbF d q m ≤ sbF d q (m + n) := by
  induction n with
  | zero => simp
  | succ n ih =>
    have := sbF_step (m := m + n) hd hq
    have e : m + ((n + 1 : Nat) : Int) = m + n + 1 := by omega
    rw [e, this]; split <;> omega
theorem sbF_le {d q m n : Int} (hd : 0 ≤ d) (hq : 1 ≤ q) (h : m ≤ n) : sbF d q m ≤ sbF d q n := by
  have := sbF_mono (m := m) hd hq (n - m).toNat
  have e : m + ((n - m).toNat : Int) = n := by omega
  rwa [e] at this
theorem sb_zero {g d q : Int} (hg : 0 ≤ g) (hd : 0 ≤ d) (hq : 1 ≤ q) : sb g d q 0 = 0 := by
  unfold sb; rw [show max 0 (0 - g) = 0 by omega]; exact sbF_zero hd hq
theorem sb_step {g d q l : Int} (hd : 0 ≤ d) (hq : 1 ≤ q) : sb g d q (l + 1) = sb g d q l + if sbAt g d q l then 1 else 0 := by
  unfold sb sbAt
  by_cases h : g ≤ l
  · rw [show max 0 (l + 1 - g) = l - g + 1 by omega, show max 0 (l - g) = l - g by omega, sbF_step hd hq]
    simp [h]
  · rw [show max 0 (l + 1 - g) = 0 by omega, show max 0 (l - g) = 0 by omega]
    simp [h]
theorem sb_yes {g d q l : Int} (hd : 0 ≤ d) (hq : 1 ≤ q) (h : sbAt g d q l = true) : sb g d q (l + 1) = sb g d q l + 1 := by rw [sb_step hd hq, h]; rfl
theorem sb_no {g d q l : Int} (hd : 0 ≤ d) (hq : 1 ≤ q) (h : sbAt g d q l = false) : sb g d q (l + 1) = sb g d q l := by rw [sb_step hd hq, h]; simp
theorem sb_le {g d q m n : Int} (hd : 0 ≤ d) (hq : 1 ≤ q) (h : m ≤ n) : sb g d q m ≤ sb g d q n := sbF_le hd hq (by omega)
theorem sb_small {g d q l : Int} (hd : 0 ≤ d) (hq : 1 ≤ q) (h : l ≤ g + d) : sb g d q l = 0 := by
  unfold sb
  rw [sbF_at (a := 0) (r := max 0 (l - g)) (by omega) (by omega) (by omega)]; omega
/-- A period more, behind the silent beginning. -/
theorem sb_period {g d q l : Int} (hd : 0 ≤ d) (hq : 1 ≤ q) (h : g ≤ l) (k : Int) (hk : 0 ≤ k) : sb g d q (l + k * (d + q)) = sb g d q l + k * q := by
  obtain ⟨a, r, h0, h1, h2⟩ := parts (l - g) (show 1 ≤ d + q by omega)
  have hn : 0 ≤ k * (d + q) := Int.mul_nonneg hk (by omega)
  unfold sb
  have e1 : (a + k) * (d + q) = a * (d + q) + k * (d + q) := Int.add_mul _ _ _
  have e2 : (a + k) * q = a * q + k * q := Int.add_mul _ _ _
  rw [show max 0 (l + k * (d + q) - g) = l - g + k * (d + q) by omega, show max 0 (l - g) = l - g by omega, sbF_at h0 h1 h2, sbF_at (a := a + k) h0 h1 (by rw [e1]; omega), e2]
  omega
theorem sb_nonneg {g d q l : Int} (hg : 0 ≤ g) (hd : 0 ≤ d) (hq : 1 ≤ q) : 0 ≤ sb g d q l := by
  by_cases h : l ≤ g + d
  · rw [sb_small hd hq h]; omega
  · have := sb_le (g := g) (m := 0) (n := l) hd hq (by omega); rw [sb_zero hg hd hq] at this; exact this
theorem sbF_room {d q m : Int} (hd : 0 ≤ d) (hq : 1 ≤ q) (hm : 0 ≤ m) : sbF d q m ≤ m := by
  obtain ⟨a, r, ha, h0, h1, h2⟩ := parts0 m (show 1 ≤ d + q by omega) hm
  rw [sbF_at h0 h1 h2]
  have e1 : a * (d + q) = a * d + a * q := Int.mul_add _ _ _
  have e2 : 0 ≤ a * d := Int.mul_nonneg ha hd
  omega
theorem sb_room {g d q l : Int} (hg : 0 ≤ g) (hd : 0 ≤ d) (hq : 1 ≤ q) (hl : 0 ≤ l) : sb g d q l ≤ l := by
  have := sbF_room (m := max 0 (l - g)) hd hq (by omega)
  unfold sb; omega
theorem sbF_both {d q x y : Int} (hd : 0 ≤ d) (hq : 1 ≤ q) (hx : 0 ≤ x) (hy : 0 ≤ y) : sbF d q x + sbF d q y ≤ sbF d q (x + y + d) := by
  obtain ⟨a, r, ha, h0, h1, h2⟩ := parts0 x (show 1 ≤ d + q by omega) hx
  obtain ⟨b, s, hb, g0, g1, g2⟩ := parts0 y (show 1 ≤ d + q by omega) hy
  rw [sbF_at h0 h1 h2, sbF_at g0 g1 g2]
  have e0 : (a + b) * (d + q) = a * (d + q) + b * (d + q) := Int.add_mul _ _ _
  have f0 : (a + b) * q = a * q + b * q := Int.add_mul _ _ _
  have e1 : (a + b + 1) * (d + q) = a * (d + q) + b * (d + q) + (d + q) := by rw [Int.add_mul, e0]; omega
  have f1 : (a + b + 1) * q = a * q + b * q + q := by rw [Int.add_mul, f0]; omega
  have e2 : (a + b + 1 + 1) * (d + q) = a * (d + q) + b * (d + q) + (d + q) + (d + q) := by rw [Int.add_mul, e1]; omega
  have f2 : (a + b + 1 + 1) * q = a * q + b * q + q + q := by rw [Int.add_mul, f1]; omega
  by_cases c1 : r + s + d < d + q
  · rw [sbF_at (a := a + b) (r := r + s + d) (by omega) c1 (by rw [e0]; omega), f0]; omega
  · by_cases c2 : r + s + d - (d + q) < d + q
    · rw [sbF_at (a := a + b + 1) (r := r + s + d - (d + q)) (by omega) c2 (by rw [e1]; omega), f1]; omega
    · rw [sbF_at (a := a + b + 1 + 1) (r := r + s + d - (d + q) - (d + q)) (by omega) (by omega) (by rw [e2]; omega), f2]; omega
/-- Two intervals, one behind the other. -/
theorem sb_both {g d q a b : Int} (hg : d ≤ g) (hd : 0 ≤ d) (hq : 1 ≤ q) (ha : 0 ≤ a) (hb : 0 ≤ b) : sb g d q a + sb g d q b ≤ sb g d q (a + b) := by
  by_cases h1 : a ≤ g
  · have := sb_le (g := g) (m := b) (n := a + b) hd hq (by omega)
    have := sb_small (g := g) (l := a) hd hq (by omega); omega
  · by_cases h2 : b ≤ g
    · have := sb_le (g := g) (m := a) (n := a + b) hd hq (by omega)
      have := sb_small (g := g) (l := b) hd hq (by omega); omega
    · have k1 := sbF_both (x := a - g) (y := b - g) hd hq (by omega) (by omega)
      have k2 := sbF_le (m := a - g + (b - g) + d) (n := a + b - g) hd hq (by omega)
      unfold sb
      rw [show max 0 (a - g) = a - g by omega, show max 0 (b - g) = b - g by omega, show max 0 (a + b - g) = a + b - g by omega]
      omega
/-- The line is never above the supply. -/
theorem sb_line {g d q a : Int} (hd : 0 ≤ d) (hq : 1 ≤ q) : q * (a - (g + d)) ≤ sb g d q a * (d + q) := by
  by_cases h : a ≤ g + d
  · rw [sb_small hd hq h]
    have := Int.mul_nonneg (show 0 ≤ q by omega) (show 0 ≤ g + d - a by omega)
    have e : q * (g + d - a) = - (q * (a - (g + d))) := by rw [← Int.mul_neg]; congr 1; omega
    omega
  · unfold sb
    rw [show max 0 (a - g) = a - g by omega]
    obtain ⟨k, r, hk, h0, h1, h2⟩ := parts0 (a - g) (show 1 ≤ d + q by omega) (by omega)
    rw [sbF_at h0 h1 h2]
    have e1 : a - (g + d) = k * (d + q) + (r - d) := by omega
    have e2 : q * (k * (d + q) + (r - d)) = k * q * (d + q) + q * (r - d) := by rw [Int.mul_add, Int.mul_left_comm, Int.mul_assoc]
    have e3 : (k * q + max 0 (r - d)) * (d + q) = k * q * (d + q) + max 0 (r - d) * (d + q) := Int.add_mul _ _ _
    rw [e1, e2, e3]
    by_cases c : d ≤ r
    · rw [show max 0 (r - d) = r - d by omega]
      have e4 : (r - d) * (d + q) = (r - d) * d + q * (r - d) := by rw [Int.mul_add, Int.mul_comm (r - d) q]
      have e5 := Int.mul_nonneg (show 0 ≤ r - d by omega) hd
      omega
    · rw [show max 0 (r - d) = 0 by omega]
      have := Int.mul_nonneg (show 0 ≤ q by omega) (show 0 ≤ d - r by omega)
      have e : q * (d - r) = - (q * (r - d)) := by rw [← Int.mul_neg]; congr 1; omega
      omega
/-- More budget never gives less. -/
theorem sbF_more {d q m : Int} (hd : 1 ≤ d) (hq : 1 ≤ q) (hm : 0 ≤ m) : sbF d q m ≤ sbF (d - 1) (q + 1) m := by
  obtain ⟨k, r, hk, h0, h1, h2⟩ := parts0 m (show 1 ≤ d + q by omega) hm
  have e : d - 1 + (q + 1) = d + q := by omega
  rw [sbF_at h0 h1 h2, sbF_at (d := d - 1) (q := q + 1) (a := k) (r := r) h0 (by omega) (by rw [e]; omega)]
  have : k * (q + 1) = k * q + k := by rw [Int.mul_add]; omega
  omega
theorem sb_more {g g' d q l : Int} (hg : g' ≤ g) (hd : 1 ≤ d) (hq : 1 ≤ q) : sb g d q l ≤ sb g' (d - 1) (q + 1) l := by
  unfold sb
  have k1 := sbF_more (m := max 0 (l - g)) hd hq (by omega)
  have k2 := sbF_le (d := d - 1) (q := q + 1) (m := max 0 (l - g)) (n := max 0 (l - g')) (by omega) (by omega) (by omega)
  omega
theorem sb_sooner {g g' d q l : Int} (hg : g' ≤ g) (hd : 0 ≤ d) (hq : 1 ≤ q) : sb g d q l ≤ sb g' d q l := sbF_le hd hq (by omega)
theorem sb_whole {l : Int} (hl : 0 ≤ l) : sb 0 0 1 l = l := by
  unfold sb sbF
  rw [show max 0 (l - 0) = l by omega, show (0 : Int) + 1 = 1 by omega, Int.ediv_one, Int.emod_one]; omega
theorem lsF_pos {g d q x : Int} (hx : 1 ≤ x) (hq : 1 ≤ q) : ∃ k r, 0 ≤ k ∧ 0 ≤ r ∧ r < q ∧ x - 1 = k * q + r ∧ lsF g d q x = g + d + k * (d + q) + r + 1 := by
  obtain ⟨k, r, hk, h0, h1, h2⟩ := parts0 (x - 1) hq (by omega)
  refine ⟨k, r, hk, h0, h1, h2, ?_⟩
  unfold lsF
  rw [if_neg (by omega), (dm h0 h1 h2).1, (dm h0 h1 h2).2]
theorem lsF_zero {g d q : Int} : lsF g d q 0 = 0 := rfl
theorem lsF_one {g d q : Int} (_hq : 1 ≤ q) : lsF g d q 1 = g + d + 1 := by
  unfold lsF; rw [if_neg (by omega), show (1 : Int) - 1 = 0 by omega, Int.zero_ediv, Int.zero_emod]; omega
/-- One tick less gives one less. -/
theorem sb_lsF1 {g d q x : Int} (hd : 0 ≤ d) (hq : 1 ≤ q) (hx : 1 ≤ x) : sb g d q (lsF g d q x - 1) = x - 1 := by
  obtain ⟨k, r, hk, h0, h1, h2, h3⟩ := lsF_pos (g := g) (d := d) hx hq
  have hn := Int.mul_nonneg hk (show 0 ≤ d + q by omega)
  unfold sb
  rw [h3, sbF_at (a := k) (r := d + r) (by omega) (by omega) (by omega)]; omega
theorem sb_lsF {g d q x : Int} (hg : 0 ≤ g) (hd : 0 ≤ d) (hq : 1 ≤ q) (hx : 0 ≤ x) : sb g d q (lsF g d q x) = x := by
  by_cases e : x = 0
  · subst e; exact sb_zero hg hd hq
  · obtain ⟨k, r, hk, h0, h1, h2, h3⟩ := lsF_pos (g := g) (d := d) (x := x) (by omega) hq
    have hn := Int.mul_nonneg hk (show 0 ≤ d + q by omega)
    have k1 := sb_lsF1 (g := g) hd hq (show 1 ≤ x by omega)
    have k2 : sbAt g d q (lsF g d q x - 1) = true := by
      unfold sbAt
      rw [h3]
      refine decide_eq_true ⟨by omega, ?_⟩
      rw [(dm (T := d + q) (a := k) (r := d + r) (by omega) (by omega) (by omega)).2]; omega
    have k3 := sb_yes hd hq k2
    rw [show lsF g d q x - 1 + 1 = lsF g d q x by omega] at k3
    omega
theorem lsF_ge {g d q x : Int} (hg : 0 ≤ g) (hd : 0 ≤ d) (hq : 1 ≤ q) (hx : 0 ≤ x) : x ≤ lsF g d q x := by
  by_cases e : x = 0
  · subst e; rw [lsF_zero]; omega
  · obtain ⟨k, r, hk, h0, h1, h2, h3⟩ := lsF_pos (g := g) (d := d) (x := x) (by omega) hq
    have e1 : k * (d + q) = k * d + k * q := Int.mul_add _ _ _
    have e2 := Int.mul_nonneg hk hd
    omega
theorem lsF_mono {g d q x y : Int} (hg : 0 ≤ g) (hd : 0 ≤ d) (hq : 1 ≤ q) (hx : 0 ≤ x) (h : x ≤ y) : lsF g d q x ≤ lsF g d q y := by
  refine Decidable.byContradiction fun hn => ?_
  have k0 := lsF_ge hg hd hq (show 0 ≤ y by omega)
  have hx1 : 1 ≤ x := by
    refine Decidable.byContradiction fun h1 => hn ?_
    rw [show x = 0 by omega, lsF_zero]; omega
  have k1 := sb_lsF1 (g := g) hd hq hx1
  have k2 := sb_lsF hg hd hq (show 0 ≤ y by omega)
  have k3 := sb_le (g := g) (m := lsF g d q y) (n := lsF g d q x - 1) hd hq (by omega)
  omega
/-- Two amounts together take at most both times. -/
theorem lsF_both {g d q x y : Int} (hg : 0 ≤ g) (hd : 0 ≤ d) (hq : 1 ≤ q) (hx : 0 ≤ x) (hy : 0 ≤ y) : lsF g d q (x + y) ≤ lsF g d q x + lsF g d q y := by
  by_cases ex : x = 0
  · subst ex; rw [lsF_zero]; simp
  by_cases ey : y = 0
  · subst ey; rw [lsF_zero]; simp
  obtain ⟨k, r, hk, h0, h1, h2, h3⟩ := lsF_pos (g := g) (d := d) (x := x) (by omega) hq
  obtain ⟨j, s, hj, g0, g1, g2, g3⟩ := lsF_pos (g := g) (d := d) (x := y) (by omega) hq
  rw [h3, g3]
  have e0 : (k + j) * (d + q) = k * (d + q) + j * (d + q) := Int.add_mul _ _ _
  have f0 : (k + j) * q = k * q + j * q := Int.add_mul _ _ _
  have e1 : (k + j + 1) * (d + q) = k * (d + q) + j * (d + q) + (d + q) := by rw [Int.add_mul, e0]; omega
  have f1 : (k + j + 1) * q = k * q + j * q + q := by rw [Int.add_mul, f0]; omega
  unfold lsF
  rw [if_neg (by omega)]
  by_cases c : r + s + 1 < q
  · obtain ⟨a1, a2⟩ := dm (T := q) (m := x + y - 1) (a := k + j) (r := r + s + 1) (by omega) c (by rw [f0]; omega)
    rw [a1, a2, e0]; omega
  · obtain ⟨a1, a2⟩ := dm (T := q) (m := x + y - 1) (a := k + j + 1) (r := r + s + 1 - q) (by omega) (by omega) (by rw [f1]; omega)
    rw [a1, a2, e1]; omega
theorem lsF_bound {g d q x : Int} (hd : 0 ≤ d) (hq : 1 ≤ q) (hg' : g ≤ 256) (hT : d + q ≤ 256) (hx : 0 ≤ x) (M : Int) (hM : x ≤ M) (hM1 : 1 ≤ M) : lsF g d q x ≤ 512 + 256 * M + M := by
  by_cases e : x = 0
  · subst e; rw [lsF_zero]; omega
  · obtain ⟨k, r, hk, h0, h1, h2, h3⟩ := lsF_pos (g := g) (d := d) (x := x) (by omega) hq
    have e1 : k * (d + q) ≤ k * 256 := Int.mul_le_mul_of_nonneg_left hT hk
    have e2 : k * 1 ≤ k * q := Int.mul_le_mul_of_nonneg_left hq hk
    omega
end Go.Proofs.YtdkjoedebjinkaaDoor
