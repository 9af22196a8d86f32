/- Demands and requests as numbers: how they grow, and what bounds them. -/
import Derived.Test.YtilnchlnlnpkfaaDoorPlMath
namespace Go.Proofs.YtilnchlnlnpkfaaDoor

def sdem (s : Sv) (l : Int) : Int := s.2.1 * (l / s.2.2) + (if s.1 = 3 then min s.2.1 (l % s.2.2) else 0)
def bgn (l p : Int) : Int := (l + p - 1) / p
def sreq (s : Sv) (l : Int) : Int := s.2.1 * bgn l s.2.2 + (if s.1 = 3 ∧ 0 < l then s.2.1 else 0)
def tdem (t : Tk) (l : Int) : Int := if l < t.2.2.1 then 0 else t.1 * ((l - t.2.2.1) / t.2.1 + 1)
def treq (t : Tk) (l : Int) : Int := t.1 * bgn l t.2.1
def tot {α : Type} (f : α → Int) (xs : List α) : Int := (xs.map f).sum
theorem dm {T m a r : Int} (h0 : 0 ≤ r) (h1 : r < T) (h : m = a * T + r) : m / T = a ∧ m % T = r := by
  subst h
  have hT : T ≠ 0 := by omega
  constructor
  · rw [Int.add_comm, Int.add_mul_ediv_right _ _ hT, Int.ediv_eq_zero_of_lt h0 h1]; omega
  · rw [Int.add_comm, Int.add_mul_emod_self_right]; exact Int.emod_eq_of_lt h0 h1
theorem parts0 {T : Int} (m : Int) (hT : 1 ≤ T) (hm : 0 ≤ m) : ∃ a r, 0 ≤ a ∧ 0 ≤ r ∧ r < T ∧ m = a * T + r :=
  ⟨m / T, m % T, Int.ediv_nonneg hm (by omega), Int.emod_nonneg m (by omega), Int.emod_lt_of_pos m (by omega), by rw [Int.mul_comm]; exact (Int.mul_ediv_add_emod m T).symm⟩
theorem bgn_at {T l a r : Int} (h0 : 0 ≤ r) (h1 : r < T) (h : l = a * T + r) : bgn l T = a + if r = 0 then 0 else 1 := by
  unfold bgn
  by_cases e : r = 0
  · rw [if_pos e, (dm (a := a) (r := T - 1) (by omega) (by omega) (by omega)).1]; omega
  · rw [if_neg e, (dm (T := T) (a := a + 1) (r := r - 1) (by omega) (by omega) (by rw [Int.add_mul]; omega)).1]
theorem sdem_at {k q T l a r : Int} (h0 : 0 ≤ r) (h1 : r < T) (h : l = a * T + r) : sdem (k, q, T) l = q * a + if k = 3 then min q r else 0 := by
  obtain ⟨e1, e2⟩ := dm h0 h1 h
  simp only [sdem, e1, e2]
theorem sreq_at {k q T l a r : Int} (h0 : 0 ≤ r) (h1 : r < T) (h : l = a * T + r) : sreq (k, q, T) l = q * a + (if r = 0 then 0 else q) + if k = 3 ∧ 0 < l then q else 0 := by
  simp only [sreq, bgn_at h0 h1 h]
  by_cases e : r = 0
  · simp [e]
  · simp only [if_neg e]; rw [Int.mul_add, Int.mul_one]
theorem sdem_bounds {s : Sv} (h : okS s) {l : Int} (hl : 0 ≤ l) : 0 ≤ sdem s l ∧ sdem s l ≤ l := by
  obtain ⟨k, q, T⟩ := s
  obtain ⟨h1, h2, h3, h4, h5⟩ := h
  simp only at h1 h2 h3 h4 h5
  obtain ⟨a, r, ha, r0, r1, hm⟩ := parts0 (T := T) l (by omega) hl
  rw [sdem_at r0 r1 hm]
  have e0 : 0 ≤ q * a := Int.mul_nonneg (by omega) ha
  have e1 : q * a ≤ T * a := Int.mul_le_mul_of_nonneg_right h4 ha
  rw [Int.mul_comm T a] at e1
  split <;> omega
theorem sreq_bounds {s : Sv} (h : okS s) {l : Int} (hl : 0 ≤ l) : 0 ≤ sreq s l ∧ sreq s l ≤ l + 512 := by
  obtain ⟨k, q, T⟩ := s
  obtain ⟨h1, h2, h3, h4, h5⟩ := h
  simp only at h1 h2 h3 h4 h5
  obtain ⟨a, r, ha, r0, r1, hm⟩ := parts0 (T := T) l (by omega) hl
  rw [sreq_at r0 r1 hm]
  have e0 : 0 ≤ q * a := Int.mul_nonneg (by omega) ha
  have e1 : q * a ≤ T * a := Int.mul_le_mul_of_nonneg_right h4 ha
  rw [Int.mul_comm T a] at e1
  split <;> split <;> omega
theorem tdem_bounds {t : Tk} (h : okT t) {l : Int} (_hl : 0 ≤ l) : 0 ≤ tdem t l ∧ tdem t l ≤ l := by
  obtain ⟨c, p, d, s⟩ := t
  obtain ⟨h1, h2, h3, h4, h5, h6⟩ := h
  simp only at h1 h2 h3 h4 h5 h6
  simp only [tdem]
  split
  · omega
  · obtain ⟨a, r, ha, r0, r1, hm⟩ := parts0 (T := p) (l - d) (by omega) (by omega)
    rw [(dm r0 r1 hm).1, Int.mul_add, Int.mul_one]
    have e0 : 0 ≤ c * a := Int.mul_nonneg (by omega) ha
    have e1 : c * a ≤ p * a := Int.mul_le_mul_of_nonneg_right (by omega) ha
    rw [Int.mul_comm p a] at e1
    omega
theorem treq_bounds {t : Tk} (h : okT t) {l : Int} (hl : 0 ≤ l) : 0 ≤ treq t l ∧ treq t l ≤ l + 512 := by
  obtain ⟨c, p, d, s⟩ := t
  obtain ⟨h1, h2, h3, h4, h5, h6⟩ := h
  simp only at h1 h2 h3 h4 h5 h6
  simp only [treq]
  obtain ⟨a, r, ha, r0, r1, hm⟩ := parts0 (T := p) l (by omega) hl
  rw [bgn_at r0 r1 hm, Int.mul_add]
  have e0 : 0 ≤ c * a := Int.mul_nonneg (by omega) ha
  have e1 : c * a ≤ p * a := Int.mul_le_mul_of_nonneg_right (by omega) ha
  rw [Int.mul_comm p a] at e1
  split <;> omega
theorem sdem_step {s : Sv} (h : okS s) {l : Int} (hl : 0 ≤ l) : sdem s l ≤ sdem s (l + 1) := by
  obtain ⟨k, q, T⟩ := s
  obtain ⟨h1, h2, h3, h4, h5⟩ := h
  simp only at h1 h2 h3 h4 h5
  obtain ⟨a, r, ha, r0, r1, hm⟩ := parts0 (T := T) l (by omega) hl
  rw [sdem_at r0 r1 hm]
  by_cases e : r + 1 = T
  · rw [sdem_at (l := l + 1) (a := a + 1) (r := 0) (by omega) (by omega) (by rw [Int.add_mul]; omega), Int.mul_add, Int.mul_one]
    split <;> omega
  · rw [sdem_at (l := l + 1) (a := a) (r := r + 1) (by omega) (by omega) (by omega)]
    split <;> omega
theorem sreq_step {s : Sv} (h : okS s) {l : Int} (hl : 0 ≤ l) : sreq s l ≤ sreq s (l + 1) := by
  obtain ⟨k, q, T⟩ := s
  obtain ⟨h1, h2, h3, h4, h5⟩ := h
  simp only at h1 h2 h3 h4 h5
  obtain ⟨a, r, ha, r0, r1, hm⟩ := parts0 (T := T) l (by omega) hl
  rw [sreq_at r0 r1 hm]
  by_cases e : r + 1 = T
  · rw [sreq_at (l := l + 1) (a := a + 1) (r := 0) (by omega) (by omega) (by rw [Int.add_mul]; omega), Int.mul_add, Int.mul_one]
    split <;> split <;> split <;> split <;> omega
  · rw [sreq_at (l := l + 1) (a := a) (r := r + 1) (by omega) (by omega) (by omega)]
    split <;> split <;> split <;> split <;> omega
theorem sdem_le_sreq {s : Sv} (h : okS s) {l : Int} (hl : 0 ≤ l) : sdem s l ≤ sreq s l := by
  obtain ⟨k, q, T⟩ := s
  obtain ⟨h1, h2, h3, h4, h5⟩ := h
  simp only at h1 h2 h3 h4 h5
  obtain ⟨a, r, ha, r0, r1, hm⟩ := parts0 (T := T) l (by omega) hl
  rw [sdem_at r0 r1 hm, sreq_at r0 r1 hm]
  have e0 : 0 ≤ a * T := Int.mul_nonneg ha (by omega)
  split <;> split <;> split <;> omega
def xtr (s : Sv) : Int := if s.1 = 3 then s.2.1 else 0
theorem sdem_share {s : Sv} (h : okS s) {l : Int} (hl : 0 ≤ l) : (sdem s l - xtr s) * s.2.2 ≤ s.2.1 * l := by
  obtain ⟨k, q, T⟩ := s
  obtain ⟨h1, h2, h3, h4, h5⟩ := h
  simp only at h1 h2 h3 h4 h5
  obtain ⟨a, r, ha, r0, r1, hm⟩ := parts0 (T := T) l (by omega) hl
  rw [sdem_at r0 r1 hm]
  simp only [xtr]
  have e1 : (q * a + (if k = 3 then min q r else 0) - (if k = 3 then q else 0)) * T ≤ (q * a) * T := Int.mul_le_mul_of_nonneg_right (by split <;> omega) (by omega)
  have e2 : q * l = (q * a) * T + q * r := by rw [hm, Int.mul_add, Int.mul_assoc]
  have e3 : 0 ≤ q * r := Int.mul_nonneg (by omega) r0
  omega
/-- Two intervals, one behind the other. -/
theorem sdem_two {s : Sv} (h : okS s) {a b : Int} (ha : 0 ≤ a) (hb : 0 ≤ b) : (s.1 = 3 → sdem s (a + b) ≤ sdem s a + sdem s b + s.2.1 ∧ sdem s a + sdem s b ≤ sdem s (a + b) + s.2.1) ∧ (¬ s.1 = 3 → sdem s a + sdem s b ≤ sdem s (a + b)) := by
  obtain ⟨k, q, T⟩ := s
  obtain ⟨h1, h2, h3, h4, h5⟩ := h
  simp only at h1 h2 h3 h4 h5
  obtain ⟨x, r, x0, r0, r1, hm⟩ := parts0 (T := T) a (by omega) ha
  obtain ⟨y, u, y0, u0, u1, hn⟩ := parts0 (T := T) b (by omega) hb
  rw [sdem_at r0 r1 hm, sdem_at u0 u1 hn]
  by_cases e : r + u < T
  · rw [sdem_at (l := a + b) (a := x + y) (r := r + u) (by omega) e (by rw [Int.add_mul]; omega), Int.mul_add]
    simp only
    constructor
    · intro hk; simp only [if_pos hk]; omega
    · intro hk; simp only [if_neg hk]; omega
  · rw [sdem_at (l := a + b) (a := x + y + 1) (r := r + u - T) (by omega) (by omega) (by rw [Int.add_mul, Int.add_mul]; omega), Int.mul_add, Int.mul_add, Int.mul_one]
    simp only
    constructor
    · intro hk; simp only [if_pos hk]; omega
    · intro hk; simp only [if_neg hk]; omega
theorem sreq_two {s : Sv} (h : okS s) {a b : Int} (ha : 0 ≤ a) (hb : 0 ≤ b) : sreq s (a + b) ≤ sreq s a + sreq s b := by
  obtain ⟨k, q, T⟩ := s
  obtain ⟨h1, h2, h3, h4, h5⟩ := h
  simp only at h1 h2 h3 h4 h5
  obtain ⟨x, r, x0, r0, r1, hm⟩ := parts0 (T := T) a (by omega) ha
  obtain ⟨y, u, y0, u0, u1, hn⟩ := parts0 (T := T) b (by omega) hb
  rw [sreq_at r0 r1 hm, sreq_at u0 u1 hn]
  have hc : (if k = 3 ∧ 0 < a + b then q else 0) ≤ (if k = 3 ∧ 0 < a then q else 0) + (if k = 3 ∧ 0 < b then q else 0) := by split <;> split <;> split <;> omega
  by_cases e : r + u < T
  · rw [sreq_at (l := a + b) (a := x + y) (r := r + u) (by omega) e (by rw [Int.add_mul]; omega), Int.mul_add]
    have hd : (if r + u = 0 then 0 else q) ≤ (if r = 0 then 0 else q) + (if u = 0 then 0 else q) := by split <;> split <;> split <;> omega
    omega
  · rw [sreq_at (l := a + b) (a := x + y + 1) (r := r + u - T) (by omega) (by omega) (by rw [Int.add_mul, Int.add_mul]; omega), Int.mul_add, Int.mul_add, Int.mul_one]
    have hd : q + (if r + u - T = 0 then 0 else q) ≤ (if r = 0 then 0 else q) + (if u = 0 then 0 else q) := by split <;> split <;> split <;> omega
    omega
/-- A period more. -/
theorem sdem_period {s : Sv} (h : okS s) {l : Int} (hl : 0 ≤ l) : sdem s (l + s.2.2) = sdem s l + s.2.1 := by
  obtain ⟨k, q, T⟩ := s
  obtain ⟨h1, h2, h3, h4, h5⟩ := h
  simp only at h1 h2 h3 h4 h5
  obtain ⟨a, r, ha, r0, r1, hm⟩ := parts0 (T := T) l (by omega) hl
  rw [sdem_at r0 r1 hm]
  simp only
  rw [sdem_at (l := l + T) (a := a + 1) (r := r) r0 r1 (by rw [Int.add_mul]; omega), Int.mul_add, Int.mul_one]
  omega
theorem tdem_period {t : Tk} (h : okT t) {l : Int} (hl : 0 ≤ l) : tdem t (l + t.2.2.1 + t.2.1) = tdem t (l + t.2.2.1) + t.1 := by
  obtain ⟨c, p, d, s⟩ := t
  obtain ⟨h1, h2, h3, h4, h5, h6⟩ := h
  simp only at h1 h2 h3 h4 h5 h6
  obtain ⟨a, r, ha, r0, r1, hm⟩ := parts0 (T := p) l (by omega) hl
  simp only [tdem]
  rw [if_neg (by omega), if_neg (by omega), (dm (T := p) (m := l + d + p - d) (a := a + 1) (r := r) r0 r1 (by rw [Int.add_mul]; omega)).1, (dm (T := p) (m := l + d - d) (a := a) (r := r) r0 r1 (by omega)).1, Int.mul_add, Int.mul_add]
  omega
theorem tdem_early {t : Tk} : tdem t (t.2.2.1 - 1) = 0 := by
  unfold tdem; exact if_pos (by omega)
theorem sdem_zero {s : Sv} (h : okS s) : sdem s 0 = 0 := by
  have := sdem_bounds h (Int.le_refl 0); omega
/-- Sums. -/
theorem tot_nil {α : Type} (f : α → Int) : tot f [] = 0 := rfl
theorem tot_snoc {α : Type} (f : α → Int) (xs : List α) (x : α) : tot f (xs ++ [x]) = tot f xs + f x := by simp [tot]
theorem tot_cons {α : Type} (f : α → Int) (xs : List α) (x : α) : tot f (x :: xs) = f x + tot f xs := by simp [tot]
theorem tot_take {α : Type} (f : α → Int) {xs : List α} {j : Nat} {x : α} (h : xs[j]? = some x) : tot f (xs.take (j + 1)) = tot f (xs.take j) + f x := by
  rw [List.take_add_one, h]; exact tot_snoc f _ x
theorem tot_bounds {α : Type} (f : α → Int) (B : Int) (xs : List α) (h : ∀ x ∈ xs, 0 ≤ f x ∧ f x ≤ B) : 0 ≤ tot f xs ∧ tot f xs ≤ xs.length * B := by
  induction xs with
  | nil => simp [tot]
  | cons x r ih =>
    obtain ⟨i1, i2⟩ := ih (fun y hy => h y (by simp [hy]))
    obtain ⟨h1, h2⟩ := h x (by simp)
    rw [tot_cons, List.length_cons]
    have : ((r.length + 1 : Nat) : Int) * B = r.length * B + B := by push_cast; rw [Int.add_mul]; omega
    rw [this]
    omega
theorem tot_le {α : Type} (f g : α → Int) (xs : List α) (h : ∀ x ∈ xs, f x ≤ g x) : tot f xs ≤ tot g xs := by
  induction xs with
  | nil => simp [tot]
  | cons x r ih =>
    have i1 := ih (fun y hy => h y (by simp [hy]))
    have h1 := h x (by simp)
    rw [tot_cons, tot_cons]; omega
theorem tot_fit {α : Type} (f : α → Int) (B : Int) (hB : 0 ≤ B) (xs : List α) (h : ∀ x ∈ xs, 0 ≤ f x ∧ f x ≤ B) (hl : xs.length ≤ 8) : 0 ≤ tot f xs ∧ tot f xs ≤ 8 * B := by
  obtain ⟨h1, h2⟩ := tot_bounds f B xs h
  have : (xs.length : Int) * B ≤ 8 * B := Int.mul_le_mul_of_nonneg_right (by omega) hB
  omega
theorem tot_zero {xs : List Sv} (h : ∀ x ∈ xs, okS x) : tot (sdem · 0) xs = 0 := by
  have h1 := tot_bounds (sdem · 0) 0 xs (fun x hx => by rw [sdem_zero (h x hx)]; omega)
  omega
/-- What may block: the greatest of S - 1, at least 0. -/
def blk (xs : List Tk) : Int := xs.foldl (fun n t => max n (t.2.2.2 - 1)) 0
theorem blk_snoc (xs : List Tk) (t : Tk) : blk (xs ++ [t]) = max (blk xs) (t.2.2.2 - 1) := by simp [blk, List.foldl_append]
def late (l : Int) (t : Tk) : Bool := decide (l < t.2.2.1)
theorem blk_bounds (xs : List Tk) (h : ∀ x ∈ xs, okT x) : 0 ≤ blk xs ∧ blk xs ≤ 256 := by
  revert h
  refine snoc_ind (M := fun xs => (∀ x ∈ xs, okT x) → 0 ≤ blk xs ∧ blk xs ≤ 256) ?_ ?_ xs
  · intro _; simp [blk]
  · intro l x ih h
    obtain ⟨h1, h2⟩ := ih (fun y hy => h y (by simp [hy]))
    obtain ⟨x1, x2, x3, x4, x5, x6⟩ := h x (by simp)
    rw [blk_snoc]; omega
def bdl (l : Int) (xs : List Tk) : Int := blk (xs.filter (late l))
theorem bdl_take {l : Int} {xs : List Tk} {j : Nat} {t : Tk} (h : xs[j]? = some t) : bdl l (xs.take (j + 1)) = if l < t.2.2.1 then max (bdl l (xs.take j)) (t.2.2.2 - 1) else bdl l (xs.take j) := by
  rw [List.take_add_one, h]
  unfold bdl
  simp only [Option.toList_some, List.filter_append]
  by_cases e : l < t.2.2.1
  · rw [if_pos e, show List.filter (late l) [t] = [t] by simp [late, e], blk_snoc]
  · rw [if_neg e, show List.filter (late l) [t] = [] by simp [late, e], List.append_nil]
theorem bdl_bounds (l : Int) (xs : List Tk) (h : ∀ x ∈ xs, okT x) : 0 ≤ bdl l xs ∧ bdl l xs ≤ 256 := blk_bounds _ (fun x hx => h x (List.mem_filter.mp hx).1)
theorem blk_take {xs : List Tk} {j : Nat} {t : Tk} (h : xs[j]? = some t) : blk (xs.take (j + 1)) = max (blk (xs.take j)) (t.2.2.2 - 1) := by
  rw [List.take_add_one, h]; exact blk_snoc _ t
end Go.Proofs.YtilnchlnlnpkfaaDoor
