import Derived.Test.YtnmmphnaelpjdaaDoorM1
/- Servers as jobs that run by earliest deadline: what is due was asked for, and a busy time is short. -/
namespace Go.Proofs.YtnmmphnaelpjdaaDoor

/-- A sum over the first n numbers. -/
def rs : Nat → (Nat → Int) → Int
  | 0, _ => 0
  | n + 1, f => rs n f + f n
theorem rs_le {n : Nat} {f g : Nat → Int} (h : ∀ i, i < n → f i ≤ g i) : rs n f ≤ rs n g := by
  induction n with
  | zero => exact Int.le_refl _
  | succ n ih =>
    have h1 := ih (fun i hi => h i (by omega))
    have h2 := h n (by omega)
    show rs n f + f n ≤ rs n g + g n
    omega
theorem rs_congr {n : Nat} {f g : Nat → Int} (h : ∀ i, i < n → f i = g i) : rs n f = rs n g := by
  induction n with
  | zero => rfl
  | succ n ih =>
    have h1 := ih (fun i hi => h i (by omega))
    have h2 := h n (by omega)
    show rs n f + f n = rs n g + g n
    omega
theorem rs_zero {n : Nat} {f : Nat → Int} (h : ∀ i, i < n → f i = 0) : rs n f = 0 := by
  induction n with
  | zero => rfl
  | succ n ih =>
    have h1 := ih (fun i hi => h i (by omega))
    have h2 := h n (by omega)
    show rs n f + f n = 0
    omega
theorem rs_upd {n : Nat} {f g : Nat → Int} {j : Nat} (hj : j < n) (h : ∀ i, i < n → i ≠ j → g i = f i) : rs n g = rs n f + (g j - f j) := by
  induction n with
  | zero => omega
  | succ n ih =>
    show rs n g + g n = rs n f + f n + (g j - f j)
    by_cases e : j = n
    · subst e
      have := rs_congr (n := j) (f := g) (g := f) (fun i hi => h i (by omega) (by omega))
      omega
    · have h1 := ih (by omega) (fun i hi hn => h i (by omega) hn)
      have h2 := h n (by omega) (by omega)
      omega
theorem rs_nonneg {n : Nat} {f : Nat → Int} (h : ∀ i, i < n → 0 ≤ f i) : 0 ≤ rs n f := by
  have := rs_le (n := n) (f := fun _ => 0) (g := f) h
  rwa [rs_zero (f := fun _ => 0) (fun _ _ => rfl)] at this
theorem rs_ge {n : Nat} {f : Nat → Int} (h : ∀ i, i < n → 0 ≤ f i) {j : Nat} (hj : j < n) : f j ≤ rs n f := by
  have h1 := rs_upd (n := n) (f := fun i => if i = j then 0 else f i) (g := f) hj (fun i _ hn => by simp [hn])
  have h2 := rs_nonneg (n := n) (f := fun i => if i = j then 0 else f i) (fun i hi => by split; omega; exact h i hi)
  simp only [if_true] at h1
  omega
theorem rs_all0 {n : Nat} {f : Nat → Int} (h : ∀ i, i < n → 0 ≤ f i) (h0 : rs n f = 0) : ∀ i, i < n → f i = 0 := by
  intro i hi
  have := rs_ge h hi
  have := h i hi
  omega
/-- A sum over a list is one over its places. -/
theorem tot_rs {α : Type} (f : α → Int) (xs : List α) (g : Nat → Int) (h : ∀ i x, xs[i]? = some x → g i = f x) : tot f xs = rs xs.length g := by
  revert h
  refine snoc_ind (M := fun xs => (∀ i x, xs[i]? = some x → g i = f x) → tot f xs = rs xs.length g) ?_ ?_ xs
  · intro _; rfl
  · intro l x ih h
    rw [tot_snoc, List.length_append, List.length_singleton]
    show tot f l + f x = rs l.length g + g l.length
    rw [ih (fun i y hy => h i y (by rw [List.getElem?_append_left (List.getElem?_eq_some_iff.mp hy).1]; exact hy)), h l.length x (by simp)]
/-- A function with one place changed. -/
def upd (f : Nat → Int) (j : Nat) (v : Int) : Nat → Int := fun i => if i = j then v else f i
theorem upd_at (f : Nat → Int) (j : Nat) (v : Int) : upd f j v j = v := if_pos rfl
theorem upd_ne (f : Nat → Int) {j i : Nat} (v : Int) (h : i ≠ j) : upd f j v i = f i := if_neg h
/-- What is due by D. -/
def pend (n : Nat) (L E : Nat → Int) (D : Int) : Int := rs n (fun i => if E i ≤ D then L i else 0)
def Due (n : Nat) (Q T L E : Nat → Int) (now D : Int) : Prop :=
  ∃ (t0 : Int) (c : Nat → Int), 0 ≤ t0 ∧ t0 ≤ now ∧ pend n L E D + (now - t0) ≤ rs n (fun i => Q i * c i) ∧ ∀ i, i < n → 0 ≤ c i ∧ (c i = 0 ∨ (t0 + c i * T i ≤ E i ∧ t0 + c i * T i ≤ D))
/-- What came in a busy time of b ticks; k: 1 ahead of a tick's releases, 0 behind them. -/
def Busy (n : Nat) (Q T L E : Nat → Int) (now b k : Int) : Prop :=
  ∃ c : Nat → Int, rs n L + b ≤ rs n (fun i => Q i * c i) ∧ ∀ i, i < n → 0 ≤ c i ∧ (c i = 0 ∨ (now - b + c i * T i ≤ E i ∧ E i - T i + k ≤ now))
/-- Numbers of jobs. -/
def Jobs (n : Nat) (Q L E X : Nat → Int) : Prop := ∀ i, i < n → 0 ≤ L i ∧ L i ≤ Q i ∧ E i ≤ X i
theorem due_idle {n : Nat} {Q T L E : Nat → Int} {now D : Int} (h0 : 0 ≤ now) (hp : pend n L E D = 0) : Due n Q T L E now D := by
  refine ⟨now, fun _ => 0, h0, Int.le_refl _, ?_, fun i _ => ⟨Int.le_refl _, .inl rfl⟩⟩
  rw [hp, rs_zero (fun i _ => Int.mul_zero _)]; omega
/-- A job is released. -/
theorem due_release {n : Nat} {Q T L E X : Nat → Int} {now D : Int} {j : Nat} (hj : j < n) (hQ : 0 ≤ Q j) (hT : 1 ≤ T j) (hJ : Jobs n Q L E X) (hl : L j = 0) (hx : X j ≤ now) (h : Due n Q T L E now D) : Due n Q T (upd L j (Q j)) (upd E j (now + T j)) now D := by
  obtain ⟨t0, c, h1, h2, h3, h4⟩ := h
  obtain ⟨_, _, j3⟩ := hJ j hj
  have hold : t0 + c j * T j ≤ now := by
    obtain ⟨c0, hc⟩ := h4 j hj
    rcases hc with hc | ⟨hc, _⟩
    · rw [hc]; omega
    · omega
  have hp : pend n (upd L j (Q j)) (upd E j (now + T j)) D = pend n L E D + (if now + T j ≤ D then Q j else 0) := by
    unfold pend
    rw [rs_upd (f := fun i => if E i ≤ D then L i else 0) hj (fun i _ hn => by simp only [upd_ne _ _ hn])]
    simp only [upd_at, hl]
    split <;> simp
  by_cases e : now + T j ≤ D
  · refine ⟨t0, upd c j (c j + 1), h1, h2, ?_, fun i hi => ?_⟩
    · rw [hp, if_pos e, rs_upd (f := fun i => Q i * c i) hj (fun i _ hn => by simp only [upd_ne _ _ hn])]
      simp only [upd_at]
      rw [Int.mul_add, Int.mul_one]; omega
    · by_cases ei : i = j
      · subst ei
        rw [upd_at, upd_at]
        obtain ⟨c0, _⟩ := h4 i hi
        refine ⟨by omega, .inr ?_⟩
        rw [Int.add_mul, Int.one_mul]; omega
      · rw [upd_ne _ _ ei, upd_ne _ _ ei]; exact h4 i hi
  · refine ⟨t0, c, h1, h2, ?_, fun i hi => ?_⟩
    · rw [hp, if_neg e]; omega
    · by_cases ei : i = j
      · subst ei
        rw [upd_at]
        obtain ⟨c0, hc⟩ := h4 i hi
        refine ⟨c0, ?_⟩
        rcases hc with hc | ⟨hc, hd⟩
        · exact .inl hc
        · exact .inr ⟨by omega, hd⟩
      · rw [upd_ne _ _ ei]; exact h4 i hi
theorem busy_release {n : Nat} {Q T L E X : Nat → Int} {now b : Int} {j : Nat} (hj : j < n) (hT : 1 ≤ T j) (hb : 0 ≤ b) (hJ : Jobs n Q L E X) (hl : L j = 0) (hx : X j ≤ now) (h : Busy n Q T L E now b 0) : Busy n Q T (upd L j (Q j)) (upd E j (now + T j)) now b 0 := by
  obtain ⟨c, h3, h4⟩ := h
  obtain ⟨_, _, j3⟩ := hJ j hj
  have hold : now - b + c j * T j ≤ now := by
    obtain ⟨c0, hc⟩ := h4 j hj
    rcases hc with hc | ⟨hc, _⟩
    · rw [hc]; omega
    · omega
  refine ⟨upd c j (c j + 1), ?_, fun i hi => ?_⟩
  · rw [rs_upd (f := fun i => Q i * c i) (g := fun i => Q i * upd c j (c j + 1) i) hj (fun i _ hn => by simp only [upd_ne _ _ hn]), rs_upd (f := L) (g := upd L j (Q j)) hj (fun i _ hn => upd_ne _ _ hn)]
    simp only [upd_at]
    rw [Int.mul_add, Int.mul_one]; omega
  · by_cases ei : i = j
    · subst ei
      rw [upd_at, upd_at]
      obtain ⟨c0, _⟩ := h4 i hi
      refine ⟨by omega, .inr ?_⟩
      rw [Int.add_mul, Int.one_mul]; omega
    · rw [upd_ne _ _ ei, upd_ne _ _ ei]; exact h4 i hi
/-- Nothing is late. -/
theorem on_time {xs : List Sv} {Q T L E X : Nat → Int} {now : Int} (hk : ∀ i x, xs[i]? = some x → okS x ∧ x.1 = 2 ∧ Q i = x.2.1 ∧ T i = x.2.2) (hf : ∀ l, 1 ≤ l → tot (sdem · l) xs ≤ l) (hJ : Jobs xs.length Q L E X) (h : Due xs.length Q T L E now now) {i : Nat} (hi : i < xs.length) (hl : 0 < L i) : now < E i := by
  refine Decidable.byContradiction fun hn => ?_
  obtain ⟨t0, c, h1, h2, h3, h4⟩ := h
  have hp : L i ≤ pend xs.length L E now := by
    have := rs_ge (n := xs.length) (f := fun i => if E i ≤ now then L i else 0) (fun k hk => by split; exact (hJ k hk).1; omega) hi
    rwa [if_pos (by omega)] at this
  have hs : rs xs.length (fun i => Q i * c i) ≤ tot (sdem · (now - t0)) xs := by
    rw [tot_rs (sdem · (now - t0)) xs (fun i => Q i * ((now - t0) / T i)) (fun i x hx => by
      obtain ⟨o, k2, e1, e2⟩ := hk i x hx
      simp only [sdem, e1, e2]
      rw [if_neg (by omega)]; omega)]
    refine rs_le (fun k hkk => ?_)
    obtain ⟨x, hx⟩ : ∃ x, xs[k]? = some x := ⟨_, List.getElem?_eq_getElem hkk⟩
    obtain ⟨⟨o1, o2, o3, o4, o5⟩, k2, e1, e2⟩ := hk k x hx
    obtain ⟨c0, hc⟩ := h4 k hkk
    refine Int.mul_le_mul_of_nonneg_left ?_ (by omega)
    refine (Int.le_ediv_iff_mul_le (by omega)).mpr ?_
    rcases hc with hc | ⟨_, hc⟩
    · rw [hc]; omega
    · omega
  by_cases e : 1 ≤ now - t0
  · have := hf _ e; omega
  · have e0 : now - t0 = 0 := by omega
    rw [e0, tot_zero (fun x hx => by obtain ⟨i, hi⟩ := List.getElem?_of_mem hx; exact (hk i x hi).1)] at hs
    omega
/-- A busy time as long as all requests are given ends. -/
theorem all_done {xs : List Sv} {Q T L E X : Nat → Int} {now b : Int} (hk : ∀ i x, xs[i]? = some x → okS x ∧ x.1 = 2 ∧ Q i = x.2.1 ∧ T i = x.2.2) (hb : 1 ≤ b) (hf : tot (sreq · b) xs ≤ b) (hJ : Jobs xs.length Q L E X) (h : Busy xs.length Q T L E now b 1) : rs xs.length L = 0 := by
  obtain ⟨c, h3, h4⟩ := h
  have hs : rs xs.length (fun i => Q i * c i) ≤ tot (sreq · b) xs := by
    rw [tot_rs (sreq · b) xs (fun i => Q i * bgn b (T i)) (fun i x hx => by
      obtain ⟨o, k2, e1, e2⟩ := hk i x hx
      simp only [sreq, e1, e2]
      rw [if_neg (by omega)]; omega)]
    refine rs_le (fun k hkk => ?_)
    obtain ⟨x, hx⟩ : ∃ x, xs[k]? = some x := ⟨_, List.getElem?_eq_getElem hkk⟩
    obtain ⟨⟨o1, o2, o3, o4, o5⟩, k2, e1, e2⟩ := hk k x hx
    obtain ⟨c0, hc⟩ := h4 k hkk
    refine Int.mul_le_mul_of_nonneg_left ?_ (by omega)
    unfold bgn
    refine (Int.le_ediv_iff_mul_le (by omega)).mpr ?_
    rcases hc with hc | ⟨hc, hd⟩
    · rw [hc]; omega
    · omega
  have := rs_nonneg (n := xs.length) (f := L) (fun i hi => (hJ i hi).1)
  omega
/-- The job that runs stands ahead of all others. -/
def First (n : Nat) (L E : Nat → Int) (k : Nat) : Prop := k < n ∧ 0 < L k ∧ ∀ i, i < n → 0 < L i → E k ≤ E i
theorem due_run {n : Nat} {Q T L E X : Nat → Int} {now D : Int} {k : Nat} (h0 : 0 ≤ now) (hJ : Jobs n Q L E X) (hk : First n L E k) (h : Due n Q T L E now D) : Due n Q T (upd L k (L k - 1)) E (now + 1) D := by
  obtain ⟨k1, k2, k3⟩ := hk
  have hp : pend n (upd L k (L k - 1)) E D = pend n L E D + (if E k ≤ D then -1 else 0) := by
    unfold pend
    rw [rs_upd (f := fun i => if E i ≤ D then L i else 0) k1 (fun i _ hn => by simp only [upd_ne _ _ hn])]
    simp only [upd_at]
    split <;> omega
  by_cases e : E k ≤ D
  · obtain ⟨t0, c, h1, h2, h3, h4⟩ := h
    refine ⟨t0, c, h1, by omega, ?_, h4⟩
    rw [hp, if_pos e]; omega
  · refine due_idle (by omega) ?_
    rw [hp, if_neg e]
    unfold pend
    rw [rs_zero (fun i hi => ?_)]; omega
    split
    · rename_i hd
      have := (hJ i hi).1
      refine Decidable.byContradiction fun hn => ?_
      have := k3 i hi (by omega)
      omega
    · rfl
theorem due_none {n : Nat} {Q T L E : Nat → Int} {now D : Int} (h0 : 0 ≤ now) (hl : ∀ i, i < n → L i = 0) : Due n Q T L E (now + 1) D :=
  due_idle (by omega) (rs_zero (fun i hi => by rw [hl i hi]; simp))
theorem busy_run {n : Nat} {Q T L E : Nat → Int} {now b : Int} {k : Nat} (hk : k < n) (h : Busy n Q T L E now b 0) : Busy n Q T (upd L k (L k - 1)) E (now + 1) (b + 1) 1 := by
  obtain ⟨c, h3, h4⟩ := h
  refine ⟨c, ?_, fun i hi => ?_⟩
  · rw [rs_upd (f := L) hk (fun i _ hn => upd_ne _ _ hn), upd_at]; omega
  · obtain ⟨c0, hc⟩ := h4 i hi
    refine ⟨c0, ?_⟩
    rcases hc with hc | ⟨hc, hd⟩
    · exact .inl hc
    · exact .inr ⟨by omega, by omega⟩
theorem busy_begin {n : Nat} {Q T L E : Nat → Int} {now : Int} (h : rs n L = 0) : Busy n Q T L E now 0 0 :=
  ⟨fun _ => 0, by rw [h, rs_zero (fun i _ => Int.mul_zero _)]; omega, fun i _ => ⟨Int.le_refl _, .inl rfl⟩⟩
theorem busy_on {n : Nat} {Q T L E : Nat → Int} {now b : Int} (h : Busy n Q T L E now b 1) : Busy n Q T L E now b 0 := by
  obtain ⟨c, h3, h4⟩ := h
  refine ⟨c, h3, fun i hi => ?_⟩
  obtain ⟨c0, hc⟩ := h4 i hi
  refine ⟨c0, ?_⟩
  rcases hc with hc | ⟨hc, hd⟩
  · exact .inl hc
  · exact .inr ⟨hc, by omega⟩
theorem jobs_release {n : Nat} {Q L E X : Nat → Int} {j : Nat} {e x : Int} (hQ : 0 ≤ Q j) (hJ : Jobs n Q L E X) (hx : e ≤ x) : Jobs n Q (upd L j (Q j)) (upd E j e) (upd X j x) := by
  intro i hi
  by_cases c : i = j
  · subst c; rw [upd_at, upd_at, upd_at]; exact ⟨hQ, Int.le_refl _, hx⟩
  · rw [upd_ne _ _ c, upd_ne _ _ c, upd_ne _ _ c]; exact hJ i hi
theorem jobs_run {n : Nat} {Q L E X : Nat → Int} {k : Nat} (hJ : Jobs n Q L E X) (hl : 0 < L k) : Jobs n Q (upd L k (L k - 1)) E X := by
  intro i hi
  by_cases c : i = k
  · subst c; rw [upd_at]; obtain ⟨h1, h2, h3⟩ := hJ i hi; exact ⟨by omega, by omega, h3⟩
  · rw [upd_ne _ _ c]; exact hJ i hi
end Go.Proofs.YtnmmphnaelpjdaaDoor
