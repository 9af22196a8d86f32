/- Plain arithmetic of lists of digits of base 65536, lowest first. -/
import Derived.Test.YtjhekemgcmhjoabDoorMath
import Derived.Laws.Bits64b
namespace Go.Proofs.YtjhekemgcmhjoabDoor

/-- The number that a list of digits stands for. -/
def val : List Int → Int
  | [] => 0
  | d :: ds => d + 65536 * val ds
/-- All digits lie below 65536. -/
def Digs (ds : List Int) : Prop := ∀ d ∈ ds, 0 ≤ d ∧ d ≤ 65535
/-- 65536 to the power i. -/
def pw (i : Nat) : Int := 65536 ^ i
theorem pw_succ (i : Nat) : pw (i + 1) = 65536 * pw i := by unfold pw; rw [Int.pow_succ, Int.mul_comm]
theorem pw_zero : pw 0 = 1 := rfl
theorem pw_pos (i : Nat) : 0 < pw i := by
  induction i with
  | zero => decide
  | succ i ih => rw [pw_succ]; omega
theorem pw_le {i j : Nat} (h : i ≤ j) : pw i ≤ pw j := by
  induction h with
  | refl => exact Int.le_refl _
  | step _ ih => rename_i k _; have := pw_succ k; have := pw_pos k; show _ ≤ pw (k + 1); omega
theorem val_append (xs : List Int) (d : Int) : val (xs ++ [d]) = val xs + d * pw xs.length := by
  induction xs with
  | nil => simp [val, pw]
  | cons x xs ih =>
    simp only [List.cons_append, val, ih, List.length_cons, pw_succ]
    grind
theorem val_append2 (xs ys : List Int) : val (xs ++ ys) = val xs + val ys * pw xs.length := by
  induction xs with
  | nil => simp [val, pw]
  | cons x xs ih =>
    simp only [List.cons_append, val, ih, List.length_cons, pw_succ]
    grind
theorem val_take (xs : List Int) (i : Nat) : val (xs.take (i + 1)) = val (xs.take i) + xs.getD i 0 * pw i := by
  by_cases h : i < xs.length
  · rw [List.take_succ_eq_append_getElem h, val_append]
    have : (xs.take i).length = i := by simp; omega
    rw [this]
    simp [List.getD, h]
  · rw [List.take_of_length_le (by omega), List.take_of_length_le (by omega)]
    have : xs.getD i 0 = 0 := by simp [List.getD, List.getElem?_eq_none (by omega : xs.length ≤ i)]
    rw [this]; simp
theorem val_nonneg {ds : List Int} (h : Digs ds) : 0 ≤ val ds := by
  induction ds with
  | nil => simp [val]
  | cons d ds ih =>
    have h1 := h d (by simp)
    have h2 := ih (fun x hx => h x (by simp [hx]))
    simp only [val]; omega
theorem val_lt {ds : List Int} (h : Digs ds) : val ds < pw ds.length := by
  induction ds with
  | nil => simp [val, pw]
  | cons d ds ih =>
    have h1 := h d (by simp)
    have h2 := ih (fun x hx => h x (by simp [hx]))
    simp only [val, List.length_cons, pw_succ]; omega
theorem Digs.snoc {ds : List Int} (h : Digs ds) {d : Int} (h0 : 0 ≤ d) (h1 : d ≤ 65535) : Digs (ds ++ [d]) := by
  intro x hx
  rcases List.mem_append.mp hx with h2 | h2
  · exact h x h2
  · simp at h2; subst h2; exact ⟨h0, h1⟩
theorem Digs.at {ds : List Int} (h : Digs ds) (i : Nat) : 0 ≤ ds.getD i 0 ∧ ds.getD i 0 ≤ 65535 := by
  by_cases hi : i < ds.length
  · have : ds.getD i 0 ∈ ds := by simp [List.getD, hi]
    exact h _ this
  · have : ds.getD i 0 = 0 := by simp [List.getD, List.getElem?_eq_none (by omega : ds.length ≤ i)]
    rw [this]; omega
theorem getD_past (ds : List Int) (i : Nat) (h : ds.length ≤ i) : ds.getD i 0 = 0 := by simp [List.getD, List.getElem?_eq_none h]
/-- One round of the sum of two numbers, digit by digit. -/
theorem plus_round (xs ps qs : List Int) (i : Nat) (c : Int) (hl : xs.length = i) (h : val xs + c * pw i = val (ps.take i) + val (qs.take i)) :
    val (xs ++ [(c + ps.getD i 0 + qs.getD i 0) % 65536]) + (c + ps.getD i 0 + qs.getD i 0) / 65536 * pw (i + 1) = val (ps.take (i + 1)) + val (qs.take (i + 1)) := by
  rw [val_append, hl, val_take, val_take, pw_succ]
  have e : (c + ps.getD i 0 + qs.getD i 0) % 65536 + 65536 * ((c + ps.getD i 0 + qs.getD i 0) / 65536) = c + ps.getD i 0 + qs.getD i 0 := by omega
  generalize (c + ps.getD i 0 + qs.getD i 0) % 65536 = d at *
  generalize (c + ps.getD i 0 + qs.getD i 0) / 65536 = q at *
  grind
theorem and16_u32 (z : Int) (h0 : 0 ≤ z) (h1 : z < 4294967296) : bits .and .u32 z 65535 = z % 65536 := by go_bits2
theorem and16_u64 (z : Int) (h0 : 0 ≤ z) (h1 : z < 18446744073709551616) : bits .and .u64 z 65535 = z % 65536 := by go_bits2
theorem Digs.take {ds : List Int} (h : Digs ds) (k : Nat) : Digs (ds.take k) := fun d hd => h d (List.mem_of_mem_take hd)
theorem Digs.drop {ds : List Int} (h : Digs ds) (k : Nat) : Digs (ds.drop k) := fun d hd => h d (List.mem_of_mem_drop hd)
theorem take_nonneg {ds : List Int} (h : Digs ds) (k : Nat) : 0 ≤ val (ds.take k) := val_nonneg (h.take k)
theorem take_lt {ds : List Int} (h : Digs ds) (k : Nat) : val (ds.take k) < pw k := by
  have h1 := val_lt (h.take k)
  have h2 : pw (ds.take k).length ≤ pw k := pw_le (List.length_take_le _ _)
  omega
theorem take_le {ds : List Int} (h : Digs ds) (k : Nat) : val (ds.take k) ≤ val ds := by
  have e : val (ds.take k ++ ds.drop k) = val (ds.take k) + val (ds.drop k) * pw (ds.take k).length := val_append2 _ _
  rw [List.take_append_drop] at e
  have := Int.mul_nonneg (val_nonneg (h.drop k)) (Int.le_of_lt (pw_pos (ds.take k).length))
  omega
theorem take_all (ds : List Int) (k : Nat) (h : ds.length ≤ k) : val (ds.take k) = val ds := by rw [List.take_of_length_le h]
/-- The highest digit in which two numbers part tells which is less. -/
theorem less_at {ps qs : List Int} (dp : Digs ps) (dq : Digs qs) (k : Nat) (hlt : ps.getD k 0 < qs.getD k 0) (h : val ps - val qs = val (ps.take (k + 1)) - val (qs.take (k + 1))) : val ps < val qs := by
  rw [val_take, val_take] at h
  have h1 := take_lt dp k
  have h2 := take_nonneg dq k
  have h3 : (ps.getD k 0 + 1) * pw k ≤ qs.getD k 0 * pw k := Int.mul_le_mul_of_nonneg_right (by omega) (Int.le_of_lt (pw_pos k))
  rw [Int.add_mul] at h3
  omega
theorem less_step {ps qs : List Int} (k : Nat) (he : ps.getD k 0 = qs.getD k 0) (h : val ps - val qs = val (ps.take (k + 1)) - val (qs.take (k + 1))) : val ps - val qs = val (ps.take k) - val (qs.take k) := by
  rw [val_take, val_take, he] at h
  omega
/-- One round of the difference of two numbers, digit by digit: x is the digit and 65536 more than the next borrow takes. -/
theorem minus_round (xs ps qs : List Int) (i : Nat) (r x : Int) (hl : xs.length = i) (hx : x = ps.getD i 0 + 65536 - qs.getD i 0 - r) (h : val xs - r * pw i = val (ps.take i) - val (qs.take i)) :
    val (xs ++ [x % 65536]) - (1 - x / 65536) * pw (i + 1) = val (ps.take (i + 1)) - val (qs.take (i + 1)) := by
  rw [val_append, hl, val_take, val_take, pw_succ]
  have e : x % 65536 + 65536 * (x / 65536) = x := by omega
  generalize x % 65536 = d at *
  generalize x / 65536 = q at *
  grind
/-- One round of a row of the product. -/
theorem times_round (zs ps : List Int) (i j : Nat) (x c : Int) (hl : zs.length = i + j) (h : val zs + c * pw (i + j) = x * val (ps.take j) * pw i) :
    val (zs ++ [(x * ps.getD j 0 + c) % 65536]) + (x * ps.getD j 0 + c) / 65536 * pw (i + (j + 1)) = x * val (ps.take (j + 1)) * pw i := by
  rw [val_append, hl, val_take, ← Nat.add_assoc, pw_succ]
  have e : (x * ps.getD j 0 + c) % 65536 + 65536 * ((x * ps.getD j 0 + c) / 65536) = x * ps.getD j 0 + c := by omega
  have p2 : pw (i + j) = pw i * pw j := by unfold pw; rw [Int.pow_add]
  generalize (x * ps.getD j 0 + c) % 65536 = d at *
  generalize (x * ps.getD j 0 + c) / 65536 = q at *
  rw [p2] at h ⊢
  generalize val zs = V at *
  generalize val (ps.take j) = T at *
  generalize ps.getD j 0 = y at *
  generalize pw i = A at *
  generalize pw j = B at *
  clear p2 hl
  grind
theorem val_zeros (i : Nat) : val (List.replicate i 0) = 0 := by
  induction i with
  | zero => rfl
  | succ i ih => simp [List.replicate_succ, val, ih]
theorem digs_zeros (i : Nat) : Digs (List.replicate i 0) := by
  intro d hd
  have := List.eq_of_mem_replicate hd
  omega
theorem take4 {ds : List Int} : val (ds.take 4) = ds.getD 0 0 + ds.getD 1 0 * 65536 + ds.getD 2 0 * 4294967296 + ds.getD 3 0 * 281474976710656 := by
  rw [val_take, val_take, val_take, val_take]
  have p0 : pw 0 = 1 := rfl
  have p1 : pw 1 = 65536 := rfl
  have p2 : pw 2 = 4294967296 := rfl
  have p3 : pw 3 = 281474976710656 := rfl
  rw [p0, p1, p2, p3]
  simp [val]
theorem or_u64 (a b : Nat) (k : Nat) (ha : a < 2 ^ k) (hb : b * 2 ^ k < 18446744073709551616) (h64 : 2 ^ k < 18446744073709551616) : bits .or .u64 (a : Int) ((b * 2 ^ k : Nat) : Int) = ((a + b * 2 ^ k : Nat) : Int) := by
  rw [bits_or_u64_nat a (b * 2 ^ k) (by omega) hb]
  have := Nat.two_pow_add_eq_or_of_lt ha b
  rw [Nat.mul_comm b, Nat.or_comm, ← this, Nat.add_comm]
theorem or16 (a b : Int) (a0 : 0 ≤ a) (a1 : a < 65536) (b0 : 0 ≤ b) (b1 : b ≤ 65535) : bits .or .u64 a (b * 65536) = a + b * 65536 := by
  obtain ⟨a, rfl⟩ := Int.eq_ofNat_of_zero_le a0
  obtain ⟨b, rfl⟩ := Int.eq_ofNat_of_zero_le b0
  have := or_u64 a b 16 (by omega) (by omega) (by decide)
  simpa using this
theorem or32 (a b : Int) (a0 : 0 ≤ a) (a1 : a < 4294967296) (b0 : 0 ≤ b) (b1 : b ≤ 65535) : bits .or .u64 a (b * 4294967296) = a + b * 4294967296 := by
  obtain ⟨a, rfl⟩ := Int.eq_ofNat_of_zero_le a0
  obtain ⟨b, rfl⟩ := Int.eq_ofNat_of_zero_le b0
  have := or_u64 a b 32 (by omega) (by omega) (by decide)
  simpa using this
theorem or48 (a b : Int) (a0 : 0 ≤ a) (a1 : a < 281474976710656) (b0 : 0 ≤ b) (b1 : b ≤ 65535) : bits .or .u64 a (b * 281474976710656) = a + b * 281474976710656 := by
  obtain ⟨a, rfl⟩ := Int.eq_ofNat_of_zero_le a0
  obtain ⟨b, rfl⟩ := Int.eq_ofNat_of_zero_le b0
  have := or_u64 a b 48 (by omega) (by omega) (by decide)
  simpa using this
end Go.Proofs.YtjhekemgcmhjoabDoor
