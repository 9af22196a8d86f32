/- Numbers as bytes, in plain mathematics. -/
import Derived.Laws.BytesArg
namespace Go.Proofs.YtjocjkfllicjdaaDoor

def Byts (bs : List Int) : Prop := ∀ b ∈ bs, 0 ≤ b ∧ b ≤ 255
theorem Byts.nil : Byts [] := by simp [Byts]
theorem Byts.append {a b : List Int} (ha : Byts a) (hb : Byts b) : Byts (a ++ b) := fun x hx => (List.mem_append.mp hx).elim (ha x) (hb x)
theorem Byts.one {x : Int} (h0 : 0 ≤ x) (h1 : x ≤ 255) : Byts [x] := fun y hy => by simp at hy; omega
theorem Byts.take {a : List Int} (h : Byts a) (n : Nat) : Byts (a.take n) := fun x hx => h x (List.mem_of_mem_take hx)
theorem Byts.drop {a : List Int} (h : Byts a) (n : Nat) : Byts (a.drop n) := fun x hx => h x (List.mem_of_mem_drop hx)
theorem Byts.at {a : List Int} (h : Byts a) (k : Nat) : 0 ≤ a.getD k 0 ∧ a.getD k 0 ≤ 255 := by
  by_cases hk : k < a.length
  · have : a.getD k 0 ∈ a := by simp [List.getD, hk]
    exact h _ this
  · simp [List.getD, List.getElem?_eq_none (Nat.le_of_not_lt hk)]
theorem Byts.left {a b : List Int} (h : Byts (a ++ b)) : Byts a := fun x hx => h x (List.mem_append_left _ hx)
theorem Byts.right {a b : List Int} (h : Byts (a ++ b)) : Byts b := fun x hx => h x (List.mem_append_right _ hx)
theorem str_inj {xs ys : List Int} (hx : Byts xs) (hy : Byts ys) (h : strOfNums xs = strOfNums ys) : xs = ys := by
  have h1 : xs.map (fun n => UInt8.ofNat n.toNat) = ys.map (fun n => UInt8.ofNat n.toNat) := by
    have := congrArg (fun s => s.data.toList) h
    simpa [strOfNums_data] using this
  clear h
  induction xs generalizing ys with
  | nil => cases ys with
    | nil => rfl
    | cons y ys => simp at h1
  | cons x xs ih => cases ys with
    | nil => simp at h1
    | cons y ys =>
      simp only [List.map_cons, List.cons.injEq] at h1
      have a := hx x (by simp)
      have b := hy y (by simp)
      have e := congrArg UInt8.toNat h1.1
      simp only [UInt8.toNat_ofNat'] at e
      have : x = y := by omega
      rw [this, ih (fun z hz => hx z (by simp [hz])) (fun z hz => hy z (by simp [hz])) h1.2]
theorem str_ne {xs ys : List Int} (hx : Byts xs) (hy : Byts ys) (h : xs ≠ ys) : strOfNums xs ≠ strOfNums ys := fun e => h (str_inj hx hy e)

/-- The bytes of a number, by at most k halvings of seven bits. -/
def encF : Nat → Nat → List Int
  | 0, n => [(n : Int)]
  | k + 1, n => if n < 128 then [(n : Int)] else ((n % 128 + 128 : Nat) : Int) :: encF k (n / 128)
theorem encF_eq (k m n : Nat) (hk : n ≤ k) (hm : n ≤ m) : encF k n = encF m n := by
  induction k generalizing m n with
  | zero =>
    obtain rfl : n = 0 := by omega
    cases m <;> simp [encF]
  | succ k ih =>
    by_cases h : n < 128
    · cases m <;> simp [encF, h]
    · obtain ⟨m, rfl⟩ : ∃ j, m = j + 1 := ⟨m - 1, by omega⟩
      simp only [encF, if_neg h]
      rw [ih m (n / 128) (by omega) (by omega)]
/-- The bytes of a number. -/
def enc (n : Nat) : List Int := encF n n
theorem enc_lt {n : Nat} (h : n < 128) : enc n = [(n : Int)] := by
  unfold enc
  cases n <;> simp [encF, h]
theorem enc_ge {n : Nat} (h : 128 ≤ n) : enc n = ((n % 128 + 128 : Nat) : Int) :: enc (n / 128) := by
  unfold enc
  obtain ⟨m, rfl⟩ : ∃ j, n = j + 1 := ⟨n - 1, by omega⟩
  rw [encF, if_neg (by omega), encF_eq m ((m + 1) / 128) ((m + 1) / 128) (by omega) (by omega)]
theorem enc_byts (n : Nat) : Byts (enc n) := by
  induction n using Nat.strongRecOn with
  | ind n ih =>
    by_cases h : n < 128
    · rw [enc_lt h]; exact Byts.one (by omega) (by omega)
    · rw [enc_ge (by omega)]
      intro x hx
      rcases List.mem_cons.mp hx with rfl | hx
      · omega
      · exact ih (n / 128) (by omega) x hx
theorem enc_len_pos (n : Nat) : 1 ≤ (enc n).length := by
  by_cases h : n < 128
  · rw [enc_lt h]; simp
  · rw [enc_ge (by omega)]; simp
theorem enc_len_le (k n : Nat) (h : n < 128 ^ (k + 1)) : (enc n).length ≤ k + 1 := by
  induction k generalizing n with
  | zero => rw [enc_lt (by simpa using h)]; simp
  | succ k ih =>
    by_cases h1 : n < 128
    · rw [enc_lt h1]; simp
    · rw [enc_ge (by omega)]
      have : n / 128 < 128 ^ (k + 1) := by rw [Nat.pow_succ] at h; omega
      have := ih _ this
      simp only [List.length_cons]; omega
theorem enc_len9 (n : Nat) (h : n < 9223372036854775808) : (enc n).length ≤ 9 := enc_len_le 8 n (by simpa using h)
theorem enc_mono (a b : Nat) (h : a ≤ b) : (enc a).length ≤ (enc b).length := by
  induction a using Nat.strongRecOn generalizing b with
  | ind a ih =>
    by_cases h1 : a < 128
    · rw [enc_lt h1]; exact enc_len_pos b
    · rw [enc_ge (show 128 ≤ a by omega), enc_ge (show 128 ≤ b by omega)]
      simp only [List.length_cons]
      have := ih (a / 128) (by omega) (b / 128) (by omega)
      omega
/-- No number's bytes begin those of another one. -/
theorem enc_free (a b : Nat) (r s : List Int) (h : enc a ++ r = enc b ++ s) : a = b ∧ r = s := by
  induction a using Nat.strongRecOn generalizing b with
  | ind a ih =>
    by_cases h1 : a < 128
    · by_cases h2 : b < 128
      · rw [enc_lt h1, enc_lt h2] at h
        simp at h
        exact ⟨by omega, h.2⟩
      · rw [enc_lt h1, enc_ge (show 128 ≤ b by omega)] at h
        simp only [List.cons_append, List.cons.injEq] at h
        omega
    · by_cases h2 : b < 128
      · rw [enc_lt h2, enc_ge (show 128 ≤ a by omega)] at h
        simp only [List.cons_append, List.cons.injEq] at h
        omega
      · rw [enc_ge (show 128 ≤ a by omega), enc_ge (show 128 ≤ b by omega)] at h
        simp only [List.cons_append, List.cons.injEq] at h
        have := ih (a / 128) (by omega) (b / 128) h.2
        exact ⟨by omega, this.2⟩
theorem enc_take_ne (a b : Nat) (h : a ≠ b) (n : Nat) (hn : n = min (enc a).length (enc b).length) : (enc a).take n ≠ (enc b).take n := by
  intro e
  rcases Nat.le_total (enc a).length (enc b).length with hl | hl
  · have : n = (enc a).length := by omega
    rw [this, List.take_length] at e
    have h2 := List.take_append_drop (enc a).length (enc b)
    rw [← e] at h2
    have := enc_free a b ((enc b).drop (enc a).length) [] (by rw [h2, List.append_nil])
    exact h this.1
  · have : n = (enc b).length := by omega
    rw [this, List.take_length] at e
    have h2 := List.take_append_drop (enc b).length (enc a)
    rw [e] at h2
    have := enc_free b a ((enc a).drop (enc b).length) [] (by rw [h2, List.append_nil])
    exact h this.1.symm
end Go.Proofs.YtjocjkfllicjdaaDoor
