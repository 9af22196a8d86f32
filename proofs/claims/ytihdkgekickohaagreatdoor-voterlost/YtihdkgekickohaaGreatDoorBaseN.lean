import Derived.Test.YtihdkgekickohaaGreatDoorBaseM
/- The check of bytes, in plain mathematics: its step is a xor of xors, and turns unlike words into unlike words. -/
namespace Go.Proofs.YtihdkgekickohaaGreatDoor

/-- A word behind one bit more. -/
def sh (x : Nat) : Nat := if x % 2 = 1 then (x / 2) ^^^ 3988292384 else x / 2
theorem sh_lt {x : Nat} (h : x < 4294967296) : sh x < 4294967296 := by
  unfold sh
  split
  · exact Nat.xor_lt_two_pow (n := 32) (by simp; omega) (by simp)
  · omega
theorem xor_swap (a b c : Nat) : (a ^^^ c) ^^^ (b ^^^ c) = a ^^^ b := by
  rw [Nat.xor_assoc, Nat.xor_comm b c, ← Nat.xor_assoc c c b, Nat.xor_self, Nat.zero_xor]
theorem xor_mod2 (a b : Nat) : (a ^^^ b) % 2 = (a + b) % 2 := by
  have h := Nat.testBit_xor a b 0
  simp only [Nat.testBit_zero] at h
  have e (n : Nat) (m : Bool) (q : decide (n % 2 = 1) = m) : n % 2 = if m then 1 else 0 := by
    subst q
    by_cases h : n % 2 = 1 <;> simp [h] <;> omega
  have h1 := e _ _ h
  rcases Nat.mod_two_eq_zero_or_one a with ha | ha <;> rcases Nat.mod_two_eq_zero_or_one b with hb | hb <;> rw [ha, hb] at h1
  · have h2 : (a ^^^ b) % 2 = 0 := h1
    omega
  · have h2 : (a ^^^ b) % 2 = 1 := h1
    omega
  · have h2 : (a ^^^ b) % 2 = 1 := h1
    omega
  · have h2 : (a ^^^ b) % 2 = 0 := h1
    omega
theorem sh_xor (a b : Nat) : sh (a ^^^ b) = sh a ^^^ sh b := by
  unfold sh
  have h2 : (a ^^^ b) % 2 = (a + b) % 2 := xor_mod2 a b
  have hd : (a ^^^ b) / 2 = a / 2 ^^^ b / 2 := Nat.xor_div_two
  rw [h2, hd]
  by_cases ha : a % 2 = 1
  · by_cases hb : b % 2 = 1
    · rw [if_neg (by omega), if_pos ha, if_pos hb, xor_swap]
    · rw [if_pos (by omega), if_pos ha, if_neg hb, Nat.xor_assoc, Nat.xor_assoc, Nat.xor_comm (b / 2)]
  · by_cases hb : b % 2 = 1
    · rw [if_pos (by omega), if_neg ha, if_pos hb, Nat.xor_assoc]
    · rw [if_neg (by omega), if_neg ha, if_neg hb]
theorem xor_zero {a b : Nat} (h : a ^^^ b = 0) : a = b := by
  have : (a ^^^ b) ^^^ b = b := by rw [h, Nat.zero_xor]
  rwa [Nat.xor_assoc, Nat.xor_self, Nat.xor_zero] at this
theorem sh_zero {x : Nat} (h : x < 4294967296) (h0 : sh x = 0) : x = 0 := by
  unfold sh at h0
  split at h0
  · have := xor_zero h0
    omega
  · omega
theorem sh_inj {a b : Nat} (ha : a < 4294967296) (hb : b < 4294967296) (h : sh a = sh b) : a = b := by
  have h1 : sh (a ^^^ b) = 0 := by rw [sh_xor, h, Nat.xor_self]
  exact xor_zero (sh_zero (Nat.xor_lt_two_pow (n := 32) (by simpa using ha) (by simpa using hb)) h1)
/-- A word behind k bits more. -/
def shN : Nat → Nat → Nat
  | 0, x => x
  | k + 1, x => sh (shN k x)
theorem shN_lt (k : Nat) {x : Nat} (h : x < 4294967296) : shN k x < 4294967296 := by
  induction k with
  | zero => exact h
  | succ k ih => exact sh_lt ih
theorem shN_xor (k a b : Nat) : shN k (a ^^^ b) = shN k a ^^^ shN k b := by
  induction k with
  | zero => rfl
  | succ k ih => simp only [shN, ih, sh_xor]
theorem shN_inj (k : Nat) {a b : Nat} (ha : a < 4294967296) (hb : b < 4294967296) (h : shN k a = shN k b) : a = b := by
  induction k with
  | zero => exact h
  | succ k ih => exact ih (sh_inj (shN_lt k ha) (shN_lt k hb) h)
/-- A word behind one byte more, behind a list of bytes. -/
def up (s : Nat) (c : Int) : Nat := shN 8 (s ^^^ c.toNat)
def crcW (s : Nat) (bs : List Int) : Nat := bs.foldl up s
def csum (bs : List Int) : Nat := crcW 4294967295 bs ^^^ 4294967295
theorem xor_byte_lt {s : Nat} {c : Int} (h : s < 4294967296) (hc : c ≤ 255) : s ^^^ c.toNat < 4294967296 :=
  Nat.xor_lt_two_pow (n := 32) (by simpa using h) (by simp; omega)
theorem up_lt {s : Nat} {c : Int} (h : s < 4294967296) (hc : c ≤ 255) : up s c < 4294967296 := shN_lt 8 (xor_byte_lt h hc)
theorem crcW_lt {s : Nat} {bs : List Int} (h : s < 4294967296) (hB : Byts bs) : crcW s bs < 4294967296 := by
  unfold crcW
  induction bs generalizing s with
  | nil => exact h
  | cons c bs ih => exact ih (up_lt h (hB c (by simp)).2) (fun x hx => hB x (by simp [hx]))
theorem csum_lt {bs : List Int} (hB : Byts bs) : csum bs < 4294967296 :=
  Nat.xor_lt_two_pow (n := 32) (by simpa using crcW_lt (s := 4294967295) (by omega) hB) (by simp)
theorem crcW_snoc (s : Nat) (bs : List Int) (c : Int) : crcW s (bs ++ [c]) = up (crcW s bs) c := by
  unfold crcW
  rw [List.foldl_append, List.foldl_cons, List.foldl_nil]
theorem crcW_append (s : Nat) (as bs : List Int) : crcW s (as ++ bs) = crcW (crcW s as) bs := by
  unfold crcW
  rw [List.foldl_append]
theorem crcW_inj {s t : Nat} {bs : List Int} (hs : s < 4294967296) (ht : t < 4294967296) (hB : Byts bs) (h : crcW s bs = crcW t bs) : s = t := by
  induction bs generalizing s t with
  | nil => exact h
  | cons c bs ih =>
    have hc := (hB c (by simp)).2
    have h1 := ih (up_lt hs hc) (up_lt ht hc) (fun x hx => hB x (by simp [hx])) h
    have h2 := shN_inj 8 (xor_byte_lt hs hc) (xor_byte_lt ht hc) h1
    have h3 : (s ^^^ c.toNat) ^^^ (t ^^^ c.toNat) = 0 := by rw [h2, Nat.xor_self]
    rw [xor_swap] at h3
    exact xor_zero h3
theorem cxor_right_inj {a b c : Nat} (h : a ^^^ c = b ^^^ c) : a = b := by
  have h3 : (a ^^^ c) ^^^ (b ^^^ c) = 0 := by rw [h, Nat.xor_self]
  rw [xor_swap] at h3
  exact xor_zero h3
/-- One byte changed changes the check. -/
theorem csum_slip {as bs : List Int} {c d : Int} (hA : Byts as) (hB : Byts bs) (hc : 0 ≤ c ∧ c ≤ 255) (hd : 0 ≤ d ∧ d ≤ 255) (hn : c ≠ d) : csum (as ++ c :: bs) ≠ csum (as ++ d :: bs) := by
  intro h
  have h1 := cxor_right_inj h
  rw [crcW_append, crcW_append] at h1
  have hs : crcW 4294967295 as < 4294967296 := crcW_lt (by omega) hA
  have h2 := crcW_inj (up_lt hs hc.2) (up_lt hs hd.2) hB h1
  have h3 := shN_inj 8 (xor_byte_lt hs hc.2) (xor_byte_lt hs hd.2) h2
  rw [Nat.xor_comm _ c.toNat, Nat.xor_comm _ d.toNat] at h3
  have := cxor_right_inj h3
  omega
/-- The check of the xor of three rows. -/
theorem xor3 (a b c d e f : Nat) : (a ^^^ b ^^^ c) ^^^ (d ^^^ e ^^^ f) = (a ^^^ d) ^^^ (b ^^^ e) ^^^ (c ^^^ f) := by
  apply Nat.eq_of_testBit_eq
  intro i
  simp only [Nat.testBit_xor]
  cases a.testBit i <;> cases b.testBit i <;> cases c.testBit i <;> cases d.testBit i <;> cases e.testBit i <;> cases f.testBit i <;> rfl
theorem crcW_xor3 (n : Nat) (f g h x : Nat → Int) (hx : ∀ k, k < n → (x k).toNat = (f k).toNat ^^^ (g k).toNat ^^^ (h k).toNat) (r s t : Nat) :
    crcW (r ^^^ s ^^^ t) ((List.range n).map x) = crcW r ((List.range n).map f) ^^^ crcW s ((List.range n).map g) ^^^ crcW t ((List.range n).map h) := by
  induction n with
  | zero => rfl
  | succ n ih =>
    simp only [List.range_succ, List.map_append, List.map_cons, List.map_nil, crcW_snoc]
    rw [ih (fun k hk => hx k (by omega))]
    simp only [up]
    rw [hx n (by omega), xor3, shN_xor, shN_xor]
theorem list_range (bs : List Int) (n : Nat) (h : n ≤ bs.length) : bs.take n = (List.range n).map (fun k => bs.getD k 0) := by
  apply List.ext_getElem
  · simp; omega
  · intro i h1 h2
    simp at h1 h2
    simp [List.getD, show i < bs.length by omega]
theorem csum_xor3 (n : Nat) (as bs cs xs : List Int) (ha : n ≤ as.length) (hb : n ≤ bs.length) (hc : n ≤ cs.length) (hx : xs.length = n)
    (he : ∀ k, k < n → (xs.getD k 0).toNat = (as.getD k 0).toNat ^^^ (bs.getD k 0).toNat ^^^ (cs.getD k 0).toNat) :
    csum xs = csum (as.take n) ^^^ csum (bs.take n) ^^^ csum (cs.take n) := by
  have hxs : xs = (List.range n).map (fun k => xs.getD k 0) := by
    have := list_range xs n (by omega)
    rwa [List.take_of_length_le (by omega)] at this
  unfold csum
  rw [list_range as n ha, list_range bs n hb, list_range cs n hc]
  have h1 := crcW_xor3 n _ _ _ _ he 4294967295 4294967295 4294967295
  rw [← hxs] at h1
  have h2 : (4294967295 ^^^ 4294967295 ^^^ 4294967295 : Nat) = 4294967295 := by decide
  rw [h2] at h1
  rw [h1, ← xor3, h2]
/-- The four bytes of a word, lowest first. -/
def four (s : Nat) : List Int := [((s % 256 : Nat) : Int), ((s / 256 % 256 : Nat) : Int), ((s / 65536 % 256 : Nat) : Int), ((s / 16777216 % 256 : Nat) : Int)]
theorem four_byts (s : Nat) : Byts (four s) := by
  intro b hb
  simp only [four, List.mem_cons, List.not_mem_nil, or_false] at hb
  omega
theorem four_len (s : Nat) : (four s).length = 4 := rfl
/-- The word with which bytes begin. -/
def word (bs : List Int) : Nat := (bs.getD 0 0 + bs.getD 1 0 * 256 + bs.getD 2 0 * 65536 + bs.getD 3 0 * 16777216).toNat
theorem word_four (s : Nat) (h : s < 4294967296) (r : List Int) : word (four s ++ r) = s := by
  simp [word, four]
  omega
theorem word_lt {bs : List Int} (hB : Byts bs) : word bs < 4294967296 := by
  have h0 := hB.at 0
  have h1 := hB.at 1
  have h2 := hB.at 2
  have h3 := hB.at 3
  unfold word
  omega
/-- A payload's frame. -/
def frame (p : List Int) : List Int := (four p.length ++ p) ++ four (csum (four p.length ++ p))
theorem frame_len (p : List Int) : (frame p).length = p.length + 8 := by
  simp [frame, four_len]
  omega
theorem frame_byts {p : List Int} (h : Byts p) : Byts (frame p) := ((four_byts _).append h).append (four_byts _)
theorem csum_alive : csum [49, 50, 51, 52, 53, 54, 55, 56, 57] = 3421780262 := by decide +kernel
end Go.Proofs.YtihdkgekickohaaGreatDoor

/- What a stream of frames holds, in plain mathematics. -/
namespace Go.Proofs.YtihdkgekickohaaGreatDoor

/-- How a stream begins: 0 with a frame that isn't whole, 1 with a frame, 4 with a wrong sum, 8 with a number that is too large. -/
def kind (r : List Int) : Nat :=
  if r.length < 4 then 0 else if 32768 < word r then 8 else if r.length < word r + 8 then 0 else if csum (r.take (4 + word r)) = word (r.drop (4 + word r)) then 1 else 4
def pay (r : List Int) : List Int := (r.drop 4).take (word r)
theorem kind_zero {r : List Int} (h : kind r = 0) : r.length < 4 ∨ (4 ≤ r.length ∧ word r ≤ 32768 ∧ r.length < word r + 8) := by
  unfold kind at h
  split at h
  · omega
  · split at h
    · omega
    · split at h
      · omega
      · split at h <;> omega
theorem kind_one {r : List Int} (h : kind r = 1) : word r ≤ 32768 ∧ word r + 8 ≤ r.length ∧ csum (r.take (4 + word r)) = word (r.drop (4 + word r)) := by
  unfold kind at h
  split at h
  · omega
  · split at h
    · omega
    · split at h
      · omega
      · split at h
        · refine ⟨by omega, by omega, by assumption⟩
        · omega
theorem kind_four {r : List Int} (h : kind r = 4) : word r ≤ 32768 ∧ word r + 8 ≤ r.length ∧ csum (r.take (4 + word r)) ≠ word (r.drop (4 + word r)) := by
  unfold kind at h
  split at h
  · omega
  · split at h
    · omega
    · split at h
      · omega
      · split at h
        · omega
        · refine ⟨by omega, by omega, by assumption⟩
theorem kind_eight {r : List Int} (h : kind r = 8) : 4 ≤ r.length ∧ 32768 < word r := by
  unfold kind at h
  split at h
  · omega
  · split at h
    · omega
    · split at h
      · omega
      · split at h <;> omega
theorem kind_cases (r : List Int) : kind r = 0 ∨ kind r = 1 ∨ kind r = 4 ∨ kind r = 8 := by
  unfold kind
  split
  · simp
  · split
    · simp
    · split
      · simp
      · split <;> simp
theorem pay_len {r : List Int} (h : kind r = 1) : (pay r).length = word r := by
  have := kind_one h
  simp [pay]
  omega
theorem pay_byts {r : List Int} (h : Byts r) : Byts (pay r) := (h.drop _).take _
/-- The payloads of all frames of a stream and how many bytes they have, or the error's number. -/
def spl : Nat → List Int → Except Nat (List (List Int) × Nat)
  | 0, _ => .ok ([], 0)
  | f + 1, r => if kind r = 1 then (match spl f (r.drop (word r + 8)) with
      | .ok (ps, k) => .ok (pay r :: ps, word r + 8 + k)
      | .error e => .error e) else if kind r = 0 then .ok ([], 0) else .error (kind r)
/-- What stands ahead is put ahead. -/
def pre (ps : List (List Int)) (k : Nat) : Except Nat (List (List Int) × Nat) → Except Nat (List (List Int) × Nat)
  | .ok (qs, j) => .ok (ps ++ qs, k + j)
  | .error e => .error e
theorem pre_nil (x : Except Nat (List (List Int) × Nat)) : pre [] 0 x = x := by
  cases x with
  | ok p => simp [pre]
  | error e => rfl
theorem pre_step {ps : List (List Int)} {k f : Nat} {r : List Int} (h : kind r = 1) : pre ps k (spl (f + 1) r) = pre (ps ++ [pay r]) (k + (word r + 8)) (spl f (r.drop (word r + 8))) := by
  rw [spl, if_pos h]
  cases spl f (r.drop (word r + 8)) with
  | ok p => simp [pre, Nat.add_assoc]
  | error e => rfl
theorem pre_end {ps : List (List Int)} {k f : Nat} {r : List Int} (h : kind r = 0) : pre ps k (spl (f + 1) r) = .ok (ps, k) := by
  rw [spl, if_neg (by omega), if_pos h]
  simp [pre]
theorem pre_bad {ps : List (List Int)} {k f e : Nat} {r : List Int} (h : kind r = e) (h0 : e ≠ 0) (h1 : e ≠ 1) : pre ps k (spl (f + 1) r) = .error e := by
  rw [spl, if_neg (by omega), if_neg (by omega), h]
  rfl
/-- The answer for a stream. -/
def splits (bs : List Int) : Except Nat (List (List Int) × Nat) := spl (bs.length + 1) bs
end Go.Proofs.YtihdkgekickohaaGreatDoor

