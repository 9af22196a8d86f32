/- One byte changed changes the sum: plain mathematics. -/
import Derived.Test.YtehnimafjgodeaaDoorAlive
namespace Go.Proofs.YtehnimafjgodeaaDoor

theorem times_inj (x y : Nat) (hx : x < 4294967296) (hy : y < 4294967296) (h : x * 16777619 % 4294967296 = y * 16777619 % 4294967296) : x = y := by
  have key : ∀ z : Nat, z < 4294967296 → z * 16777619 % 4294967296 * 899433627 % 4294967296 = z := by
    intro z hz
    have e : z * 16777619 * 899433627 = z + 4294967296 * (z * 3513497) := by omega
    rw [Nat.mod_mul_mod, e, Nat.add_mul_mod_self_left, Nat.mod_eq_of_lt hz]
  have := congrArg (fun z => z * 899433627 % 4294967296) h
  simp only [key x hx, key y hy] at this
  exact this
theorem xor_lt (s c : Nat) (hs : s < 4294967296) (hc : c < 4294967296) : s ^^^ c < 4294967296 := Nat.xor_lt_two_pow (n := 32) (by simpa using hs) (by simpa using hc)
theorem xor_left_inj (s a b : Nat) (h : s ^^^ a = s ^^^ b) : a = b := by
  have := congrArg (s ^^^ ·) h
  simpa [← Nat.xor_assoc] using this
theorem xor_right_inj (s t a : Nat) (h : s ^^^ a = t ^^^ a) : s = t := by
  have := congrArg (· ^^^ a) h
  simpa [Nat.xor_assoc] using this
theorem fs_state (s t : Nat) (c : Int) (hs : s < 4294967296) (ht : t < 4294967296) (hc : 0 ≤ c ∧ c ≤ 255) (h : fs s c = fs t c) : s = t := by
  unfold fs at h
  exact xor_right_inj _ _ _ (times_inj _ _ (xor_lt _ _ hs (by omega)) (xor_lt _ _ ht (by omega)) h)
theorem fs_byte (s : Nat) (c d : Int) (hs : s < 4294967296) (hc : 0 ≤ c ∧ c ≤ 255) (hd : 0 ≤ d ∧ d ≤ 255) (h : fs s c = fs s d) : c = d := by
  unfold fs at h
  have := xor_left_inj _ _ _ (times_inj _ _ (xor_lt _ _ hs (by omega)) (xor_lt _ _ hs (by omega)) h)
  omega
theorem fold_state (bs : List Int) (s t : Nat) (hB : Byts bs) (hs : s < 4294967296) (ht : t < 4294967296) (h : bs.foldl fs s = bs.foldl fs t) : s = t := by
  induction bs generalizing s t with
  | nil => exact h
  | cons c bs ih =>
    rw [List.foldl_cons, List.foldl_cons] at h
    exact fs_state s t c hs ht (hB c (by simp)) (ih _ _ (fun x hx => hB x (by simp [hx])) (fs_lt s c) (fs_lt t c) h)
theorem fnv_slip (ps cs : List Int) (x y : Int)  (hC : Byts cs) (hx : 0 ≤ x ∧ x ≤ 255) (hy : 0 ≤ y ∧ y ≤ 255) (hne : x ≠ y) : fnv (ps ++ x :: cs) ≠ fnv (ps ++ y :: cs) := by
  unfold fnv
  rw [List.foldl_append, List.foldl_append, List.foldl_cons, List.foldl_cons]
  intro h
  have hs := fold_lt ps 2166136261 (by omega)
  exact hne (fs_byte _ x y hs hx hy (fold_state cs _ _ hC (fs_lt _ _) (fs_lt _ _) h))
end Go.Proofs.YtehnimafjgodeaaDoor
