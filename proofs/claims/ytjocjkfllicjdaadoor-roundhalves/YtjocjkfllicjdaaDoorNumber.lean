/- What a reader of package wire does. -/
import Derived.Test.YtjocjkfllicjdaaDoorAlive
import Derived.Test.YtjocjkfllicjdaaDoorDec
import Derived.Deep.RegionWith
import Derived.Laws.BitsLemmas
namespace Go.Proofs.YtjocjkfllicjdaaDoor
open Go.ChangeShapes Go.WideShapes Go.ChangeAt Go.RowKit
set_option maxRecDepth 100000

theorem or_join (i : Nat) (x n : Int) (h0 : 0 ≤ x) (h1 : x < 128) (hn0 : 0 ≤ n) (hn : n < 2 ^ i) (hi : i ≤ 56) : bits .or .i64 n (x * 2 ^ i) = n + x * 2 ^ i := by
  have hc : bits .or .i64 n (x * 2 ^ i) = bits .or .i64 (x * 2 ^ i) n := by simp only [bits, BitVec.or_comm]
  have hp : (2 : Int) ^ i ≤ 2 ^ 56 := by exact_mod_cast Nat.pow_le_pow_right (n := 2) (by omega) hi
  have hx : x * 2 ^ i < 2 ^ 63 := by
    have : x * 2 ^ i ≤ 127 * 2 ^ 56 := Int.mul_le_mul (by omega) hp (Int.le_of_lt (Int.pow_pos (by omega))) (by omega)
    omega
  rw [hc, bits_join .i64 63 (by decide) (fun m a b => by rw [IntKind.wrap_i64]; omega) i (x * 2 ^ i) n (Int.mul_nonneg h0 (Int.le_of_lt (Int.pow_pos (by omega)))) (Int.mul_emod_left _ _) hx hn0 hn (by omega)]
  omega
theorem hi_snoc {p : List Int} (h : Hi p) {c : Int} (h0 : 128 ≤ c) (h1 : c ≤ 255) : Hi (p ++ [c]) := fun b hb => by
  rcases List.mem_append.mp hb with hb | hb
  · exact h b hb
  · simp at hb; omega
theorem take_snoc' (bs : List Int) (k : Nat) (h : k < bs.length) : bs.take (k + 1) = bs.take k ++ [bs.getD k 0] := take_snoc bs k h
/-- One byte more. -/
theorem num_more (rest : List Int) (k : Nat) (c : Int) (hk : k < rest.length) (hc : rest.getD k 0 = c) (h : Hi (rest.take k)) (h0 : 128 ≤ c) (h1 : c ≤ 255) :
    Hi (rest.take (k + 1)) ∧ (lo (rest.take (k + 1)) : Int) = lo (rest.take k) + (c - 128) * 128 ^ k := by
  have hl : (rest.take k).length = k := by rw [List.length_take]; omega
  rw [take_snoc' rest k hk, hc]
  refine ⟨hi_snoc h h0 h1, ?_⟩
  rw [lo_snoc, hl]
  have : (((c - 128).toNat : Nat) : Int) = c - 128 := by omega
  push_cast
  rw [this]
/-- The number ends here. -/
theorem num_ends (rest : List Int) (k : Nat) (c : Int) (hk : k < rest.length) (hk8 : k ≤ 8) (hc : rest.getD k 0 = c) (h : Hi (rest.take k)) (h0 : 0 ≤ c) (h1 : c < 128) :
    NumSpec rest (lo (rest.take k) + c * 128 ^ k) (k + 1) (decide (0 < c) || decide (k = 0)) := by
  have hl : (rest.take k).length = k := by rw [List.length_take]; omega
  have hsp : rest = rest.take k ++ c :: rest.drop (k + 1) := by
    conv => lhs; rw [← List.take_append_drop k rest, List.drop_eq_getElem_cons hk]
    rw [← hc]
    simp [List.getD, hk]
  by_cases hok : 0 < c ∨ k = 0
  · left
    refine ⟨by simpa using hok, lo (rest.take k) + c.toNat * 128 ^ k, rest.drop (k + 1), ?_, ?_, ?_, ?_⟩
    · have : ((c.toNat : Nat) : Int) = c := by omega
      push_cast
      rw [this]
    · have h2 := lo_lt _ h
      rw [hl] at h2
      have h3 : 128 ^ k ≤ 128 ^ 8 := Nat.pow_le_pow_right (by omega) hk8
      have h4 : c.toNat * 128 ^ k ≤ 127 * 128 ^ k := Nat.mul_le_mul_right _ (by omega)
      omega
    · have e := enc_hi (rest.take k) c h h0 h1 (by rcases hok with h | h; exact .inl h; right; rw [h]; rfl)
      rw [hl] at e
      rw [e]
      simp [hl]
    · have e := enc_hi (rest.take k) c h h0 h1 (by rcases hok with h | h; exact .inl h; right; rw [h]; rfl)
      rw [hl] at e
      rw [e, List.append_assoc]
      exact hsp
  · right
    refine ⟨by simpa using hok, fun N r _ => ?_⟩
    have : c = 0 := by omega
    rw [hsp, this]
    exact no_zero _ _ h (fun e => by rw [e] at hl; simp at hl; omega) N r
theorem getD_take {rest : List Int} {k n : Nat} (h : k < n) : (rest.take n).getD k 0 = rest.getD k 0 := by simp [List.getD, h]
def NumPost (rest : List Int) (e : Ending) : Prop := ∃ n s ok, e = .returned (.tuple #[.int .i64 n, .int .i64 s, .bool ok]) ∧ NumSpec rest n s ok
theorem num_post {rest : List Int} {n s : Int} {ok : Bool} (h : NumSpec rest n s ok) : NumPost rest (.returned (.tuple #[.int .i64 n, .int .i64 s, .bool ok])) := ⟨n, s, ok, rfl, h⟩
theorem num_false {rest : List Int} {n s n' s' : Int} (h : NumSpec rest n s false) : NumSpec rest n' s' false := by
  rcases h with ⟨h, _⟩ | h
  · simp at h
  · exact .inr h
/-- One round's numbers: k a literal, P = 128 ^ k. -/
theorem num_round (rest : List Int) (k : Nat) (c : Int) (P : Int) (hP : P = 128 ^ k) (hk : k < rest.length) (hk8 : k ≤ 8) (hc : rest.getD k 0 = c) (hB : Byts rest) (h : Hi (rest.take k)) :
    ∃ n x : Int, (lo (rest.take k) : Int) = n ∧ c % 128 = x ∧ 0 ≤ n ∧ n < P ∧ 0 ≤ x ∧ x < 128 ∧ bits .or .i64 n (x * P) = n + x * P ∧ (0 ≤ c ∧ c ≤ 255) ∧
      (128 ≤ c → Hid (Hi (rest.take (k + 1)) ∧ (lo (rest.take (k + 1)) : Int) = n + x * P)) ∧
      (c < 128 → Hid (c = x ∧ NumSpec rest (n + x * P) (k + 1) (decide (0 < x) || decide (k = 0)))) := by
  have hb := hB.at k
  rw [hc] at hb
  have hl : (rest.take k).length = k := by rw [List.length_take]; omega
  have h2 := lo_lt _ h
  rw [hl] at h2
  have hPn : P = ((128 ^ k : Nat) : Int) := by rw [hP]; push_cast; rfl
  have hP2 : P = 2 ^ (7 * k) := by rw [hP, Int.pow_mul]; rfl
  refine ⟨_, c % 128, rfl, rfl, by omega, by omega, by omega, by omega, ?_, hb, fun hge => ?_, fun hlt => ?_⟩
  · rw [hP2]
    exact or_join (7 * k) (c % 128) _ (by omega) (by omega) (by omega) (by rw [← hP2]; omega) (by omega)
  · obtain ⟨r1, r2⟩ := num_more rest k c hk hc h hge hb.2
    exact mkHid ⟨r1, by rw [r2, hP, show c % 128 = c - 128 by omega]⟩
  · have := num_ends rest k c hk hk8 hc h hb.1 hlt
    have e : c % 128 = c := by omega
    rw [e, hP]
    exact mkHid ⟨rfl, this⟩
end Go.Proofs.YtjocjkfllicjdaaDoor
