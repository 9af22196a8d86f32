/- What a reader of package wire does. -/
import Derived.Test.YtaiklaipdocdmaaDoorAlive
import Derived.Test.YtaiklaipdocdmaaDoorDec
import Derived.Deep.RegionWith
import Derived.Laws.BitsLemmas
namespace Go.Proofs.YtaiklaipdocdmaaDoor
open Go.ChangeShapes Go.WideShapes Go.ChangeAt Go.RowKit
set_option maxRecDepth 100000

theorem or_join (i : Nat) (x n : Int) (h0 : 0 ≤ x) (h1 : x < 128) (hn0 : 0 ≤ n) (hn : n < 2 ^ i) (hi : i ≤ 56) : bits .or .i64 n (x * 2 ^ i) = n + x * 2 ^ i := by
  have hc : bits .or .i64 n (x * 2 ^ i) = bits .or .i64 (x * 2 ^ i) n := by simp only [bits, BitVec.or_comm]
  have hp : (2 : Int) ^ i ≤ 2 ^ 56 := by exact_mod_cast Nat.pow_le_pow_right (n := 2) (by omega) hi
  have hx : x * 2 ^ i < 2 ^ 63 := by
    have : x * 2 ^ i ≤ 127 * 2 ^ 56 := Int.mul_le_mul (by omega) hp (Int.le_of_lt (Int.pow_pos (by omega))) (by omega)
    omega
  rw [hc, bits_join .i64 63 (by decide) (fun m a b => by rw [IntKind.wrap_i64]; omega) i (x * 2 ^ i) n (Int.mul_nonneg h0 (Int.le_of_lt (Int.pow_pos (by omega)))) (Int.mul_emod_left _ _) hx hn0 hn (by omega)]
  omega
theorem hi_snoc {p : List Int} (h : Hi p) {c : Int} (h0 : 128 ≤ c) (h1 : c ≤ 255) : Hi (p ++ [c]) := fun b hb => by
  rcases List.mem_append.mp hb with hb | hb
  · exact h b hb
  · simp at hb; omega
theorem take_snoc' (bs : List Int) (k : Nat) (h : k < bs.length) : bs.take (k + 1) = bs.take k ++ [bs.getD k 0] := take_snoc bs k h
/-- One byte more. -/
theorem num_more (rest : List Int) (k : Nat) (c : Int) (hk : k < rest.length) (hc : rest.getD k 0 = c) (h : Hi (rest.take k)) (h0 : 128 ≤ c) (h1 : c ≤ 255) :
    Hi (rest.take (k + 1)) ∧ (lo (rest.take (k + 1)) : Int) = lo (rest.take k) + (c - 128) * 128 ^ k := by
  have hl : (rest.take k).length = k := by rw [List.length_take]; omega
  rw [take_snoc' rest k hk, hc]
  refine ⟨hi_snoc h h0 h1, ?_⟩
  rw [lo_snoc, hl]
  have : (((c - 128).toNat : Nat) : Int) = c - 128 := by omega
  push_cast
  rw [this]
/-- The number ends here. -/
theorem num_ends (rest : List Int) (k : Nat) (c : Int) (hk : k < rest.length) (hk8 : k ≤ 8) (hc : rest.getD k 0 = c) (h : Hi (rest.take k)) (h0 : 0 ≤ c) (h1 : c < 128) :
    NumSpec rest (lo (rest.take k) + c * 128 ^ k) (k + 1) (decide (0 < c) || decide (k = 0)) := by
  have hl : (rest.take k).length = k := by rw [List.length_take]; omega
  have hsp : rest = rest.take k ++ c :: rest.drop (k + 1) := by
    conv => lhs; rw [← List.take_append_drop k rest, List.drop_eq_getElem_cons hk]
    rw [← hc]
    simp [List.getD, hk]
  by_cases hok : 0 < c ∨ k = 0
  · left
    refine ⟨by simpa using hok, lo (rest.take k) + c.toNat * 128 ^ k, rest.drop (k + 1), ?_, ?_, ?_, ?_⟩
    · have : ((c.toNat : Nat) : Int) = c := by omega
      push_cast
      rw [this]
    · have h2 := lo_lt _ h
      rw [hl] at h2
      have h3 : 128 ^ k ≤ 128 ^ 8 := Nat.pow_le_pow_right (by omega) hk8
      have h4 : c.toNat * 128 ^ k ≤ 127 * 128 ^ k := Nat.mul_le_mul_right _ (by omega)
      omega
    · have e := enc_hi (rest.take k) c h h0 h1 (by rcases hok with h | h; exact .inl h; right; rw [h]; rfl)
      rw [hl] at e
      rw [e]
      simp [hl]
    · have e := enc_hi (rest.take k) c h h0 h1 (by rcases hok with h | h; exact .inl h; right; rw [h]; rfl)
      rw [hl] at e
      rw [e, List.append_assoc]
      exact hsp
  · right
    refine ⟨by simpa using hok, fun N r _ => ?_⟩
    have : c = 0 := by omega
    rw [hsp, this]
    exact no_zero _ _ h (fun e => by rw [e] at hl; simp at hl; omega) N r
theorem getD_take {rest : List Int} {k n : Nat} (h : k < n) : (rest.take n).getD k 0 = rest.getD k 0 := by simp [List.getD, h]
def NumPost (rest : List Int) (e : Ending) : Prop := ∃ n s ok, e = .returned (.tuple #[.int .i64 n, .int .i64 s, .bool ok]) ∧ NumSpec rest n s ok
theorem num_post {rest : List Int} {n s : Int} {ok : Bool} (h : NumSpec rest n s ok) : NumPost rest (.returned (.tuple #[.int .i64 n, .int .i64 s, .bool ok])) := ⟨n, s, ok, rfl, h⟩
theorem num_false {rest : List Int} {n s n' s' : Int} (h : NumSpec rest n s false) : NumSpec rest n' s' false := by
  rcases h with ⟨h, _⟩ | h
  · simp at h
  · exact .inr h
/-- One round's numbers: k a literal, P = 128 ^ k. -/
theorem num_round (rest : List Int) (k : Nat) (c : Int) (P : Int) (hP : P = 128 ^ k) (hk : k < rest.length) (hk8 : k ≤ 8) (hc : rest.getD k 0 = c) (hB : Byts rest) (h : Hi (rest.take k)) :
    ∃ n x : Int, (lo (rest.take k) : Int) = n ∧ c % 128 = x ∧ 0 ≤ n ∧ n < P ∧ 0 ≤ x ∧ x < 128 ∧ bits .or .i64 n (x * P) = n + x * P ∧ (0 ≤ c ∧ c ≤ 255) ∧
      (128 ≤ c → Hid (Hi (rest.take (k + 1)) ∧ (lo (rest.take (k + 1)) : Int) = n + x * P)) ∧
      (c < 128 → Hid (c = x ∧ NumSpec rest (n + x * P) (k + 1) (decide (0 < x) || decide (k = 0)))) := by
  have hb := hB.at k
  rw [hc] at hb
  have hl : (rest.take k).length = k := by rw [List.length_take]; omega
  have h2 := lo_lt _ h
  rw [hl] at h2
  have hPn : P = ((128 ^ k : Nat) : Int) := by rw [hP]; push_cast; rfl
  have hP2 : P = 2 ^ (7 * k) := by rw [hP, Int.pow_mul]; rfl
  refine ⟨_, c % 128, rfl, rfl, by omega, by omega, by omega, by omega, ?_, hb, fun hge => ?_, fun hlt => ?_⟩
  · rw [hP2]
    exact or_join (7 * k) (c % 128) _ (by omega) (by omega) (by omega) (by rw [← hP2]; omega) (by omega)
  · obtain ⟨r1, r2⟩ := num_more rest k c hk hc h hge hb.2
    exact mkHid ⟨r1, by rw [r2, hP, show c % 128 = c - 128 by omega]⟩
  · have := num_ends rest k c hk hk8 hc h hb.1 hlt
    have e : c % 128 = c := by omega
    rw [e, hP]
    exact mkHid ⟨rfl, this⟩
set_option maxHeartbeats 6400000 in
theorem number_big (w : World) (a : Option Addr) (cap : Nat) (rest : List Int) (hB : Byts rest) (hc : rest.length ≤ cap) (hr : 0 < rest.length → ∃ b off, a = some ⟨b, off, none⟩ ∧ b < w.heap.size ∧ ∀ k, k < rest.length → w.cell? ⟨b, off + k, none⟩ = some (.int .u8 (rest.getD k 0))) (hl : (rest.length : Int) ≤ 140737488355328) (hbig : (9 : Int) < rest.length) :
    Calls Tryd.prog 101 #[.slice a rest.length cap] w fun e w' => w' = w ∧ NumPost rest e := by
  have hcap : (9 : Int) ≤ cap := by omega
  go_enter Tryd.func101, Tryd.ntmps101
  go_wp2
  go_loop [5, 14] (fun nv iv => ∃ k : Nat, k ≤ 9 ∧ k ≤ rest.length ∧ iv = .int .i64 k ∧ nv = .int .i64 (lo (rest.take k)) ∧ Hi (rest.take k)) (fun _ iv => 9 - (intOf iv).toNat)
  case atStart => exact ⟨0, by omega, by omega, rfl, rfl, by simp [Hi]⟩
  case round =>
    obtain ⟨k, hk9, hkl, rfl, rfl, hhi⟩ := hrel
    by_cases hlt : k < 9
    · obtain ⟨b, off, rfl, hbl, hcell⟩ := hr (by omega)
      have hck := hcell k (by omega)
      obtain ⟨c, hc'⟩ : ∃ c, rest.getD k 0 = c := ⟨_, rfl⟩
      rw [hc'] at hck
      have hk8 : k = 0 ∨ k = 1 ∨ k = 2 ∨ k = 3 ∨ k = 4 ∨ k = 5 ∨ k = 6 ∨ k = 7 ∨ k = 8 := by omega
      rcases hk8 with rfl | rfl | rfl | rfl | rfl | rfl | rfl | rfl | rfl
      · obtain ⟨n, x, e1, e2, n0, n1, x0, x1, e3, hcb, hge, hlo⟩ := num_round rest 0 c 1 (by decide) (by omega) (by omega) hc' hB hhi
        rw [e1]
        have HR : Hid ((128 ≤ c → Hid (Hi (rest.take (0 + 1)) ∧ (lo (rest.take (0 + 1)) : Int) = n + x * 1)) ∧ (c < 128 → Hid (c = x ∧ NumSpec rest (n + x * 1) ((0 : Nat) + 1) (decide (0 < x) || decide ((0 : Nat) = 0))))) := ⟨hge, hlo⟩
        rw [Nat.add_zero] at hck
        rw [Int.mul_one] at e3
        clear hge hlo e1 hcell hr hhi hc' hB
        by_cases hs : c < 128
        · have hcx := (HR.out.2 hs).out.1
          have HN : Hid (NumSpec rest (n + x * 1) ((0 : Nat) + 1) (decide (0 < x) || decide ((0 : Nat) = 0))) := (HR.out.2 hs).out.2
          clear HR
          subst hcx
          by_cases hz : 0 < c
          · have HN' : NumSpec rest (n + c) 1 true := by simpa [hz] using HN.out
            clear HN
            go_wp2
            go_ret3
            exact ⟨rfl, num_post HN'⟩
          · obtain rfl : c = 0 := by omega
            have HN' : NumSpec rest n 1 true := by simpa using HN.out
            clear HN
            go_wp2
            go_ret3
            exact ⟨rfl, num_post HN'⟩
        · have HN := HR.out.1 (by omega)
          go_wp2
          go_round
          case rel => exact ⟨0 + 1, by omega, by omega, rfl, by first | (rw [HN.out.2]; done) | (rw [HN.out.2]; congr 1; omega), HN.out.1⟩
          case measure => simp [intOf]
      · obtain ⟨n, x, e1, e2, n0, n1, x0, x1, e3, hcb, hge, hlo⟩ := num_round rest 1 c 128 (by decide) (by omega) (by omega) hc' hB hhi
        rw [e1]
        have HR : Hid ((128 ≤ c → Hid (Hi (rest.take (1 + 1)) ∧ (lo (rest.take (1 + 1)) : Int) = n + x * 128)) ∧ (c < 128 → Hid (c = x ∧ NumSpec rest (n + x * 128) ((1 : Nat) + 1) (decide (0 < x) || decide ((1 : Nat) = 0))))) := ⟨hge, hlo⟩
        clear hge hlo e1 hcell hr hhi hc' hB
        by_cases hs : c < 128
        · have hcx := (HR.out.2 hs).out.1
          have HN : Hid (NumSpec rest (n + x * 128) ((1 : Nat) + 1) (decide (0 < x) || decide ((1 : Nat) = 0))) := (HR.out.2 hs).out.2
          clear HR
          subst hcx
          by_cases hz : 0 < c
          · have HN' : NumSpec rest (n + c * 128) 2 true := by simpa [hz] using HN.out
            clear HN
            go_wp2
            go_ret3
            exact ⟨rfl, num_post HN'⟩
          · obtain rfl : c = 0 := by omega
            have HN' : NumSpec rest n 2 false := by simpa using HN.out
            clear HN
            go_wp2
            go_ret3
            exact ⟨rfl, num_post (num_false HN')⟩
        · have HN := HR.out.1 (by omega)
          go_wp2
          go_round
          case rel => exact ⟨1 + 1, by omega, by omega, rfl, by first | (rw [HN.out.2]; done) | (rw [HN.out.2]; congr 1; omega), HN.out.1⟩
          case measure => simp [intOf]
      · obtain ⟨n, x, e1, e2, n0, n1, x0, x1, e3, hcb, hge, hlo⟩ := num_round rest 2 c 16384 (by decide) (by omega) (by omega) hc' hB hhi
        rw [e1]
        have HR : Hid ((128 ≤ c → Hid (Hi (rest.take (2 + 1)) ∧ (lo (rest.take (2 + 1)) : Int) = n + x * 16384)) ∧ (c < 128 → Hid (c = x ∧ NumSpec rest (n + x * 16384) ((2 : Nat) + 1) (decide (0 < x) || decide ((2 : Nat) = 0))))) := ⟨hge, hlo⟩
        clear hge hlo e1 hcell hr hhi hc' hB
        by_cases hs : c < 128
        · have hcx := (HR.out.2 hs).out.1
          have HN : Hid (NumSpec rest (n + x * 16384) ((2 : Nat) + 1) (decide (0 < x) || decide ((2 : Nat) = 0))) := (HR.out.2 hs).out.2
          clear HR
          subst hcx
          by_cases hz : 0 < c
          · have HN' : NumSpec rest (n + c * 16384) 3 true := by simpa [hz] using HN.out
            clear HN
            go_wp2
            go_ret3
            exact ⟨rfl, num_post HN'⟩
          · obtain rfl : c = 0 := by omega
            have HN' : NumSpec rest n 3 false := by simpa using HN.out
            clear HN
            go_wp2
            go_ret3
            exact ⟨rfl, num_post (num_false HN')⟩
        · have HN := HR.out.1 (by omega)
          go_wp2
          go_round
          case rel => exact ⟨2 + 1, by omega, by omega, rfl, by first | (rw [HN.out.2]; done) | (rw [HN.out.2]; congr 1; omega), HN.out.1⟩
          case measure => simp [intOf]
      · obtain ⟨n, x, e1, e2, n0, n1, x0, x1, e3, hcb, hge, hlo⟩ := num_round rest 3 c 2097152 (by decide) (by omega) (by omega) hc' hB hhi
        rw [e1]
        have HR : Hid ((128 ≤ c → Hid (Hi (rest.take (3 + 1)) ∧ (lo (rest.take (3 + 1)) : Int) = n + x * 2097152)) ∧ (c < 128 → Hid (c = x ∧ NumSpec rest (n + x * 2097152) ((3 : Nat) + 1) (decide (0 < x) || decide ((3 : Nat) = 0))))) := ⟨hge, hlo⟩
        clear hge hlo e1 hcell hr hhi hc' hB
        by_cases hs : c < 128
        · have hcx := (HR.out.2 hs).out.1
          have HN : Hid (NumSpec rest (n + x * 2097152) ((3 : Nat) + 1) (decide (0 < x) || decide ((3 : Nat) = 0))) := (HR.out.2 hs).out.2
          clear HR
          subst hcx
          by_cases hz : 0 < c
          · have HN' : NumSpec rest (n + c * 2097152) 4 true := by simpa [hz] using HN.out
            clear HN
            go_wp2
            go_ret3
            exact ⟨rfl, num_post HN'⟩
          · obtain rfl : c = 0 := by omega
            have HN' : NumSpec rest n 4 false := by simpa using HN.out
            clear HN
            go_wp2
            go_ret3
            exact ⟨rfl, num_post (num_false HN')⟩
        · have HN := HR.out.1 (by omega)
          go_wp2
          go_round
          case rel => exact ⟨3 + 1, by omega, by omega, rfl, by first | (rw [HN.out.2]; done) | (rw [HN.out.2]; congr 1; omega), HN.out.1⟩
          case measure => simp [intOf]
      · obtain ⟨n, x, e1, e2, n0, n1, x0, x1, e3, hcb, hge, hlo⟩ := num_round rest 4 c 268435456 (by decide) (by omega) (by omega) hc' hB hhi
        rw [e1]
        have HR : Hid ((128 ≤ c → Hid (Hi (rest.take (4 + 1)) ∧ (lo (rest.take (4 + 1)) : Int) = n + x * 268435456)) ∧ (c < 128 → Hid (c = x ∧ NumSpec rest (n + x * 268435456) ((4 : Nat) + 1) (decide (0 < x) || decide ((4 : Nat) = 0))))) := ⟨hge, hlo⟩
        clear hge hlo e1 hcell hr hhi hc' hB
        by_cases hs : c < 128
        · have hcx := (HR.out.2 hs).out.1
          have HN : Hid (NumSpec rest (n + x * 268435456) ((4 : Nat) + 1) (decide (0 < x) || decide ((4 : Nat) = 0))) := (HR.out.2 hs).out.2
          clear HR
          subst hcx
          by_cases hz : 0 < c
          · have HN' : NumSpec rest (n + c * 268435456) 5 true := by simpa [hz] using HN.out
            clear HN
            go_wp2
            go_ret3
            exact ⟨rfl, num_post HN'⟩
          · obtain rfl : c = 0 := by omega
            have HN' : NumSpec rest n 5 false := by simpa using HN.out
            clear HN
            go_wp2
            go_ret3
            exact ⟨rfl, num_post (num_false HN')⟩
        · have HN := HR.out.1 (by omega)
          go_wp2
          go_round
          case rel => exact ⟨4 + 1, by omega, by omega, rfl, by first | (rw [HN.out.2]; done) | (rw [HN.out.2]; congr 1; omega), HN.out.1⟩
          case measure => simp [intOf]
      · obtain ⟨n, x, e1, e2, n0, n1, x0, x1, e3, hcb, hge, hlo⟩ := num_round rest 5 c 34359738368 (by decide) (by omega) (by omega) hc' hB hhi
        rw [e1]
        have HR : Hid ((128 ≤ c → Hid (Hi (rest.take (5 + 1)) ∧ (lo (rest.take (5 + 1)) : Int) = n + x * 34359738368)) ∧ (c < 128 → Hid (c = x ∧ NumSpec rest (n + x * 34359738368) ((5 : Nat) + 1) (decide (0 < x) || decide ((5 : Nat) = 0))))) := ⟨hge, hlo⟩
        clear hge hlo e1 hcell hr hhi hc' hB
        by_cases hs : c < 128
        · have hcx := (HR.out.2 hs).out.1
          have HN : Hid (NumSpec rest (n + x * 34359738368) ((5 : Nat) + 1) (decide (0 < x) || decide ((5 : Nat) = 0))) := (HR.out.2 hs).out.2
          clear HR
          subst hcx
          by_cases hz : 0 < c
          · have HN' : NumSpec rest (n + c * 34359738368) 6 true := by simpa [hz] using HN.out
            clear HN
            go_wp2
            go_ret3
            exact ⟨rfl, num_post HN'⟩
          · obtain rfl : c = 0 := by omega
            have HN' : NumSpec rest n 6 false := by simpa using HN.out
            clear HN
            go_wp2
            go_ret3
            exact ⟨rfl, num_post (num_false HN')⟩
        · have HN := HR.out.1 (by omega)
          go_wp2
          go_round
          case rel => exact ⟨5 + 1, by omega, by omega, rfl, by first | (rw [HN.out.2]; done) | (rw [HN.out.2]; congr 1; omega), HN.out.1⟩
          case measure => simp [intOf]
      · obtain ⟨n, x, e1, e2, n0, n1, x0, x1, e3, hcb, hge, hlo⟩ := num_round rest 6 c 4398046511104 (by decide) (by omega) (by omega) hc' hB hhi
        rw [e1]
        have HR : Hid ((128 ≤ c → Hid (Hi (rest.take (6 + 1)) ∧ (lo (rest.take (6 + 1)) : Int) = n + x * 4398046511104)) ∧ (c < 128 → Hid (c = x ∧ NumSpec rest (n + x * 4398046511104) ((6 : Nat) + 1) (decide (0 < x) || decide ((6 : Nat) = 0))))) := ⟨hge, hlo⟩
        clear hge hlo e1 hcell hr hhi hc' hB
        by_cases hs : c < 128
        · have hcx := (HR.out.2 hs).out.1
          have HN : Hid (NumSpec rest (n + x * 4398046511104) ((6 : Nat) + 1) (decide (0 < x) || decide ((6 : Nat) = 0))) := (HR.out.2 hs).out.2
          clear HR
          subst hcx
          by_cases hz : 0 < c
          · have HN' : NumSpec rest (n + c * 4398046511104) 7 true := by simpa [hz] using HN.out
            clear HN
            go_wp2
            go_ret3
            exact ⟨rfl, num_post HN'⟩
          · obtain rfl : c = 0 := by omega
            have HN' : NumSpec rest n 7 false := by simpa using HN.out
            clear HN
            go_wp2
            go_ret3
            exact ⟨rfl, num_post (num_false HN')⟩
        · have HN := HR.out.1 (by omega)
          go_wp2
          go_round
          case rel => exact ⟨6 + 1, by omega, by omega, rfl, by first | (rw [HN.out.2]; done) | (rw [HN.out.2]; congr 1; omega), HN.out.1⟩
          case measure => simp [intOf]
      · obtain ⟨n, x, e1, e2, n0, n1, x0, x1, e3, hcb, hge, hlo⟩ := num_round rest 7 c 562949953421312 (by decide) (by omega) (by omega) hc' hB hhi
        rw [e1]
        have HR : Hid ((128 ≤ c → Hid (Hi (rest.take (7 + 1)) ∧ (lo (rest.take (7 + 1)) : Int) = n + x * 562949953421312)) ∧ (c < 128 → Hid (c = x ∧ NumSpec rest (n + x * 562949953421312) ((7 : Nat) + 1) (decide (0 < x) || decide ((7 : Nat) = 0))))) := ⟨hge, hlo⟩
        clear hge hlo e1 hcell hr hhi hc' hB
        by_cases hs : c < 128
        · have hcx := (HR.out.2 hs).out.1
          have HN : Hid (NumSpec rest (n + x * 562949953421312) ((7 : Nat) + 1) (decide (0 < x) || decide ((7 : Nat) = 0))) := (HR.out.2 hs).out.2
          clear HR
          subst hcx
          by_cases hz : 0 < c
          · have HN' : NumSpec rest (n + c * 562949953421312) 8 true := by simpa [hz] using HN.out
            clear HN
            go_wp2
            go_ret3
            exact ⟨rfl, num_post HN'⟩
          · obtain rfl : c = 0 := by omega
            have HN' : NumSpec rest n 8 false := by simpa using HN.out
            clear HN
            go_wp2
            go_ret3
            exact ⟨rfl, num_post (num_false HN')⟩
        · have HN := HR.out.1 (by omega)
          go_wp2
          go_round
          case rel => exact ⟨7 + 1, by omega, by omega, rfl, by first | (rw [HN.out.2]; done) | (rw [HN.out.2]; congr 1; omega), HN.out.1⟩
          case measure => simp [intOf]
      · obtain ⟨n, x, e1, e2, n0, n1, x0, x1, e3, hcb, hge, hlo⟩ := num_round rest 8 c 72057594037927936 (by decide) (by omega) (by omega) hc' hB hhi
        rw [e1]
        have HR : Hid ((128 ≤ c → Hid (Hi (rest.take (8 + 1)) ∧ (lo (rest.take (8 + 1)) : Int) = n + x * 72057594037927936)) ∧ (c < 128 → Hid (c = x ∧ NumSpec rest (n + x * 72057594037927936) ((8 : Nat) + 1) (decide (0 < x) || decide ((8 : Nat) = 0))))) := ⟨hge, hlo⟩
        clear hge hlo e1 hcell hr hhi hc' hB
        by_cases hs : c < 128
        · have hcx := (HR.out.2 hs).out.1
          have HN : Hid (NumSpec rest (n + x * 72057594037927936) ((8 : Nat) + 1) (decide (0 < x) || decide ((8 : Nat) = 0))) := (HR.out.2 hs).out.2
          clear HR
          subst hcx
          by_cases hz : 0 < c
          · have HN' : NumSpec rest (n + c * 72057594037927936) 9 true := by simpa [hz] using HN.out
            clear HN
            go_wp2
            go_ret3
            exact ⟨rfl, num_post HN'⟩
          · obtain rfl : c = 0 := by omega
            have HN' : NumSpec rest n 9 false := by simpa using HN.out
            clear HN
            go_wp2
            go_ret3
            exact ⟨rfl, num_post (num_false HN')⟩
        · have HN := HR.out.1 (by omega)
          go_wp2
          go_round
          case rel => exact ⟨8 + 1, by omega, by omega, rfl, by first | (rw [HN.out.2]; done) | (rw [HN.out.2]; congr 1; omega), HN.out.1⟩
          case measure => simp [intOf]
    · obtain rfl : k = 9 := by omega
      clear hr
      go_wp2
      go_ret3
      exact ⟨rfl, num_post (n := 0) (s := 0) (ok := false) (.inr ⟨rfl, fun N r hN => no_end rest hhi N (by omega) r⟩)⟩
set_option maxHeartbeats 6400000 in
theorem number_small (w : World) (a : Option Addr) (cap : Nat) (rest : List Int) (hB : Byts rest) (hc : rest.length ≤ cap) (hr : 0 < rest.length → ∃ b off, a = some ⟨b, off, none⟩ ∧ b < w.heap.size ∧ ∀ k, k < rest.length → w.cell? ⟨b, off + k, none⟩ = some (.int .u8 (rest.getD k 0))) (hbig : ¬ (9 : Int) < rest.length) :
    Calls Tryd.prog 101 #[.slice a rest.length cap] w fun e w' => w' = w ∧ NumPost rest e := by
  go_enter Tryd.func101, Tryd.ntmps101
  go_wp2
  go_loop [5, 14] (fun nv iv => ∃ k : Nat, k ≤ 9 ∧ k ≤ rest.length ∧ iv = .int .i64 k ∧ nv = .int .i64 (lo (rest.take k)) ∧ Hi (rest.take k)) (fun _ iv => 9 - (intOf iv).toNat)
  case atStart => exact ⟨0, by omega, by omega, rfl, rfl, by simp [Hi]⟩
  case round =>
    obtain ⟨k, hk9, hkl, rfl, rfl, hhi⟩ := hrel
    by_cases hlt : k < rest.length
    · obtain ⟨b, off, rfl, hbl, hcell⟩ := hr (by omega)
      have hck := hcell k (by omega)
      obtain ⟨c, hc'⟩ : ∃ c, rest.getD k 0 = c := ⟨_, rfl⟩
      rw [hc'] at hck
      have hk8 : k = 0 ∨ k = 1 ∨ k = 2 ∨ k = 3 ∨ k = 4 ∨ k = 5 ∨ k = 6 ∨ k = 7 ∨ k = 8 := by omega
      rcases hk8 with rfl | rfl | rfl | rfl | rfl | rfl | rfl | rfl | rfl
      · obtain ⟨n, x, e1, e2, n0, n1, x0, x1, e3, hcb, hge, hlo⟩ := num_round rest 0 c 1 (by decide) (by omega) (by omega) hc' hB hhi
        rw [e1]
        have HR : Hid ((128 ≤ c → Hid (Hi (rest.take (0 + 1)) ∧ (lo (rest.take (0 + 1)) : Int) = n + x * 1)) ∧ (c < 128 → Hid (c = x ∧ NumSpec rest (n + x * 1) ((0 : Nat) + 1) (decide (0 < x) || decide ((0 : Nat) = 0))))) := ⟨hge, hlo⟩
        rw [Nat.add_zero] at hck
        rw [Int.mul_one] at e3
        clear hge hlo e1 hcell hr hhi hc' hB
        by_cases hs : c < 128
        · have hcx := (HR.out.2 hs).out.1
          have HN : Hid (NumSpec rest (n + x * 1) ((0 : Nat) + 1) (decide (0 < x) || decide ((0 : Nat) = 0))) := (HR.out.2 hs).out.2
          clear HR
          subst hcx
          by_cases hz : 0 < c
          · have HN' : NumSpec rest (n + c) 1 true := by simpa [hz] using HN.out
            clear HN
            go_wp2
            go_ret3
            exact ⟨rfl, num_post HN'⟩
          · obtain rfl : c = 0 := by omega
            have HN' : NumSpec rest n 1 true := by simpa using HN.out
            clear HN
            go_wp2
            go_ret3
            exact ⟨rfl, num_post HN'⟩
        · have HN := HR.out.1 (by omega)
          go_wp2
          go_round
          case rel => exact ⟨0 + 1, by omega, by omega, rfl, by first | (rw [HN.out.2]; done) | (rw [HN.out.2]; congr 1; omega), HN.out.1⟩
          case measure => simp [intOf]
      · obtain ⟨n, x, e1, e2, n0, n1, x0, x1, e3, hcb, hge, hlo⟩ := num_round rest 1 c 128 (by decide) (by omega) (by omega) hc' hB hhi
        rw [e1]
        have HR : Hid ((128 ≤ c → Hid (Hi (rest.take (1 + 1)) ∧ (lo (rest.take (1 + 1)) : Int) = n + x * 128)) ∧ (c < 128 → Hid (c = x ∧ NumSpec rest (n + x * 128) ((1 : Nat) + 1) (decide (0 < x) || decide ((1 : Nat) = 0))))) := ⟨hge, hlo⟩
        clear hge hlo e1 hcell hr hhi hc' hB
        by_cases hs : c < 128
        · have hcx := (HR.out.2 hs).out.1
          have HN : Hid (NumSpec rest (n + x * 128) ((1 : Nat) + 1) (decide (0 < x) || decide ((1 : Nat) = 0))) := (HR.out.2 hs).out.2
          clear HR
          subst hcx
          by_cases hz : 0 < c
          · have HN' : NumSpec rest (n + c * 128) 2 true := by simpa [hz] using HN.out
            clear HN
            go_wp2
            go_ret3
            exact ⟨rfl, num_post HN'⟩
          · obtain rfl : c = 0 := by omega
            have HN' : NumSpec rest n 2 false := by simpa using HN.out
            clear HN
            go_wp2
            go_ret3
            exact ⟨rfl, num_post (num_false HN')⟩
        · have HN := HR.out.1 (by omega)
          go_wp2
          go_round
          case rel => exact ⟨1 + 1, by omega, by omega, rfl, by first | (rw [HN.out.2]; done) | (rw [HN.out.2]; congr 1; omega), HN.out.1⟩
          case measure => simp [intOf]
      · obtain ⟨n, x, e1, e2, n0, n1, x0, x1, e3, hcb, hge, hlo⟩ := num_round rest 2 c 16384 (by decide) (by omega) (by omega) hc' hB hhi
        rw [e1]
        have HR : Hid ((128 ≤ c → Hid (Hi (rest.take (2 + 1)) ∧ (lo (rest.take (2 + 1)) : Int) = n + x * 16384)) ∧ (c < 128 → Hid (c = x ∧ NumSpec rest (n + x * 16384) ((2 : Nat) + 1) (decide (0 < x) || decide ((2 : Nat) = 0))))) := ⟨hge, hlo⟩
        clear hge hlo e1 hcell hr hhi hc' hB
        by_cases hs : c < 128
        · have hcx := (HR.out.2 hs).out.1
          have HN : Hid (NumSpec rest (n + x * 16384) ((2 : Nat) + 1) (decide (0 < x) || decide ((2 : Nat) = 0))) := (HR.out.2 hs).out.2
          clear HR
          subst hcx
          by_cases hz : 0 < c
          · have HN' : NumSpec rest (n + c * 16384) 3 true := by simpa [hz] using HN.out
            clear HN
            go_wp2
            go_ret3
            exact ⟨rfl, num_post HN'⟩
          · obtain rfl : c = 0 := by omega
            have HN' : NumSpec rest n 3 false := by simpa using HN.out
            clear HN
            go_wp2
            go_ret3
            exact ⟨rfl, num_post (num_false HN')⟩
        · have HN := HR.out.1 (by omega)
          go_wp2
          go_round
          case rel => exact ⟨2 + 1, by omega, by omega, rfl, by first | (rw [HN.out.2]; done) | (rw [HN.out.2]; congr 1; omega), HN.out.1⟩
          case measure => simp [intOf]
      · obtain ⟨n, x, e1, e2, n0, n1, x0, x1, e3, hcb, hge, hlo⟩ := num_round rest 3 c 2097152 (by decide) (by omega) (by omega) hc' hB hhi
        rw [e1]
        have HR : Hid ((128 ≤ c → Hid (Hi (rest.take (3 + 1)) ∧ (lo (rest.take (3 + 1)) : Int) = n + x * 2097152)) ∧ (c < 128 → Hid (c = x ∧ NumSpec rest (n + x * 2097152) ((3 : Nat) + 1) (decide (0 < x) || decide ((3 : Nat) = 0))))) := ⟨hge, hlo⟩
        clear hge hlo e1 hcell hr hhi hc' hB
        by_cases hs : c < 128
        · have hcx := (HR.out.2 hs).out.1
          have HN : Hid (NumSpec rest (n + x * 2097152) ((3 : Nat) + 1) (decide (0 < x) || decide ((3 : Nat) = 0))) := (HR.out.2 hs).out.2
          clear HR
          subst hcx
          by_cases hz : 0 < c
          · have HN' : NumSpec rest (n + c * 2097152) 4 true := by simpa [hz] using HN.out
            clear HN
            go_wp2
            go_ret3
            exact ⟨rfl, num_post HN'⟩
          · obtain rfl : c = 0 := by omega
            have HN' : NumSpec rest n 4 false := by simpa using HN.out
            clear HN
            go_wp2
            go_ret3
            exact ⟨rfl, num_post (num_false HN')⟩
        · have HN := HR.out.1 (by omega)
          go_wp2
          go_round
          case rel => exact ⟨3 + 1, by omega, by omega, rfl, by first | (rw [HN.out.2]; done) | (rw [HN.out.2]; congr 1; omega), HN.out.1⟩
          case measure => simp [intOf]
      · obtain ⟨n, x, e1, e2, n0, n1, x0, x1, e3, hcb, hge, hlo⟩ := num_round rest 4 c 268435456 (by decide) (by omega) (by omega) hc' hB hhi
        rw [e1]
        have HR : Hid ((128 ≤ c → Hid (Hi (rest.take (4 + 1)) ∧ (lo (rest.take (4 + 1)) : Int) = n + x * 268435456)) ∧ (c < 128 → Hid (c = x ∧ NumSpec rest (n + x * 268435456) ((4 : Nat) + 1) (decide (0 < x) || decide ((4 : Nat) = 0))))) := ⟨hge, hlo⟩
        clear hge hlo e1 hcell hr hhi hc' hB
        by_cases hs : c < 128
        · have hcx := (HR.out.2 hs).out.1
          have HN : Hid (NumSpec rest (n + x * 268435456) ((4 : Nat) + 1) (decide (0 < x) || decide ((4 : Nat) = 0))) := (HR.out.2 hs).out.2
          clear HR
          subst hcx
          by_cases hz : 0 < c
          · have HN' : NumSpec rest (n + c * 268435456) 5 true := by simpa [hz] using HN.out
            clear HN
            go_wp2
            go_ret3
            exact ⟨rfl, num_post HN'⟩
          · obtain rfl : c = 0 := by omega
            have HN' : NumSpec rest n 5 false := by simpa using HN.out
            clear HN
            go_wp2
            go_ret3
            exact ⟨rfl, num_post (num_false HN')⟩
        · have HN := HR.out.1 (by omega)
          go_wp2
          go_round
          case rel => exact ⟨4 + 1, by omega, by omega, rfl, by first | (rw [HN.out.2]; done) | (rw [HN.out.2]; congr 1; omega), HN.out.1⟩
          case measure => simp [intOf]
      · obtain ⟨n, x, e1, e2, n0, n1, x0, x1, e3, hcb, hge, hlo⟩ := num_round rest 5 c 34359738368 (by decide) (by omega) (by omega) hc' hB hhi
        rw [e1]
        have HR : Hid ((128 ≤ c → Hid (Hi (rest.take (5 + 1)) ∧ (lo (rest.take (5 + 1)) : Int) = n + x * 34359738368)) ∧ (c < 128 → Hid (c = x ∧ NumSpec rest (n + x * 34359738368) ((5 : Nat) + 1) (decide (0 < x) || decide ((5 : Nat) = 0))))) := ⟨hge, hlo⟩
        clear hge hlo e1 hcell hr hhi hc' hB
        by_cases hs : c < 128
        · have hcx := (HR.out.2 hs).out.1
          have HN : Hid (NumSpec rest (n + x * 34359738368) ((5 : Nat) + 1) (decide (0 < x) || decide ((5 : Nat) = 0))) := (HR.out.2 hs).out.2
          clear HR
          subst hcx
          by_cases hz : 0 < c
          · have HN' : NumSpec rest (n + c * 34359738368) 6 true := by simpa [hz] using HN.out
            clear HN
            go_wp2
            go_ret3
            exact ⟨rfl, num_post HN'⟩
          · obtain rfl : c = 0 := by omega
            have HN' : NumSpec rest n 6 false := by simpa using HN.out
            clear HN
            go_wp2
            go_ret3
            exact ⟨rfl, num_post (num_false HN')⟩
        · have HN := HR.out.1 (by omega)
          go_wp2
          go_round
          case rel => exact ⟨5 + 1, by omega, by omega, rfl, by first | (rw [HN.out.2]; done) | (rw [HN.out.2]; congr 1; omega), HN.out.1⟩
          case measure => simp [intOf]
      · obtain ⟨n, x, e1, e2, n0, n1, x0, x1, e3, hcb, hge, hlo⟩ := num_round rest 6 c 4398046511104 (by decide) (by omega) (by omega) hc' hB hhi
        rw [e1]
        have HR : Hid ((128 ≤ c → Hid (Hi (rest.take (6 + 1)) ∧ (lo (rest.take (6 + 1)) : Int) = n + x * 4398046511104)) ∧ (c < 128 → Hid (c = x ∧ NumSpec rest (n + x * 4398046511104) ((6 : Nat) + 1) (decide (0 < x) || decide ((6 : Nat) = 0))))) := ⟨hge, hlo⟩
        clear hge hlo e1 hcell hr hhi hc' hB
        by_cases hs : c < 128
        · have hcx := (HR.out.2 hs).out.1
          have HN : Hid (NumSpec rest (n + x * 4398046511104) ((6 : Nat) + 1) (decide (0 < x) || decide ((6 : Nat) = 0))) := (HR.out.2 hs).out.2
          clear HR
          subst hcx
          by_cases hz : 0 < c
          · have HN' : NumSpec rest (n + c * 4398046511104) 7 true := by simpa [hz] using HN.out
            clear HN
            go_wp2
            go_ret3
            exact ⟨rfl, num_post HN'⟩
          · obtain rfl : c = 0 := by omega
            have HN' : NumSpec rest n 7 false := by simpa using HN.out
            clear HN
            go_wp2
            go_ret3
            exact ⟨rfl, num_post (num_false HN')⟩
        · have HN := HR.out.1 (by omega)
          go_wp2
          go_round
          case rel => exact ⟨6 + 1, by omega, by omega, rfl, by first | (rw [HN.out.2]; done) | (rw [HN.out.2]; congr 1; omega), HN.out.1⟩
          case measure => simp [intOf]
      · obtain ⟨n, x, e1, e2, n0, n1, x0, x1, e3, hcb, hge, hlo⟩ := num_round rest 7 c 562949953421312 (by decide) (by omega) (by omega) hc' hB hhi
        rw [e1]
        have HR : Hid ((128 ≤ c → Hid (Hi (rest.take (7 + 1)) ∧ (lo (rest.take (7 + 1)) : Int) = n + x * 562949953421312)) ∧ (c < 128 → Hid (c = x ∧ NumSpec rest (n + x * 562949953421312) ((7 : Nat) + 1) (decide (0 < x) || decide ((7 : Nat) = 0))))) := ⟨hge, hlo⟩
        clear hge hlo e1 hcell hr hhi hc' hB
        by_cases hs : c < 128
        · have hcx := (HR.out.2 hs).out.1
          have HN : Hid (NumSpec rest (n + x * 562949953421312) ((7 : Nat) + 1) (decide (0 < x) || decide ((7 : Nat) = 0))) := (HR.out.2 hs).out.2
          clear HR
          subst hcx
          by_cases hz : 0 < c
          · have HN' : NumSpec rest (n + c * 562949953421312) 8 true := by simpa [hz] using HN.out
            clear HN
            go_wp2
            go_ret3
            exact ⟨rfl, num_post HN'⟩
          · obtain rfl : c = 0 := by omega
            have HN' : NumSpec rest n 8 false := by simpa using HN.out
            clear HN
            go_wp2
            go_ret3
            exact ⟨rfl, num_post (num_false HN')⟩
        · have HN := HR.out.1 (by omega)
          go_wp2
          go_round
          case rel => exact ⟨7 + 1, by omega, by omega, rfl, by first | (rw [HN.out.2]; done) | (rw [HN.out.2]; congr 1; omega), HN.out.1⟩
          case measure => simp [intOf]
      · obtain ⟨n, x, e1, e2, n0, n1, x0, x1, e3, hcb, hge, hlo⟩ := num_round rest 8 c 72057594037927936 (by decide) (by omega) (by omega) hc' hB hhi
        rw [e1]
        have HR : Hid ((128 ≤ c → Hid (Hi (rest.take (8 + 1)) ∧ (lo (rest.take (8 + 1)) : Int) = n + x * 72057594037927936)) ∧ (c < 128 → Hid (c = x ∧ NumSpec rest (n + x * 72057594037927936) ((8 : Nat) + 1) (decide (0 < x) || decide ((8 : Nat) = 0))))) := ⟨hge, hlo⟩
        clear hge hlo e1 hcell hr hhi hc' hB
        by_cases hs : c < 128
        · have hcx := (HR.out.2 hs).out.1
          have HN : Hid (NumSpec rest (n + x * 72057594037927936) ((8 : Nat) + 1) (decide (0 < x) || decide ((8 : Nat) = 0))) := (HR.out.2 hs).out.2
          clear HR
          subst hcx
          by_cases hz : 0 < c
          · have HN' : NumSpec rest (n + c * 72057594037927936) 9 true := by simpa [hz] using HN.out
            clear HN
            go_wp2
            go_ret3
            exact ⟨rfl, num_post HN'⟩
          · obtain rfl : c = 0 := by omega
            have HN' : NumSpec rest n 9 false := by simpa using HN.out
            clear HN
            go_wp2
            go_ret3
            exact ⟨rfl, num_post (num_false HN')⟩
        · have HN := HR.out.1 (by omega)
          go_wp2
          go_round
          case rel => exact ⟨8 + 1, by omega, by omega, rfl, by first | (rw [HN.out.2]; done) | (rw [HN.out.2]; congr 1; omega), HN.out.1⟩
          case measure => simp [intOf]
    · obtain rfl : k = rest.length := by omega
      clear hr
      go_wp2
      go_ret3
      exact ⟨rfl, num_post (n := 0) (s := 0) (ok := false) (.inr ⟨rfl, fun N r hN => no_end rest (by rw [List.take_of_length_le (by omega)] at hhi ⊢; exact hhi) N (by omega) r⟩)⟩
theorem number_any (w : World) (v : Value) (rest : List Int) (h : Rd w v rest) (hl : (rest.length : Int) ≤ 140737488355328) :
    Calls Tryd.prog 101 #[v] w fun e w' => w' = w ∧ NumPost rest e := by
  obtain ⟨hB, a, cap, rfl, hc, h0, hr⟩ := h
  by_cases hbig : (9 : Int) < rest.length
  · exact number_big w a cap rest hB hc hr hl hbig
  · exact number_small w a cap rest hB hc hr hbig
end Go.Proofs.YtaiklaipdocdmaaDoor
