import Derived.Test.YtaiklaipdocdmaaDoorAlive
import Derived.Test.YtaiklaipdocdmaaDoorSeal
import Derived.Test.YtaiklaipdocdmaaDoorLaid
/- One byte changed changes the sum: plain mathematics. -/
namespace Go.Proofs.YtaiklaipdocdmaaDoor

theorem times_inj (x y : Nat) (hx : x < 4294967296) (hy : y < 4294967296) (h : x * 16777619 % 4294967296 = y * 16777619 % 4294967296) : x = y := by
  have key : ∀ z : Nat, z < 4294967296 → z * 16777619 % 4294967296 * 899433627 % 4294967296 = z := by
    intro z hz
    have e : z * 16777619 * 899433627 = z + 4294967296 * (z * 3513497) := by omega
    rw [Nat.mod_mul_mod, e, Nat.add_mul_mod_self_left, Nat.mod_eq_of_lt hz]
  have := congrArg (fun z => z * 899433627 % 4294967296) h
  simp only [key x hx, key y hy] at this
  exact this
theorem xor_lt (s c : Nat) (hs : s < 4294967296) (hc : c < 4294967296) : s ^^^ c < 4294967296 := Nat.xor_lt_two_pow (n := 32) (by simpa using hs) (by simpa using hc)
theorem xor_left_inj (s a b : Nat) (h : s ^^^ a = s ^^^ b) : a = b := by
  have := congrArg (s ^^^ ·) h
  simpa [← Nat.xor_assoc] using this
theorem xor_right_inj (s t a : Nat) (h : s ^^^ a = t ^^^ a) : s = t := by
  have := congrArg (· ^^^ a) h
  simpa [Nat.xor_assoc] using this
theorem fs_state (s t : Nat) (c : Int) (hs : s < 4294967296) (ht : t < 4294967296) (hc : 0 ≤ c ∧ c ≤ 255) (h : fs s c = fs t c) : s = t := by
  unfold fs at h
  exact xor_right_inj _ _ _ (times_inj _ _ (xor_lt _ _ hs (by omega)) (xor_lt _ _ ht (by omega)) h)
theorem fs_byte (s : Nat) (c d : Int) (hs : s < 4294967296) (hc : 0 ≤ c ∧ c ≤ 255) (hd : 0 ≤ d ∧ d ≤ 255) (h : fs s c = fs s d) : c = d := by
  unfold fs at h
  have := xor_left_inj _ _ _ (times_inj _ _ (xor_lt _ _ hs (by omega)) (xor_lt _ _ hs (by omega)) h)
  omega
theorem fold_state (bs : List Int) (s t : Nat) (hB : Byts bs) (hs : s < 4294967296) (ht : t < 4294967296) (h : bs.foldl fs s = bs.foldl fs t) : s = t := by
  induction bs generalizing s t with
  | nil => exact h
  | cons c bs ih =>
    rw [List.foldl_cons, List.foldl_cons] at h
    exact fs_state s t c hs ht (hB c (by simp)) (ih _ _ (fun x hx => hB x (by simp [hx])) (fs_lt s c) (fs_lt t c) h)
theorem fnv_slip (ps cs : List Int) (x y : Int)  (hC : Byts cs) (hx : 0 ≤ x ∧ x ≤ 255) (hy : 0 ≤ y ∧ y ≤ 255) (hne : x ≠ y) : fnv (ps ++ x :: cs) ≠ fnv (ps ++ y :: cs) := by
  unfold fnv
  rw [List.foldl_append, List.foldl_append, List.foldl_cons, List.foldl_cons]
  intro h
  have hs := fold_lt ps 2166136261 (by omega)
  exact hne (fs_byte _ x y hs hx hy (fold_state cs _ _ hC (fs_lt _ _) (fs_lt _ _) h))
end Go.Proofs.YtaiklaipdocdmaaDoor

/- WireSlips: sealed bytes with one byte changed to another one answer ErrSum. -/
namespace Go.Proofs.YtaiklaipdocdmaaDoor
open Go.ChangeShapes Go.WideShapes Go.ChangeAt Go.RowKit
set_option maxRecDepth 100000

theorem set_split (bs : List Int) (I : Nat) (x : Int) (h : I < bs.length) : bs = bs.take I ++ bs.getD I 0 :: bs.drop (I + 1) ∧ bs.set I x = bs.take I ++ x :: bs.drop (I + 1) := by
  constructor
  · conv => lhs; rw [← List.take_append_drop I bs, List.drop_eq_getElem_cons h]
    simp [List.getD, h]
  · rw [List.set_eq_take_append_cons_drop, if_pos h]
theorem slip_parts (bs : List Int) (I : Nat) (x : Int) (hB : Byts bs) (hx : 0 ≤ x ∧ x ≤ 255) (hI : I < bs.length + 4) (hne : (bs ++ sumb (fnv bs)).getD I 0 ≠ x) :
    ∃ xs ys, (bs ++ sumb (fnv bs)).set I x = xs ++ ys ∧ xs.length = bs.length ∧ ys.length = 4 ∧ ys ≠ sumb (fnv xs) := by
  by_cases h : I < bs.length
  · obtain ⟨e1, e2⟩ := set_split bs I x h
    refine ⟨bs.set I x, sumb (fnv bs), List.set_append_left _ _ h, by simp, sumb_len _, fun e => ?_⟩
    have hb := hB.at I
    have hn : bs.getD I 0 ≠ x := by
      intro e'
      apply hne
      rw [← e']
      simp [List.getD, List.getElem?_append_left h]
    have := sumb_inj _ _ (fnv_lt _) (fnv_lt _) e
    rw [e2] at this
    conv at this => lhs; rw [e1]
    exact fnv_slip (bs.take I) (bs.drop (I + 1)) _ _ (hB.drop _) hb hx hn this
  · refine ⟨bs, (sumb (fnv bs)).set (I - bs.length) x, ?_, rfl, by simp [sumb_len], fun e => ?_⟩
    · rw [List.set_append_right _ _ (by omega)]
    · apply hne
      have hl : I - bs.length < (sumb (fnv bs)).length := by rw [sumb_len]; omega
      have : ((sumb (fnv bs)).set (I - bs.length) x).getD (I - bs.length) 0 = (sumb (fnv bs)).getD (I - bs.length) 0 := by rw [e]
      rw [List.getD, List.getElem?_append_right (by omega)]
      rw [List.getD, List.getElem?_set_self hl] at this
      simpa [List.getD] using this.symm
theorem own_set {w : World} {base g n cap I : Nat} {bs : List Int} (x : Int) (h : w.ownsRow base 5 1 (.slice (some ⟨g, 0, none⟩) n cap) n (bs.map (Value.int .u8))) (hI : I < n) :
    (w.setCell ⟨g, I, none⟩ (.int .u8 x)).ownsRow base 5 1 (.slice (some ⟨g, 0, none⟩) n cap) n ((bs.set I x).map (Value.int .u8)) ∧ w.cell? ⟨g, I, none⟩ = some (.int .u8 (bs.getD I 0)) ∧ w.frozen? ⟨g, I, none⟩ = false := by
  have hl : bs.length = n := by simpa using h.1
  have hc := h.cells (g := g) rfl I (.int .u8 (bs.getD I 0)) (by simp [List.getD, show I < bs.length by omega])
  rw [add_none, Nat.zero_add] at hc
  rcases h.2 with ⟨e, _⟩ | ⟨g', cap', cur, e, hg, hh, hcap, hm, hs, ht⟩
  · simp at e
  · simp at e
    obtain ⟨rfl, rfl⟩ := e
    refine ⟨⟨by simpa using h.1, .inr ⟨g, cap, cur.set! I (.int .u8 x), rfl, hg, heap_set hh, hcap, hm, by simpa using hs, ?_⟩⟩, hc, frozen_of_block hh⟩
    rw [List.map_set, ← ht]
    simp [List.take_set]
theorem rem_ex (a : Int) (L : Nat) (h : (1 : Int) ≤ L) : ∃ I : Nat, Int.tmod (Int.tmod a L + L) L = (I : Int) ∧ (I : Int) < L := by
  have h1 := Int.lt_tmod_of_pos a (show (0 : Int) < L by omega)
  have h3 : 0 ≤ Int.tmod a L + L := by omega
  have h4 := Int.tmod_nonneg (L : Int) h3
  have h5 := Int.tmod_lt_of_pos (Int.tmod a L + L) (show (0 : Int) < L by omega)
  exact ⟨(Int.tmod (Int.tmod a L + L) L).toNat, by omega, by omega⟩
theorem sealed_len (bs : List Int) : (bs ++ sumb (fnv bs)).length = bs.length + 4 := by rw [List.length_append, sumb_len]
theorem sealed_byts {bs : List Int} (h : Byts bs) : Byts (bs ++ sumb (fnv bs)) := h.append (sumb_byts _)
theorem own_spot {w : World} {base : Nat} {e : TypeId} {v : Value} {n : Nat} {xs : List Value} (h : w.ownsRow base e 1 v n xs) (hn : 1 ≤ n) : ∃ g cap, v = .slice (some ⟨g, 0, none⟩) n cap ∧ base ≤ g ∧ g < w.heap.size ∧ n ≤ cap := by
  rcases h.2 with ⟨_, h0⟩ | ⟨g, cap, cur, hv, hb, hg, hc, _⟩
  · omega
  · exact ⟨g, cap, hv, hb, (Array.getElem?_eq_some_iff.1 hg).1, hc⟩
theorem Byts.set {a : List Int} (h : Byts a) (I : Nat) {x : Int} (hx : 0 ≤ x ∧ x ≤ 255) : Byts (a.set I x) := fun y hy => by
  rcases List.mem_or_eq_of_mem_set hy with h1 | h1
  · exact h y h1
  · rw [h1]; exact hx
theorem slip_rd {w : World} {base g cap I n : Nat} {bs xs ys : List Int} {x : Int} (hB : Byts bs) (hx : 0 ≤ x ∧ x ≤ 255) (hn : bs.length = n) (q : w.ownsRow base 5 1 (.slice (some ⟨g, 0, none⟩) n cap) n ((bs.set I x).map (Value.int .u8))) (e : bs.set I x = xs ++ ys) :
    Rd w (.slice (some ⟨g, 0, none⟩) n cap) (xs ++ ys) := by
  have hl : (bs.set I x).length = n := by simpa using hn
  rw [← e]
  have := Rd.of_owns (w := w) (base := base) (v := .slice (some ⟨g, 0, none⟩) n cap) (hB.set I hx) (by rw [hl]; exact q)
  exact this
end Go.Proofs.YtaiklaipdocdmaaDoor

