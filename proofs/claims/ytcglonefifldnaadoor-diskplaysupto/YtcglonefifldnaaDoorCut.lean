/- Parts of a list of bytes, as letters. -/
import Derived.Test.YtcglonefifldnaaDoorRd
namespace Go.Proofs.YtcglonefifldnaaDoor
open Go.ChangeShapes Go.WideShapes Go.ChangeAt Go.RowKit

theorem size1 (W : World) : (Go.sizeOf 5).run Tryd.prog W = .ok 1 W := by
  obtain ⟨i0, hi, hz0, hz1, hz2⟩ := info_parts Tryd.info5
  simp [Go.sizeOf, typeInfo, hi, hz1]
theorem elemB : Tryd.prog.underlying 33 = some (.slice (Tryd.prog.elem 33)) ∧ Tryd.prog.elem 33 = 5 := by
  simp [Program.elem, Tryd.underlying33]
theorem Rd.slicedM {w : World} {a : Option Addr} {cap f t m : Nat} {bs : List Int} (h : Rd w (.slice a bs.length cap) bs) (h1 : f ≤ t) (h2 : t ≤ bs.length) (hm : t ≤ m) (hc : m ≤ cap) : Rd w (Go.sliced a f t m 1) ((bs.drop f).take (t - f)) := by
  obtain ⟨hB, a', cap', e, hc, h0, hr⟩ := h
  simp at e
  obtain ⟨rfl, rfl⟩ := e
  have hl : ((bs.drop f).take (t - f)).length = t - f := by rw [List.length_take, List.length_drop]; omega
  refine ⟨(hB.drop f).take _, _, m - f, by unfold Go.sliced; rw [hl], by omega, ?_, fun hp => ?_⟩
  · intro e
    split at e
    · have := h0 e; omega
    · have := h0 (by simpa using e); omega
  · obtain ⟨b, off, rfl, hlt, hcell⟩ := hr (by omega)
    refine ⟨b, off + f, ?_, hlt, fun k hk => ?_⟩
    · rw [if_neg (by omega)]
      simp [add_none]
    · rw [Nat.add_assoc, hcell (f + k) (by omega)]
      have : k < t - f := by omega
      simp [List.getD, List.getElem?_drop, this]
theorem Rd.tailS {w : World} {v : Value} {bs : List Int} (h : Rd w v bs) (F : Int) (f : Nat) (hF : F = f) (h1 : f ≤ bs.length) :
    ∃ v', (∀ W, (Instr.slice 33 v (some (.int .i64 F)) none none).run Tryd.prog W = .ok v' W) ∧ Rd w v' (bs.drop f) := by
  obtain ⟨hB, a, cap, rfl, hc, _⟩ := id h
  subst hF
  refine ⟨Go.sliced a f bs.length cap 1, fun W => ?_, ?_⟩
  · rw [run_slice_l W 33 _ _ _ elemB.1 .i64 _ (by omega) (by omega), elemB.2, size1]
    simp [Result.andThen]
  · have := h.slicedM h1 (Nat.le_refl _) hc (Nat.le_refl _)
    rwa [List.take_of_length_le (by rw [List.length_drop]; omega)] at this
theorem Rd.midS {w : World} {v : Value} {bs : List Int} (h : Rd w v bs) (F T : Int) (f t : Nat) (hF : F = f) (hT : T = t) (h1 : f ≤ t) (h2 : t ≤ bs.length) :
    ∃ v', (∀ W, (Instr.slice 33 v (some (.int .i64 F)) (some (.int .i64 T)) none).run Tryd.prog W = .ok v' W) ∧ Rd w v' ((bs.drop f).take (t - f)) := by
  obtain ⟨hB, a, cap, rfl, hc, _⟩ := id h
  subst hF hT
  refine ⟨Go.sliced a f t cap 1, fun W => ?_, h.slicedM h1 h2 (by omega) (Nat.le_refl _)⟩
  rw [run_slice_lh W 33 _ _ _ elemB.1 .i64 .i64 _ _ (by omega) (by omega) (by omega), elemB.2, size1]
  simp [Result.andThen]
theorem Rd.headS {w : World} {v : Value} {bs : List Int} (h : Rd w v bs) (T : Int) (t : Nat) (hT : T = t) (h2 : t ≤ bs.length) :
    ∃ v', (∀ W, (Instr.slice 33 v none (some (.int .i64 T)) none).run Tryd.prog W = .ok v' W) ∧ Rd w v' (bs.take t) := by
  obtain ⟨hB, a, cap, rfl, hc, _⟩ := id h
  subst hT
  refine ⟨Go.sliced a 0 t cap 1, fun W => ?_, ?_⟩
  · rw [run_slice_h W 33 _ _ _ elemB.1 .i64 _ (by omega) (by omega), elemB.2, size1]
    simp [Result.andThen]
  · simpa using h.slicedM (f := 0) (Nat.zero_le _) h2 (by omega) (Nat.le_refl _)
theorem Rd.head3S {w : World} {v : Value} {bs : List Int} (h : Rd w v bs) (T : Int) (t : Nat) (hT : T = t) (h2 : t ≤ bs.length) :
    ∃ v', (∀ W, (Instr.slice 33 v none (some (.int .i64 T)) (some (.int .i64 T))).run Tryd.prog W = .ok v' W) ∧ Rd w v' (bs.take t) := by
  obtain ⟨hB, a, cap, rfl, hc, _⟩ := id h
  subst hT
  refine ⟨Go.sliced a 0 t t 1, fun W => ?_, ?_⟩
  · rw [run_slice_hm W 33 _ _ _ elemB.1 .i64 .i64 _ _ (by omega) (by omega) (by omega), elemB.2, size1]
    simp [Result.andThen]
  · simpa using h.slicedM (f := 0) (Nat.zero_le _) h2 (Nat.le_refl _) (by omega)
end Go.Proofs.YtcglonefifldnaaDoor
