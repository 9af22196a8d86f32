/- SameInts. -/
import Derived.Test.YtjlmkmhggkcbhaaDoorQst
import Derived.Deep.QuietTactic
import Derived.BigQuiet
namespace Go.Proofs.YtjlmkmhggkcbhaaDoor
open Go.ChangeShapes Go.WideShapes Go.ChangeAt Go.RowKit
set_option maxRecDepth 100000

/-- A slice of integers that reads as a list. -/
def Sl (w : World) (v : Value) (xs : List Int) : Prop := ∃ a c, v = .slice a xs.length c ∧ (0 < xs.length → ∃ b off, a = some ⟨b, off, none⟩ ∧ ∀ i, i < xs.length → w.cell? ⟨b, off + i, none⟩ = some (.int .i64 (xs.getD i 0)))
theorem Sl.below {w w' : World} {v : Value} {xs : List Int} (h : Sl w v xs) (hb : Below w.heap.size w w') : Sl w' v xs := by
  obtain ⟨a, c, rfl, hr⟩ := h
  refine ⟨a, c, rfl, fun hp => ?_⟩
  obtain ⟨b, off, rfl, hc⟩ := hr hp
  exact ⟨b, off, rfl, fun i hi => bcell hb (hc i hi)⟩
theorem IRd.sl {w : World} {v : Value} {xs : List Int} (h : IRd w v xs) : Sl w v xs := by
  obtain ⟨a, c, rfl, _, _, hr⟩ := h
  refine ⟨a, c, rfl, fun hp => ?_⟩
  obtain ⟨b, off, rfl, _, hc⟩ := hr hp
  exact ⟨b, off, rfl, hc⟩
theorem Sl.at {w : World} {a : Option Addr} {n c : Nat} {xs : List Int} (h : Sl w (.slice a n c) xs) (i : Nat) (hi : i < xs.length) : ∃ b off, a = some ⟨b, off, none⟩ ∧ w.cell? ⟨b, off + i, none⟩ = some (.int .i64 (xs.getD i 0)) := by
  obtain ⟨a', c', e, hr⟩ := h
  simp at e
  obtain ⟨rfl, rfl, rfl⟩ := e
  obtain ⟨b, off, rfl, hc⟩ := hr (by omega)
  exact ⟨b, off, rfl, hc i hi⟩
set_option maxHeartbeats 1600000 in
theorem same_true (w : World) (v0 v1 : Value) (xs : List Int) (h0 : Sl w v0 xs) (h1 : Sl w v1 xs) (hl : (xs.length : Int) ≤ 9223372036854775807) :
    Calls Tryd.prog 13 #[v0, v1] w fun e w' => e = .returned (.bool true) ∧ Below w.heap.size w w' := by
  obtain ⟨a0, c0, rfl, hx0⟩ := id h0
  obtain ⟨a1, c1, rfl, hx1⟩ := id h1
  have H0 := mkHid h0
  have H1 := mkHid h1
  clear h0 h1 hx0 hx1
  go_enter Tryd.func13, Tryd.ntmps13
  go_wp2
  go_loopw [13] (fun iv wr => ∃ j q : Nat, iv = .int .i64 (j : Int) ∧ j ≤ xs.length ∧ wr = w.drewN q) (fun iv _ => xs.length - (intOf iv).toNat)
  case atStart => exact ⟨0, 0, rfl, Nat.zero_le _, rfl⟩
  case round =>
    obtain ⟨j, q, rfl, hj, rfl⟩ := hrel
    by_cases hlt : j < xs.length
    · obtain ⟨b0, o0, rfl, x0⟩ := H0.out.at j hlt
      obtain ⟨b1, o1, rfl, x1⟩ := H1.out.at j hlt
      obtain ⟨x, hx⟩ : ∃ x, x = xs.getD j 0 := ⟨_, rfl⟩
      rw [← hx] at x0 x1
      have hji : (j : Int) < xs.length := by omega
      clear hx
      go_wp2
      go_quiet (fail)
      go_wp2
      go_roundw
      case rel => exact ⟨j + 1, q + nq, by go_num, by omega, by simp [World.drewN]⟩
      case measure => simp [intOf]; omega
    · obtain rfl : j = xs.length := by omega
      go_wp2
      go_ret
      exact ⟨rfl, rfl, rfl, rfl, Nat.le_refl _, fun _ _ => rfl⟩
end Go.Proofs.YtjlmkmhggkcbhaaDoor
