/- almonernum.SameInts; rows of numbers. -/
import Derived.Test.YtaiklaipdocdmaaDoorNtA
namespace Go.Proofs.YtaiklaipdocdmaaDoor
open Go.ChangeShapes Go.WideShapes Go.ChangeAt Go.RowKit
set_option maxRecDepth 100000
attribute [local go_sem] World.cell?_alloc_some frozen_alloc_some

def ci (x : Int) : List Value := [.int .i64 x]
theorem ci_len (x : Int) : (ci x).length = 1 := rfl
theorem ci_map (xs : List Int) : xs.flatMap ci = xs.map iv := by
  induction xs with
  | nil => rfl
  | cons x r ih => rw [List.flatMap_cons, ih]; rfl
theorem ints_in {w : World} {base : Nat} {v : Value} {xs : List Int} (hl : xs.length ≤ 1000000) (h : w.ownsRow base 3 1 v xs.length (xs.map iv)) : RowIn 1 ci w v xs := by
  rw [← ci_map] at h
  exact RowIn.of_owns ci_len (by omega) h
set_option maxHeartbeats 6400000 in
theorem sameInts_yes (w : World) (v u : Value) (xs : List Int) (hv : RowIn 1 ci w v xs) (hu : RowIn 1 ci w u xs) (hl : xs.length ≤ 1000000) :
    Calls Tryd.prog 19 #[v, u] w fun e w' => e = .returned (.bool true) ∧ Below w.heap.size w w' := by
  obtain ⟨a, cap, rfl, _⟩ := hv.shape
  obtain ⟨b, cap2, rfl, _⟩ := hu.shape
  have HV := mkHid hv
  have HU := mkHid hu
  have hl64 : (xs.length : Int) ≤ 1000000 := by omega
  clear hv hu hl
  go_enter Tryd.func19, Tryd.ntmps19
  go_wp2
  go_loopw [13] (fun iv wr => ∃ j : Nat, iv = .int .i64 (j : Int) ∧ j ≤ xs.length ∧ Hid (Below w.heap.size w wr)) (fun iv _ => xs.length - (intOf iv).toNat)
  case atStart => exact ⟨0, rfl, Nat.zero_le _, mkHid (Below.refl _ _)⟩
  case round =>
    obtain ⟨j, rfl, hj, HB⟩ := hrel
    by_cases hlt : j < xs.length
    · obtain ⟨g, off, x, rfl, hx, hat⟩ := HV.out.at HB.out j hlt
      obtain ⟨g2, off2, y, rfl, hy, hat2⟩ := HU.out.at HB.out j hlt
      have hxy : x = y := by rw [hx] at hy; exact Option.some.inj hy
      subst hxy
      have q0 := hat 0 _ (by omega) rfl
      have r0 := hat2 0 _ (by omega) rfl
      simp only [Nat.mul_one, Nat.add_zero] at q0 r0
      have hji : (j : Int) < (xs.length : Int) := by omega
      clear hat hat2 hx hy
      go_wp2
      go_quiet (fail)
      go_wp2
      go_roundw
      case rel => exact ⟨j + 1, by go_num, by omega, mkHid (HB.out.trans ⟨rfl, rfl, rfl, Nat.le_refl _, fun _ _ => rfl⟩)⟩
      case measure => simp [intOf]; omega
    · obtain rfl : j = xs.length := by omega
      go_wp2
      go_ret
      exact ⟨rfl, HB.out⟩
end Go.Proofs.YtaiklaipdocdmaaDoor
