/- Write, where it refuses. -/
import Derived.Test.YtcglonefifldnaaDoorDwrite
namespace Go.Proofs.YtcglonefifldnaaDoor
open Go.ChangeShapes Go.WideShapes Go.ChangeAt Go.RowKit

/-- What an error of package api is as a value: not nil. -/
def ErrV (ev : Value) : Prop := ∃ a, ev = .iface 75 (.pointer (some a))
set_option maxHeartbeats 3200000 in
theorem write_num (F : Nat → Prop) (w : World) (p : Nat) (n : Int) (f : Int → List Int) (c : List (Int × List Int)) (nw i : Int) (v ev : Value) (h : Dk F w p n f c nw false) (hv : ErrV ev) (he : w.cell? ⟨0, 0, none⟩ = some ev) (hi : ¬ (0 ≤ i ∧ i < n)) :
    Calls Tryd.prog 17 #[.pointer (some ⟨p, 0, none⟩), .int .i64 i, v] w fun e w' => e = .returned ev ∧ w' = w := by
  obtain ⟨a, rfl⟩ := hv
  go_enter Tryd.func17, Tryd.ntmps17
  go_wp2_with (go_at_call 28; refine (refused_num F w p n f c nw i _ h he hi).mono ?_; rintro e w1 ⟨rfl, rfl⟩)
  go_ret
  exact ⟨rfl, rfl⟩
set_option maxHeartbeats 3200000 in
theorem write_lost (F : Nat → Prop) (w : World) (p : Nat) (n : Int) (f : Int → List Int) (c : List (Int × List Int)) (nw i : Int) (v ev : Value) (h : Dk F w p n f c nw true) (hv : ErrV ev) (he : w.cell? ⟨8, 0, none⟩ = some ev) :
    Calls Tryd.prog 17 #[.pointer (some ⟨p, 0, none⟩), .int .i64 i, v] w fun e w' => e = .returned ev ∧ w' = w := by
  obtain ⟨a, rfl⟩ := hv
  go_enter Tryd.func17, Tryd.ntmps17
  go_wp2_with (go_at_call 28; refine (refused_lost F w p n f c nw i _ h he).mono ?_; rintro e w1 ⟨rfl, rfl⟩)
  go_ret
  exact ⟨rfl, rfl⟩
set_option maxHeartbeats 3200000 in
theorem write_large (F : Nat → Prop) (w : World) (p : Nat) (n : Int) (f : Int → List Int) (c : List (Int × List Int)) (nw i : Int) (v ev : Value) (bs : List Int) (h : Dk F w p n f c nw false) (he : w.cell? ⟨7, 0, none⟩ = some ev) (h0 : 0 ≤ i) (hi : i < n) (hv : Rd w v bs) (hl : bs.length ≠ 64) :
    Calls Tryd.prog 17 #[.pointer (some ⟨p, 0, none⟩), .int .i64 i, v] w fun e w' => e = .returned ev ∧ w' = w := by
  obtain ⟨sa, sc, rfl, _⟩ := hv.2
  have hl' : ¬ (bs.length : Int) = 64 := by omega
  go_enter Tryd.func17, Tryd.ntmps17
  go_wp2_with (go_at_call 28; refine (refused_ok F w p n f c nw i h h0 hi).mono ?_; rintro e w1 ⟨rfl, rfl⟩)
  go_ret
  exact ⟨rfl, rfl⟩
end Go.Proofs.YtcglonefifldnaaDoor
