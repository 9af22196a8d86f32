/- Package supply: a server's shape, and the small calls beneath. -/
import Derived.Test.YtldfngkooilmnabDoorSbMath
import Derived.Test.YtldfngkooilmnabDoorLaid
import Derived.Test.YtldfngkooilmnabDoorTick
import Derived.Below
namespace Go.Proofs.YtldfngkooilmnabDoor
open Go.ChangeShapes Go.WideShapes Go.ChangeAt Go.RowKit

theorem ba {W w : World} (h : Below W.heap.size W w) (o : Obj) : Below W.heap.size W (w.alloc o) := h.alloc h.size o
theorem bt {W w w1 : World} (h : Below W.heap.size W w) (hb : Below w.heap.size w w1) : Below W.heap.size W w1 := h.trans (hb.mono h.size)
theorem kc {w w1 : World} {a : Addr} {v : Value} (h : w.cell? a = some v) (hb : Below w.heap.size w w1) : w1.cell? a = some v :=
  (hb.cell (p := a) (World.block_lt_of_cell? w a h)).trans h
theorem kl {w : World} {a : Addr} {v : Value} (h : w.cell? a = some v) (o : Obj) : (w.alloc o).cell? a = some v := kc h ((Below.refl _ _).alloc (Nat.le_refl _) _)
theorem mkHid {p : Prop} (h : p) : Hid p := h
abbrev vS (s : Sv) : Value := .agg #[.int .i64 s.1, .int .i64 s.2.1, .int .i64 s.2.2]
abbrev vE (a : Addr) : Value := .iface 42 (.pointer (some a))
abbrev vH (g d q : Int) : Value := .agg #[.int .i64 g, .int .i64 d, .int .i64 q]
theorem check_ok (w : World) (s : Sv) (h : okS s) : Calls Tryd.prog 14 #[vS s] w fun e w' => e = .returned .nilIface ∧ Below w.heap.size w w' := by
  obtain ⟨k, q, t⟩ := s
  obtain ⟨h1, h2, h3, h4, h5⟩ := h
  simp only at h1 h2 h3 h4 h5
  go_enter Tryd.func14, Tryd.ntmps14
  go_wp2
  go_ret
  exact ⟨rfl, ba (Below.refl _ _) _⟩
theorem check_no (w : World) (s : Sv) (h : ¬ okS s) (a : Addr) (he : w.cell? ⟨2, 0, none⟩ = some (vE a)) : Calls Tryd.prog 14 #[vS s] w fun e w' => e = .returned (vE a) ∧ Below w.heap.size w w' := by
  obtain ⟨k, q, t⟩ := s
  have hc : k < 1 ∨ (1 ≤ k ∧ 3 < k) ∨ ((1 ≤ k ∧ k ≤ 3) ∧ q < 1) ∨ ((1 ≤ k ∧ k ≤ 3) ∧ 1 ≤ q ∧ t < q) ∨ ((1 ≤ k ∧ k ≤ 3) ∧ 1 ≤ q ∧ q ≤ t ∧ 256 < t) := by
    refine Decidable.byContradiction fun hn => h ?_
    refine ⟨?_, ?_, ?_, ?_, ?_⟩ <;> simp only <;> omega
  have hb : ∀ o, (w.alloc o).cell? ⟨2, 0, none⟩ = some (vE a) := fun o => kl he o
  clear h
  rcases hc with h1 | ⟨h1, h2⟩ | ⟨⟨h1, h2⟩, h3⟩ | ⟨⟨h1, h2⟩, h3, h4⟩ | ⟨⟨h1, h2⟩, h3, h4, h5⟩
  all_goals
    go_enter Tryd.func14, Tryd.ntmps14
    go_wp2
    go_ret
    exact ⟨rfl, ba (Below.refl _ _) _⟩
/-- Legal, or the whole. -/
def okW (s : Sv) : Prop := s = (0, 0, 0) ∨ okS s
/-- A row's silent beginning, what is not given in a period, and what is. -/
def gS (s : Sv) : Int := if s.1 = 0 then 0 else if s.1 = 3 then s.2.2 - s.2.1 else s.2.2 - 1
def dS (s : Sv) : Int := if s.1 = 0 then 0 else s.2.2 - s.2.1
def qS (s : Sv) : Int := if s.1 = 0 then 1 else s.2.1
theorem okW.nums {s : Sv} (h : okW s) : dS s ≤ gS s ∧ 0 ≤ dS s ∧ 1 ≤ qS s ∧ gS s ≤ 255 ∧ dS s + qS s ≤ 256 := by
  obtain ⟨k, q, t⟩ := s
  rcases h with h | ⟨h1, h2, h3, h4, h5⟩
  · obtain ⟨rfl, rfl, rfl⟩ := by simpa using h
    decide
  · simp only at h1 h2 h3 h4 h5
    simp only [gS, dS, qS]
    rw [if_neg (show ¬ k = 0 by omega), if_neg (show ¬ k = 0 by omega), if_neg (show ¬ k = 0 by omega)]
    split <;> omega
theorem period_is (w : World) (g d q : Int) (hd : 0 ≤ d) (hd' : d ≤ 256) (hq : 0 ≤ q) (hq' : q ≤ 256) : Calls Tryd.prog 12 #[vH g d q] w fun e w' => e = .returned (.int .i64 (d + q)) ∧ Below w.heap.size w w' := by
  go_enter Tryd.func12, Tryd.ntmps12
  go_wp2
  go_ret
  exact ⟨rfl, ba (Below.refl _ _) _⟩
theorem silence_is (w : World) (g d q : Int) (hd : 0 ≤ d) (hd' : d ≤ 256) (hg : 0 ≤ g) (hg' : g ≤ 256) : Calls Tryd.prog 11 #[vH g d q] w fun e w' => e = .returned (.int .i64 (g + d)) ∧ Below w.heap.size w w' := by
  go_enter Tryd.func11, Tryd.ntmps11
  go_wp2
  go_ret
  exact ⟨rfl, ba (Below.refl _ _) _⟩
theorem range_ok (w : World) (n : Int) (h0 : 0 ≤ n) (h1 : n ≤ 1099511627776) : Calls Tryd.prog 9 #[.int .i64 n] w fun e w' => e = .returned (.bool false) ∧ w' = w := by
  go_enter Tryd.func9, Tryd.ntmps9
  go_wp2
  go_ret
  exact ⟨by simp [show ¬ n < 0 by omega, show ¬ 1099511627776 < n by omega], rfl⟩
theorem range_no (w : World) (n : Int) (h : n < 0 ∨ (0 ≤ n ∧ 1099511627776 < n)) : Calls Tryd.prog 9 #[.int .i64 n] w fun e w' => e = .returned (.bool true) ∧ w' = w := by
  have h : (decide (n < 0) || decide (1099511627776 < n)) = true := by
    rcases h with h | ⟨_, h⟩ <;> simp [h]
  go_enter Tryd.func9, Tryd.ntmps9
  go_wp2
  all_goals go_ret
  all_goals exact ⟨rfl, rfl⟩
theorem split_is (w : World) (n z : Int) (h0 : 0 ≤ n) (h1 : n ≤ 9223372036854775807) (z0 : 1 ≤ z) (z1 : z ≤ 9223372036854775807) : Calls Tryd.prog 10 #[.int .i64 n, .int .i64 z] w fun e w' => e = .returned (.tuple #[.int .i64 (n / z), .int .i64 (n % z)]) ∧ w' = w := by
  go_enter Tryd.func10, Tryd.ntmps10
  go_wp2_with (first | (go_at_call 15; refine (floor_any _ _ _ (by omega) (by omega) (by omega) (by omega)).mono ?_; rintro e w' ⟨rfl, rfl⟩) | (go_at_call 16; refine (mod_any _ _ _ (by omega) (by omega)).mono ?_; rintro e w' ⟨rfl, rfl⟩))
  go_ret2
  exact ⟨rfl, rfl⟩
end Go.Proofs.YtldfngkooilmnabDoor
