/- Text and Bytes of a reader of package wire; End. -/
import Derived.Test.YtaiklaipdocdmaaDoorPiece
namespace Go.Proofs.YtaiklaipdocdmaaDoor
open Go.ChangeShapes Go.WideShapes Go.ChangeAt Go.RowKit
set_option maxRecDepth 100000

set_option maxHeartbeats 3200000 in
theorem rbytes_any (F : Nat → Prop) (w : World) (p : Nat) (bs : List Int) (i : Nat) (most : Int) (ev : Value) (h : Rr F w p bs i) (hl : (bs.length : Int) ≤ 140737488355328) (he : w.cell? ⟨4, 0, none⟩ = some ev) :
    Calls Tryd.prog 83 #[.pointer (some ⟨p, 0, none⟩), .int .i64 most] w fun e w' => BytesPost F w p bs i most ev e w' := by
  go_enter Tryd.func83, Tryd.ntmps83
  go_wp2_with (first | (go_at_call 102; refine (piece_any F _ p bs i most ev h hl he).mono ?_; intro e w1 hp; rcases hp with ⟨N, r, v, hy, rfl, hr, hrr, hk⟩ | ⟨hno, rfl, hrr, hk⟩ <;> first | have hl1 : ((r.take N).length : Int) ≤ 140737488355328 := (by have := hy.take_len; omega) | have hn0 := rd_nil w1) | (go_at_call 68; refine (clone_any _ _ _ hr hl1).mono ?_; rintro e w2 ⟨v2, rfl, ho2, hb2⟩) | (go_at_call 68; refine (clone_any _ _ [] hn0 (by simp)).mono ?_; rintro e w2 ⟨v2, rfl, ho2, hb2⟩))
  · go_ret2
    exact .inl ⟨N, r, _, hy, rfl, own_up ho2 hk.size, hrr.below hb2, hk.trans (kept_of_below hb2) (fun k hge => .inr (Nat.le_trans hk.size hge))⟩
  · go_ret2
    exact .inr ⟨_, hno, rfl, own_up (by simpa using ho2) hk.size, hrr.below hb2, hk.trans (kept_of_below hb2) (fun k hge => .inr (Nat.le_trans hk.size hge))⟩
set_option maxHeartbeats 3200000 in
theorem end_nil (F : Nat → Prop) (w : World) (p : Nat) (bs : List Int) (i : Nat) (h : Rr F w p bs i) (hl : (bs.length : Int) ≤ 140737488355328) (hz : i = bs.length) :
    Calls Tryd.prog 56 #[.pointer (some ⟨p, 0, none⟩)] w fun e w' => e = .returned .nilIface ∧ ∃ n, w' = w.drewN n := by
  have h0 : (bs.length : Int) - i = 0 := by omega
  go_enter Tryd.func56, Tryd.ntmps56
  go_wp2_with (go_at_call 84; refine (left_any F _ p bs i h hl).mono ?_; rintro e wy ⟨rfl, nq, hw⟩; rw [hw, h0]; clear hw)
  go_ret
  exact ⟨rfl, nq, rfl⟩
set_option maxHeartbeats 3200000 in
theorem end_err (F : Nat → Prop) (w : World) (p : Nat) (bs : List Int) (i : Nat) (ev : Value) (h : Rr F w p bs i) (hl : (bs.length : Int) ≤ 140737488355328) (he : w.cell? ⟨4, 0, none⟩ = some ev) (hz : i < bs.length) :
    Calls Tryd.prog 56 #[.pointer (some ⟨p, 0, none⟩)] w fun e w' => e = .returned ev ∧ ∃ n, w' = w.drewN n := by
  have h0 : (0 : Int) < (bs.length : Int) - i := by omega
  go_enter Tryd.func56, Tryd.ntmps56
  go_wp2_with (go_at_call 84; refine (left_any F _ p bs i h hl).mono ?_; rintro e wy ⟨rfl, nq, hw⟩; rw [hw]; clear hw)
  go_ret
  exact ⟨rfl, nq, rfl⟩
end Go.Proofs.YtaiklaipdocdmaaDoor
