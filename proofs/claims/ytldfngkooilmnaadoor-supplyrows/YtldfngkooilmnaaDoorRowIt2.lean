/- Package supply: repeat, and the row as a function. -/
import Derived.Test.YtldfngkooilmnaaDoorRowIt
namespace Go.Proofs.YtldfngkooilmnaaDoor
open Go.ChangeShapes Go.WideShapes Go.ChangeAt Go.RowKit Go.Shelf

attribute [local go_sem] Oper.semAt_some
/-- What a round answers: it is gone on, or stopped. -/
def Told (J : Nat → World → Prop) (Jx : World → Prop) (n₀ i : Nat) (W : World) (e : Ending) (W' : World) : Prop := (e = .returned (.bool true) ∧ J i W' ∧ Below n₀ W W') ∨ (e = .returned (.bool false) ∧ Jx W')
set_option maxHeartbeats 3200000 in
theorem repeat_in (G : Fence) (n : Nat) (hf : G.fn 27) (hro : G.round = none) (hn : 1 ≤ n) (l n₀ i c : Nat) (b : Bool) (J : Nat → World → Prop) (Jx : World → Prop) (hc : (c : Int) ≤ 1000000)
    (hY : ∀ j W, i ≤ j → j < i + c → J j W → YieldAt G (n - 1) Tryd.prog l #[.bool b] W (Told J Jx n₀ (j + 1) W)) (W : World) (h0 : J i W) :
    CallsIn G n Tryd.prog 27 #[.int .i64 (c : Int), .bool b, .func (.yield l) #[] #[]] W (Told J Jx n₀ (i + c) W) := by
  refine callsIn_of_wp Tryd.func27 rfl hf ?_ hro
  simp only [Tryd.ntmps27, List.size_toArray, List.length_cons, List.length_nil, Nat.reduceAdd, Nat.reduceSub, Array.replicate_succ, Array.replicate_zero, List.push_toArray, List.append_toArray, List.nil_append, List.cons_append]
  have HY := mkHid hY
  clear hY
  gi_wp2
  gi_loopw [8] (fun iv wr => ∃ k : Nat, k ≤ c ∧ iv = .int .i64 (k : Int) ∧ Hid (J (i + k) wr) ∧ Hid (Below n₀ W wr)) (fun iv _ => c - (intOf iv).toNat)
  case atStart => exact ⟨0, Nat.zero_le _, rfl, h0, Below.refl _ _⟩
  case round =>
    obtain ⟨k, hk, rfl, HJ, HB⟩ := hrel
    by_cases hlt : k < c
    · have hlt2 : (k : Int) < c := by omega
      obtain ⟨fn, tmps, assign, body, hy, hR⟩ := HY.out (i + k) wr (by omega) (by omega) HJ.out
      have HR := mkHid hR
      clear hR
      gi_wp2
      refine HR.out.mono ?_
      rintro r W3 (⟨rfl, hJ3, hk3⟩ | ⟨rfl, hJx3⟩)
      · have HJ3 := mkHid hJ3
        have HK3 := mkHid hk3
        clear hJ3 hk3
        gi_wp2
        go_roundw
        case rel => exact ⟨k + 1, by omega, by go_num, HJ3, mkHid (HB.out.trans HK3.out)⟩
        case measure => simp [intOf]; omega
      · have HX3 := mkHid hJx3
        clear hJx3
        gi_wp2
        go_ret
        exact .inr ⟨rfl, HX3.out⟩
    · obtain rfl : k = c := by omega
      gi_wp2
      go_ret
      exact .inl ⟨rfl, HJ.out, HB.out⟩
end Go.Proofs.YtldfngkooilmnaaDoor
