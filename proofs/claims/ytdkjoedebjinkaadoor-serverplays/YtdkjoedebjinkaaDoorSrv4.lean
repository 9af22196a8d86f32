/- The chapter's first example. -/
import Derived.Test.YtdkjoedebjinkaaDoorSrv3
namespace Go.Proofs.YtdkjoedebjinkaaDoor
open Go.ChangeShapes Go.WideShapes Go.ChangeAt Go.RowKit

def wk14 (i : Nat) : Bool := decide (0 < (i : Int))
def ch14 (_ : Nat) (_ : Ss) : Bool := true
theorem ex_ready : ∀ j, j < 10 → rdyS (wk14 j) (midS (1, 2, 5) 0 wk14 ch14 j) = decide (j = 5 ∨ j = 6) := by decide
/-- A charge, whether it is ready or not. -/
def ChP (b : Nat) (s : Sv) (m : Int) (wk : Bool) (x : Ss) (a : Addr) (w : World) (e : Ending) (w' : World) : Prop := e = .returned (if rdyS wk x = true then .nilIface else vE a) ∧ SB w' b s m wk (if rdyS wk x = true then chS x else x) ∧ Kb b w w'
theorem charge_any (w : World) (b : Nat) (s : Sv) (m : Int) (wk : Bool) (x : Ss) (a : Addr) (h : SB w b s m wk x) (h0 : 0 ≤ x.bud) (h1 : x.bud ≤ 256) (he : w.cell? ⟨0, 0, none⟩ = some (vE a)) : Calls Tryd.prog 17 #[.pointer (some ⟨b, 0, none⟩)] w (ChP b s m wk x a w) := by
  unfold ChP
  cases hr : rdyS wk x
  · refine (charge_no w b s m wk x a h hr he).mono ?_
    rintro e w' ⟨rfl, rfl⟩
    exact ⟨by simp, by simpa using h, Kept.refl _ _⟩
  · refine (charge_yes w b s m wk x h hr h0 h1).mono ?_
    rintro e w' ⟨rfl, h2, h3⟩
    exact ⟨by simp, by simpa using h2, h3⟩
theorem run_mid (s : Sv) (m : Int) (wk : Nat → Bool) (i : Nat) : runS s m wk ch14 (i + 1) = if rdyS (wk i) (midS s m wk ch14 i) = true then chS (midS s m wk ch14 i) else midS s m wk ch14 i := by
  rw [run_succ]; simp [chdS, ch14]
theorem mid_gm {s : Sv} (h : okS s) (m : Int) (wk : Nat → Bool) (ch : Nat → Ss → Bool) (i : Nat) : GM s m (m + (i : Int)) (wk i) (midS s m wk ch i) := (run_gi h m wk ch i).beg h (by omega) (wk i)
theorem GM.b2 {s : Sv} {m now : Int} {wk : Bool} {x : Ss} (g : GM s m now wk x) (h : okS s) : x.bud ≤ 256 := by have := g.b1; obtain ⟨_, _, _, h4, h5⟩ := h; omega
theorem ok_ex : okS (1, 2, 5) := by unfold okS; decide
set_option maxHeartbeats 3200000 in
theorem alive14 (w : World) (a : Addr) (he : w.cell? ⟨0, 0, none⟩ = some (vE a)) : Calls Tryd.prog 9 #[] w fun e w' => e = .returned (.bool true) ∧ Below w.heap.size w w' := by
  have HN := mkHid (new_ok w (1, 2, 5) 0 ⟨ok_ex, by decide, by decide⟩)
  have HE := mkHid he
  clear he
  go_enter Tryd.func9, Tryd.ntmps9
  go_wp2_with (first | (go_at_call 10; refine HN.out.mono ?_; rintro e w1 ⟨b, rfl, hb, hs1, hB1⟩; have HL := mkHid hb; have HS1 := mkHid hs1; have HB1 := mkHid hB1; clear hb hs1 hB1))
  go_loopw [3] (fun iv wr => ∃ (j : Nat) (wk : Bool), iv = .int .i64 (j : Int) ∧ j ≤ 10 ∧ Hid (SB wr b (1, 2, 5) 0 wk (runS (1, 2, 5) 0 wk14 ch14 j)) ∧ Hid (Below w.heap.size w wr)) (fun iv _ => 10 - (intOf iv).toNat)
  case atStart => exact ⟨0, false, rfl, by omega, HS1, HB1⟩
  case round =>
    obtain ⟨j, wk, rfl, hj, HS, HB⟩ := hrel
    by_cases hlt : j < 10
    · have HG := mkHid (mid_gm ok_ex 0 wk14 ch14 j)
      have HR := mkHid (ex_ready j hlt)
      have HC := mkHid (begin_is wr b (1, 2, 5) 0 (j : Int) wk (wk14 j) _ HS.out (by omega) (by omega) (by omega) ok_ex)
      have hm : begS (1, 2, 5) 0 (j : Int) (wk14 j) (runS (1, 2, 5) 0 wk14 ch14 j) = midS (1, 2, 5) 0 wk14 ch14 j := by unfold midS; rw [Int.zero_add]
      rw [hm] at HC
      clear hm
      have HM := mkHid (run_mid (1, 2, 5) 0 wk14 j)
      have HL2 : Hid (b < wr.heap.size) := mkHid HS.out.lt
      have HE2 : Hid (∀ w2, Kb b wr w2 → w2.cell? ⟨0, 0, none⟩ = some (vE a)) := mkHid (fun w2 h => Kept.cell h (kc HE.out HB.out) (by have := World.block_lt_of_cell? w _ HE.out; have := HL.out; simp only at *; omega))
      have hcs : ((j : Int) = 0 ∧ wk14 j = false ∧ decide (j = 5 ∨ j = 6) = false) ∨ ((j : Int) = 5 ∧ wk14 j = true ∧ decide (j = 5 ∨ j = 6) = true) ∨ ((j : Int) = 6 ∧ wk14 j = true ∧ decide (j = 5 ∨ j = 6) = true) ∨ ((0 < (j : Int) ∧ ((j : Int) == 5) = false ∧ ((j : Int) == 6) = false) ∧ wk14 j = true ∧ decide (j = 5 ∨ j = 6) = false) := by
        unfold wk14; simp only [decide_eq_true_eq, decide_eq_false_iff_not, beq_eq_false_iff_ne, ne_eq]; omega
      have hjl : (j : Int) < 10 := by omega
      generalize midS (1, 2, 5) 0 wk14 ch14 j = y at *
      generalize wk14 j = v at *
      generalize decide (j = 5 ∨ j = 6) = r at *
      rw [HR.out] at HC HM
      have HJ : Hid (∀ J : Int, (j : Int) = J → ((j + 1 : Nat) : Int) = J + 1) := mkHid (fun J h => by omega)
      generalize hJ : (j : Int) = J at *
      have HJJ := mkHid hJ
      clear hJ hlt hj
      rcases hcs with ⟨rfl, rfl, rfl⟩ | ⟨rfl, rfl, rfl⟩ | ⟨rfl, rfl, rfl⟩ | ⟨⟨h1, h2, h3⟩, rfl, rfl⟩
      all_goals
        go_wp2_with (first | (go_at_call 15; refine HC.out.mono ?_; rintro e w2 ⟨rfl, hs2, hk2⟩; have HS2 := mkHid hs2; have HK2 := mkHid hk2; have HX := mkHid (HE2.out w2 hk2); clear hs2 hk2) | (go_at_call 17; refine (charge_any _ b (1, 2, 5) 0 _ y a HS2.out HG.out.b0 (HG.out.b2 ok_ex) HX.out).mono ?_; rintro e w3 ⟨he3, hs3, hk3⟩; rw [HR.out] at he3; simp only [if_true, if_false, Bool.false_eq_true] at he3; subst he3; have HS3 := mkHid hs3; have HK3 := mkHid hk3; clear hs3 hk3))
        go_roundw
        case rel => exact ⟨j + 1, _, by have := HJ.out _ rfl; simp only [Value.int.injEq, true_and]; omega, by have := HJJ.out; omega, mkHid (by rw [HM.out]; have := HS3.out; rw [HR.out] at this; exact this), mkHid (Kb.below HK3.out (Kb.below HK2.out HB.out HL.out HL2.out) HL.out HS2.out.lt)⟩
        case measure => first | (simp [intOf]; done) | (simp [intOf]; have := HJJ.out; omega)
    · obtain rfl : j = 10 := by omega
      go_wp2
      go_ret
      exact ⟨rfl, HB.out⟩
end Go.Proofs.YtdkjoedebjinkaaDoor
