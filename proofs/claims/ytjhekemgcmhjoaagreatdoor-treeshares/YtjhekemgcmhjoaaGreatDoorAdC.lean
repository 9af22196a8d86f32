import Derived.Test.YtjhekemgcmhjoaaGreatDoorAdB
import Derived.Deep.RegionHeld
/- The chapter's examples: a half and a third fit below the whole, two halves don't; a response. -/
namespace Go.Proofs.YtjhekemgcmhjoaaGreatDoor
open Go.ChangeShapes Go.WideShapes Go.ChangeAt Go.RowKit
set_option maxRecDepth 100000
attribute [local go_sem] World.cell?_alloc_some frozen_alloc_some

theorem kc_one5 : KC (0, 0, 0) [(1, 1, 2), (1, 1, 3)] 0 := by
  refine .fits (.inl rfl) (by intro x hx; simp at hx; rcases hx with rfl | rfl <;> (unfold okS; decide)) (by decide) ⟨by decide, by decide, fun l a b => ?_⟩
  have e1 : gS (0, 0, 0) = 0 := rfl
  have e2 : dS (0, 0, 0) = 0 := rfl
  have e3 : qS (0, 0, 0) = 1 := rfl
  rw [e1, e2, e3, sb_whole (by omega)]
  simp only [tot, sdem, List.map_cons, List.map_nil, List.sum_cons, List.sum_nil]
  rw [if_neg (by decide), if_neg (by decide)]
  omega
theorem kc_two : KC (0, 0, 0) [(1, 1, 2), (2, 1, 2)] 12 := by
  refine .tight (.inl rfl) (by intro x hx; simp at hx; rcases hx with rfl | rfl <;> (unfold okS; decide)) (by decide) (fun hf => ?_)
  exact absurd hf.1 (by decide)
theorem rc_one : RC (3, 5, 10) [(1, 20, 20, 1)] 0 11 0 := by
  refine .yes 11 (.inr (by unfold okS; decide)) ⟨.inr rfl, by decide, by decide, by intro x hx; simp at hx; subst hx; unfold okT; decide⟩ ⟨by decide, by decide⟩ ?_ (by decide)
  have e1 : gS (3, 5, 10) = 5 := rfl
  have e2 : dS (3, 5, 10) = 5 := rfl
  have e3 : qS (3, 5, 10) = 5 := rfl
  rw [e1, e2, e3]
  refine .inr ⟨by decide, by decide, by decide, fun l a b => ?_⟩
  show ¬ untM [(1, 20, 20, 1)] 0 l ≤ sb 5 5 5 l
  rw [sb_small (by decide) (by decide) (by omega)]
  have e : untM [(1, 20, 20, 1)] 0 l = (l + 20 - 1) / 20 := by simp [untM, tot, treq, bgn, blk]
  rw [e]; omega
theorem tks_one_at (w : World) (s : Tk) (p : Nat) (hp : p = w.heap.size) : Tks (w.alloc (oT s)) (.slice (some ⟨p, 0, none⟩) [s].length 1) [s] := by subst hp; exact tks_one w s
/-- What a call answers in every memory above w. -/
def Ans (w : World) (f : Nat) (args : Array Value) (r : Value) : Prop := ∀ W, Below w.heap.size w W → Calls Tryz.prog f args W fun e w' => e = .returned r ∧ Below W.heap.size W w'
end Go.Proofs.YtjhekemgcmhjoaaGreatDoor

/- The law AdmitBeyond: what fits fits at every length. -/
namespace Go.Proofs.YtjhekemgcmhjoaaGreatDoor
open Go.ChangeShapes Go.WideShapes Go.ChangeAt Go.RowKit
set_option maxRecDepth 100000
attribute [local go_sem] World.cell?_alloc_some frozen_alloc_some

theorem takeD {P : Program} {md : Region.Mode} {ops : Array Oper} {Q : Exit → Act → World → Prop} {S : World → Prop} {fuel : Nat} {listed : Array Bool} {l : List Value} {df : List Deferred} {w : World} {oi : Oper} (i d : Nat) (v : Value) (hi : ops[i]? = some oi) (hd : oi.dst = some d)
    (hs : Region.noSelect ops = true) (hf : Region.free md ops listed i = true) (hr : (Region.ready md ops listed).contains i = true)
    (hQ : ∀ c a w, Q (.panic c) (a.put oi.dst v) w → Q (.panic c) a w) (hy : YieldsIf P ops S oi v ⟨l.toArray, df⟩) (hS : S w)
    (h : wpAnyH P md ops Q S fuel (listed.setIfInBounds i true) ⟨(l.set d v).toArray, df⟩ w) : wpAnyH P md ops Q S (fuel + 1) listed ⟨l.toArray, df⟩ w := by
  refine wpAnyH_take hi hs hf hr hQ hy hS ?_
  rw [hd]
  simpa [Act.put] using h
theorem and38e (n : Int) : bits .and .i64 n 274877906943 = n % 274877906944 := by
  have h : (BitVec.ofInt 64 274877906943).toNat = 2 ^ 38 - 1 := by decide
  have key : (BitVec.ofInt 64 n &&& BitVec.ofInt 64 274877906943).toNat = (n % ((2 ^ 64 : Nat) : Int)).toNat % 2 ^ 38 := by
    rw [BitVec.toNat_and, BitVec.toNat_ofInt, h, Nat.and_two_pow_sub_one_eq_mod]
  show IntKind.i64.wrap ((BitVec.ofInt 64 n &&& BitVec.ofInt 64 274877906943).toNat : Nat) = _
  rw [key, IntKind.wrap_i64]
  omega
theorem and38 (n : Int) : 0 ≤ bits .and .i64 n 274877906943 ∧ bits .and .i64 n 274877906943 ≤ 274877906943 := by
  rw [and38e]; omega
abbrev vA (s : Sv) (v1 v2 : Value) (n : Int) : Value := .agg #[.int .i64 s.1, .int .i64 s.2.1, .int .i64 s.2.2, v1, v2, .int .i64 n]
end Go.Proofs.YtjhekemgcmhjoaaGreatDoor

