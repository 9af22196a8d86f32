/- slices.Backward over a disk's cache. -/
import Derived.Test.YtcglonefifldnaaDoorFilled
import Derived.RangeFuncNested
import Derived.RangeFuncBound
import Derived.RangeFuncCalls
import Derived.RangeFuncLeaves
import Derived.RangeFuncBox
import Derived.Shelf.Abstract
import Derived.Shelf.RegionOpen
import Derived.WalkKit
import Derived.OwnWalkIn
import Derived.TacticsInMore
import Derived.LoopNIn
import Derived.LoopIn
import Derived.Maps.OwnIn
namespace Go.Proofs.YtcglonefifldnaaDoor
open Go.ChangeShapes Go.WideShapes Go.ChangeAt Go.RowKit Go.Shelf

attribute [local go_sem] Oper.semAt_some
theorem wpListIn_load_mid {G : Fence} {nF : Nat} {ops : Array Oper} {rest : List Oper} {op : Oper} {a : Act} {w : World} {Q : Exit → Act → World → Prop} (hgd : op.guard = none) (ty : TypeId) (x : Operand) (ho : op.op = .load ty x)
    (b o : Nat) (hx : a.eval x = .pointer (some ⟨b, o, none⟩)) (cs : List Value) (d : TypeDesc) (hc : w.rangeAt b o cs) (hu : Tryd.prog.underlying ty = some d) (hd : d.isRow = true) (hi : (Tryd.prog.info? ty).map (·.size) = some cs.length)
    (h : wpListIn G nF Tryd.prog ops Q rest (a.put op.dst (.agg cs.toArray)) w) : wpListIn G nF Tryd.prog ops Q (op :: rest) a w := by
  refine wpListIn_plain hgd fun K hK => ?_
  have hr := run_loadAt_mid (P := Tryd.prog) w b o ty cs d hc hu hd hi
  unfold Oper.wpIn
  refine ⟨by simp [Oper.about, ho], ?_⟩
  rw [Oper.semAt_plain G _ _ (by rw [ho]; intro c hc'; cases hc')]
  simp [execOp, ho, hx, hr, Result.andThen]
  exact hK _ _ h
/-- What a round is handed: a place and a write. -/
structure WE where
  i : Nat
  x : Int × List Int
  h : Sec x.2
def encW (e : WE) : Array Value := #[.int .i64 (e.i : Int), .agg (wcell e.x).toArray]
def upto {α : Type} (f : Nat → α) (k : Nat) : List α := (List.range k).map f
theorem upto_succ {α : Type} (f : Nat → α) (k : Nat) : upto f (k + 1) = upto f k ++ [f k] := by simp [upto, List.range_succ]
theorem upto_length {α : Type} (f : Nat → α) (k : Nat) : (upto f k).length = k := by simp [upto]
set_option maxRecDepth 100000 in
set_option maxHeartbeats 6400000 in
theorem back1_in (G : Fence) (n : Nat) (h34 : G.fn 34) (hro : G.round = none) (hn : 1 ≤ n) (l Bs n₀ b len cap : Nat) (e : Nat → WE) (hlen : (len : Int) ≤ 1000000000000) (hb : b < n₀) (hB : Bs < n₀) (J Jx : List WE → World → Prop)
    (hY : ∀ pre x W, J pre W → pre.length < len → YieldAt G (n - 1) Tryd.prog l (encW x) W fun r W' =>
      (r = .returned (.bool true) ∧ J (pre ++ [x]) W' ∧ Below n₀ W W') ∨ (r = .returned (.bool false) ∧ Jx (pre ++ [x]) W'))
    (W : World) (hBs : W.cell? ⟨Bs, 0, none⟩ = some (.slice (some ⟨b, 0, none⟩) len cap)) (hc : ∀ j, j < len → (e j).i = len - 1 - j ∧ W.rangeAt b ((len - 1 - j) * 65) (wcell (e j).x)) (h0 : J [] W) :
    CallsIn G n Tryd.prog 34 #[.func (.yield l) #[] #[], .pointer (some ⟨Bs, 0, none⟩)] W fun r W' => (∃ v, r = .returned v) ∧
      ((∃ ys, ys = upto e len ∧ J ys W') ∨ (∃ pre, (∃ k, k < len ∧ pre = upto e (k + 1)) ∧ Jx pre W')) := by
  refine callsIn_of_wp Tryd.func34 rfl h34 ?_ hro
  simp only [Tryd.ntmps34, List.size_toArray, List.length_cons, List.length_nil, Nat.reduceAdd, Nat.reduceSub, Array.replicate_succ, Array.replicate_zero, List.push_toArray, List.append_toArray, List.nil_append, List.cons_append]
  gi_wp2
  gi_loopw [3] (fun iv wr => ∃ k : Nat, k ≤ len ∧ iv = .int .i64 ((len : Int) - 1 - k) ∧ J (upto e k) wr ∧ Below n₀ W wr)
    (fun iv _ => (intOf iv + 1).toNat)
  case atStart => exact ⟨0, Nat.zero_le _, by simp, h0, Below.refl _ _⟩
  case round =>
    obtain ⟨k, hk, rfl, hJs, hnx⟩ := hrel
    have hBx := (hnx.cell (p := ⟨Bs, 0, none⟩) hB).trans hBs
    by_cases hlt : k < len
    · obtain ⟨fn, tmps, assign, body, hy, hR⟩ := hY _ (e k) wr hJs (by rw [upto_length]; exact hlt)
      obtain ⟨he1, he2⟩ := hc k hlt
      obtain ⟨m, hm⟩ : ∃ m : Nat, m = len - 1 - k := ⟨_, rfl⟩
      have hmi : (len : Int) - 1 - k = (m : Int) := by omega
      rw [← hm] at he1 he2
      have HRG : Hid (wr.rangeAt b (m * 65) (wcell (e k).x)) := mkHid (fun j v hj => (hnx.cell (p := ⟨b, m * 65 + j, none⟩) hb).trans (he2 j v hj))
      have hm2 : (m : Int) < len := by omega
      unfold encW at hy
      rw [he1] at hy
      rw [hmi]
      have HEK : Hid (Option.map (fun i => i.size) (Tryd.prog.info? 67) = some (wcell (e k).x).length) := mkHid (by rw [wcell_len (e k).h]; exact size67)
      have HMI := mkHid hmi
      clear he1 he2 hc hBs hm hmi
      gi_wp2_with (refine wpListIn_load_mid rfl 67 (.tmp 15) rfl b (m * 65) rfl (wcell (e k).x) _ HRG.out Tryd.underlying67 rfl HEK.out ?_)
      refine hR.mono ?_
      rintro r W3 (⟨rfl, hJ3, hk3⟩ | ⟨rfl, hJx3⟩)
      · gi_wp2
        go_roundw
        case rel => exact ⟨k + 1, by omega, by have := HMI.out; congr 1; omega, by rw [upto_succ]; exact hJ3, hnx.trans hk3⟩
        case measure => simp [intOf] <;> omega
      · gi_wp2
        refine bodyPost_ret (results_none rfl _ _ _) rfl ?_
        exact ⟨⟨_, rfl⟩, .inr ⟨_, ⟨k, hlt, (upto_succ _ _).symm⟩, hJx3⟩⟩
    · obtain rfl : k = len := by omega
      have hmi : (k : Int) - 1 - k = -1 := by omega
      rw [hmi]
      gi_wp2
      go_end0
      exact ⟨⟨_, rfl⟩, .inl ⟨_, rfl, hJs⟩⟩
/-- What a cache hands out from its end on. -/
def bk (c : List (Int × List Int)) (hc : ∀ x ∈ c, Sec x.2) (j : Nat) : WE := if h : j < c.length then ⟨c.length - 1 - j, c[c.length - 1 - j], hc _ (List.getElem_mem _)⟩ else ⟨0, (0, zeros), zeros_sec⟩
theorem bk_at (c : List (Int × List Int)) (hc : ∀ x ∈ c, Sec x.2) (j : Nat) (h : j < c.length) : (bk c hc j).i = c.length - 1 - j ∧ c[c.length - 1 - j]? = some (bk c hc j).x := by
  unfold bk
  rw [dif_pos h]
  exact ⟨rfl, by simp⟩
set_option maxRecDepth 100000 in
set_option maxHeartbeats 6400000 in
theorem back1_nil_in (G : Fence) (n : Nat) (h34 : G.fn 34) (hro : G.round = none) (l Bs : Nat) (J : List WE → World → Prop) (W : World) (hBs : W.cell? ⟨Bs, 0, none⟩ = some (.slice none 0 0)) (h0 : J [] W) :
    CallsIn G n Tryd.prog 34 #[.func (.yield l) #[] #[], .pointer (some ⟨Bs, 0, none⟩)] W fun r W' => (∃ v, r = .returned v) ∧ J [] W' := by
  refine callsIn_of_wp Tryd.func34 rfl h34 ?_ hro
  simp only [Tryd.ntmps34, List.size_toArray, List.length_cons, List.length_nil, Nat.reduceAdd, Nat.reduceSub, Array.replicate_succ, Array.replicate_zero, List.push_toArray, List.append_toArray, List.nil_append, List.cons_append]
  gi_wp2
  gi_loopw [3] (fun iv wr => iv = .int .i64 (-1) ∧ J [] wr) (fun _ _ => 0)
  case atStart => exact ⟨rfl, h0⟩
  case round =>
    obtain ⟨rfl, hJs⟩ := hrel
    gi_wp2
    go_end0
    exact ⟨⟨_, rfl⟩, hJs⟩
set_option maxHeartbeats 3200000 in
theorem backward_in (G : Fence) (n : Nat) (h33 : G.fn 33) (hro : G.round = none) (a : Option Addr) (len cap : Nat) (w : World) :
    CallsIn G n Tryd.prog 33 #[.slice a len cap] w fun r w' => r = .returned (.func (.func 34) #[] #[.pointer (some ⟨w.heap.size, 0, none⟩)]) ∧ w' = w.alloc (.cells #[.slice a len cap] 56) := by
  refine callsIn_of_wp Tryd.func33 rfl h33 ?_ hro
  simp only [Tryd.ntmps33, List.size_toArray, List.length_cons, List.length_nil, Nat.reduceAdd, Nat.reduceSub, Array.replicate_succ, Array.replicate_zero, List.push_toArray, List.append_toArray, List.nil_append, List.cons_append]
  gi_wp2
  go_ret
  exact ⟨rfl, rfl⟩
theorem back_stops (G : Fence) (n : Nat) (h34 : G.fn 34) (hro : G.round = none) (hn : 1 ≤ n) (Bs n₀ : Nat) (cv : Value) (c : List (Int × List Int)) (hc : ∀ x ∈ c, Sec x.2) (hlen : (c.length : Int) ≤ 1000000000000) (w : World) (hB : Bs < n₀) (hn₀ : n₀ ≤ w.heap.size)
    (hcell : w.cell? ⟨Bs, 0, none⟩ = some cv) (ho : w.ownsRow 0 67 65 cv c.length (wcells c)) (hb : ∀ k, cv.ownBlock = some k → k < n₀) :
    SeqStopsK G n Tryd.prog 34 #[.pointer (some ⟨Bs, 0, none⟩)] encW (Below n₀) (fun ys => ys = upto (bk c hc) c.length) (fun pre => ∃ k, k < c.length ∧ pre = upto (bk c hc) (k + 1)) c.length w := fun l J Jx W hW _ _ hY h0 => by
  have hc' := (hW.cell (p := ⟨Bs, 0, none⟩) (Nat.lt_of_lt_of_le hB hn₀)).trans hcell
  have ho' := own_keep65 ho (kept_below (fun _ => False) hW) (fun _ _ h => h)
  rcases ho'.2 with ⟨rfl, he⟩ | ⟨g, cap, cur, rfl, _⟩
  · refine (back1_nil_in G n h34 hro l Bs J W hc' h0).mono fun e W' ⟨he', hj⟩ => ⟨he', .inl ⟨_, rfl, ?_⟩⟩
    rw [he]
    exact hj
  · refine back1_in G n h34 hro hn l Bs n₀ g c.length cap (bk c hc) hlen (hb g rfl) hB J Jx hY W hc' (fun j hj => ?_) h0
    obtain ⟨e1, e2⟩ := bk_at c hc j hj
    refine ⟨e1, fun k v hk => ?_⟩
    have := ho'.cells (g := g) rfl ((c.length - 1 - j) * 65 + k) v (wcells_at c hc _ _ e2 k v hk)
    rwa [add_none, Nat.zero_add] at this
end Go.Proofs.YtcglonefifldnaaDoor
