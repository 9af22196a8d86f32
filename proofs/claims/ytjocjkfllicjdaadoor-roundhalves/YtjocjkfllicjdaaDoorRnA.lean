import Derived.Test.YtjocjkfllicjdaaDoorOclone
import Derived.BigQuiet
import Derived.Deep.RegionHeld3
/- A round as numbers. -/
namespace Go.Proofs.YtjocjkfllicjdaaDoor
open Go.ChangeShapes Go.WideShapes Go.ChangeAt Go.RowKit
set_option maxRecDepth 100000
attribute [local go_sem] World.cell?_alloc_some frozen_alloc_some

abbrev Bl := Int × Int
abbrev vB (b : Bl) : Value := .agg #[.int .i64 b.1, .int .i64 b.2]
abbrev oB (b : Bl) : Obj := .cells #[.int .i64 b.1, .int .i64 b.2] 47
def nodeF (n : Int) : Prop := 0 ≤ n ∧ n ≤ 6
def balF (b : Bl) : Prop := (1 ≤ b.1 ∧ b.1 ≤ 1099511627776) ∧ nodeF b.2
instance (b : Bl) : Decidable (balF b) := by unfold balF nodeF; exact inferInstance
def aboveB (a b : Bl) : Bool := if a.1 = b.1 then decide (b.2 < a.2) else decide (b.1 < a.1)
theorem above_self (a : Bl) : aboveB a a = false := by simp [aboveB]
/-- A round's numbers: its nodes, does it read, its stage, its ballot, who has answered, the newest ballot, how often it began. -/
structure Rn where
  N : Int
  rd : Bool
  st : Int
  b : Bl
  a0 : Bool
  a1 : Bool
  a2 : Bool
  a3 : Bool
  a4 : Bool
  a5 : Bool
  a6 : Bool
  nw : Bl
  bg : Int
def Rn.an (r : Rn) : List Bool := [r.a0, r.a1, r.a2, r.a3, r.a4, r.a5, r.a6]
def Rn.cnt (r : Rn) : Nat := r.an.count true
def Rn.enter (r : Rn) (st : Int) : Rn := { r with st := st, a0 := false, a1 := false, a2 := false, a3 := false, a4 := false, a5 := false, a6 := false }
def Rn.hear (r : Rn) (i : Nat) : Rn := { r with a0 := if i = 0 then true else r.a0, a1 := if i = 1 then true else r.a1, a2 := if i = 2 then true else r.a2, a3 := if i = 3 then true else r.a3, a4 := if i = 4 then true else r.a4, a5 := if i = 5 then true else r.a5, a6 := if i = 6 then true else r.a6 }
def Rn.begin (r : Rn) (b : Bl) : Rn := { (r.enter 1) with b := b, nw := (0, 0), bg := r.bg + 1 }
def Rn.zero (n : Int) (rd : Bool) : Rn := ⟨n, rd, 0, (0, 0), false, false, false, false, false, false, false, (0, 0), 0⟩
/-- A round's block: its entry t, its ledger at lv. -/
abbrev oR (r : Rn) (t : Ep) (lv : Value) : Obj := .cells #[.int .i64 r.N, .int .i64 t.1.cl, .int .i64 t.1.nu, .int .i64 t.1.ki, .int .i64 t.1.id, .int .i64 t.1.sk, .int .i64 t.1.sq, .int .i64 t.1.st, .int .i64 t.1.po, tv t, .int .i64 t.1.tm, .bool r.rd, .int .i64 r.st, .int .i64 r.b.1, .int .i64 r.b.2, .bool r.a0, .bool r.a1, .bool r.a2, .bool r.a3, .bool r.a4, .bool r.a5, .bool r.a6, .int .i64 r.nw.1, .int .i64 r.nw.2, lv, .int .i64 r.bg] 73
end Go.Proofs.YtjocjkfllicjdaaDoor

/- A round's small functions. -/
namespace Go.Proofs.YtjocjkfllicjdaaDoor
open Go.ChangeShapes Go.WideShapes Go.ChangeAt Go.RowKit
set_option maxRecDepth 100000
attribute [local go_sem] World.cell?_alloc_some frozen_alloc_some

theorem above_any (w : World) (a b : Bl) : Calls Tryd.prog 39 #[vB a, vB b] w fun e w' => e = .returned (.bool (aboveB a b)) ∧ Below w.heap.size w w' := by
  obtain ⟨a1, a2⟩ := a
  obtain ⟨b1, b2⟩ := b
  obtain ⟨q, hq⟩ : ∃ q, q = aboveB (a1, a2) (b1, b2) := ⟨_, rfl⟩
  rw [← hq]
  have HQ := mkHid hq
  clear hq
  simp only [vB]
  by_cases h0 : a1 = b1
  · subst h0
    go_enter Tryd.func39, Tryd.ntmps39
    go_wp2
    go_ret
    exact ⟨by rw [HQ.out]; unfold aboveB; dsimp only; rw [if_pos rfl]; rfl, ba (ba (Below.refl _ _) _) _⟩
  · go_enter Tryd.func39, Tryd.ntmps39
    go_wp2
    go_ret
    exact ⟨by rw [HQ.out]; unfold aboveB; dsimp only; rw [if_neg h0]; rfl, ba (ba (Below.refl _ _) _) _⟩
theorem rabove_any (w : World) (a b : Bl) : Calls Tryd.prog 20 #[vB a, vB b] w fun e w' => e = .returned (.bool (aboveB a b)) ∧ Below w.heap.size w w' := by
  obtain ⟨a1, a2⟩ := a
  obtain ⟨b1, b2⟩ := b
  obtain ⟨q, hq⟩ : ∃ q, q = aboveB (a1, a2) (b1, b2) := ⟨_, rfl⟩
  rw [← hq]
  have HQ := mkHid hq
  clear hq
  simp only [vB]
  by_cases h0 : a1 = b1
  · subst h0
    go_enter Tryd.func20, Tryd.ntmps20
    go_wp2
    go_ret
    exact ⟨by rw [HQ.out]; unfold aboveB; dsimp only; rw [if_pos rfl]; rfl, ba (ba (Below.refl _ _) _) _⟩
  · go_enter Tryd.func20, Tryd.ntmps20
    go_wp2
    go_ret
    exact ⟨by rw [HQ.out]; unfold aboveB; dsimp only; rw [if_neg h0]; rfl, ba (ba (Below.refl _ _) _) _⟩
def halfI (n : Int) : Int := if n < 1 then 0 else n / 2 + 1
theorem half_any (w : World) (n : Int) (h : n ≤ 9223372036854775807) : Calls Tryd.prog 16 #[.int .i64 n] w fun e w' => e = .returned (.int .i64 (halfI n)) ∧ w' = w := by
  obtain ⟨q, hq⟩ : ∃ q, q = halfI n := ⟨_, rfl⟩
  rw [← hq]
  have HQ := mkHid hq
  clear hq
  by_cases h0 : n < 1
  · go_enter Tryd.func16, Tryd.ntmps16
    go_wp2
    go_ret
    exact ⟨by rw [HQ.out]; unfold halfI; rw [if_pos h0]; rfl, rfl⟩
  · have h0' : 1 ≤ n := by omega
    go_enter Tryd.func16, Tryd.ntmps16
    go_wp2
    go_ret
    exact ⟨by rw [HQ.out]; unfold halfI; rw [if_neg (by omega)]; rfl, rfl⟩
def noneB (b : Bl) : Bool := decide (b.1 = 0) && decide (b.2 = 0)
theorem eq_bal (w : World) (a1 a2 b1 b2 : Int) : (binOp .eql 47 (.agg #[.int .i64 a1, .int .i64 a2]) (.agg #[.int .i64 b1, .int .i64 b2])).run Tryd.prog w = .ok (.bool (decide (a1 = b1) && decide (a2 = b2))) w := by
  go_simp
  by_cases h0 : a1 = b1
  case neg => simp [h0]
  by_cases h1 : a2 = b2
  case neg => simp [h0, h1]
  simp [h0, h1]
def balB (b : Bl) : Bool := (decide (1 ≤ b.1) && decide (b.1 ≤ 1099511627776)) && (decide (0 ≤ b.2) && decide (b.2 ≤ 6))
theorem balB_iff {b : Bl} : balB b = true ↔ balF b := by simp [balB, balF, nodeF]
theorem isLegal_any (w : World) (b : Bl) : Calls Tryd.prog 38 #[vB b] w fun e w' => e = .returned (.bool (balB b)) ∧ Below w.heap.size w w' := by
  obtain ⟨r, n⟩ := b
  obtain ⟨q, hq⟩ : ∃ q, q = balB (r, n) := ⟨_, rfl⟩
  rw [← hq]
  have HQ := mkHid hq
  clear hq
  simp only [vB]
  by_cases h0 : r < 1
  · go_enter Tryd.func38, Tryd.ntmps38
    go_wp2
    go_ret
    exact ⟨by rw [HQ.out]; unfold balB; dsimp only; rw [decide_eq_false (show ¬ 1 ≤ r by omega)]; first | rfl | simp, ba (Below.refl _ _) _⟩
  have h0' : 1 ≤ r := by omega
  by_cases h1 : r ≤ 1099511627776
  case neg =>
    go_enter Tryd.func38, Tryd.ntmps38
    go_wp2
    go_ret
    exact ⟨by rw [HQ.out]; unfold balB; dsimp only; rw [decide_eq_true h0', decide_eq_false (show ¬ r ≤ 1099511627776 by omega)]; first | rfl | simp, ba (Below.refl _ _) _⟩
  by_cases h2 : n < 0
  · go_enter Tryd.func38, Tryd.ntmps38
    go_wp2
    go_ret
    exact ⟨by rw [HQ.out]; unfold balB; dsimp only; rw [decide_eq_true h0', decide_eq_true h1, decide_eq_false (show ¬ 0 ≤ n by omega)]; first | rfl | simp, ba (Below.refl _ _) _⟩
  have h2' : 0 ≤ n := by omega
  by_cases h3 : n < 7
  · have h3' : n ≤ 6 := by omega
    go_enter Tryd.func38, Tryd.ntmps38
    go_wp2
    go_ret
    exact ⟨by rw [HQ.out]; unfold balB; dsimp only; rw [decide_eq_true h0', decide_eq_true h1, decide_eq_true h2', decide_eq_true h3']; first | rfl | simp | (simp; omega), ba (Below.refl _ _) _⟩
  · have h3' : ¬ n ≤ 6 := by omega
    go_enter Tryd.func38, Tryd.ntmps38
    go_wp2
    go_ret
    exact ⟨by rw [HQ.out]; unfold balB; dsimp only; rw [decide_eq_true h0', decide_eq_true h1, decide_eq_true h2', decide_eq_false (show ¬ n ≤ 6 by omega)]; first | rfl | simp | (simp; omega), ba (Below.refl _ _) _⟩
theorem rLegal_any (w : World) (b : Bl) : Calls Tryd.prog 18 #[vB b] w fun e w' => e = .returned (.bool (balB b)) ∧ Below w.heap.size w w' := by
  obtain ⟨r, n⟩ := b
  obtain ⟨q, hq⟩ : ∃ q, q = balB (r, n) := ⟨_, rfl⟩
  rw [← hq]
  have HQ := mkHid hq
  clear hq
  simp only [vB]
  by_cases h0 : r < 1
  · go_enter Tryd.func18, Tryd.ntmps18
    go_wp2
    go_ret
    exact ⟨by rw [HQ.out]; unfold balB; dsimp only; rw [decide_eq_false (show ¬ 1 ≤ r by omega)]; first | rfl | simp, ba (Below.refl _ _) _⟩
  have h0' : 1 ≤ r := by omega
  by_cases h1 : r ≤ 1099511627776
  case neg =>
    go_enter Tryd.func18, Tryd.ntmps18
    go_wp2
    go_ret
    exact ⟨by rw [HQ.out]; unfold balB; dsimp only; rw [decide_eq_true h0', decide_eq_false (show ¬ r ≤ 1099511627776 by omega)]; first | rfl | simp, ba (Below.refl _ _) _⟩
  by_cases h2 : n < 0
  · go_enter Tryd.func18, Tryd.ntmps18
    go_wp2
    go_ret
    exact ⟨by rw [HQ.out]; unfold balB; dsimp only; rw [decide_eq_true h0', decide_eq_true h1, decide_eq_false (show ¬ 0 ≤ n by omega)]; first | rfl | simp, ba (Below.refl _ _) _⟩
  have h2' : 0 ≤ n := by omega
  by_cases h3 : n < 7
  · have h3' : n ≤ 6 := by omega
    go_enter Tryd.func18, Tryd.ntmps18
    go_wp2
    go_ret
    exact ⟨by rw [HQ.out]; unfold balB; dsimp only; rw [decide_eq_true h0', decide_eq_true h1, decide_eq_true h2', decide_eq_true h3']; first | rfl | simp | (simp; omega), ba (Below.refl _ _) _⟩
  · have h3' : ¬ n ≤ 6 := by omega
    go_enter Tryd.func18, Tryd.ntmps18
    go_wp2
    go_ret
    exact ⟨by rw [HQ.out]; unfold balB; dsimp only; rw [decide_eq_true h0', decide_eq_true h1, decide_eq_true h2', decide_eq_false (show ¬ n ≤ 6 by omega)]; first | rfl | simp | (simp; omega), ba (Below.refl _ _) _⟩
end Go.Proofs.YtjocjkfllicjdaaDoor

/- A round in memory. -/
namespace Go.Proofs.YtjocjkfllicjdaaDoor
open Go.ChangeShapes Go.WideShapes Go.ChangeAt Go.RowKit
set_option maxRecDepth 100000
attribute [local go_sem] World.cell?_alloc_some frozen_alloc_some

/-- A round at block p, its entry t, its ledger ps at lv; G: the blocks that are its own. -/
structure RB (G : Nat → Prop) (w : World) (p : Nat) (r : Rn) (t : Ep) (lv : Value) (ps : List Ep) : Prop where
  blk : w.heap[p]? = some (oR r t lv)
  gp : G p
  lt : ∀ k, G k → k < w.heap.size
  tk : w.ownsRow 0 45 4 (tv t) t.1.ts.length (t.1.ts.flatMap c4)
  tg : ∀ k, (tv t).ownBlock = some k → G k ∧ k ≠ p
  led : Led 0 w lv ps
  lg : ∀ k, lv.ownBlock = some k → G k ∧ k ≠ p
  ug : ∀ u ∈ ps, ∀ k, (tv u).ownBlock = some k → G k ∧ k ≠ p
  st : small t
  su : ∀ u ∈ ps, small u
  sl : ps.length * 96 ≤ 140737488355328
  nn : 1 ≤ r.N ∧ r.N ≤ 7
theorem Led.low {b c : Nat} {w : World} {v : Value} {ps : List Ep} (h : Led c w v ps) (hb : b ≤ c) : Led b w v ps := ⟨⟨h.own.1, h.own.2.imp id fun ⟨g, cap, cur, e1, hg, rest⟩ => ⟨g, cap, cur, e1, Nat.le_trans hb hg, rest⟩⟩, fun t ht => own_up4 (h.tk t ht) hb, h.ne⟩
theorem RB.kept {G F : Nat → Prop} {w w' : World} {p : Nat} {r : Rn} {t : Ep} {lv : Value} {ps : List Ep} (h : RB G w p r t lv ps) (hk : Kept F w w') (hd : ∀ k, F k → ¬ G k) : RB G w' p r t lv ps :=
  ⟨(hk.block p (h.lt p h.gp) (fun f => hd p f h.gp)).trans h.blk, h.gp, fun k hg => Nat.lt_of_lt_of_le (h.lt k hg) hk.size, ownN_kept h.tk hk (fun k e f => hd k f (h.tg k e).1), h.tg,
   ⟨ownN_kept h.led.own hk (fun k e f => hd k f (h.lg k e).1), fun u hu => ownN_kept (h.led.tk u hu) hk (fun k e f => hd k f (h.ug u hu k e).1), h.led.ne⟩, h.lg, h.ug, h.st, h.su, h.sl, h.nn⟩
theorem RB.below {G : Nat → Prop} {w w' : World} {p : Nat} {r : Rn} {t : Ep} {lv : Value} {ps : List Ep} (h : RB G w p r t lv ps) (hb : Below w.heap.size w w') : RB G w' p r t lv ps :=
  h.kept (kept_of_below hb) (fun k f g => by have := h.lt k g; omega)
theorem RB.ent {G : Nat → Prop} {w : World} {p : Nat} {r : Rn} {t : Ep} {lv : Value} {ps : List Ep} (h : RB G w p r t lv ps) : EnW w t := by
  have hs := h.st
  obtain ⟨a, c, e, hx⟩ := tks_of_owns (by unfold small at hs; omega) h.tk
  simp only [tv, Value.slice.injEq] at e
  unfold EnW tv
  rw [e.1, e.2.2]
  exact hx
theorem RB.ens {G : Nat → Prop} {w : World} {p : Nat} {r : Rn} {t : Ep} {lv : Value} {ps : List Ep} (h : RB G w p r t lv ps) : Ens w lv ps :=
  h.led.ens (by have := h.sl; omega) (fun u hu => by have := h.su u hu; unfold small at this; omega)
theorem RB.shape {G : Nat → Prop} {w : World} {p : Nat} {r : Rn} {t : Ep} {lv : Value} {ps : List Ep} (h : RB G w p r t lv ps) : ∃ a c, lv = .slice a ps.length c := by
  obtain ⟨a, c, e, _⟩ := own_sh h.led.own
  exact ⟨a, c, e⟩
/-- The same round with other numbers: its block is written over. -/
theorem RB.nums {G : Nat → Prop} {w w' : World} {p : Nat} {r r' : Rn} {t : Ep} {lv : Value} {ps : List Ep} (h : RB G w p r t lv ps) (hk : Kept (fun k => k = p) w w') (hb : w'.heap[p]? = some (oR r' t lv)) (hn : r'.N = r.N) : RB G w' p r' t lv ps :=
  ⟨hb, h.gp, fun k hg => Nat.lt_of_lt_of_le (h.lt k hg) hk.size, ownN_kept h.tk hk (fun k e f => (h.tg k e).2 f), h.tg,
   ⟨ownN_kept h.led.own hk (fun k e f => (h.lg k e).2 f), fun u hu => ownN_kept (h.led.tk u hu) hk (fun k e f => (h.ug u hu k e).2 f), h.led.ne⟩, h.lg, h.ug, h.st, h.su, h.sl, by rw [hn]; exact h.nn⟩
/-- The same round with another ledger, in memory from B on. -/
theorem RB.list {G : Nat → Prop} {w w' : World} {p B : Nat} {r r' : Rn} {t : Ep} {lv lv' : Value} {ps qs : List Ep} (h : RB G w p r t lv ps) (hB : w.heap.size ≤ B) (hk : Kept (fun k => k = p) w w') (hb : w'.heap[p]? = some (oR r' t lv')) (hn : r'.N = r.N) (hL : Led B w' lv' qs) (hs : ∀ u ∈ qs, small u) (hl : qs.length * 96 ≤ 140737488355328) :
    RB (fun k => G k ∨ (w.heap.size ≤ k ∧ k < w'.heap.size)) w' p r' t lv' qs := by
  have hp := h.lt p h.gp
  refine ⟨hb, .inl h.gp, fun k hg => ?_, ownN_kept h.tk hk (fun k e f => (h.tg k e).2 f), fun k e => ⟨.inl (h.tg k e).1, (h.tg k e).2⟩, hL.low (Nat.zero_le _), fun k e => ?_, fun u hu k e => ?_, h.st, hs, hl, by rw [hn]; exact h.nn⟩
  · rcases hg with g | g
    · exact Nat.lt_of_lt_of_le (h.lt k g) hk.size
    · exact g.2
  · have := hL.own.lt k e
    exact ⟨.inr ⟨by omega, this.2⟩, by omega⟩
  · have := (hL.tk u hu).lt k e
    exact ⟨.inr ⟨by omega, this.2⟩, by omega⟩
theorem Rn.enter_N (r : Rn) (s : Int) : (r.enter s).N = r.N := rfl
end Go.Proofs.YtjocjkfllicjdaaDoor

/- A round's calls that only read, and those that write its numbers. -/
namespace Go.Proofs.YtjocjkfllicjdaaDoor
open Go.ChangeShapes Go.WideShapes Go.ChangeAt Go.RowKit
set_option maxRecDepth 100000
attribute [local go_sem] World.cell?_alloc_some frozen_alloc_some

theorem stage_is {G : Nat → Prop} {w : World} {p : Nat} {r : Rn} {t : Ep} {lv : Value} {ps : List Ep} (h : RB G w p r t lv ps) : Calls Tryd.prog 17 #[.pointer (some ⟨p, 0, none⟩)] w fun e w' => e = .returned (.int .i64 r.st) ∧ w' = w := by
  have x12 : w.cell? ⟨p, 12, none⟩ = some (.int .i64 r.st) := cell_of_block h.blk rfl
  clear h
  go_enter Tryd.func17, Tryd.ntmps17
  go_wp2
  go_ret
  exact ⟨rfl, rfl⟩
theorem begun_is {G : Nat → Prop} {w : World} {p : Nat} {r : Rn} {t : Ep} {lv : Value} {ps : List Ep} (h : RB G w p r t lv ps) : Calls Tryd.prog 34 #[.pointer (some ⟨p, 0, none⟩)] w fun e w' => e = .returned (.int .i64 r.bg) ∧ w' = w := by
  have x25 : w.cell? ⟨p, 25, none⟩ = some (.int .i64 r.bg) := cell_of_block h.blk rfl
  clear h
  go_enter Tryd.func34, Tryd.ntmps34
  go_wp2
  go_ret
  exact ⟨rfl, rfl⟩
theorem size2 : (Tryd.prog.info? 47).map (·.size) = some 2 := by kernel_rfl
theorem bal_leaves1 {W : World} {R : Nat} {p : Tmp} {fn : Func} {c0 c1 : Value} (hf : fn.results = #[.cell p 47]) (hR : W.heap[R]? = some (.cells #[c0, c1] 47 (0, 0))) (tmps : Array Value) (h2 : tmps.getD p undef = .pointer (some ⟨R, 0, none⟩)) : (results fn tmps).run Tryd.prog W = .ok (.agg #[c0, c1]) W := by
  have hl := run_loadVar_row (P := Tryd.prog) W R 47 47 #[c0, c1] (0, 0) _ hR Tryd.underlying47 rfl size2
  rw [results_cell1 hf, h2]
  simp [asAddr, Result.andThen, hl]
set_option maxHeartbeats 3200000 in
theorem ballot_is {G : Nat → Prop} {w : World} {p : Nat} {r : Rn} {t : Ep} {lv : Value} {ps : List Ep} (h : RB G w p r t lv ps) : Calls Tryd.prog 33 #[.pointer (some ⟨p, 0, none⟩)] w fun e w' => e = .returned (vB r.b) ∧ Below w.heap.size w w' := by
  have x13 : w.cell? ⟨p, 13, none⟩ = some (.int .i64 r.b.1) := cell_of_block h.blk rfl
  have x14 : w.cell? ⟨p, 14, none⟩ = some (.int .i64 r.b.2) := cell_of_block h.blk rfl
  clear h
  go_enter Tryd.func33, Tryd.ntmps33
  go_wp2
  refine bodyPost_ret (bal_leaves1 rfl (heap_alloc_new w _) _ rfl) rfl ⟨rfl, ba (Below.refl _ w) _⟩
def hasB (r : Rn) : Bool := decide (r.st = 2) || decide (r.st = 3)
theorem hasLedger_is {G : Nat → Prop} {w : World} {p : Nat} {r : Rn} {t : Ep} {lv : Value} {ps : List Ep} (h : RB G w p r t lv ps) : Calls Tryd.prog 45 #[.pointer (some ⟨p, 0, none⟩)] w fun e w' => e = .returned (.bool (hasB r)) ∧ w' = w := by
  have x12 : w.cell? ⟨p, 12, none⟩ = some (.int .i64 r.st) := cell_of_block h.blk rfl
  clear h
  obtain ⟨q, hq⟩ : ∃ q, q = hasB r := ⟨_, rfl⟩
  rw [← hq]
  have HQ := mkHid hq
  clear hq
  obtain ⟨s, hs⟩ : ∃ s, s = r.st := ⟨_, rfl⟩
  rw [← hs] at x12
  have HS := mkHid hs
  clear hs
  by_cases h2 : s = 2
  · subst h2
    go_enter Tryd.func45, Tryd.ntmps45
    go_wp2
    go_ret
    exact ⟨by rw [HQ.out]; unfold hasB; rw [← HS.out]; rfl, rfl⟩
  · go_enter Tryd.func45, Tryd.ntmps45
    go_wp2
    go_ret
    exact ⟨by rw [HQ.out]; unfold hasB; rw [← HS.out]; by_cases h3 : s = 3 <;> simp [h2, h3], rfl⟩
theorem keptS (w : World) (p i : Nat) (v : Value) : Kept (fun k => k = p) w (w.setCell ⟨p, i, none⟩ v) := Kept.setCell (F := fun k => k = p) w (p := ⟨p, i, none⟩) rfl v
theorem keptT {w w1 : World} {p : Nat} (h : Kept (fun k => k = p) w w1) (i : Nat) (v : Value) : Kept (fun k => k = p) w (w1.setCell ⟨p, i, none⟩ v) := h.trans (keptS w1 p i v) (fun _ e => .inl e)
theorem keptS8 (w : World) (p : Nat) (v0 v1 v2 v3 v4 v5 v6 v7 : Value) : Kept (fun k => k = p) w ((((((((w.setCell ⟨p, 12, none⟩ v0).setCell ⟨p, 15, none⟩ v1).setCell ⟨p, 16, none⟩ v2).setCell ⟨p, 17, none⟩ v3).setCell ⟨p, 18, none⟩ v4).setCell ⟨p, 19, none⟩ v5).setCell ⟨p, 20, none⟩ v6).setCell ⟨p, 21, none⟩ v7) :=
  keptT (keptT (keptT (keptT (keptT (keptT (keptT (keptS w p 12 v0) 15 v1) 16 v2) 17 v3) 18 v4) 19 v5) 20 v6) 21 v7
set_option maxHeartbeats 3200000 in
theorem enter_is {G : Nat → Prop} {w : World} {p : Nat} {r : Rn} {t : Ep} {lv : Value} {ps : List Ep} (s : Int) (h : RB G w p r t lv ps) : Calls Tryd.prog 40 #[.pointer (some ⟨p, 0, none⟩), .int .i64 s] w fun e w' => e = .returned (.tuple #[]) ∧ RB G w' p (r.enter s) t lv ps ∧ Kept (fun k => k = p) w w' := by
  have H := mkHid h
  have x12 : w.cell? ⟨p, 12, none⟩ = some (.int .i64 r.st) := cell_of_block h.blk rfl
  have x15 : w.cell? ⟨p, 15, none⟩ = some (.bool r.a0) := cell_of_block h.blk rfl
  have x16 : w.cell? ⟨p, 16, none⟩ = some (.bool r.a1) := cell_of_block h.blk rfl
  have x17 : w.cell? ⟨p, 17, none⟩ = some (.bool r.a2) := cell_of_block h.blk rfl
  have x18 : w.cell? ⟨p, 18, none⟩ = some (.bool r.a3) := cell_of_block h.blk rfl
  have x19 : w.cell? ⟨p, 19, none⟩ = some (.bool r.a4) := cell_of_block h.blk rfl
  have x20 : w.cell? ⟨p, 20, none⟩ = some (.bool r.a5) := cell_of_block h.blk rfl
  have x21 : w.cell? ⟨p, 21, none⟩ = some (.bool r.a6) := cell_of_block h.blk rfl
  have f12 := frozen_of_block (i := 12) h.blk
  have f15 := frozen_of_block (i := 15) h.blk
  have f16 := frozen_of_block (i := 16) h.blk
  have f17 := frozen_of_block (i := 17) h.blk
  have f18 := frozen_of_block (i := 18) h.blk
  have f19 := frozen_of_block (i := 19) h.blk
  have f20 := frozen_of_block (i := 20) h.blk
  have f21 := frozen_of_block (i := 21) h.blk
  clear h
  go_enter Tryd.func40, Tryd.ntmps40
  go_wp2
  first | go_end0 | refine bodyPost_ret (results_none rfl _ _ _) rfl ?_
  have hk := keptS8 w p (.int .i64 s) (.bool false) (.bool false) (.bool false) (.bool false) (.bool false) (.bool false) (.bool false)
  refine ⟨rfl, H.out.nums (r' := r.enter s) hk ?_ rfl, hk⟩
  have hb := heap_set (i := 21) (v := .bool false) (heap_set (i := 20) (v := .bool false) (heap_set (i := 19) (v := .bool false) (heap_set (i := 18) (v := .bool false) (heap_set (i := 17) (v := .bool false) (heap_set (i := 16) (v := .bool false) (heap_set (i := 15) (v := .bool false) (heap_set (i := 12) (v := .int .i64 s) H.out.blk)))))))
  exact hb.trans (by kernel_rfl)
theorem halfI_le {n : Int} (h : 1 ≤ n ∧ n ≤ 7) : 1 ≤ halfI n ∧ halfI n ≤ 4 := by unfold halfI; rw [if_neg (by omega)]; omega
theorem idx0 (a0 a1 a2 a3 a4 a5 a6 : Bool) : ∀ W : World, (Instr.index 71 (.agg #[.bool a0, .bool a1, .bool a2, .bool a3, .bool a4, .bool a5, .bool a6]) (.int .i64 0)).run Tryd.prog W = .ok (.bool a0) W := by intro W; kernel_rfl
theorem idx1 (a0 a1 a2 a3 a4 a5 a6 : Bool) : ∀ W : World, (Instr.index 71 (.agg #[.bool a0, .bool a1, .bool a2, .bool a3, .bool a4, .bool a5, .bool a6]) (.int .i64 1)).run Tryd.prog W = .ok (.bool a1) W := by intro W; kernel_rfl
theorem idx2 (a0 a1 a2 a3 a4 a5 a6 : Bool) : ∀ W : World, (Instr.index 71 (.agg #[.bool a0, .bool a1, .bool a2, .bool a3, .bool a4, .bool a5, .bool a6]) (.int .i64 2)).run Tryd.prog W = .ok (.bool a2) W := by intro W; kernel_rfl
theorem idx3 (a0 a1 a2 a3 a4 a5 a6 : Bool) : ∀ W : World, (Instr.index 71 (.agg #[.bool a0, .bool a1, .bool a2, .bool a3, .bool a4, .bool a5, .bool a6]) (.int .i64 3)).run Tryd.prog W = .ok (.bool a3) W := by intro W; kernel_rfl
theorem idx4 (a0 a1 a2 a3 a4 a5 a6 : Bool) : ∀ W : World, (Instr.index 71 (.agg #[.bool a0, .bool a1, .bool a2, .bool a3, .bool a4, .bool a5, .bool a6]) (.int .i64 4)).run Tryd.prog W = .ok (.bool a4) W := by intro W; kernel_rfl
theorem idx5 (a0 a1 a2 a3 a4 a5 a6 : Bool) : ∀ W : World, (Instr.index 71 (.agg #[.bool a0, .bool a1, .bool a2, .bool a3, .bool a4, .bool a5, .bool a6]) (.int .i64 5)).run Tryd.prog W = .ok (.bool a5) W := by intro W; kernel_rfl
theorem idx6 (a0 a1 a2 a3 a4 a5 a6 : Bool) : ∀ W : World, (Instr.index 71 (.agg #[.bool a0, .bool a1, .bool a2, .bool a3, .bool a4, .bool a5, .bool a6]) (.int .i64 6)).run Tryd.prog W = .ok (.bool a6) W := by intro W; kernel_rfl
set_option maxHeartbeats 3200000 in
theorem hasHalf_is {G : Nat → Prop} {w : World} {p : Nat} {r : Rn} {t : Ep} {lv : Value} {ps : List Ep} (h : RB G w p r t lv ps) : Calls Tryd.prog 43 #[.pointer (some ⟨p, 0, none⟩)] w fun e w' => e = .returned (.bool (decide (halfI r.N ≤ (r.cnt : Int)))) ∧ w' = w := by
  have hN := h.nn
  obtain ⟨N, rd, st, b, a0, a1, a2, a3, a4, a5, a6, nw, bg⟩ := r
  have x0 : w.cell? ⟨p, 0, none⟩ = some (.int .i64 N) := cell_of_block h.blk rfl
  have x15 : w.cell? ⟨p, 15, none⟩ = some (.bool a0) := cell_of_block h.blk rfl
  have x16 : w.cell? ⟨p, 16, none⟩ = some (.bool a1) := cell_of_block h.blk rfl
  have x17 : w.cell? ⟨p, 17, none⟩ = some (.bool a2) := cell_of_block h.blk rfl
  have x18 : w.cell? ⟨p, 18, none⟩ = some (.bool a3) := cell_of_block h.blk rfl
  have x19 : w.cell? ⟨p, 19, none⟩ = some (.bool a4) := cell_of_block h.blk rfl
  have x20 : w.cell? ⟨p, 20, none⟩ = some (.bool a5) := cell_of_block h.blk rfl
  have x21 : w.cell? ⟨p, 21, none⟩ = some (.bool a6) := cell_of_block h.blk rfl
  clear h
  simp only at hN
  have HH := mkHid (half_any w N (by omega))
  have HN := mkHid hN
  clear hN
  obtain ⟨L, hL⟩ : ∃ L, L = [a0, a1, a2, a3, a4, a5, a6] := ⟨_, rfl⟩
  have hcnt : Rn.cnt ⟨N, rd, st, b, a0, a1, a2, a3, a4, a5, a6, nw, bg⟩ = L.count true := by rw [hL]; rfl
  rw [hcnt]
  have HL := mkHid hL
  clear hL hcnt
  go_enter Tryd.func43, Tryd.ntmps43
  go_wp2
  go_loopw [3, 10] (fun cv iv wr => ∃ (j : Int) (c : Nat), iv = .int .i64 j ∧ cv = .int .i64 (c : Int) ∧ 0 ≤ j ∧ j ≤ 7 ∧ (c : Int) ≤ j ∧ Hid (c = (L.take j.toNat).count true) ∧ wr = w) (fun _ iv _ => 7 - (intOf iv).toNat)
  case atStart => exact ⟨0, 0, rfl, rfl, by omega, by omega, by omega, mkHid rfl, rfl⟩
  case round =>
    obtain ⟨j, c, rfl, rfl, hj0, hj, hcj, HC, rfl⟩ := hrel
    by_cases hlt : j < 7
    · have hjs : j = 0 ∨ j = 1 ∨ j = 2 ∨ j = 3 ∨ j = 4 ∨ j = 5 ∨ j = 6 := by omega
      rcases hjs with rfl | rfl | rfl | rfl | rfl | rfl | rfl
      · cases a0 with
        | true =>
          have hix := idx0 true a1 a2 a3 a4 a5 a6
          go_wp2
          go_roundw
          case rel => exact ⟨1, c + 1, by go_num, by go_num, by omega, by omega, by omega, mkHid (by rw [HC.out, HL.out]; simp), (by first | rfl | trivial)⟩
          case measure => simp [intOf]
        | false =>
          have hix := idx0 false a1 a2 a3 a4 a5 a6
          go_wp2
          go_roundw
          case rel => exact ⟨1, c, by go_num, rfl, by omega, by omega, by omega, mkHid (by rw [HC.out, HL.out]; simp), (by first | rfl | trivial)⟩
          case measure => simp [intOf]
      · cases a1 with
        | true =>
          have hix := idx1 a0 true a2 a3 a4 a5 a6
          go_wp2
          go_roundw
          case rel => exact ⟨2, c + 1, by go_num, by go_num, by omega, by omega, by omega, mkHid (by rw [HC.out, HL.out]; simp [List.count_cons] <;> omega), (by first | rfl | trivial)⟩
          case measure => simp [intOf]
        | false =>
          have hix := idx1 a0 false a2 a3 a4 a5 a6
          go_wp2
          go_roundw
          case rel => exact ⟨2, c, by go_num, rfl, by omega, by omega, by omega, mkHid (by rw [HC.out, HL.out]; simp [List.count_cons] <;> omega), (by first | rfl | trivial)⟩
          case measure => simp [intOf]
      · cases a2 with
        | true =>
          have hix := idx2 a0 a1 true a3 a4 a5 a6
          go_wp2
          go_roundw
          case rel => exact ⟨3, c + 1, by go_num, by go_num, by omega, by omega, by omega, mkHid (by rw [HC.out, HL.out]; simp [List.count_cons] <;> omega), (by first | rfl | trivial)⟩
          case measure => simp [intOf]
        | false =>
          have hix := idx2 a0 a1 false a3 a4 a5 a6
          go_wp2
          go_roundw
          case rel => exact ⟨3, c, by go_num, rfl, by omega, by omega, by omega, mkHid (by rw [HC.out, HL.out]; simp [List.count_cons] <;> omega), (by first | rfl | trivial)⟩
          case measure => simp [intOf]
      · cases a3 with
        | true =>
          have hix := idx3 a0 a1 a2 true a4 a5 a6
          go_wp2
          go_roundw
          case rel => exact ⟨4, c + 1, by go_num, by go_num, by omega, by omega, by omega, mkHid (by rw [HC.out, HL.out]; simp [List.count_cons] <;> omega), (by first | rfl | trivial)⟩
          case measure => simp [intOf]
        | false =>
          have hix := idx3 a0 a1 a2 false a4 a5 a6
          go_wp2
          go_roundw
          case rel => exact ⟨4, c, by go_num, rfl, by omega, by omega, by omega, mkHid (by rw [HC.out, HL.out]; simp [List.count_cons] <;> omega), (by first | rfl | trivial)⟩
          case measure => simp [intOf]
      · cases a4 with
        | true =>
          have hix := idx4 a0 a1 a2 a3 true a5 a6
          go_wp2
          go_roundw
          case rel => exact ⟨5, c + 1, by go_num, by go_num, by omega, by omega, by omega, mkHid (by rw [HC.out, HL.out]; simp [List.count_cons] <;> omega), (by first | rfl | trivial)⟩
          case measure => simp [intOf]
        | false =>
          have hix := idx4 a0 a1 a2 a3 false a5 a6
          go_wp2
          go_roundw
          case rel => exact ⟨5, c, by go_num, rfl, by omega, by omega, by omega, mkHid (by rw [HC.out, HL.out]; simp [List.count_cons] <;> omega), (by first | rfl | trivial)⟩
          case measure => simp [intOf]
      · cases a5 with
        | true =>
          have hix := idx5 a0 a1 a2 a3 a4 true a6
          go_wp2
          go_roundw
          case rel => exact ⟨6, c + 1, by go_num, by go_num, by omega, by omega, by omega, mkHid (by rw [HC.out, HL.out]; simp [List.count_cons] <;> omega), (by first | rfl | trivial)⟩
          case measure => simp [intOf]
        | false =>
          have hix := idx5 a0 a1 a2 a3 a4 false a6
          go_wp2
          go_roundw
          case rel => exact ⟨6, c, by go_num, rfl, by omega, by omega, by omega, mkHid (by rw [HC.out, HL.out]; simp [List.count_cons] <;> omega), (by first | rfl | trivial)⟩
          case measure => simp [intOf]
      · cases a6 with
        | true =>
          have hix := idx6 a0 a1 a2 a3 a4 a5 true
          go_wp2
          go_roundw
          case rel => exact ⟨7, c + 1, by go_num, by go_num, by omega, by omega, by omega, mkHid (by rw [HC.out, HL.out]; simp [List.count_cons] <;> omega), (by first | rfl | trivial)⟩
          case measure => simp [intOf]
        | false =>
          have hix := idx6 a0 a1 a2 a3 a4 a5 false
          go_wp2
          go_roundw
          case rel => exact ⟨7, c, by go_num, rfl, by omega, by omega, by omega, mkHid (by rw [HC.out, HL.out]; simp [List.count_cons] <;> omega), (by first | rfl | trivial)⟩
          case measure => simp [intOf]
    · obtain rfl : j = 7 := by omega
      go_wp2_with (go_at_call 16; (with_reducible refine HH.out.mono ?_); rintro e w' ⟨rfl, rfl⟩)
      go_ret
      have hc : L.count true = c := by rw [HC.out, HL.out]; rfl
      exact ⟨by rw [hc]; rfl, rfl⟩
theorem neq_bal (w : World) (a1 a2 b1 b2 : Int) : (binOp .neq 47 (.agg #[.int .i64 a1, .int .i64 a2]) (.agg #[.int .i64 b1, .int .i64 b2])).run Tryd.prog w = .ok (.bool (!(decide (a1 = b1) && decide (a2 = b2)))) w := by
  go_simp
  by_cases h0 : a1 = b1
  case neg => simp [h0]
  by_cases h1 : a2 = b2
  case neg => simp [h0, h1]
  simp [h0, h1]
end Go.Proofs.YtjocjkfllicjdaaDoor

/- A round's counts. -/
namespace Go.Proofs.YtjocjkfllicjdaaDoor
open Go.ChangeShapes Go.WideShapes Go.ChangeAt Go.RowKit
set_option maxRecDepth 100000
attribute [local go_sem] World.cell?_alloc_some frozen_alloc_some

def Rn.at (r : Rn) (i : Nat) : Bool := r.an.getD i false
def cntsB (r : Rn) (s f : Int) (b : Bl) : Bool := decide (r.st = s) && (decide (b.1 = r.b.1) && (decide (b.2 = r.b.2) && (decide (0 ≤ f) && (decide (f < r.N) && !(r.at f.toNat)))))
set_option maxHeartbeats 6400000 in
theorem counts_is {G : Nat → Prop} {w : World} {p : Nat} {r : Rn} {t : Ep} {lv : Value} {ps : List Ep} (s f : Int) (b : Bl) (h : RB G w p r t lv ps) : Calls Tryd.prog 41 #[.pointer (some ⟨p, 0, none⟩), .int .i64 s, .int .i64 f, vB b] w fun e w' => e = .returned (.bool (cntsB r s f b)) ∧ Below w.heap.size w w' := by
  have hN := h.nn
  obtain ⟨N, rd, st, ⟨c1, c2⟩, a0, a1, a2, a3, a4, a5, a6, nw, bg⟩ := r
  obtain ⟨b1, b2⟩ := b
  have x0 : w.cell? ⟨p, 0, none⟩ = some (.int .i64 N) := cell_of_block h.blk rfl
  have x12 : w.cell? ⟨p, 12, none⟩ = some (.int .i64 st) := cell_of_block h.blk rfl
  have x13 : w.cell? ⟨p, 13, none⟩ = some (.int .i64 c1) := cell_of_block h.blk rfl
  have x14 : w.cell? ⟨p, 14, none⟩ = some (.int .i64 c2) := cell_of_block h.blk rfl
  have x15 : w.cell? ⟨p, 15, none⟩ = some (.bool a0) := cell_of_block h.blk rfl
  have x16 : w.cell? ⟨p, 16, none⟩ = some (.bool a1) := cell_of_block h.blk rfl
  have x17 : w.cell? ⟨p, 17, none⟩ = some (.bool a2) := cell_of_block h.blk rfl
  have x18 : w.cell? ⟨p, 18, none⟩ = some (.bool a3) := cell_of_block h.blk rfl
  have x19 : w.cell? ⟨p, 19, none⟩ = some (.bool a4) := cell_of_block h.blk rfl
  have x20 : w.cell? ⟨p, 20, none⟩ = some (.bool a5) := cell_of_block h.blk rfl
  have x21 : w.cell? ⟨p, 21, none⟩ = some (.bool a6) := cell_of_block h.blk rfl
  clear h
  simp only at hN
  obtain ⟨q, hq⟩ : ∃ q, q = cntsB ⟨N, rd, st, (c1, c2), a0, a1, a2, a3, a4, a5, a6, nw, bg⟩ s f (b1, b2) := ⟨_, rfl⟩
  rw [← hq]
  have HQ := mkHid hq
  clear hq
  simp only [vB]
  by_cases h0 : st = s
  case neg =>
    go_enter Tryd.func41, Tryd.ntmps41
    go_wp2
    go_quiet (fail)
    go_wp2
    go_ret
    exact ⟨by rw [HQ.out]; simp [cntsB, h0], drb (ba (Below.refl _ _) _) _⟩
  subst h0
  by_cases h1 : b1 = c1
  case neg =>
    go_enter Tryd.func41, Tryd.ntmps41
    go_wp2
    go_quiet (fail)
    go_wp2
    go_ret
    exact ⟨by rw [HQ.out]; simp [cntsB, h1], drb (ba (Below.refl _ _) _) _⟩
  subst h1
  by_cases h2 : b2 = c2
  case neg =>
    go_enter Tryd.func41, Tryd.ntmps41
    go_wp2
    go_quiet (fail)
    go_wp2
    go_ret
    exact ⟨by rw [HQ.out]; simp [cntsB, h2], drb (ba (Below.refl _ _) _) _⟩
  subst h2
  by_cases h3 : f < 0
  case pos =>
    go_enter Tryd.func41, Tryd.ntmps41
    go_wp2
    go_quiet (fail)
    go_wp2
    go_ret
    exact ⟨by rw [HQ.out]; simp [cntsB] <;> (intros; omega), drb (ba (Below.refl _ _) _) _⟩
  have h3' : 0 ≤ f := by omega
  by_cases h4 : f < N
  case neg =>
    go_enter Tryd.func41, Tryd.ntmps41
    go_wp2
    go_quiet (fail)
    go_wp2
    go_ret
    exact ⟨by rw [HQ.out]; simp [cntsB] <;> (intros; omega), drb (ba (Below.refl _ _) _) _⟩
  obtain ⟨i, rfl⟩ : ∃ i : Nat, f = (i : Int) := ⟨f.toNat, by omega⟩
  have his : i = 0 ∨ i = 1 ∨ i = 2 ∨ i = 3 ∨ i = 4 ∨ i = 5 ∨ i = 6 := by omega
  clear h3
  rcases his with rfl | rfl | rfl | rfl | rfl | rfl | rfl
  · go_enter Tryd.func41, Tryd.ntmps41
    go_wp2
    go_quiet (fail)
    go_wp2
    go_ret
    exact ⟨by rw [HQ.out]; simp [cntsB, Rn.at, Rn.an] <;> (intros; omega), drb (ba (Below.refl _ _) _) _⟩
  · go_enter Tryd.func41, Tryd.ntmps41
    go_wp2
    go_quiet (fail)
    go_wp2
    go_ret
    exact ⟨by rw [HQ.out]; simp [cntsB, Rn.at, Rn.an] <;> (intros; omega), drb (ba (Below.refl _ _) _) _⟩
  · go_enter Tryd.func41, Tryd.ntmps41
    go_wp2
    go_quiet (fail)
    go_wp2
    go_ret
    exact ⟨by rw [HQ.out]; simp [cntsB, Rn.at, Rn.an] <;> (intros; omega), drb (ba (Below.refl _ _) _) _⟩
  · go_enter Tryd.func41, Tryd.ntmps41
    go_wp2
    go_quiet (fail)
    go_wp2
    go_ret
    exact ⟨by rw [HQ.out]; simp [cntsB, Rn.at, Rn.an] <;> (intros; omega), drb (ba (Below.refl _ _) _) _⟩
  · go_enter Tryd.func41, Tryd.ntmps41
    go_wp2
    go_quiet (fail)
    go_wp2
    go_ret
    exact ⟨by rw [HQ.out]; simp [cntsB, Rn.at, Rn.an] <;> (intros; omega), drb (ba (Below.refl _ _) _) _⟩
  · go_enter Tryd.func41, Tryd.ntmps41
    go_wp2
    go_quiet (fail)
    go_wp2
    go_ret
    exact ⟨by rw [HQ.out]; simp [cntsB, Rn.at, Rn.an] <;> (intros; omega), drb (ba (Below.refl _ _) _) _⟩
  · go_enter Tryd.func41, Tryd.ntmps41
    go_wp2
    go_quiet (fail)
    go_wp2
    go_ret
    exact ⟨by rw [HQ.out]; simp [cntsB, Rn.at, Rn.an] <;> (intros; omega), drb (ba (Below.refl _ _) _) _⟩
end Go.Proofs.YtjocjkfllicjdaaDoor

/- A round's Accepted and Begin. -/
namespace Go.Proofs.YtjocjkfllicjdaaDoor
open Go.ChangeShapes Go.WideShapes Go.ChangeAt Go.RowKit
set_option maxRecDepth 100000
attribute [local go_sem] World.cell?_alloc_some frozen_alloc_some

theorem tkE {P : Program} {md : Region.Mode} {ops : Array Oper} {Q : Exit → Act → World → Prop} {S : World → Prop} {fuel : Nat} {listed : Array Bool} {l : List Value} {df : List Deferred} {w : World} {oi : Oper} (i d : Nat) (v : Value) (hi : ops[i]? = some oi) (hd : oi.dst = some d) (hS : S w)
  (h : wpAnyH P md ops Q S fuel (listed.setIfInBounds i true) ⟨(l.set d v).toArray, df⟩ w) (hs : Region.noSelect ops = true := by kernel_rfl) (hf : Region.free md ops listed i = true := by kernel_rfl) (hr : (Region.ready md ops listed).contains i = true := by kernel_rfl)
  (hQ : ∀ c a w, Q (.panic c) (a.put oi.dst v) w → Q (.panic c) a w := by exact fun _ _ _ h => h) (hy : YieldsIf P ops S oi v ⟨l.toArray, df⟩ := by exact Or.inl ⟨by kernel_rfl, by intro w hSw; (try dsimp only at hSw); go_simp⟩) : wpAnyH P md ops Q S (fuel + 1) listed ⟨l.toArray, df⟩ w := takeD i d v hi hd hs hf hr hQ hy hS h
theorem tkU {P : Program} {md : Region.Mode} {ops : Array Oper} {Q : Exit → Act → World → Prop} {S : World → Prop} {fuel : Nat} {listed : Array Bool} {l : List Value} {df : List Deferred} {w : World} {oi : Oper} (i d : Nat) (hi : ops[i]? = some oi) (hd : oi.dst = some d) (hS : S w)
  (h : wpAnyH P md ops Q S fuel (listed.setIfInBounds i true) ⟨(l.set d undef).toArray, df⟩ w) (hs : Region.noSelect ops = true := by kernel_rfl) (hf : Region.free md ops listed i = true := by kernel_rfl) (hr : (Region.ready md ops listed).contains i = true := by kernel_rfl)
  (hQ : ∀ c a w, Q (.panic c) (a.put oi.dst undef) w → Q (.panic c) a w := by exact fun _ _ _ h => h) (hy : YieldsIf P ops S oi undef ⟨l.toArray, df⟩ := by exact Or.inr ⟨by kernel_rfl, rfl⟩) : wpAnyH P md ops Q S (fuel + 1) listed ⟨l.toArray, df⟩ w := takeD i d undef hi hd hs hf hr hQ hy hS h
theorem sZ {α : Type _} (x y : α) (l : List α) : (x :: l).set 0 y = y :: l := rfl
theorem sS {α : Type _} (x y : α) (n : Nat) (l : List α) : (x :: l).set (n + 1) y = x :: l.set n y := rfl
theorem below_kept (F : Nat → Prop) {w w' : World} (hb : Below w.heap.size w w') : Kept F w w' := (Kept.refl F w).trans (kept_of_below hb) (fun _ e => .inr e)
theorem seven7 {i : Nat} (h : i < 7) : i = 0 ∨ i = 1 ∨ i = 2 ∨ i = 3 ∨ i = 4 ∨ i = 5 ∨ i = 6 := by omega
theorem RB.cellA {G : Nat → Prop} {w : World} {p : Nat} {r : Rn} {t : Ep} {lv : Value} {ps : List Ep} (h : RB G w p r t lv ps) {i : Nat} (hi : i < 7) : w.cell? ⟨p, 15 + i, none⟩ = some (.bool (r.at i)) := by
  rcases seven7 hi with rfl | rfl | rfl | rfl | rfl | rfl | rfl <;> exact cell_of_block h.blk rfl
theorem RB.hear {G : Nat → Prop} {w : World} {p : Nat} {r : Rn} {t : Ep} {lv : Value} {ps : List Ep} (h : RB G w p r t lv ps) {i : Nat} (hi : i < 7) : RB G (w.setCell ⟨p, 15 + i, none⟩ (.bool true)) p (r.hear i) t lv ps := by
  refine h.nums (keptS w p (15 + i) _) ?_ rfl
  have hb := heap_set (i := 15 + i) (v := .bool true) h.blk
  rcases seven7 hi with rfl | rfl | rfl | rfl | rfl | rfl | rfl <;> exact hb.trans (by kernel_rfl)
theorem cnts_true {r : Rn} {s f : Int} {b : Bl} (h : cntsB r s f b = true) : r.st = s ∧ b = r.b ∧ 0 ≤ f ∧ f < r.N ∧ r.at f.toNat = false := by
  simp [cntsB] at h
  exact ⟨h.1, Prod.ext h.2.1 h.2.2.1, h.2.2.2.1, h.2.2.2.2.1, h.2.2.2.2.2⟩
def accR (r : Rn) (i : Nat) : Rn := if halfI r.N ≤ ((r.hear i).cnt : Int) then (r.hear i).enter 3 else r.hear i
theorem accepted_no {G : Nat → Prop} {w : World} {p : Nat} {r : Rn} {t : Ep} {lv : Value} {ps : List Ep} (f : Int) (b : Bl) (h : RB G w p r t lv ps) (hc : cntsB r 2 f b = false) : Calls Tryd.prog 25 #[.pointer (some ⟨p, 0, none⟩), .int .i64 f, vB b] w fun e w' => e = .returned (.bool false) ∧ Below w.heap.size w w' := by
  have HC : Hid (∀ W, Below w.heap.size w W → Calls Tryd.prog 41 #[.pointer (some ⟨p, 0, none⟩), .int .i64 2, .int .i64 f, vB b] W fun e w' => e = .returned (.bool false) ∧ Below W.heap.size W w') := mkHid (fun W hb => by have := counts_is 2 f b (h.below hb); rw [hc] at this; exact this)
  clear h hc
  obtain ⟨b1, b2⟩ := b
  simp only [vB] at HC ⊢
  go_enter Tryd.func25, Tryd.ntmps25
  go_wp2_with (go_at_call 41; (with_reducible refine (HC.out _ (ba (Below.refl _ w) _)).mono ?_); rintro e w1 ⟨rfl, b1x⟩; have HB1 := mkHid (bt (ba (Below.refl _ w) (oB (b1, b2))) b1x); clear b1x)
  go_ret
  exact ⟨rfl, HB1.out⟩
set_option maxHeartbeats 3200000 in
theorem accepted_yes {G : Nat → Prop} {w : World} {p : Nat} {r : Rn} {t : Ep} {lv : Value} {ps : List Ep} (i : Nat) (b : Bl) (h : RB G w p r t lv ps) (hc : cntsB r 2 (i : Int) b = true) : Calls Tryd.prog 25 #[.pointer (some ⟨p, 0, none⟩), .int .i64 (i : Int), vB b] w fun e w' => e = .returned (.bool true) ∧ RB G w' p (accR r i) t lv ps ∧ Kept (fun k => k = p) w w' := by
  have HC : Hid (∀ W, Below w.heap.size w W → Calls Tryd.prog 41 #[.pointer (some ⟨p, 0, none⟩), .int .i64 2, .int .i64 (i : Int), vB b] W fun e w' => e = .returned (.bool true) ∧ Below W.heap.size W w') := mkHid (fun W hb => by have := counts_is 2 (i : Int) b (h.below hb); rw [hc] at this; exact this)
  have hi : i < 7 := by have := cnts_true hc; have := h.nn; omega
  have hii : (i : Int) < 7 := by omega
  have H := mkHid h
  clear h hc
  obtain ⟨b1, b2⟩ := b
  simp only [vB] at HC ⊢
  obtain ⟨q, hq⟩ : ∃ q, q = decide (halfI r.N ≤ ((r.hear i).cnt : Int)) := ⟨_, rfl⟩
  have HHF : Hid (∀ W, RB G W p (r.hear i) t lv ps → Calls Tryd.prog 43 #[.pointer (some ⟨p, 0, none⟩)] W fun e w' => e = .returned (.bool q) ∧ w' = W) := mkHid (fun W hW => by rw [hq]; exact hasHalf_is hW)
  have HQ := mkHid hq
  clear hq
  cases q with
  | true =>
    go_enter Tryd.func25, Tryd.ntmps25
    go_wp2_with (first
      | (go_at_call 41; (with_reducible refine (HC.out _ (ba (Below.refl _ w) _)).mono ?_); rintro e w1 ⟨rfl, b1x⟩; have HB1 := mkHid (bt (ba (Below.refl _ w) (oB (b1, b2))) b1x); have H1 := mkHid (H.out.below HB1.out); clear b1x; have xi := H1.out.cellA hi; have fi := frozen_of_block (i := 15 + i) H1.out.blk)
      | (go_at_call 43; (with_reducible refine (HHF.out _ (H1.out.hear hi)).mono ?_); rintro e w2 ⟨rfl, hw2⟩; have HW2 := mkHid hw2; clear hw2)
      | (go_at_call 40; refine (enter_is (r := r.hear i) 3 (by rw [HW2.out]; exact H1.out.hear hi)).mono ?_; rintro e w3 ⟨rfl, h3, k3⟩; have H3 := mkHid (And.intro h3 k3); clear h3 k3))
    go_ret
    refine ⟨rfl, ?_, (below_kept _ HB1.out).trans ((keptS w1 p (15 + i) _).trans (by have := H3.out.2; rw [HW2.out] at this; exact this) (fun _ e => .inl e)) (fun _ e => .inl e)⟩
    unfold accR
    rw [if_pos (of_decide_eq_true HQ.out.symm)]
    exact H3.out.1
  | false =>
    go_enter Tryd.func25, Tryd.ntmps25
    go_wp2_with (first
      | (go_at_call 41; (with_reducible refine (HC.out _ (ba (Below.refl _ w) _)).mono ?_); rintro e w1 ⟨rfl, b1x⟩; have HB1 := mkHid (bt (ba (Below.refl _ w) (oB (b1, b2))) b1x); have H1 := mkHid (H.out.below HB1.out); clear b1x; have xi := H1.out.cellA hi; have fi := frozen_of_block (i := 15 + i) H1.out.blk)
      | (go_at_call 43; (with_reducible refine (HHF.out _ (H1.out.hear hi)).mono ?_); rintro e w2 ⟨rfl, hw2⟩; have HW2 := mkHid hw2; clear hw2))
    go_ret
    refine ⟨rfl, ?_, (below_kept _ HB1.out).trans (by rw [HW2.out]; exact keptS w1 p (15 + i) _) (fun _ e => .inl e)⟩
    unfold accR
    rw [if_neg (of_decide_eq_false HQ.out.symm), HW2.out]
    exact H1.out.hear hi
end Go.Proofs.YtjocjkfllicjdaaDoor

/- A round's copies of entries and ledgers. -/
namespace Go.Proofs.YtjocjkfllicjdaaDoor
open Go.ChangeShapes Go.WideShapes Go.ChangeAt Go.RowKit
set_option maxRecDepth 100000
attribute [local go_sem] World.cell?_alloc_some frozen_alloc_some

set_option maxHeartbeats 6400000 in
theorem rcloneE_any (w : World) (e : En) (a : Option Addr) (cap : Nat) (h : EnW w (e, a, cap)) (hs : small (e, a, cap)) : Calls Tryd.prog 28 #[vP (e, a, cap)] w fun r w' => ∃ a2 c2, r = .returned (vP (e, a2, c2)) ∧ w'.ownsRow w.heap.size 45 4 (.slice a2 e.ts.length c2) e.ts.length (e.ts.flatMap c4) ∧ Below w.heap.size w w' := by
  have HT := mkHid h
  have HS : Hid (e.ts.length * 32 ≤ 140737488355328) := mkHid hs
  have HSRC : Hid (Src Tryd.prog 4 24 (.slice a e.ts.length cap) e.ts.length (e.ts.flatMap c4) ((w.alloc (oE e (.slice a e.ts.length cap))).alloc (oE zEn (.slice none 0 0)))) := mkHid ((Tks.below h (ba (ba (Below.refl _ w) _) _)).src)
  obtain ⟨ie, hi, hz0, hz1, hz2⟩ := info_parts info_task
  obtain ⟨zth, hzth⟩ : ∃ z : Value, z = .agg #[.int .i64 0, .int .i64 0, .int .i64 0, .int .i64 0] := ⟨_, rfl⟩
  rw [← hzth] at hz0
  have HZ : Hid (zth.cells.size = 4) := mkHid (by rw [hzth]; rfl)
  have hie := mkHid (And.intro hi (And.intro hz0 (And.intro hz1 hz2)))
  clear hzth hi hz0 hz1 hz2
  clear h hs
  simp only [vP, vN, tv]
  go_enter Tryd.func28, Tryd.ntmps28
  go_wp2_with (at_builtin; refine wpList_append_src4 _ rfl (.const (.slice none 0 0)) (.tmp 5) 24 24 rfl (w.heap.size + 1 + 1) 45 ie Tryd.underlying24 hie.out.1 zth 32 hie.out.2.1 HZ.out hie.out.2.2.1 hie.out.2.2.2 (.slice none 0 0) 0 [] rfl (World.ownsRow_nil _ _ _ _) _ e.ts.length (e.ts.flatMap c4) rfl HSRC.out (by have := HS.out; unfold maxLen; omega) (by have := HS.out; omega) (by simp) ?_; intro v2 w2 ho2 hg2 _; rw [Nat.zero_add, List.nil_append] at ho2; obtain ⟨a2, c2, rfl⟩ := own_shape ho2; have hb2 := (Below.refl ((w.alloc (oE e (.slice a e.ts.length cap))).alloc (oE zEn (.slice none 0 0))).heap.size ((w.alloc (oE e (.slice a e.ts.length cap))).alloc (oE zEn (.slice none 0 0)))).grown hg2 (Nat.le_refl _) (fun k hk => by simp [Value.ownBlock] at hk); have hx2 := (hb2.block w.heap.size (by simp; omega)).trans (two_facts (Below.refl _ _)).1; have hr2 := (hb2.block (w.heap.size + 1) (by simp)).trans (two_facts (Below.refl _ _)).2; obtain ⟨q0, q1, q2, q3, q4, q5, q6, q7, q8, q9⟩ := ent_cells hx2; obtain ⟨f0, f1, f2, f3, f4, f5, f6, f7, f8, f9⟩ := ent_frozen hx2; obtain ⟨r0, r1, r2, r3, r4, r5, r6, r7, r8, r9⟩ := ent_cells hr2; obtain ⟨g0, g1, g2, g3, g4, g5, g6, g7, g8, g9⟩ := ent_frozen hr2; have HO2 := mkHid (And.intro ho2 (two_below hb2)); have HX := mkHid (And.intro hx2 hr2); clear ho2 hb2 hx2 hr2)
  have k8 := Kept.setCell (F := fun k => k = w.heap.size) w2 (p := ⟨w.heap.size, 8, none⟩) rfl (.slice a2 e.ts.length c2)
  have k10 := set10_kept (F := fun k => k = w.heap.size ∨ k = w.heap.size + 1) (k8.mono (fun _ h => .inl h)) (b := w.heap.size + 1) (.inl (.inr rfl)) (.int .i64 e.cl) (.int .i64 e.nu) (.int .i64 e.ki) (.int .i64 e.id) (.int .i64 e.sk) (.int .i64 e.sq) (.int .i64 e.st) (.int .i64 e.po) (.slice a2 e.ts.length c2) (.int .i64 e.tm)
  have hr3 : (w2.setCell ⟨w.heap.size, 8, none⟩ (.slice a2 e.ts.length c2)).heap[w.heap.size + 1]? = _ := (k8.block _ (lt_of_heap HX.out.2) (by omega)).trans HX.out.2
  refine bodyPost_ret (ent_leaves1 rfl (set10_heap hr3 _ _ _ _ _ _ _ _ _ _) _ rfl) rfl ⟨a2, c2, rfl, own_up4 (own4_kept HO2.out.1 k10 (fun k e1 e2 => by have := (HO2.out.1.lt k e1).1; omega)) (by omega), HO2.out.2.trans (k10.below (fun k e => by omega) HO2.out.2.size)⟩
set_option maxHeartbeats 12800000 in
theorem rcloneL_any (w : World) (v : Value) (ps : List Ep) (h : Ens w v ps) (hl : ps.length * 96 ≤ 140737488355328) (hs : ∀ t ∈ ps, small t) : Calls Tryd.prog 42 #[v] w fun r w' => ∃ v' qs, r = .returned v' ∧ Led w.heap.size w' v' qs ∧ fs1 qs = fs1 ps ∧ Below w.heap.size w w' := by
  obtain ⟨ie2, hi, hz0, hz1, hz2⟩ := info_parts info_entry
  have hie2 := mkHid (And.intro hi (And.intro hz0 (And.intro hz1 hz2)))
  clear hi hz0 hz1 hz2
  have h' := h
  obtain ⟨a0, cap0, rfl, hl0, _⟩ := h'
  have HE := mkHid h
  have HS := mkHid hs
  have HL : Hid (ie2.bytes * ps.length ≤ 281474976710656 ∧ ps.length ≤ maxLen) := mkHid ⟨by rw [hie2.out.2.2.2]; omega, by unfold maxLen; omega⟩
  clear h hs hl
  go_enter Tryd.func42, Tryd.ntmps42
  go_wp2_with (refine wpList_make_full _ rfl (.tmp 7) (.tmp 7) 35 rfl w.heap.size 28 ie2 _ 10 Tryd.underlying35 hie2.out.1 hie2.out.2.1 hie2.out.2.2.1 .i64 .i64 (ps.length : Int) (ps.length : Int) ps.length rfl rfl rfl rfl HL.out.1 HL.out.2 (Nat.le_refl _) ?_; intro w1 ho1 hg1; rw [made_zeros] at ho1; have HO1 : Hid (Led w.heap.size w1 (.slice (some ⟨w.heap.size, 0, none⟩) ps.length ps.length) (List.replicate ps.length zp)) := mkHid ⟨(by rw [List.length_replicate]; exact ho1), fun t ht => (by rw [(List.mem_replicate.mp ht).2]; exact World.ownsRow_nil _ _ _ _), fun t ht k e => (by rw [(List.mem_replicate.mp ht).2] at e; simp [Value.ownBlock] at e)⟩; have HB1 : Hid (Below w.heap.size w w1 ∧ w.heap.size < w1.heap.size) := mkHid ⟨(Below.refl w.heap.size w).grown hg1 (Nat.le_refl _) (fun k hk => by simp at hk), (ho1.lt w.heap.size rfl).2⟩; clear ho1 hg1)
  go_loopw [11] (fun iv wr => ∃ (j : Nat) (qs : List Ep), iv = .int .i64 (j : Int) ∧ j ≤ ps.length ∧ qs.length = j ∧ Hid (fs1 qs = (fs1 ps).take j ∧ Led w.heap.size wr (.slice (some ⟨w.heap.size, 0, none⟩) ps.length ps.length) (qs ++ List.replicate (ps.length - j) zp) ∧ Below w.heap.size w wr ∧ w.heap.size < wr.heap.size)) (fun iv _ => ps.length - (intOf iv).toNat)
  case atStart => exact ⟨0, [], rfl, Nat.zero_le _, rfl, mkHid ⟨by simp, by simpa using HO1.out, HB1.out.1, HB1.out.2⟩⟩
  case round =>
    clear HO1 HB1
    obtain ⟨j, qs, rfl, hj, hqj, HI⟩ := hrel
    by_cases hlt : j < ps.length
    · obtain ⟨b, off, ⟨e, ta, tc⟩, rfl, hxj, hat, hew⟩ := HE.out.at HI.out.2.2.1 j hlt
      have hji : (j : Int) < ps.length := by omega
      obtain ⟨d0, d1, d2, d3, d4, d5, d6, d7, d8, d9⟩ := hat.ten
      simp only [tv] at d0 d1 d2 d3 d4 d5 d6 d7 d8 d9
      have HXJ := mkHid (And.intro hxj hew)
      have HSM := mkHid (HS.out _ (List.mem_of_getElem? hxj))
      have hrep : List.replicate (ps.length - j) zp = zp :: List.replicate (ps.length - (j + 1)) zp := by
        rw [show ps.length - j = ps.length - (j + 1) + 1 by omega, List.replicate_succ]
      have HLD : Hid (Led w.heap.size wr (.slice (some ⟨w.heap.size, 0, none⟩) ps.length ps.length) (qs ++ zp :: List.replicate (ps.length - (j + 1)) zp)) := mkHid (by rw [← hrep]; exact HI.out.2.1)
      clear hxj hat hew hrep
      go_wp2_with (go_at_call 28; refine (rcloneE_any _ e ta tc (EnW.below HXJ.out.2 (ba (Below.refl _ wr) _)) HSM.out).mono ?_; rintro r w2 ⟨a2, c2, rfl, ho2, hb2⟩; simp only [vP, vN, tv]; have HB2 : Hid (Below wr.heap.size wr w2) := mkHid (bt (ba (Below.refl _ wr) _) hb2); have HO2 : Hid (w2.ownsRow wr.heap.size 45 4 (.slice a2 e.ts.length c2) e.ts.length (e.ts.flatMap c4)) := mkHid (own_up4 ho2 (by simp)); have HL2 := mkHid (HLD.out.below HB2.out); obtain ⟨⟨q0, f0⟩, ⟨q1, f1⟩, ⟨q2, f2⟩, ⟨q3, f3⟩, ⟨q4, f4⟩, ⟨q5, f5⟩, ⟨q6, f6⟩, ⟨q7, f7⟩, ⟨q8, f8⟩, ⟨q9, f9⟩⟩ := led_ten HL2.out hqj; clear ho2 hb2)
      go_roundw
      case rel =>
        have hk := setAt_kept (F := fun k => w.heap.size ≤ k) (Kept.refl _ w2) (g := w.heap.size) (.inl (Nat.le_refl _)) (j * 10) (.int .i64 e.cl) (.int .i64 e.nu) (.int .i64 e.ki) (.int .i64 e.id) (.int .i64 e.sk) (.int .i64 e.sq) (.int .i64 e.st) (.int .i64 e.po) (.slice a2 e.ts.length c2) (.int .i64 e.tm)
        have hb2 := HB2.out
        have hst := HL2.out.store (t := (e, a2, c2)) (by simp; omega) (own_up4 HO2.out (by have := HI.out.2.2.1.size; omega)) (fun k e1 => by have := (HO2.out.lt k e1).1; have := HI.out.2.2.2; omega)
        rw [hqj] at hst
        refine ⟨j + 1, qs ++ [(e, a2, c2)], by go_num, by omega, by simp; omega, mkHid ⟨?_, by simpa using hst, (bt HI.out.2.2.1 hb2).trans (hk.below (fun _ h => h) (by have := HI.out.2.2.1.size; have := hb2.size; omega)), Nat.lt_of_lt_of_le (Nat.lt_of_lt_of_le HI.out.2.2.2 hb2.size) hk.size⟩⟩
        rw [List.take_add_one, fs1_at HXJ.out.1, fs1, List.map_append]
        show fs1 qs ++ _ = _
        rw [HI.out.1]
        rfl
      case measure => simp [intOf]; omega
    · obtain rfl : j = ps.length := by omega
      have hq := HI.out
      rw [Nat.sub_self, List.replicate_zero, List.append_nil, List.take_of_length_le (by simp)] at hq
      have HI2 := mkHid hq
      clear hq
      go_wp2
      go_ret
      exact ⟨_, qs, rfl, HI2.out.2.1, HI2.out.1, HI2.out.2.2.1⟩
end Go.Proofs.YtjocjkfllicjdaaDoor

