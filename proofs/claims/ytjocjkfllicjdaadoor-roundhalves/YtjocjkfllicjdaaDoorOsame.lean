/- Whether two entries, two ledgers are the same. -/
import Derived.Test.YtjocjkfllicjdaaDoorOput
import Derived.BigQuiet
import Derived.DeepKeys
import Derived.Deep.RegionWith
namespace Go.Proofs.YtjocjkfllicjdaaDoor
open Go.ChangeShapes Go.WideShapes Go.ChangeAt Go.RowKit
set_option maxRecDepth 100000
attribute [local go_sem] World.cell?_alloc_some frozen_alloc_some

theorem drb {B : Nat} {W w : World} (h : Below B W w) (n : Nat) : Below B W (w.drewN n) := h.trans ⟨rfl, rfl, rfl, Nat.le_refl _, fun _ _ => rfl⟩
theorem eq9 (w : World) (e f : En) : (Op.equalIn 10000 100 (.agg #[.int .i64 e.cl, .int .i64 e.nu, .int .i64 e.ki, .int .i64 e.tm, .int .i64 e.id, .int .i64 e.sk, .int .i64 e.sq, .int .i64 e.st, .int .i64 e.po]) (.agg #[.int .i64 f.cl, .int .i64 f.nu, .int .i64 f.ki, .int .i64 f.tm, .int .i64 f.id, .int .i64 f.sk, .int .i64 f.sq, .int .i64 f.st, .int .i64 f.po])).run Tryd.prog w = .ok (decide (hnum e = hnum f)) w := by
  have u3 := Tryd.underlying3
  have a3 := Tryd.isAgg3
  have z3 := Tryd.sizeOf3
  rw [show (10000 : Nat) = 9999 + 1 from rfl, Op.equalIn]
  simp only [Sem.run_bind, run_underlying Tryd.underlying100, Result.andThen_ok]
  simp only [Std.Legacy.Range.forIn_eq_forIn_range', Std.Legacy.Range.size, Nat.sub_zero, Nat.add_sub_cancel, Nat.div_one, List.range'_succ, List.range'_zero, List.forIn_cons, List.forIn_nil]
  go_simp
  by_cases h0 : e.cl = f.cl
  case neg => simp [h0, hnum]
  by_cases h1 : e.nu = f.nu
  case neg => simp [h0, h1, hnum]
  by_cases h2 : e.ki = f.ki
  case neg => simp [h0, h1, h2, hnum]
  by_cases h3 : e.tm = f.tm
  case neg => simp [h0, h1, h2, h3, hnum]
  by_cases h4 : e.id = f.id
  case neg => simp [h0, h1, h2, h3, h4, hnum]
  by_cases h5 : e.sk = f.sk
  case neg => simp [h0, h1, h2, h3, h4, h5, hnum]
  by_cases h6 : e.sq = f.sq
  case neg => simp [h0, h1, h2, h3, h4, h5, h6, hnum]
  by_cases h7 : e.st = f.st
  case neg => simp [h0, h1, h2, h3, h4, h5, h6, h7, hnum]
  by_cases h8 : e.po = f.po
  case neg => simp [h0, h1, h2, h3, h4, h5, h6, h7, h8, hnum]
  simp [h0, h1, h2, h3, h4, h5, h6, h7, h8, hnum]
theorem eqT (w : World) (a0 a1 a2 a3 b0 b1 b2 b3 : Int) : (Op.equalIn 10000 45 (.agg #[.int .i64 a0, .int .i64 a1, .int .i64 a2, .int .i64 a3]) (.agg #[.int .i64 b0, .int .i64 b1, .int .i64 b2, .int .i64 b3])).run Tryd.prog w = .ok (decide ((a0, a1, a2, a3) = (b0, b1, b2, b3))) w := by
  go_simp
  by_cases h0 : a0 = b0
  case neg => simp [h0]
  by_cases h1 : a1 = b1
  case neg => simp [h0, h1]
  by_cases h2 : a2 = b2
  case neg => simp [h0, h1, h2]
  by_cases h3 : a3 = b3
  case neg => simp [h0, h1, h2, h3]
  simp [h0, h1, h2, h3]
attribute [local go_sem] eq9 eqT
theorem hnum_len (e : En) : (hnum e).length = 9 := rfl
theorem en_eq {e f : En} : e = f ↔ hnum e = hnum f ∧ e.ts = f.ts := by
  cases e; cases f
  simp only [hnum, En.mk.injEq, List.cons.injEq]
  constructor
  · rintro ⟨rfl, rfl, rfl, rfl, rfl, rfl, rfl, rfl, rfl, rfl⟩; simp
  · rintro ⟨⟨rfl, rfl, rfl, rfl, rfl, rfl, rfl, rfl, rfl, _⟩, rfl⟩; simp
theorem two_facts {w w' : World} {o1 o2 : Obj} (hb : Below ((w.alloc o1).alloc o2).heap.size ((w.alloc o1).alloc o2) w') : w'.heap[w.heap.size]? = some o1 ∧ w'.heap[w.heap.size + 1]? = some o2 := by
  rw [hb.block _ (by simp; omega), hb.block _ (by simp)]
  exact ⟨(heap_alloc_old _ _ (by simp)).trans (heap_alloc_new w o1), two_of_two w o1 o2⟩
theorem two_below {w w' : World} {o1 o2 : Obj} (hb : Below ((w.alloc o1).alloc o2).heap.size ((w.alloc o1).alloc o2) w') : Below w.heap.size w w' := bt (ba (ba (Below.refl _ w) o1) o2) hb
theorem takeD {P : Program} {md : Region.Mode} {ops : Array Oper} {Q : Exit → Act → World → Prop} {S : World → Prop} {fuel : Nat} {listed : Array Bool} {l : List Value} {df : List Deferred} {w : World} {oi : Oper} (i d : Nat) (v : Value) (hi : ops[i]? = some oi) (hd : oi.dst = some d)
    (hs : Region.noSelect ops = true) (hf : Region.free md ops listed i = true) (hr : (Region.ready md ops listed).contains i = true)
    (hQ : ∀ c a w, Q (.panic c) (a.put oi.dst v) w → Q (.panic c) a w) (hy : YieldsIf P ops S oi v ⟨l.toArray, df⟩) (hS : S w)
    (h : wpAnyH P md ops Q S fuel (listed.setIfInBounds i true) ⟨(l.set d v).toArray, df⟩ w) : wpAnyH P md ops Q S (fuel + 1) listed ⟨l.toArray, df⟩ w := by
  refine wpAnyH_take hi hs hf hr hQ hy hS ?_
  rw [hd]
  simpa [Act.put] using h
end Go.Proofs.YtjocjkfllicjdaaDoor
