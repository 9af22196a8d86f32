/- Parts of lists of servers and tasks, as letters; what is appended within a drawn region. -/
import Derived.Test.YtnmmphnaelpjdaaDoorAd6
namespace Go.Proofs.YtnmmphnaelpjdaaDoor
open Go.ChangeShapes Go.WideShapes Go.ChangeAt Go.RowKit
set_option maxRecDepth 100000

theorem step_append_src3 {P : Program} {ops : Array Oper} {o : Oper} {a : Act} {w : World} {K : Act → World → Prop} {Q : Exit → Act → World → Prop} {E : Prop} (hgd : o.guard = none) (sl x : Operand) (t tx : TypeId)
    (hop : o.op = .call { callee := .builtin .append, args := #[sl, x], argTypes := #[t, tx] })
    (base : Nat) (e : TypeId) (i : TypeInfo) (ht : P.underlying t = some (.slice e)) (hi : P.info? e = some i) (z : Value) (B : Nat) (hz : i.zero = some z) (hzs : z.cells.size = 3) (hsize : i.size = 3) (hby : i.bytes = B)
    (v : Value) (n : Nat) (xs : List Value) (hs : a.eval sl = v) (hown : w.ownsRow base e 3 v n xs) (xv : Value) (m : Nat) (news : List Value) (hx : a.eval x = xv) (hsrc : Src P 3 tx xv m news w)
    (h63 : n + m ≤ maxLen) (hbytes : (n + m) * B ≤ 140737488355328) (hbase : base ≤ w.heap.size)
    (h : ∀ v' w', w'.ownsRow base e 3 v' (n + m) (xs ++ news) → w.grownBy w' v.ownBlock → (v'.ownBlock = v.ownBlock ∨ v'.ownBlock = some w.heap.size) → K (a.put o.dst v') w') :
    if Region.wanted o (yielded ops a.tmps) = true then Oper.wp P o a w K Q else E := by
  have hw : Region.wanted o (yielded ops a.tmps) = true := by simp [Region.wanted, hgd]
  rw [if_pos hw]
  obtain ⟨v', w', hr, h2, h3, h4⟩ := run_append_own_src3 (P := P) w base t tx o.type e i ht hi z B hz hzs hsize hby v n xs hown xv m news hsrc h63 hbytes hbase
  unfold Oper.wp execOp
  simp only [hop, resolve, invoke, builtin, Sem.run_bind, Sem.run_pure, Result.andThen_ok, List.map_toArray, List.map_cons, List.map_nil, hs, hx, hr]
  exact h v' w' h2 h3 h4
theorem sizeS (W : World) : (Go.sizeOf 23).run Tryd.prog W = .ok 3 W := by
  obtain ⟨i0, hi, hz0, hz1, hz2⟩ := info_parts info_server
  simp [Go.sizeOf, typeInfo, hi, hz1]
theorem elemS : Tryd.prog.underlying 24 = some (.slice (Tryd.prog.elem 24)) ∧ Tryd.prog.elem 24 = 23 := by
  simp [Program.elem, Tryd.underlying24]
theorem sizeT (W : World) : (Go.sizeOf 64).run Tryd.prog W = .ok 4 W := by
  obtain ⟨i0, hi, hz0, hz1, hz2⟩ := info_parts info_task
  simp [Go.sizeOf, typeInfo, hi, hz1]
theorem elemT : Tryd.prog.underlying 36 = some (.slice (Tryd.prog.elem 36)) ∧ Tryd.prog.elem 36 = 64 := by
  simp [Program.elem, Tryd.underlying36]
theorem Svs.slicedM {w : World} {a : Option Addr} {cap f t m : Nat} {xs : List Sv} (h : Svs w (.slice a xs.length cap) xs) (h1 : f ≤ t) (h2 : t ≤ xs.length) (hm : t ≤ m) : Svs w (Go.sliced a f t m 3) ((xs.drop f).take (t - f)) := by
  obtain ⟨a', cap', e, hl, hr⟩ := h
  simp at e
  obtain ⟨rfl, rfl⟩ := e
  have hlen : ((xs.drop f).take (t - f)).length = t - f := by rw [List.length_take, List.length_drop]; omega
  refine ⟨_, m - f, by unfold Go.sliced; rw [hlen], by rw [hlen]; omega, fun hp => ?_⟩
  rw [hlen] at hp
  obtain ⟨b, off, rfl, hcell⟩ := hr (by omega)
  refine ⟨b, off + f * 3, ?_, fun i x hi => ?_⟩
  · rw [if_neg (by omega)]
    simp [add_none]
  · have hi2 : i < t - f := by have := (List.getElem?_eq_some_iff.mp hi).1; omega
    rw [List.getElem?_take_of_lt hi2, List.getElem?_drop] at hi
    have := hcell (f + i) x hi
    rwa [show off + (f + i) * 3 = off + f * 3 + i * 3 by omega] at this
theorem Svs.headS {w : World} {a : Option Addr} {cap : Nat} {xs : List Sv} (h : Svs w (.slice a xs.length cap) xs) (hc : xs.length ≤ cap) (T : Int) (t : Nat) (hT : T = t) (h2 : t ≤ xs.length) :
    ∃ v', (∀ W, (Instr.slice 24 (.slice a xs.length cap) none (some (.int .i64 T)) none).run Tryd.prog W = .ok v' W) ∧ Svs w v' (xs.take t) := by
  subst hT
  refine ⟨Go.sliced a 0 t cap 3, fun W => ?_, ?_⟩
  · rw [run_slice_h W 24 _ _ _ elemS.1 .i64 _ (by omega) (by omega), elemS.2, sizeS]
    simp [Result.andThen]
  · simpa using h.slicedM (f := 0) (Nat.zero_le _) h2 (show t ≤ cap by omega)
theorem Svs.tailS {w : World} {a : Option Addr} {cap : Nat} {xs : List Sv} (h : Svs w (.slice a xs.length cap) xs) (hc : xs.length ≤ cap) (F : Int) (f : Nat) (hF : F = f) (h1 : f ≤ xs.length) :
    ∃ v', (∀ W, (Instr.slice 24 (.slice a xs.length cap) (some (.int .i64 F)) none none).run Tryd.prog W = .ok v' W) ∧ Svs w v' (xs.drop f) := by
  subst hF
  refine ⟨Go.sliced a f xs.length cap 3, fun W => ?_, ?_⟩
  · rw [run_slice_l W 24 _ _ _ elemS.1 .i64 _ (by omega) (by omega), elemS.2, sizeS]
    simp [Result.andThen]
  · have := h.slicedM h1 (Nat.le_refl _) hc
    rwa [List.take_of_length_le (by rw [List.length_drop]; omega)] at this
theorem Tks.head3S {w : World} {a : Option Addr} {cap : Nat} {xs : List Tk} (h : Tks w (.slice a xs.length cap) xs) (hc : xs.length ≤ cap) (T : Int) (t : Nat) (hT : T = t) (h0 : 0 < t) (h2 : t ≤ xs.length) :
    ∃ a', (∀ W, (Instr.slice 36 (.slice a xs.length cap) none (some (.int .i64 T)) (some (.int .i64 T))).run Tryd.prog W = .ok (.slice a' (xs.take t).length t) W) ∧ Tks w (.slice a' (xs.take t).length t) (xs.take t) := by
  subst hT
  have hlen : (xs.take t).length = t := by rw [List.length_take]; omega
  rw [hlen]
  refine ⟨a, fun W => ?_, ?_⟩
  · rw [run_slice_hm W 36 _ _ _ elemT.1 .i64 .i64 _ _ (by omega) (by omega) (by omega), elemT.2, sizeT]
    simp [Result.andThen, Go.sliced]
    intro _
    cases a <;> simp [Addr.add]
  · obtain ⟨a', cap', e, hl, hr⟩ := h
    simp at e
    obtain ⟨rfl, rfl⟩ := e
    refine ⟨a, t, by rw [hlen], by rw [hlen]; omega, fun hp => ?_⟩
    rw [hlen] at hp
    obtain ⟨b, off, rfl, hcell⟩ := hr (by omega)
    refine ⟨b, off, rfl, fun i x hi => ?_⟩
    have hi2 : i < t := by have := (List.getElem?_eq_some_iff.mp hi).1; omega
    rw [List.getElem?_take_of_lt hi2] at hi
    exact hcell i x hi
theorem yields_slice {P : Program} {oi : Oper} {a : Act} {t : TypeId} {x : Operand} {lo hi mx : Option Operand} {v : Value} (hop : oi.op = .slice t x lo hi mx) (hu : P.underlying t = some (.slice (P.elem t))) (h : ∀ W, (Instr.slice t (a.eval x) (lo.map a.eval) (hi.map a.eval) (mx.map a.eval)).run P W = .ok v W) (w : World) : Sem.run P (execOp a.eval oi) w = .ok (.value v) w := by
  unfold execOp
  simp only [hop]
  simp [run_sliceAt_slice w t _ _ _ _ hu, h w]
end Go.Proofs.YtnmmphnaelpjdaaDoor
