/- The entry whose numbers stand at the beginning of bytes: getEntry. -/
import Derived.Test.YtjocjkfllicjdaaDoorOget
import Derived.Test.YtjocjkfllicjdaaDoorOsame
namespace Go.Proofs.YtjocjkfllicjdaaDoor
open Go.ChangeShapes Go.WideShapes Go.ChangeAt Go.RowKit
set_option maxRecDepth 100000
attribute [local go_sem] World.cell?_alloc_some frozen_alloc_some

theorem step_append_src4 {P : Program} {ops : Array Oper} {o : Oper} {a : Act} {w : World} {K : Act → World → Prop} {Q : Exit → Act → World → Prop} {E : Prop} (hgd : o.guard = none) (sl x : Operand) (t tx : TypeId)
    (hop : o.op = .call { callee := .builtin .append, args := #[sl, x], argTypes := #[t, tx] })
    (base : Nat) (e : TypeId) (i : TypeInfo) (ht : P.underlying t = some (.slice e)) (hi : P.info? e = some i) (z : Value) (B : Nat) (hz : i.zero = some z) (hzs : z.cells.size = 4) (hsize : i.size = 4) (hby : i.bytes = B)
    (v : Value) (n : Nat) (xs : List Value) (hs : a.eval sl = v) (hown : w.ownsRow base e 4 v n xs) (xv : Value) (m : Nat) (news : List Value) (hx : a.eval x = xv) (hsrc : Src P 4 tx xv m news w)
    (h63 : n + m ≤ maxLen) (hbytes : (n + m) * B ≤ 140737488355328) (hbase : base ≤ w.heap.size)
    (h : ∀ v' w', w'.ownsRow base e 4 v' (n + m) (xs ++ news) → w.grownBy w' v.ownBlock → (v'.ownBlock = v.ownBlock ∨ v'.ownBlock = some w.heap.size) → K (a.put o.dst v') w') :
    if Region.wanted o (yielded ops a.tmps) = true then Oper.wp P o a w K Q else E := by
  have hw : Region.wanted o (yielded ops a.tmps) = true := by simp [Region.wanted, hgd]
  rw [if_pos hw]
  obtain ⟨v', w', hr, h2, h3, h4⟩ := run_append_own_src4 (P := P) w base t tx o.type e i ht hi z B hz hzs hsize hby v n xs hown xv m news hsrc h63 hbytes hbase
  unfold Oper.wp execOp
  simp only [hop, resolve, invoke, builtin, Sem.run_bind, Sem.run_pure, Result.andThen_ok, List.map_toArray, List.map_cons, List.map_nil, hs, hx, hr]
  exact h v' w' h2 h3 h4
theorem src_task (w : World) (t : Tk) : Src Tryd.prog 4 24 (.slice (some ⟨w.heap.size, 0, none⟩) 1 1) 1 (c4 t) (w.alloc (.cells #[.int .i64 t.1, .int .i64 t.2.1, .int .i64 t.2.2.1, .int .i64 t.2.2.2] 45)) := by
  refine Src.ofSlice _ Tryd.underlying24 _ 1 1 _ rfl (fun j u hj => ?_) (fun u hu => by simp [c4] at hu; rcases hu with rfl | rfl | rfl | rfl <;> rfl)
  have hn := heap_alloc_new w (.cells #[.int .i64 t.1, .int .i64 t.2.1, .int .i64 t.2.2.1, .int .i64 t.2.2.2] 45)
  rw [add_none]
  match j, hj with
  | 0, hj => simp [c4] at hj; subst hj; exact cell_of_block hn rfl
  | 1, hj => simp [c4] at hj; subst hj; exact cell_of_block hn rfl
  | 2, hj => simp [c4] at hj; subst hj; exact cell_of_block hn rfl
  | 3, hj => simp [c4] at hj; subst hj; exact cell_of_block hn rfl
  | j + 4, hj => simp [c4] at hj
def S4 (w' : World) (h : Nat) (x0 x1 x2 x3 : Int) : Prop := w'.cell? ⟨h, 0, none⟩ = some (.int .i64 x0) ∧ w'.cell? ⟨h, 1, none⟩ = some (.int .i64 x1) ∧ w'.cell? ⟨h, 2, none⟩ = some (.int .i64 x2) ∧ w'.cell? ⟨h, 3, none⟩ = some (.int .i64 x3)
theorem own_up4 {w : World} {b c : Nat} {e : TypeId} {v : Value} {n : Nat} {xs : List Value} (h : w.ownsRow c e 4 v n xs) (hb : b ≤ c) : w.ownsRow b e 4 v n xs :=
  ⟨h.1, h.2.imp id (fun ⟨g, cap, cur, e, hg, rest⟩ => ⟨g, cap, cur, e, Nat.le_trans hb hg, rest⟩)⟩
theorem own4_kept {G : Nat → Prop} {w w' : World} {b : Nat} {e : TypeId} {v : Value} {n : Nat} {xs : List Value} (h : w.ownsRow b e 4 v n xs) (hk : Kept G w w') (hn : ∀ k, v.ownBlock = some k → ¬ G k) : w'.ownsRow b e 4 v n xs := by
  refine ⟨h.1, ?_⟩
  rcases h.2 with h1 | ⟨g, cap, cur, rfl, hbg, hg, rest⟩
  · exact .inl h1
  · exact .inr ⟨g, cap, cur, rfl, hbg, by rw [hk.block g (by have := (h.lt g rfl).2; exact this) (hn g rfl)]; exact hg, rest⟩
theorem nine_cells {w : World} {b : Nat} {ty : TypeId} {c0 c1 c2 c3 c4 c5 c6 c7 c8 : Value} (h : w.heap[b]? = some (.cells #[c0, c1, c2, c3, c4, c5, c6, c7, c8] ty (0, 0))) : w.cell? ⟨b, 0, none⟩ = some c0 ∧ w.cell? ⟨b, 1, none⟩ = some c1 ∧ w.cell? ⟨b, 2, none⟩ = some c2 ∧ w.cell? ⟨b, 3, none⟩ = some c3 ∧ w.cell? ⟨b, 4, none⟩ = some c4 ∧ w.cell? ⟨b, 5, none⟩ = some c5 ∧ w.cell? ⟨b, 6, none⟩ = some c6 ∧ w.cell? ⟨b, 7, none⟩ = some c7 ∧ w.cell? ⟨b, 8, none⟩ = some c8 :=
  ⟨cell_of_block h rfl, cell_of_block h rfl, cell_of_block h rfl, cell_of_block h rfl, cell_of_block h rfl, cell_of_block h rfl, cell_of_block h rfl, cell_of_block h rfl, cell_of_block h rfl⟩
theorem ent_frozen {w : World} {b : Nat} {cs : Array Value} (h : w.heap[b]? = some (.cells cs 28 (0, 0))) : w.frozen? ⟨b, 0, none⟩ = false ∧ w.frozen? ⟨b, 1, none⟩ = false ∧ w.frozen? ⟨b, 2, none⟩ = false ∧ w.frozen? ⟨b, 3, none⟩ = false ∧ w.frozen? ⟨b, 4, none⟩ = false ∧ w.frozen? ⟨b, 5, none⟩ = false ∧ w.frozen? ⟨b, 6, none⟩ = false ∧ w.frozen? ⟨b, 7, none⟩ = false ∧ w.frozen? ⟨b, 8, none⟩ = false ∧ w.frozen? ⟨b, 9, none⟩ = false :=
  ⟨frozen_of_block h, frozen_of_block h, frozen_of_block h, frozen_of_block h, frozen_of_block h, frozen_of_block h, frozen_of_block h, frozen_of_block h, frozen_of_block h, frozen_of_block h⟩
abbrev set10 (w : World) (b : Nat) (v0 v1 v2 v3 v4 v5 v6 v7 v8 v9 : Value) : World := (((((((((w.setCell ⟨b, 0, none⟩ v0).setCell ⟨b, 1, none⟩ v1).setCell ⟨b, 2, none⟩ v2).setCell ⟨b, 3, none⟩ v3).setCell ⟨b, 4, none⟩ v4).setCell ⟨b, 5, none⟩ v5).setCell ⟨b, 6, none⟩ v6).setCell ⟨b, 7, none⟩ v7).setCell ⟨b, 8, none⟩ v8).setCell ⟨b, 9, none⟩ v9
theorem set10_heap {w : World} {b : Nat} {c0 c1 c2 c3 c4 c5 c6 c7 c8 c9 : Value} {ty : TypeId} (h : w.heap[b]? = some (.cells #[c0, c1, c2, c3, c4, c5, c6, c7, c8, c9] ty (0, 0))) (v0 v1 v2 v3 v4 v5 v6 v7 v8 v9 : Value) : (set10 w b v0 v1 v2 v3 v4 v5 v6 v7 v8 v9).heap[b]? = some (.cells #[v0, v1, v2, v3, v4, v5, v6, v7, v8, v9] ty (0, 0)) := by
  unfold set10
  rw [heap_set (heap_set (heap_set (heap_set (heap_set (heap_set (heap_set (heap_set (heap_set (heap_set h)))))))))]
  kernel_rfl
theorem kset {F : Nat → Prop} {w w' : World} (h : Kept F w w') {b : Nat} (hb : F b ∨ w.heap.size ≤ b) (k : Nat) (v : Value) : Kept F w (w'.setCell ⟨b, k, none⟩ v) :=
  h.trans (Kept.setCell (F := fun i => i = b) w' (p := ⟨b, k, none⟩) rfl v) (fun i e => by subst e; exact hb)
theorem set10_kept {F : Nat → Prop} {w w' : World} (h : Kept F w w') {b : Nat} (hb : F b ∨ w.heap.size ≤ b) (v0 v1 v2 v3 v4 v5 v6 v7 v8 v9 : Value) : Kept F w (set10 w' b v0 v1 v2 v3 v4 v5 v6 v7 v8 v9) :=
  kset (kset (kset (kset (kset (kset (kset (kset (kset (kset h hb 0 v0) hb 1 v1) hb 2 v2) hb 3 v3) hb 4 v4) hb 5 v5) hb 6 v6) hb 7 v7) hb 8 v8) hb 9 v9
theorem results_cell_tmp {fn : Func} {p u : Tmp} {ty : TypeId} (h : fn.results = #[.cell p ty, .tmp u]) (tmps : Array Value) (P : Program) (w : World) :
    (results fn tmps).run P w = ((asAddr (tmps.getD p undef)).run P w).andThen fun a w₁ => ((loadVar ty a).run P w₁).andThen fun v w₂ => .ok (.tuple #[v, tmps.getD u undef]) w₂ := by
  simp only [results, h]
  simp [Sem.run_bind, Result.andThen]
theorem ent_leaves {W : World} {R : Nat} {p u : Tmp} {fn : Func} {c0 c1 c2 c3 c4 c5 c6 c7 c8 c9 : Value} (hf : fn.results = #[.cell p 28, .tmp u]) (hR : W.heap[R]? = some (.cells #[c0, c1, c2, c3, c4, c5, c6, c7, c8, c9] 28 (0, 0))) (tmps : Array Value) (h2 : tmps.getD p undef = .pointer (some ⟨R, 0, none⟩)) : (results fn tmps).run Tryd.prog W = .ok (.tuple #[.agg #[c0, c1, c2, c3, c4, c5, c6, c7, c8, c9], tmps.getD u undef]) W := by
  have hl := run_loadVar_row (P := Tryd.prog) W R 28 28 #[c0, c1, c2, c3, c4, c5, c6, c7, c8, c9] (0, 0) _ hR Tryd.underlying28 rfl sizeE
  rw [results_cell_tmp hf, h2]
  simp [asAddr, Result.andThen, hl]
theorem encN_cons (n : Nat) (l : List Int) : encL ((n : Int) :: l) = enc n ++ encL l := by rw [encL_cons, Int.toNat_natCast]
theorem keptF {F : Nat → Prop} {w w' : World} (h : Kept (fun k => F k ∨ w.heap.size ≤ k) w w') : Kept F w w' := ⟨h.os, h.tape, h.output, h.size, fun k hk hn => h.block k hk (fun e => by rcases e with e | e; exact hn e; omega)⟩
def okN (e : En) : Prop := e.ts.length ≤ 8 ∧ ∀ n ∈ nums e, amt n
theorem okN.head {e : En} (h : okN e) : ∀ n ∈ hnum e, amt n := fun n hn => h.2 n (by simp [nums, hn])
theorem okN.task {e : En} (h : okN e) {t : Tk} (ht : t ∈ e.ts) : ∀ n ∈ tnum t, amt n := fun n hn => h.2 n (by simp only [nums, List.mem_append, List.mem_cons, List.mem_flatMap]; exact .inr (.inr ⟨t, ht, hn⟩))
theorem okN.part {e : En} (h : okN e) (j : Nat) : ((encL (hnum e) ++ enc e.ts.length ++ encL ((e.ts.take j).flatMap tnum)).length : Int) ≤ 1000 := by
  have l1 := encL_len (hnum e) (fun n hn => by have := (h.head n hn).2; omega)
  have l2 := enc_len9 e.ts.length (by have := h.1; omega)
  have l3 := encL_len ((e.ts.take j).flatMap tnum) (fun n hn => by
    obtain ⟨t, hm, hn⟩ := List.mem_flatMap.mp hn
    have := (h.task (List.mem_of_mem_take hm) n hn).2
    omega)
  have := h.1
  rw [tnum_len, List.length_take] at l3
  have l4 : (hnum e).length = 9 := rfl
  simp only [List.length_append]
  omega
end Go.Proofs.YtjocjkfllicjdaaDoor
