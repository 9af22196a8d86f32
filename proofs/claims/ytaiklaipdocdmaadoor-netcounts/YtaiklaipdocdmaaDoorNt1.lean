/- What lies where: rows of values in memory, what a call may write. -/
import Derived.Test.YtaiklaipdocdmaaDoorLaid
import Derived.Test.YtaiklaipdocdmaaDoorWriter
import Derived.Test.YtaiklaipdocdmaaDoorSrc4
import Derived.Test.YtaiklaipdocdmaaDoorSrcV
import Derived.Below
import Derived.BigQuiet
import Derived.Deep.RegionHeld3
import Derived.Deep.AppendSrc
import Derived.Lib.SliceRun
import Derived.Laws.CopyRow
namespace Go.Proofs.YtaiklaipdocdmaaDoor
open Go.ChangeShapes Go.WideShapes Go.ChangeAt Go.RowKit
set_option maxRecDepth 100000

theorem ba {W w : World} (h : Below W.heap.size W w) (o : Obj) : Below W.heap.size W (w.alloc o) := h.alloc h.size o
theorem bt {W w w1 : World} (h : Below W.heap.size W w) (hb : Below w.heap.size w w1) : Below W.heap.size W w1 := h.trans (hb.mono h.size)
theorem kc {w w1 : World} {a : Addr} {v : Value} (h : w.cell? a = some v) (hb : Below w.heap.size w w1) : w1.cell? a = some v :=
  (hb.cell (p := a) (World.block_lt_of_cell? w a h)).trans h
theorem kl {w : World} {a : Addr} {v : Value} (h : w.cell? a = some v) (o : Obj) : (w.alloc o).cell? a = some v := kc h ((Below.refl _ _).alloc (Nat.le_refl _) _)
theorem wfit {n : Int} (h1 : -9223372036854775808 ≤ n) (h2 : n ≤ 9223372036854775807) : IntKind.i64.wrap n = n := by rw [IntKind.wrap_i64]; omega
theorem new_last {w w3 : World} {o : Obj} (h : Below (w.alloc o).heap.size (w.alloc o) w3) : w3.heap[w.heap.size]? = some o ∧ Below w.heap.size w w3 := by
  have hz : (w.alloc o).heap.size = w.heap.size + 1 := by simp
  refine ⟨by rw [h.block _ (by omega)]; exact heap_alloc_new w o, ((Below.refl _ w).alloc (Nat.le_refl _) o).trans (h.mono (by omega))⟩
theorem hold {w w' : World} {b : Nat} {o : Obj} (h : w.heap[b]? = some o) (hb : Below w.heap.size w w') : w'.heap[b]? = some o := by
  rw [hb.block _ (Array.getElem?_eq_some_iff.1 h).1]; exact h
abbrev vE (a : Addr) : Value := .iface 176 (.pointer (some a))
/-- Values one behind the other, each of n cells. -/
theorem fl_len {α : Type} (f : α → List Value) (n : Nat) (hf : ∀ x, (f x).length = n) (xs : List α) : (xs.flatMap f).length = xs.length * n := by
  induction xs with
  | nil => simp
  | cons x r ih => rw [List.flatMap_cons, List.length_append, hf, ih, List.length_cons, Nat.add_mul]; omega
theorem fl_get {α : Type} (f : α → List Value) (n : Nat) (hf : ∀ x, (f x).length = n) : ∀ (xs : List α) (i r : Nat) (x : α), xs[i]? = some x → r < n → (xs.flatMap f)[i * n + r]? = (f x)[r]?
  | [], i, r, x, hx, _ => by simp at hx
  | y :: l, 0, r, x, hx, hr => by
    simp at hx
    subst hx
    rw [List.flatMap_cons, Nat.zero_mul, Nat.zero_add, List.getElem?_append_left (by rw [hf]; exact hr)]
  | y :: l, i + 1, r, x, hx, hr => by
    simp at hx
    have e : (i + 1) * n + r - n = i * n + r := by rw [Nat.add_mul]; omega
    rw [List.flatMap_cons, List.getElem?_append_right (by rw [hf, Nat.add_mul]; omega), hf, e]
    exact fl_get f n hf l i r x hx hr
/-- Values of n cells each, one behind the other. -/
def RowIn {α : Type} (n : Nat) (f : α → List Value) (w : World) (v : Value) (xs : List α) : Prop :=
  ∃ a cap, v = .slice a xs.length cap ∧ xs.length ≤ cap ∧ (xs.length : Int) ≤ 9223372036854775807 ∧ (0 < xs.length → ∃ b off, a = some ⟨b, off, none⟩ ∧ ∀ i x, xs[i]? = some x → ∀ r u, r < n → (f x)[r]? = some u → w.cell? ⟨b, off + i * n + r, none⟩ = some u)
theorem RowIn.below {α : Type} {n : Nat} {f : α → List Value} {w w' : World} {v : Value} {xs : List α} (h : RowIn n f w v xs) (hb : Below w.heap.size w w') : RowIn n f w' v xs := by
  obtain ⟨a, cap, rfl, hc, hl, hr⟩ := h
  refine ⟨a, cap, rfl, hc, hl, fun hp => ?_⟩
  obtain ⟨b, off, rfl, hx⟩ := hr hp
  exact ⟨b, off, rfl, fun i x hi r u hr hu => kc (hx i x hi r u hr hu) hb⟩
theorem RowIn.shape {α : Type} {n : Nat} {f : α → List Value} {w : World} {v : Value} {xs : List α} (h : RowIn n f w v xs) : ∃ a cap, v = .slice a xs.length cap ∧ xs.length ≤ cap := by
  obtain ⟨a, cap, rfl, hc, hl, hr⟩ := h
  exact ⟨a, cap, rfl, hc⟩
theorem RowIn.at {α : Type} {n : Nat} {f : α → List Value} {w w' : World} {a : Option Addr} {l cap : Nat} {xs : List α} (h : RowIn n f w (.slice a l cap) xs) (hb : Below w.heap.size w w') (i : Nat) (hi : i < xs.length) : ∃ b off x, a = some ⟨b, off, none⟩ ∧ xs[i]? = some x ∧ ∀ r u, r < n → (f x)[r]? = some u → w'.cell? ⟨b, off + i * n + r, none⟩ = some u := by
  obtain ⟨a', cap', e, _, _, hr⟩ := h.below hb
  simp at e
  obtain ⟨rfl, rfl, rfl⟩ := e
  obtain ⟨b, off, rfl, hc⟩ := hr (by omega)
  obtain ⟨x, hx⟩ : ∃ x, xs[i]? = some x := ⟨_, List.getElem?_eq_getElem hi⟩
  exact ⟨b, off, x, rfl, hx, hc i x hx⟩
theorem RowIn.src {α : Type} {n : Nat} {f : α → List Value} {w : World} {v : Value} {xs : List α} {ty e : TypeId} (hu : Tryd.prog.underlying ty = some (.slice e)) (hn : 0 < n) (hf : ∀ x, (f x).length = n) (h1 : ∀ x, ∀ u ∈ f x, u.oneCell' = true) (h : RowIn n f w v xs) : Src Tryd.prog n ty v xs.length (xs.flatMap f) w := by
  obtain ⟨a, cap, rfl, _, _, hr⟩ := h
  have hl := fl_len f n hf xs
  cases a with
  | none =>
    have hv : xs = [] := by
      by_cases hp : 0 < xs.length
      · obtain ⟨b, off, e, _⟩ := hr hp
        simp at e
      · exact List.length_eq_zero_iff.mp (by omega)
    subst hv
    exact Src.ofNil w hu cap
  | some ad =>
    refine Src.ofSlice w hu ad _ cap _ hl (fun j u hj => ?_) (fun u hm => ?_)
    · have hjl : j < xs.length * n := by rw [← hl]; exact (List.getElem?_eq_some_iff.mp hj).1
      have hp : 0 < xs.length := Nat.pos_of_ne_zero (fun e => by rw [e, Nat.zero_mul] at hjl; omega)
      obtain ⟨b, off, e, hcell⟩ := hr hp
      simp at e
      subst e
      have hi : j / n < xs.length := Nat.div_lt_of_lt_mul (by rw [Nat.mul_comm]; exact hjl)
      have hjn : j / n * n + j % n = j := by rw [Nat.mul_comm]; exact Nat.div_add_mod j n
      obtain ⟨x, hx⟩ : ∃ x, xs[j / n]? = some x := ⟨_, List.getElem?_eq_getElem hi⟩
      have hr4 := Nat.mod_lt j hn
      rw [← hjn, fl_get f n hf xs (j / n) (j % n) x hx hr4] at hj
      have := hcell (j / n) x hx (j % n) u hr4 hj
      rw [add_none]
      rw [Nat.add_assoc, hjn] at this
      exact this
    · obtain ⟨x, _, hx⟩ := List.mem_flatMap.mp hm
      exact h1 x u hx
theorem RowIn.of_owns {α : Type} {n : Nat} {f : α → List Value} {w : World} {base : Nat} {v : Value} {xs : List α} {e : TypeId} (hf : ∀ x, (f x).length = n) (hl : (xs.length : Int) ≤ 9223372036854775807) (h : w.ownsRow base e n v xs.length (xs.flatMap f)) : RowIn n f w v xs := by
  obtain ⟨_, ⟨rfl, hn⟩ | ⟨g, cap, cur, rfl, hbg, hg, hnc, hcm, hcs, htake⟩⟩ := id h
  · have : xs = [] := List.eq_nil_of_length_eq_zero hn
    subst this
    exact ⟨none, 0, rfl, Nat.le_refl _, by simp, fun hp => by simp at hp⟩
  · refine ⟨_, _, rfl, hnc, hl, fun hp => ⟨g, 0, rfl, fun i x hx r u hr hu => ?_⟩⟩
    have hc := h.cells (g := g) rfl
    have := hc (i * n + r) u (by rw [fl_get f n hf xs i r x hx hr]; exact hu)
    rw [add_none] at this
    rw [Nat.add_assoc]
    exact this
theorem ownN_kept {G : Nat → Prop} {w w' : World} {b n0 : Nat} {e : TypeId} {v : Value} {n : Nat} {xs : List Value} (h : w.ownsRow b e n0 v n xs) (hk : Kept G w w') (hn : ∀ k, v.ownBlock = some k → ¬ G k) : w'.ownsRow b e n0 v n xs := by
  refine ⟨h.1, ?_⟩
  rcases h.2 with h1 | ⟨g, cap, cur, rfl, hbg, hg, rest⟩
  · exact .inl h1
  · exact .inr ⟨g, cap, cur, rfl, hbg, by rw [hk.block g (by have := (h.lt g rfl).2; exact this) (hn g rfl)]; exact hg, rest⟩
theorem own_lower {w : World} {b b' n0 : Nat} {e : TypeId} {v : Value} {n : Nat} {xs : List Value} (h : w.ownsRow b e n0 v n xs) (hb : b' ≤ b) : w.ownsRow b' e n0 v n xs := by
  refine ⟨h.1, ?_⟩
  rcases h.2 with h1 | ⟨g, cap, cur, rfl, hbg, rest⟩
  · exact .inl h1
  · exact .inr ⟨g, cap, cur, rfl, Nat.le_trans hb hbg, rest⟩
theorem own_sh {w : World} {base n0 : Nat} {e : TypeId} {v : Value} {n : Nat} {xs : List Value} (h : w.ownsRow base e n0 v n xs) : ∃ a c, v = .slice a n c ∧ n ≤ c := by
  rcases h.2 with ⟨rfl, rfl⟩ | ⟨g, cap, cur, rfl, _, _, hn, _⟩
  · exact ⟨none, 0, rfl, Nat.le_refl _⟩
  · exact ⟨_, cap, rfl, hn⟩
theorem info_parts {P : Program} {t : TypeId} {z : Option Value} {s b : Nat} (h : (P.info? t).map (fun i => (i.zero, i.size, i.bytes)) = some (z, s, b)) : ∃ i, P.info? t = some i ∧ i.zero = z ∧ i.size = s ∧ i.bytes = b := by
  obtain ⟨i, hi, e⟩ := Option.map_eq_some_iff.mp h
  simp at e
  exact ⟨i, hi, e.1, e.2.1, e.2.2⟩
theorem results_cell1 {fn : Func} {p : Tmp} {ty : TypeId} (h : fn.results = #[.cell p ty]) (tmps : Array Value) (P : Program) (w : World) :
    (results fn tmps).run P w = ((asAddr (tmps.getD p undef)).run P w).andThen fun a w₁ => (loadVar ty a).run P w₁ := by
  simp only [results, h]
  simp [Sem.run_bind, Result.andThen]
theorem leaves1 {W : World} {R : Nat} {p : Tmp} {fn : Func} {ty : TypeId} {fs : Array Go.Field} {cs : Array Value} (hf : fn.results = #[.cell p ty]) (hR : W.heap[R]? = some (.cells cs ty (0, 0))) (hu : Tryd.prog.underlying ty = some (.struct fs)) (hs : (Tryd.prog.info? ty).map (·.size) = some cs.size) (tmps : Array Value) (h2 : tmps.getD p undef = .pointer (some ⟨R, 0, none⟩)) : (results fn tmps).run Tryd.prog W = .ok (.agg cs) W := by
  have hl := run_loadVar_row (P := Tryd.prog) W R ty ty cs (0, 0) _ hR hu rfl hs
  rw [results_cell1 hf, h2]
  simp [asAddr, Result.andThen, hl]
theorem results_cell_tmp {fn : Func} {p u : Tmp} {ty : TypeId} (h : fn.results = #[.cell p ty, .tmp u]) (tmps : Array Value) (P : Program) (w : World) :
    (results fn tmps).run P w = ((asAddr (tmps.getD p undef)).run P w).andThen fun a w₁ => ((loadVar ty a).run P w₁).andThen fun v w₂ => .ok (.tuple #[v, tmps.getD u undef]) w₂ := by
  simp only [results, h]
  simp [Sem.run_bind, Result.andThen]
theorem leavesCT {W : World} {R : Nat} {p u : Tmp} {fn : Func} {ty : TypeId} {fs : Array Go.Field} {cs : Array Value} (hf : fn.results = #[.cell p ty, .tmp u]) (hR : W.heap[R]? = some (.cells cs ty (0, 0))) (hu : Tryd.prog.underlying ty = some (.struct fs)) (hs : (Tryd.prog.info? ty).map (·.size) = some cs.size) (tmps : Array Value) (h2 : tmps.getD p undef = .pointer (some ⟨R, 0, none⟩)) : (results fn tmps).run Tryd.prog W = .ok (.tuple #[.agg cs, tmps.getD u undef]) W := by
  have hl := run_loadVar_row (P := Tryd.prog) W R ty ty cs (0, 0) _ hR hu rfl hs
  rw [results_cell_tmp (p := p) (u := u) (ty := ty) hf, h2]
  simp [asAddr, Result.andThen, hl]
theorem frozen_alloc_some (w : World) (a : Addr) (o : Obj) (h : (w.cell? a).isSome = true) : (w.alloc o).frozen? a = w.frozen? a := by
  obtain ⟨v, hv⟩ := Option.isSome_iff_exists.mp h
  rw [World.frozen?_alloc_old]
  exact Nat.ne_of_lt (World.block_lt_of_cell? w a hv)
theorem kset {F : Nat → Prop} {w w' : World} (h : Kept F w w') {b : Nat} (hb : F b ∨ w.heap.size ≤ b) (k : Nat) (v : Value) : Kept F w (w'.setCell ⟨b, k, none⟩ v) :=
  h.trans (Kept.setCell (F := fun i => i = b) w' (p := ⟨b, k, none⟩) rfl v) (fun i e => by subst e; exact hb)
theorem lt_of_heap {w : World} {k : Nat} {o : Obj} (h : w.heap[k]? = some o) : k < w.heap.size := (Array.getElem?_eq_some_iff.mp h).1
theorem fl_set {α : Type} (f : α → List Value) (n : Nat) (hf : ∀ x, (f x).length = n) : ∀ (xs : List α) (j r : Nat) (x y : α) (u : Value), xs[j]? = some x → r < n → f y = (f x).set r u → (xs.flatMap f).set (j * n + r) u = (xs.set j y).flatMap f
  | [], j, r, x, y, u, hx, _, _ => by simp at hx
  | z :: l, 0, r, x, y, u, hx, hr, hy => by
    simp at hx
    subst hx
    rw [List.flatMap_cons, Nat.zero_mul, Nat.zero_add, List.set_append_left _ _ (by rw [hf]; exact hr), List.set_cons_zero, List.flatMap_cons, hy]
  | z :: l, j + 1, r, x, y, u, hx, hr, hy => by
    simp at hx
    have e : (j + 1) * n + r - n = j * n + r := by rw [Nat.add_mul]; omega
    rw [List.flatMap_cons, List.set_append_right _ _ (by rw [hf, Nat.add_mul]; omega), hf, e, fl_set f n hf l j r x y u hx hr hy, List.set_cons_succ, List.flatMap_cons]
theorem own_put {w : World} {base : Nat} {e : TypeId} {size g n cap : Nat} {xs : List Value} (h : w.ownsRow base e size (.slice (some ⟨g, 0, none⟩) n cap) n xs) (k : Nat) (u : Value) : (w.setCell ⟨g, k, none⟩ u).ownsRow base e size (.slice (some ⟨g, 0, none⟩) n cap) n (xs.set k u) := by
  refine ⟨by rw [List.length_set]; exact h.1, ?_⟩
  rcases h.2 with ⟨e, _⟩ | ⟨g', cap', cur, e1, hb, hg, h1, h2, h3, h4⟩
  · simp at e
  · simp only [Value.slice.injEq, Option.some.injEq, Addr.mk.injEq] at e1
    obtain ⟨⟨rfl, _⟩, _, rfl⟩ := e1
    refine .inr ⟨g, cap, cur.set! k u, rfl, hb, heap_set hg, h1, h2, by simpa using h3, ?_⟩
    rw [← h4]
    simp [List.take_set]
theorem own_cell {w : World} {base : Nat} {e : TypeId} {size g n cap : Nat} {xs : List Value} (h : w.ownsRow base e size (.slice (some ⟨g, 0, none⟩) n cap) n xs) {k : Nat} {u : Value} (hk : xs[k]? = some u) : w.cell? ⟨g, k, none⟩ = some u ∧ w.frozen? ⟨g, k, none⟩ = false := by
  rcases h.2 with ⟨e, _⟩ | ⟨g', cap', cur, e1, hb, hg, h1, h2, h3, h4⟩
  · simp at e
  · simp only [Value.slice.injEq, Option.some.injEq, Addr.mk.injEq] at e1
    obtain ⟨⟨rfl, _⟩, _, rfl⟩ := e1
    refine ⟨cell_of_block hg ?_, frozen_of_block hg⟩
    rw [← h4, List.getElem?_take] at hk
    split at hk
    · simpa using hk
    · cases hk
theorem own_addr {w : World} {base : Nat} {e : TypeId} {size n m : Nat} {v : Value} {xs : List Value} (h : w.ownsRow base e size v n xs) (hp : m < n) : ∃ g cap, v = .slice (some ⟨g, 0, none⟩) n cap ∧ base ≤ g ∧ g < w.heap.size := by
  rcases h.2 with ⟨_, e⟩ | ⟨g', cap', cur, e1, hb, hg, _⟩
  · omega
  · exact ⟨g', cap', e1, hb, lt_of_heap hg⟩
theorem setG_below {base : Nat} {W w : World} (hb : Below base W w) {g k : Nat} (hg : base ≤ g) (u : Value) (hB : base ≤ w.heap.size) : Below base W (w.setCell ⟨g, k, none⟩ u) := hb.trans ((Kept.setCell (F := fun k => k = g) w (p := ⟨g, k, none⟩) rfl u).below (fun k e => by omega) hB)
theorem kept_new {F : Nat → Prop} {w w' : World} (h : Below w.heap.size w w') : Kept F w w' := ⟨h.os, h.tape, h.output, h.size, fun k hk _ => h.block k hk⟩
theorem blk_late {w w' : World} {p : Nat} {o : Obj} (h : w.heap[p]? = some o) (hb : Below w.heap.size w w') : w'.heap[p]? = some o := (hb.block p (lt_of_heap h)).trans h
theorem zeroCells_one {z : Array Value} (h : ∀ u ∈ z.toList, u.oneCell' = true) (hz : 0 < z.size) (n : Nat) : ∀ u ∈ (Builtin.zeroCells z n).toList, u.oneCell' = true := by
  intro u hu
  simp only [Builtin.zeroCells, Array.toList_map, List.mem_map] at hu
  obtain ⟨i, _, rfl⟩ := hu
  have : i % z.size < z.size := Nat.mod_lt _ hz
  rw [getElem!_pos z (i % z.size) this]
  exact h _ (by simp)
/-- The end of an owned row is cleared. -/
theorem run_clear_own {P : Program} (w : World) (base : Nat) (t ty e : TypeId) (i : TypeInfo) (ht : P.underlying t = some (.slice e)) (hi : P.info? e = some i) (z : Value) (k : Nat) (hk : 0 < k) (hz : i.zero = some z) (hzs : z.cells.size = k) (h1 : ∀ u ∈ z.cells.toList, u.oneCell' = true)
    (g n cap m c : Nat) (xs : List Value) (hown : w.ownsRow base e k (.slice (some ⟨g, 0, none⟩) n cap) n xs) (hm : m < n) :
    ∃ w', (Builtin.clear_ #[t] ty #[.slice (some ⟨g, m * k, none⟩) (n - m) c]).run P w = .ok (.tuple #[]) w' ∧ w'.ownsRow base e k (.slice (some ⟨g, 0, none⟩) m cap) m (xs.take (m * k)) ∧ w.grownBy w' (some g) := by
  rcases hown.2 with ⟨e', _⟩ | ⟨g', cap', cur, e1, hb, hg, h2, h3, h4, h5⟩
  · simp at e'
  simp only [Value.slice.injEq, Option.some.injEq, Addr.mk.injEq] at e1
  obtain ⟨⟨rfl, _⟩, _, rfl⟩ := e1
  have hzl : (Builtin.zeroCells z.cells (n - m)).toList.length = (n - m) * k := by rw [Array.length_toList, size_zeroCells, hzs]
  have hnk : n * k ≤ cap * k := Nat.mul_le_mul_right k h2
  have hmk : m * k + (n - m) * k = n * k := by rw [← Nat.add_mul]; congr 1; omega
  have hst := run_storeCells_at P g (m * k) e (Builtin.zeroCells z.cells (n - m)).toList 0 cur w hg (by rw [hzl, Nat.add_zero, h4]; omega) (zeroCells_one h1 (by omega) _)
  obtain ⟨d, hd⟩ : ∃ d, n - m = d + 1 := ⟨n - m - 1, by omega⟩
  have hlt : (cur.toList.take (m * k)).length = m * k := by rw [List.length_take, Array.length_toList, h4]; omega
  refine ⟨w.setRow g (cur.toList.take (m * k + 0) ++ (Builtin.zeroCells z.cells (n - m)).toList ++ cur.toList.drop (m * k + 0 + (Builtin.zeroCells z.cells (n - m)).toList.length)).toArray, ?_, ⟨?_, .inr ⟨g, cap, _, rfl, hb, setRow_heap w g cur _ e _ hg, by omega, h3, ?_, ?_⟩⟩, ⟨rfl, rfl, rfl, by simp, fun x _ hx => setRow_other w g x _ (fun e => hx (by rw [e]))⟩⟩
  · rw [hd] at hst ⊢
    simp [Builtin.clear_, run_underlying ht, zeroValue, typeInfo, hi, hz, hst]
  · rw [List.length_take, hown.1]; exact Nat.min_eq_left (Nat.mul_le_mul_right k (by omega))
  · simp only [List.size_toArray, List.length_append, List.length_take, List.length_drop, Array.length_toList, hzl, h4, Array.length_toList, Nat.add_zero]
    have : (Builtin.zeroCells z.cells (n - m)).size = (n - m) * k := by rw [← Array.length_toList]; exact hzl
    first | omega | (rw [this]; omega)
  · rw [Nat.add_zero, List.append_assoc]
    show List.take (m * k) (cur.toList.take (m * k) ++ _) = _
    rw [List.take_append_of_le_length (by rw [hlt]; exact Nat.le_refl _), List.take_of_length_le (by rw [hlt]; exact Nat.le_refl _), ← h5, List.take_take, Nat.min_eq_left (Nat.mul_le_mul_right k (by omega))]
theorem wpList_clear {P : Program} (w : World) {ops : Array Oper} {rest : List Oper} {o : Oper} {a : Act} {Q : Exit → Act → World → Prop} (hgd : o.guard = none) (sl : Operand) (t : TypeId) (ho : o.op = .call { callee := .builtin .clear, args := #[sl], argTypes := #[t] })
    (base : Nat) (e : TypeId) (i : TypeInfo) (ht : P.underlying t = some (.slice e)) (hi : P.info? e = some i) (z : Value) (k : Nat) (hk : 0 < k) (hz : i.zero = some z) (hzs : z.cells.size = k) (h1 : ∀ u ∈ z.cells.toList, u.oneCell' = true)
    (g n cap m c : Nat) (xs : List Value) (hs : a.eval sl = .slice (some ⟨g, m * k, none⟩) (n - m) c) (hown : w.ownsRow base e k (.slice (some ⟨g, 0, none⟩) n cap) n xs) (hm : m < n)
    (h : ∀ w', w'.ownsRow base e k (.slice (some ⟨g, 0, none⟩) m cap) m (xs.take (m * k)) → w.grownBy w' (some g) → wpList P ops Q rest (a.put o.dst (.tuple #[])) w') : wpList P ops Q (o :: rest) a w := by
  refine wpList_plain hgd fun K hK => ?_
  obtain ⟨w', hr, h2, h3⟩ := run_clear_own (P := P) w base t o.type e i ht hi z k hk hz hzs h1 g n cap m c xs hown hm
  unfold Oper.wp execOp
  simp only [ho, resolve, invoke, builtin, Sem.run_bind, Sem.run_pure, Result.andThen_ok, List.map_toArray, List.map_cons, List.map_nil, hs, hr]
  exact hK _ _ (h w' h2 h3)
theorem fl_take {α : Type} (f : α → List Value) (n : Nat) (hf : ∀ x, (f x).length = n) (xs : List α) (m : Nat) : (xs.flatMap f).take (m * n) = (xs.take m).flatMap f := by
  induction xs generalizing m with
  | nil => simp
  | cons x l ih =>
    cases m with
    | zero => simp
    | succ m =>
      rw [List.flatMap_cons, List.take_succ_cons, List.flatMap_cons, List.take_append, hf, List.take_of_length_le (by rw [hf, Nat.add_mul]; omega)]
      congr 1
      rw [show (m + 1) * n - n = m * n by rw [Nat.add_mul]; omega]
      exact ih m
theorem takeD {P : Program} {md : Region.Mode} {ops : Array Oper} {Q : Exit → Act → World → Prop} {S : World → Prop} {fuel : Nat} {listed : Array Bool} {l : List Value} {df : List Deferred} {w : World} {oi : Oper} (i d : Nat) (v : Value) (hi : ops[i]? = some oi) (hd : oi.dst = some d)
    (hs : Region.noSelect ops = true) (hf : Region.free md ops listed i = true) (hr : (Region.ready md ops listed).contains i = true)
    (hQ : ∀ c a w, Q (.panic c) (a.put oi.dst v) w → Q (.panic c) a w) (hy : YieldsIf P ops S oi v ⟨l.toArray, df⟩) (hS : S w)
    (h : wpAnyH P md ops Q S fuel (listed.setIfInBounds i true) ⟨(l.set d v).toArray, df⟩ w) : wpAnyH P md ops Q S (fuel + 1) listed ⟨l.toArray, df⟩ w := by
  refine wpAnyH_take hi hs hf hr hQ hy hS ?_
  rw [hd]
  simpa [Act.put] using h
theorem rowOne {α : Type} {n : Nat} {f : α → List Value} (x : α) (w : World) (e2 : TypeId) : RowIn n f (w.alloc (.cells (f x).toArray e2)) (.slice (some ⟨w.heap.size, 0, none⟩) 1 1) [x] := by
  refine ⟨_, _, rfl, Nat.le_refl _, by simp, fun _ => ⟨w.heap.size, 0, rfl, fun i y hy r u hr hu => ?_⟩⟩
  have hi : i = 0 := by
    have := (List.getElem?_eq_some_iff.mp hy).1
    simpa using this
  subst hi
  simp at hy
  subst hy
  rw [Nat.zero_mul, Nat.zero_add]
  exact cell_of_block (heap_alloc_new w _) (by simpa using hu)
theorem srcOne {α : Type} {n : Nat} {f : α → List Value} {ty e : TypeId} (hu : Tryd.prog.underlying ty = some (.slice e)) (hn : 0 < n) (hf : ∀ x, (f x).length = n) (h1 : ∀ x, ∀ u ∈ f x, u.oneCell' = true) {x : α} {w : World} {v : Value} (h : RowIn n f w v [x]) : Src Tryd.prog n ty v 1 (f x) w := by
  have := RowIn.src hu hn hf h1 h
  simpa using this
theorem own_shorter {w : World} {base : Nat} {e : TypeId} {k g m n cap : Nat} {xs : List Value} (h : w.ownsRow base e k (.slice (some ⟨g, 0, none⟩) n cap) n xs) (h1 : m ≤ n) : w.ownsRow base e k (.slice (some ⟨g, 0, none⟩) m cap) m (xs.take (m * k)) := by
  rcases h.2 with ⟨e', _⟩ | ⟨g', cap', cur, e1, hbg, hg, hnc, hcm, hcs, htake⟩
  · simp at e'
  simp only [Value.slice.injEq, Option.some.injEq, Addr.mk.injEq] at e1
  obtain ⟨⟨rfl, _⟩, _, rfl⟩ := e1
  have hmk : m * k ≤ n * k := Nat.mul_le_mul_right k h1
  refine ⟨by rw [List.length_take, h.1]; omega, .inr ⟨g, cap, cur, rfl, hbg, hg, by omega, hcm, hcs, ?_⟩⟩
  rw [← htake, List.take_take, Nat.min_eq_left hmk]
/-- What lies behind an owned row within its room. -/
theorem own_longer {w : World} {base : Nat} {e : TypeId} {k g m n cap : Nat} {xs : List Value} (h : w.ownsRow base e k (.slice (some ⟨g, 0, none⟩) m cap) m xs) (h1 : m ≤ n) (h2 : n ≤ cap) : ∃ ys, w.ownsRow base e k (.slice (some ⟨g, 0, none⟩) n cap) n ys ∧ ys.take (m * k) = xs := by
  rcases h.2 with ⟨e', _⟩ | ⟨g', cap', cur, e1, hbg, hg, hnc, hcm, hcs, htake⟩
  · simp at e'
  simp only [Value.slice.injEq, Option.some.injEq, Addr.mk.injEq] at e1
  obtain ⟨⟨rfl, _⟩, _, rfl⟩ := e1
  have hmk : m * k ≤ n * k := Nat.mul_le_mul_right k h1
  have hnk : n * k ≤ cap * k := Nat.mul_le_mul_right k h2
  refine ⟨cur.toList.take (n * k), ⟨by rw [List.length_take, Array.length_toList, hcs]; omega, .inr ⟨g, cap, cur, rfl, hbg, hg, h2, hcm, hcs, rfl⟩⟩, ?_⟩
  rw [List.take_take, Nat.min_eq_left hmk]
  exact htake
theorem yields_slice {P : Program} {oi : Oper} {a : Act} {t : TypeId} {x : Operand} {lo hi mx : Option Operand} {v : Value} (hop : oi.op = .slice t x lo hi mx) (hu : P.underlying t = some (.slice (P.elem t))) (h : ∀ W, (Instr.slice t (a.eval x) (lo.map a.eval) (hi.map a.eval) (mx.map a.eval)).run P W = .ok v W) (w : World) : Sem.run P (execOp a.eval oi) w = .ok (.value v) w := by
  unfold execOp
  simp only [hop]
  simp [run_sliceAt_slice w t _ _ _ _ hu, h w]
theorem step_append_src4 {P : Program} {ops : Array Oper} {o : Oper} {a : Act} {w : World} {K : Act → World → Prop} {Q : Exit → Act → World → Prop} {E : Prop} (hgd : o.guard = none) (sl x : Operand) (t tx : TypeId)
    (hop : o.op = .call { callee := .builtin .append, args := #[sl, x], argTypes := #[t, tx] })
    (base : Nat) (e : TypeId) (i : TypeInfo) (ht : P.underlying t = some (.slice e)) (hi : P.info? e = some i) (z : Value) (B : Nat) (hz : i.zero = some z) (hzs : z.cells.size = 4) (hsize : i.size = 4) (hby : i.bytes = B)
    (v : Value) (n : Nat) (xs : List Value) (hs : a.eval sl = v) (hown : w.ownsRow base e 4 v n xs) (xv : Value) (m : Nat) (news : List Value) (hx : a.eval x = xv) (hsrc : Src P 4 tx xv m news w)
    (h63 : n + m ≤ maxLen) (hbytes : (n + m) * B ≤ 140737488355328) (hbase : base ≤ w.heap.size)
    (h : ∀ v' w', w'.ownsRow base e 4 v' (n + m) (xs ++ news) → w.grownBy w' v.ownBlock → (v'.ownBlock = v.ownBlock ∨ v'.ownBlock = some w.heap.size) → K (a.put o.dst v') w') :
    if Region.wanted o (yielded ops a.tmps) = true then Oper.wp P o a w K Q else E := by
  have hw : Region.wanted o (yielded ops a.tmps) = true := by simp [Region.wanted, hgd]
  rw [if_pos hw]
  obtain ⟨v', w', hr, h2, h3, h4⟩ := run_append_own_src4 (P := P) w base t tx o.type e i ht hi z B hz hzs hsize hby v n xs hown xv m news hsrc h63 hbytes hbase
  unfold Oper.wp execOp
  simp only [hop, resolve, invoke, builtin, Sem.run_bind, Sem.run_pure, Result.andThen_ok, List.map_toArray, List.map_cons, List.map_nil, hs, hx, hr]
  exact h v' w' h2 h3 h4
/-- Appending onto an owned row that has room stays in its block. -/
theorem run_append_room4 {P : Program} (w : World) (base : Nat) (t tx ty e : TypeId) (i : TypeInfo) (ht : P.underlying t = some (.slice e)) (hi : P.info? e = some i)
    (hsize : i.size = 4) (g n cap : Nat) (xs : List Value) (hown : w.ownsRow base e 4 (.slice (some ⟨g, 0, none⟩) n cap) n xs) (x : Value) (m : Nat) (news : List Value) (hs : Src P 4 tx x m news w) (hroom : n + m ≤ cap) :
    ∃ w', (Builtin.append_ #[t, tx] ty #[.slice (some ⟨g, 0, none⟩) n cap, x]).run P w = .ok (.slice (some ⟨g, 0, none⟩) (n + m) cap) w' ∧ w'.ownsRow base e 4 (.slice (some ⟨g, 0, none⟩) (n + m) cap) (n + m) (xs ++ news) ∧ w.grownBy w' (some g) := by
  have hxl : xs.length = n * 4 := hown.1
  have hnl : news.length = m * 4 := hs.newsLen
  have hlen : (xs ++ news).length = (n + m) * 4 := by rw [List.length_append, hxl, hnl]; omega
  rcases hown.2 with ⟨e', _⟩ | ⟨g', cap', cur, e1, hbg, hg, hnc, hcm, hcs, htake⟩
  · simp at e'
  simp only [Value.slice.injEq, Option.some.injEq, Addr.mk.injEq] at e1
  obtain ⟨⟨rfl, _⟩, _, rfl⟩ := e1
  have hcs' : cur.size = cap * 4 := hcs
  have hst := run_storeCells_at P g (n * 4) e news 0 cur w hg (by rw [hnl]; omega) hs.one
  simp only [Nat.add_zero, hnl] at hst
  have hr : (Builtin.append_ #[t, tx] ty #[.slice (some ⟨g, 0, none⟩) n cap, x]).run P w = .ok (.slice (some ⟨g, 0, none⟩) (n + m) cap) (w.setRow g (cur.toList.take (n * 4) ++ news ++ cur.toList.drop (n * 4 + m * 4)).toArray) := by
    have hf := hs.cells
    have hl := hs.len
    rcases hs.kind with ⟨e', hk⟩ | hk <;> simp [Builtin.append_, run_underlying ht, run_underlying hk, sizeOf, typeInfo, hi, hsize, hl, hroom, hf, Addr.add_lit, hst]
  refine ⟨_, hr, ⟨hlen, .inr ⟨g, cap, _, rfl, hbg, setRow_heap w g cur _ e _ hg, hroom, hcm, ?_, ?_⟩⟩, ⟨rfl, rfl, rfl, by simp, fun k _ hk => setRow_other w g k _ (fun e => hk (by rw [e]))⟩⟩
  · simp only [List.size_toArray, List.length_append, List.length_take, List.length_drop, Array.length_toList, hnl]
    omega
  · have ht' : cur.toList.take (n * 4) = xs := htake
    rw [ht', ← hlen]
    exact List.take_left
theorem step_append_room4 {P : Program} {ops : Array Oper} {o : Oper} {a : Act} {w : World} {K : Act → World → Prop} {Q : Exit → Act → World → Prop} {E : Prop} (hgd : o.guard = none) (sl x : Operand) (t tx : TypeId)
    (hop : o.op = .call { callee := .builtin .append, args := #[sl, x], argTypes := #[t, tx] })
    (base : Nat) (e : TypeId) (i : TypeInfo) (ht : P.underlying t = some (.slice e)) (hi : P.info? e = some i) (hsize : i.size = 4)
    (g n cap : Nat) (xs : List Value) (hs : a.eval sl = .slice (some ⟨g, 0, none⟩) n cap) (hown : w.ownsRow base e 4 (.slice (some ⟨g, 0, none⟩) n cap) n xs) (xv : Value) (m : Nat) (news : List Value) (hx : a.eval x = xv) (hsrc : Src P 4 tx xv m news w) (hroom : n + m ≤ cap)
    (h : ∀ w', w'.ownsRow base e 4 (.slice (some ⟨g, 0, none⟩) (n + m) cap) (n + m) (xs ++ news) → w.grownBy w' (some g) → K (a.put o.dst (.slice (some ⟨g, 0, none⟩) (n + m) cap)) w') :
    if Region.wanted o (yielded ops a.tmps) = true then Oper.wp P o a w K Q else E := by
  have hw : Region.wanted o (yielded ops a.tmps) = true := by simp [Region.wanted, hgd]
  rw [if_pos hw]
  obtain ⟨w', hr, h2, h3⟩ := run_append_room4 (P := P) w base t tx o.type e i ht hi hsize g n cap xs hown xv m news hsrc hroom
  unfold Oper.wp execOp
  simp only [hop, resolve, invoke, builtin, Sem.run_bind, Sem.run_pure, Result.andThen_ok, List.map_toArray, List.map_cons, List.map_nil, hs, hx, hr]
  exact h w' h2 h3
theorem RowIn.kept {α : Type} {n : Nat} {f : α → List Value} {G : Nat → Prop} {w w' : World} {v : Value} {xs : List α} (h : RowIn n f w v xs) (hk : Kept G w w') (hn : ∀ k, v.ownBlock = some k → ¬ G k) : RowIn n f w' v xs := by
  obtain ⟨a, cap, rfl, hc, hl, hr⟩ := h
  refine ⟨a, cap, rfl, hc, hl, fun hp => ?_⟩
  obtain ⟨b, off, rfl, hx⟩ := hr hp
  exact ⟨b, off, rfl, fun i x hi r u hr hu => hk.cell (hx i x hi r u hr hu) (hn b rfl)⟩
theorem at_of_cell {w : World} {g i : Nat} {c : Array Value} {t : TypeId} {v : Value} (h : w.heap[g]? = some (.cells c t (0, 0))) (hc : w.cell? ⟨g, i, none⟩ = some v) : c[i]? = some v := by
  simpa [World.cell?, h] using hc
theorem step_append_run {P : Program} {ops : Array Oper} {o : Oper} {a : Act} {w : World} {K : Act → World → Prop} {Q : Exit → Act → World → Prop} {E : Prop} (hgd : o.guard = none) (sl x : Operand) (t tx : TypeId)
    (hop : o.op = .call { callee := .builtin .append, args := #[sl, x], argTypes := #[t, tx] }) (v xv v' : Value) (w' : World) (hs : a.eval sl = v) (hx : a.eval x = xv) (hr : (Builtin.append_ #[t, tx] o.type #[v, xv]).run P w = .ok v' w') (h : K (a.put o.dst v') w') :
    if Region.wanted o (yielded ops a.tmps) = true then Oper.wp P o a w K Q else E := by
  have hw : Region.wanted o (yielded ops a.tmps) = true := by simp [Region.wanted, hgd]
  rw [if_pos hw]
  unfold Oper.wp execOp
  simp only [hop, resolve, invoke, builtin, Sem.run_bind, Sem.run_pure, Result.andThen_ok, List.map_toArray, List.map_cons, List.map_nil, hs, hx, hr]
  exact h
end Go.Proofs.YtaiklaipdocdmaaDoor
