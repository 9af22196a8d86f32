/- Copies of entries and ledgers: slices.Clone, cloneEntry, clone. -/
import Derived.Test.YtjocjkfllicjdaaDoorOplace
import Derived.Test.YtjocjkfllicjdaaDoorOwrite
namespace Go.Proofs.YtjocjkfllicjdaaDoor
open Go.ChangeShapes Go.WideShapes Go.ChangeAt Go.RowKit
set_option maxRecDepth 100000
attribute [local go_sem] World.cell?_alloc_some frozen_alloc_some

theorem eql_nilT (w : World) (a : Option Addr) (n c n' c' : Nat) : (binOp .eql 24 (.slice a n c) (.slice none n' c')).run Tryd.prog w = .ok (.bool a.isNone) w :=
  Lib.run_eql_slice_nil w _ _ a n c n' c' Tryd.underlying24
/-- The tasks in new memory. -/
theorem cloneT_any (w : World) (a : Option Addr) (cap : Nat) (ts : List Tk) (h : Tks w (.slice a ts.length cap) ts) (hs : ts.length * 32 ≤ 140737488355328) : Calls Tryd.prog 67 #[.slice a ts.length cap] w fun r w' => ∃ a2 c2, r = .returned (.slice a2 ts.length c2) ∧ w'.ownsRow w.heap.size 45 4 (.slice a2 ts.length c2) ts.length (ts.flatMap c4) ∧ Below w.heap.size w w' := by
  obtain ⟨ie, hi, hz0, hz1, hz2⟩ := info_parts info_task
  obtain ⟨zth, hzth⟩ : ∃ z : Value, z = .agg #[.int .i64 0, .int .i64 0, .int .i64 0, .int .i64 0] := ⟨_, rfl⟩
  rw [← hzth] at hz0
  have HZ : Hid (zth.cells.size = 4) := mkHid (by rw [hzth]; rfl)
  have hie := mkHid (And.intro hi (And.intro hz0 (And.intro hz1 hz2)))
  clear hzth hi hz0 hz1 hz2
  have HS := mkHid hs
  cases a with
  | none =>
    have h0 : ts = [] := by
      obtain ⟨a', c', e, _, hr⟩ := h
      by_cases hp : 0 < ts.length
      · obtain ⟨b, o, e2, _⟩ := hr hp
        simp only [Value.slice.injEq] at e
        rw [e2] at e
        simp at e
      · exact List.length_eq_zero_iff.mp (by omega)
    subst h0
    have hq := eql_nilT w none 0 cap 0 0
    clear h hs
    go_enter Tryd.func67, Tryd.ntmps67
    go_wp2
    go_ret
    exact ⟨none, 0, rfl, World.ownsRow_nil _ _ _ _, Below.refl _ _⟩
  | some ad =>
    have hq := eql_nilT w (some ad) ts.length cap 0 0
    have HSRC := mkHid ((h.below (ba (Below.refl _ w) (.cells #[] 45))).src)
    have HM : Hid ((w.alloc (.cells #[] 45)).ownsRow w.heap.size 45 4 (.slice (some ⟨w.heap.size, 0, none⟩) 0 0) 0 []) := mkHid (World.ownsRow_made (base := w.heap.size) (e := 45) (size := 4) w #[] 0 (Nat.le_refl _) (by unfold maxLen; omega) rfl)
    clear h hs
    go_enter Tryd.func67, Tryd.ntmps67
    go_wp2_with (at_builtin; refine wpList_append_src4 _ rfl (.tmp 5) (.tmp 6) 24 24 rfl w.heap.size 45 ie Tryd.underlying24 hie.out.1 zth 32 hie.out.2.1 HZ.out hie.out.2.2.1 hie.out.2.2.2 _ 0 [] rfl HM.out _ ts.length (ts.flatMap c4) rfl HSRC.out (by have := HS.out; unfold maxLen; omega) (by have := HS.out; omega) (by simp) ?_; intro v2 w2 ho2 hg2 _; rw [Nat.zero_add, List.nil_append] at ho2; obtain ⟨a2, c2, rfl⟩ := own_shape ho2; have HO2 := mkHid (And.intro ho2 ((ba (Below.refl _ w) _).grown hg2 (by simp) (fun k hk => (HM.out.lt k hk).1))); clear ho2 hg2)
    go_ret
    exact ⟨a2, c2, rfl, HO2.out.1, HO2.out.2⟩
theorem ent_leaves1 {W : World} {R : Nat} {p : Tmp} {fn : Func} {c0 c1 c2 c3 c4 c5 c6 c7 c8 c9 : Value} (hf : fn.results = #[.cell p 28]) (hR : W.heap[R]? = some (.cells #[c0, c1, c2, c3, c4, c5, c6, c7, c8, c9] 28 (0, 0))) (tmps : Array Value) (h2 : tmps.getD p undef = .pointer (some ⟨R, 0, none⟩)) : (results fn tmps).run Tryd.prog W = .ok (.agg #[c0, c1, c2, c3, c4, c5, c6, c7, c8, c9]) W := by
  have hl := run_loadVar_row (P := Tryd.prog) W R 28 28 #[c0, c1, c2, c3, c4, c5, c6, c7, c8, c9] (0, 0) _ hR Tryd.underlying28 rfl sizeE
  rw [results_cell1 hf, h2]
  simp [asAddr, Result.andThen, hl]
set_option maxHeartbeats 6400000 in
theorem cloneE_any (w : World) (e : En) (a : Option Addr) (cap : Nat) (h : EnW w (e, a, cap)) (hs : small (e, a, cap)) : Calls Tryd.prog 63 #[vP (e, a, cap)] w fun r w' => ∃ a2 c2, r = .returned (vP (e, a2, c2)) ∧ w'.ownsRow w.heap.size 45 4 (.slice a2 e.ts.length c2) e.ts.length (e.ts.flatMap c4) ∧ Below w.heap.size w w' := by
  have HT := mkHid h
  have HS := mkHid hs
  clear h hs
  simp only [vP, vN, tv]
  go_enter Tryd.func63, Tryd.ntmps63
  go_wp2_with (go_at_call 67; refine (cloneT_any _ a cap e.ts (Tks.below HT.out (ba (ba (Below.refl _ w) _) _)) HS.out).mono ?_; rintro r w2 ⟨a2, c2, rfl, ho2, hb2⟩; have hx2 := (hb2.block w.heap.size (by simp; omega)).trans (two_facts (Below.refl _ _)).1; have hr2 := (hb2.block (w.heap.size + 1) (by simp)).trans (two_facts (Below.refl _ _)).2; obtain ⟨q0, q1, q2, q3, q4, q5, q6, q7, q8, q9⟩ := ent_cells hx2; obtain ⟨f0, f1, f2, f3, f4, f5, f6, f7, f8, f9⟩ := ent_frozen hx2; obtain ⟨r0, r1, r2, r3, r4, r5, r6, r7, r8, r9⟩ := ent_cells hr2; obtain ⟨g0, g1, g2, g3, g4, g5, g6, g7, g8, g9⟩ := ent_frozen hr2; have HO2 := mkHid (And.intro ho2 (two_below hb2)); have HX := mkHid (And.intro hx2 hr2); clear ho2 hb2 hx2 hr2)
  have k8 := Kept.setCell (F := fun k => k = w.heap.size) w2 (p := ⟨w.heap.size, 8, none⟩) rfl (.slice a2 e.ts.length c2)
  have k10 := set10_kept (F := fun k => k = w.heap.size ∨ k = w.heap.size + 1) (k8.mono (fun _ h => .inl h)) (b := w.heap.size + 1) (.inl (.inr rfl)) (.int .i64 e.cl) (.int .i64 e.nu) (.int .i64 e.ki) (.int .i64 e.id) (.int .i64 e.sk) (.int .i64 e.sq) (.int .i64 e.st) (.int .i64 e.po) (.slice a2 e.ts.length c2) (.int .i64 e.tm)
  have hr3 : (w2.setCell ⟨w.heap.size, 8, none⟩ (.slice a2 e.ts.length c2)).heap[w.heap.size + 1]? = _ := (k8.block _ (lt_of_heap HX.out.2) (by omega)).trans HX.out.2
  refine bodyPost_ret (ent_leaves1 rfl (set10_heap hr3 _ _ _ _ _ _ _ _ _ _) _ rfl) rfl ⟨a2, c2, rfl, own_up4 (own4_kept HO2.out.1 k10 (fun k e1 e2 => by have := (HO2.out.1.lt k e1).1; simp at this; omega)) (by simp; omega), HO2.out.2.trans (k10.below (fun k e => by omega) HO2.out.2.size)⟩
/-- Ten cells of a row are set. -/
theorem own_put {w : World} {base : Nat} {e : TypeId} {size g n cap : Nat} {xs : List Value} (h : w.ownsRow base e size (.slice (some ⟨g, 0, none⟩) n cap) n xs) (k : Nat) (u : Value) : (w.setCell ⟨g, k, none⟩ u).ownsRow base e size (.slice (some ⟨g, 0, none⟩) n cap) n (xs.set k u) := by
  refine ⟨by rw [List.length_set]; exact h.1, ?_⟩
  rcases h.2 with ⟨e, _⟩ | ⟨g', cap', cur, e1, hb, hg, h1, h2, h3, h4⟩
  · simp at e
  · simp only [Value.slice.injEq, Option.some.injEq, Addr.mk.injEq] at e1
    obtain ⟨⟨rfl, _⟩, _, rfl⟩ := e1
    refine .inr ⟨g, cap, cur.set! k u, rfl, hb, heap_set hg, h1, h2, by simpa using h3, ?_⟩
    rw [← h4]
    simp [List.take_set]
theorem own_cell {w : World} {base : Nat} {e : TypeId} {size g n cap : Nat} {xs : List Value} (h : w.ownsRow base e size (.slice (some ⟨g, 0, none⟩) n cap) n xs) {k : Nat} {u : Value} (hk : xs[k]? = some u) : w.cell? ⟨g, k, none⟩ = some u ∧ w.frozen? ⟨g, k, none⟩ = false := by
  rcases h.2 with ⟨e, _⟩ | ⟨g', cap', cur, e1, hb, hg, h1, h2, h3, h4⟩
  · simp at e
  · simp only [Value.slice.injEq, Option.some.injEq, Addr.mk.injEq] at e1
    obtain ⟨⟨rfl, _⟩, _, rfl⟩ := e1
    refine ⟨cell_of_block hg ?_, frozen_of_block hg⟩
    rw [← h4, List.getElem?_take] at hk
    split at hk
    · simpa using hk
    · cases hk
abbrev setAt (w : World) (g o : Nat) (v0 v1 v2 v3 v4 v5 v6 v7 v8 v9 : Value) : World := (((((((((w.setCell ⟨g, o, none⟩ v0).setCell ⟨g, o + 1, none⟩ v1).setCell ⟨g, o + 2, none⟩ v2).setCell ⟨g, o + 3, none⟩ v3).setCell ⟨g, o + 4, none⟩ v4).setCell ⟨g, o + 5, none⟩ v5).setCell ⟨g, o + 6, none⟩ v6).setCell ⟨g, o + 7, none⟩ v7).setCell ⟨g, o + 8, none⟩ v8).setCell ⟨g, o + 9, none⟩ v9
theorem setAt_kept {F : Nat → Prop} {w w' : World} (h : Kept F w w') {g : Nat} (hb : F g ∨ w.heap.size ≤ g) (o : Nat) (v0 v1 v2 v3 v4 v5 v6 v7 v8 v9 : Value) : Kept F w (setAt w' g o v0 v1 v2 v3 v4 v5 v6 v7 v8 v9) :=
  kset (kset (kset (kset (kset (kset (kset (kset (kset (kset h hb o v0) hb (o + 1) v1) hb (o + 2) v2) hb (o + 3) v3) hb (o + 4) v4) hb (o + 5) v5) hb (o + 6) v6) hb (o + 7) v7) hb (o + 8) v8) hb (o + 9) v9
theorem ten_sets (A B : List Value) (c0 c1 c2 c3 c4 c5 c6 c7 c8 c9 v0 v1 v2 v3 v4 v5 v6 v7 v8 v9 : Value) (o : Nat) (ho : A.length = o) :
    ((((((((((A ++ ([c0, c1, c2, c3, c4, c5, c6, c7, c8, c9] ++ B)).set o v0).set (o + 1) v1).set (o + 2) v2).set (o + 3) v3).set (o + 4) v4).set (o + 5) v5).set (o + 6) v6).set (o + 7) v7).set (o + 8) v8).set (o + 9) v9 = A ++ ([v0, v1, v2, v3, v4, v5, v6, v7, v8, v9] ++ B) := by
  subst ho
  simp [List.set_append_right]
def zEn : En := ⟨0, 0, 0, 0, 0, 0, 0, 0, [], 0⟩
abbrev zp : Ep := (zEn, none, 0)
theorem c10_len (t : Ep) : (c10 t).length = 10 := rfl
theorem Led.store {base g n cap : Nat} {w : World} {qs rest : List Ep} {z t : Ep} (h : Led base w (.slice (some ⟨g, 0, none⟩) n cap) (qs ++ z :: rest)) (hn : n = (qs ++ z :: rest).length) (ht : w.ownsRow base 45 4 (tv t) t.1.ts.length (t.1.ts.flatMap c4)) (hne : ∀ k, (tv t).ownBlock = some k → k ≠ g) :
    Led base (setAt w g (qs.length * 10) (.int .i64 t.1.cl) (.int .i64 t.1.nu) (.int .i64 t.1.ki) (.int .i64 t.1.id) (.int .i64 t.1.sk) (.int .i64 t.1.sq) (.int .i64 t.1.st) (.int .i64 t.1.po) (tv t) (.int .i64 t.1.tm)) (.slice (some ⟨g, 0, none⟩) n cap) (qs ++ t :: rest) := by
  have hl : (qs ++ z :: rest).length = (qs ++ t :: rest).length := by simp
  have hlt : qs.length < n := by rw [hn]; simp
  have ho := h.own
  rw [← hn] at ho
  have hq : (qs.flatMap c10).length = qs.length * 10 := fl_len c10 10 c10_len qs
  have hk := setAt_kept (F := fun k => k = g) (Kept.refl _ w) (g := g) (.inl rfl) (qs.length * 10) (.int .i64 t.1.cl) (.int .i64 t.1.nu) (.int .i64 t.1.ki) (.int .i64 t.1.id) (.int .i64 t.1.sk) (.int .i64 t.1.sq) (.int .i64 t.1.st) (.int .i64 t.1.po) (tv t) (.int .i64 t.1.tm)
  have hne2 : ∀ u ∈ qs ++ t :: rest, ∀ k, (tv u).ownBlock = some k → k ≠ g := by
    intro u hu k e
    rcases List.mem_append.mp hu with m | m
    · exact fun e2 => h.ne u (List.mem_append_left _ m) k e (by rw [e2]; rfl)
    · rcases List.mem_cons.mp m with rfl | m
      · exact hne k e
      · exact fun e2 => h.ne u (List.mem_append_right _ (List.mem_cons_of_mem _ m)) k e (by rw [e2]; rfl)
  refine ⟨?_, fun u hu => ownN_kept ?_ hk (fun k e => hne2 u hu k e), fun u hu k e e2 => hne2 u hu k e (by simpa [Value.ownBlock] using e2.symm)⟩
  · rw [← hl, ← hn]
    have hx := own_put (own_put (own_put (own_put (own_put (own_put (own_put (own_put (own_put (own_put ho (qs.length * 10) (.int .i64 t.1.cl)) (qs.length * 10 + 1) (.int .i64 t.1.nu)) (qs.length * 10 + 2) (.int .i64 t.1.ki)) (qs.length * 10 + 3) (.int .i64 t.1.id)) (qs.length * 10 + 4) (.int .i64 t.1.sk)) (qs.length * 10 + 5) (.int .i64 t.1.sq)) (qs.length * 10 + 6) (.int .i64 t.1.st)) (qs.length * 10 + 7) (.int .i64 t.1.po)) (qs.length * 10 + 8) (tv t)) (qs.length * 10 + 9) (.int .i64 t.1.tm)
    rw [List.flatMap_append, List.flatMap_cons] at hx
    rw [List.flatMap_append, List.flatMap_cons]
    have := ten_sets (qs.flatMap c10) (rest.flatMap c10) (.int .i64 z.1.cl) (.int .i64 z.1.nu) (.int .i64 z.1.ki) (.int .i64 z.1.id) (.int .i64 z.1.sk) (.int .i64 z.1.sq) (.int .i64 z.1.st) (.int .i64 z.1.po) (tv z) (.int .i64 z.1.tm) (.int .i64 t.1.cl) (.int .i64 t.1.nu) (.int .i64 t.1.ki) (.int .i64 t.1.id) (.int .i64 t.1.sk) (.int .i64 t.1.sq) (.int .i64 t.1.st) (.int .i64 t.1.po) (tv t) (.int .i64 t.1.tm) (qs.length * 10) hq
    rw [show c10 z = [.int .i64 z.1.cl, .int .i64 z.1.nu, .int .i64 z.1.ki, .int .i64 z.1.id, .int .i64 z.1.sk, .int .i64 z.1.sq, .int .i64 z.1.st, .int .i64 z.1.po, tv z, .int .i64 z.1.tm] from rfl, this] at hx
    exact hx
  · rcases List.mem_append.mp hu with m | m
    · exact h.tk u (List.mem_append_left _ m)
    · rcases List.mem_cons.mp m with rfl | m
      · exact ht
      · exact h.tk u (List.mem_append_right _ (List.mem_cons_of_mem _ m))
theorem made_zeros (n : Nat) : (madeCells (Value.agg #[.int .i64 0, .int .i64 0, .int .i64 0, .int .i64 0, .int .i64 0, .int .i64 0, .int .i64 0, .int .i64 0, .slice none 0 0, .int .i64 0]).cells (n * 10)).toList = (List.replicate n zp).flatMap c10 := by
  have hL : ((List.replicate n zp).flatMap c10).length = n * 10 := by rw [fl_len c10 10 c10_len, List.length_replicate]
  apply List.ext_getElem?
  intro i
  by_cases hi : i < n * 10
  · have h1 : (List.replicate n zp)[i / 10]? = some zp := by rw [List.getElem?_replicate]; simp; omega
    have h2 := fl_get c10 10 c10_len (List.replicate n zp) (i / 10) (i % 10) zp h1 (Nat.mod_lt _ (by omega))
    rw [show i / 10 * 10 + i % 10 = i by omega] at h2
    rw [h2]
    have h3 : (madeCells (Value.agg #[.int .i64 0, .int .i64 0, .int .i64 0, .int .i64 0, .int .i64 0, .int .i64 0, .int .i64 0, .int .i64 0, .slice none 0 0, .int .i64 0]).cells (n * 10)).toList[i]? = some ((Value.agg #[.int .i64 0, .int .i64 0, .int .i64 0, .int .i64 0, .int .i64 0, .int .i64 0, .int .i64 0, .int .i64 0, .slice none 0 0, .int .i64 0]).cells[i % 10]!) := by
      rw [madeCells]
      simp [hi, Value.cells]
    rw [h3]
    have hr : i % 10 < 10 := Nat.mod_lt _ (by omega)
    generalize i % 10 = r at hr
    have : r = 0 ∨ r = 1 ∨ r = 2 ∨ r = 3 ∨ r = 4 ∨ r = 5 ∨ r = 6 ∨ r = 7 ∨ r = 8 ∨ r = 9 := by omega
    rcases this with rfl | rfl | rfl | rfl | rfl | rfl | rfl | rfl | rfl | rfl <;> rfl
  · rw [List.getElem?_eq_none (by rw [Array.length_toList, size_madeCells]; omega), List.getElem?_eq_none (by rw [hL]; omega)]
/-- The ten cells of an entry of a ledger. -/
theorem led_ten {base g n cap j : Nat} {w : World} {qs rest : List Ep} {z : Ep} (h : Led base w (.slice (some ⟨g, 0, none⟩) n cap) (qs ++ z :: rest)) (hj : qs.length = j) :
    (w.cell? ⟨g, j * 10, none⟩ = some (.int .i64 z.1.cl) ∧ w.frozen? ⟨g, j * 10, none⟩ = false) ∧ (w.cell? ⟨g, j * 10 + 1, none⟩ = some (.int .i64 z.1.nu) ∧ w.frozen? ⟨g, j * 10 + 1, none⟩ = false) ∧ (w.cell? ⟨g, j * 10 + 2, none⟩ = some (.int .i64 z.1.ki) ∧ w.frozen? ⟨g, j * 10 + 2, none⟩ = false) ∧ (w.cell? ⟨g, j * 10 + 3, none⟩ = some (.int .i64 z.1.id) ∧ w.frozen? ⟨g, j * 10 + 3, none⟩ = false) ∧ (w.cell? ⟨g, j * 10 + 4, none⟩ = some (.int .i64 z.1.sk) ∧ w.frozen? ⟨g, j * 10 + 4, none⟩ = false) ∧ (w.cell? ⟨g, j * 10 + 5, none⟩ = some (.int .i64 z.1.sq) ∧ w.frozen? ⟨g, j * 10 + 5, none⟩ = false) ∧ (w.cell? ⟨g, j * 10 + 6, none⟩ = some (.int .i64 z.1.st) ∧ w.frozen? ⟨g, j * 10 + 6, none⟩ = false) ∧ (w.cell? ⟨g, j * 10 + 7, none⟩ = some (.int .i64 z.1.po) ∧ w.frozen? ⟨g, j * 10 + 7, none⟩ = false) ∧ (w.cell? ⟨g, j * 10 + 8, none⟩ = some (tv z) ∧ w.frozen? ⟨g, j * 10 + 8, none⟩ = false) ∧ (w.cell? ⟨g, j * 10 + 9, none⟩ = some (.int .i64 z.1.tm) ∧ w.frozen? ⟨g, j * 10 + 9, none⟩ = false) := by
  have ho := h.own
  have hz : (qs ++ z :: rest)[j]? = some z := by rw [← hj]; simp
  have hn : n = (qs ++ z :: rest).length := by obtain ⟨_, _, e, _⟩ := own_sh ho; simp only [Value.slice.injEq] at e; exact e.2.1
  rw [← hn] at ho
  have q : ∀ r u, r < 10 → (c10 z)[r]? = some u → w.cell? ⟨g, j * 10 + r, none⟩ = some u ∧ w.frozen? ⟨g, j * 10 + r, none⟩ = false := fun r u hr hu => own_cell ho ((fl_get c10 10 c10_len _ j r z hz hr).trans hu)
  exact ⟨q 0 _ (by omega) rfl, q 1 _ (by omega) rfl, q 2 _ (by omega) rfl, q 3 _ (by omega) rfl, q 4 _ (by omega) rfl, q 5 _ (by omega) rfl, q 6 _ (by omega) rfl, q 7 _ (by omega) rfl, q 8 _ (by omega) rfl, q 9 _ (by omega) rfl⟩
set_option maxHeartbeats 12800000 in
theorem cloneL_any (w : World) (v : Value) (ps : List Ep) (h : Ens w v ps) (hl : ps.length * 96 ≤ 140737488355328) (hs : ∀ t ∈ ps, small t) : Calls Tryd.prog 62 #[v] w fun r w' => ∃ v' qs, r = .returned v' ∧ Led w.heap.size w' v' qs ∧ fs1 qs = fs1 ps ∧ Below w.heap.size w w' := by
  obtain ⟨ie2, hi, hz0, hz1, hz2⟩ := info_parts info_entry
  have hie2 := mkHid (And.intro hi (And.intro hz0 (And.intro hz1 hz2)))
  clear hi hz0 hz1 hz2
  have h' := h
  obtain ⟨a0, cap0, rfl, hl0, _⟩ := h'
  have HE := mkHid h
  have HS := mkHid hs
  have HL : Hid (ie2.bytes * ps.length ≤ 281474976710656 ∧ ps.length ≤ maxLen) := mkHid ⟨by rw [hie2.out.2.2.2]; omega, by unfold maxLen; omega⟩
  clear h hs hl
  go_enter Tryd.func62, Tryd.ntmps62
  go_wp2_with (refine wpList_make_full _ rfl (.tmp 7) (.tmp 7) 35 rfl w.heap.size 28 ie2 _ 10 Tryd.underlying35 hie2.out.1 hie2.out.2.1 hie2.out.2.2.1 .i64 .i64 (ps.length : Int) (ps.length : Int) ps.length rfl rfl rfl rfl HL.out.1 HL.out.2 (Nat.le_refl _) ?_; intro w1 ho1 hg1; rw [made_zeros] at ho1; have HO1 : Hid (Led w.heap.size w1 (.slice (some ⟨w.heap.size, 0, none⟩) ps.length ps.length) (List.replicate ps.length zp)) := mkHid ⟨(by rw [List.length_replicate]; exact ho1), fun t ht => (by rw [(List.mem_replicate.mp ht).2]; exact World.ownsRow_nil _ _ _ _), fun t ht k e => (by rw [(List.mem_replicate.mp ht).2] at e; simp [Value.ownBlock] at e)⟩; have HB1 : Hid (Below w.heap.size w w1 ∧ w.heap.size < w1.heap.size) := mkHid ⟨(Below.refl w.heap.size w).grown hg1 (Nat.le_refl _) (fun k hk => by simp at hk), (ho1.lt w.heap.size rfl).2⟩; clear ho1 hg1)
  go_loopw [11] (fun iv wr => ∃ (j : Nat) (qs : List Ep), iv = .int .i64 (j : Int) ∧ j ≤ ps.length ∧ qs.length = j ∧ Hid (fs1 qs = (fs1 ps).take j ∧ Led w.heap.size wr (.slice (some ⟨w.heap.size, 0, none⟩) ps.length ps.length) (qs ++ List.replicate (ps.length - j) zp) ∧ Below w.heap.size w wr ∧ w.heap.size < wr.heap.size)) (fun iv _ => ps.length - (intOf iv).toNat)
  case atStart => exact ⟨0, [], rfl, Nat.zero_le _, rfl, mkHid ⟨by simp, by simpa using HO1.out, HB1.out.1, HB1.out.2⟩⟩
  case round =>
    clear HO1 HB1
    obtain ⟨j, qs, rfl, hj, hqj, HI⟩ := hrel
    by_cases hlt : j < ps.length
    · obtain ⟨b, off, ⟨e, ta, tc⟩, rfl, hxj, hat, hew⟩ := HE.out.at HI.out.2.2.1 j hlt
      have hji : (j : Int) < ps.length := by omega
      obtain ⟨d0, d1, d2, d3, d4, d5, d6, d7, d8, d9⟩ := hat.ten
      simp only [tv] at d0 d1 d2 d3 d4 d5 d6 d7 d8 d9
      have HXJ := mkHid (And.intro hxj hew)
      have HSM := mkHid (HS.out _ (List.mem_of_getElem? hxj))
      have hrep : List.replicate (ps.length - j) zp = zp :: List.replicate (ps.length - (j + 1)) zp := by
        rw [show ps.length - j = ps.length - (j + 1) + 1 by omega, List.replicate_succ]
      have HLD : Hid (Led w.heap.size wr (.slice (some ⟨w.heap.size, 0, none⟩) ps.length ps.length) (qs ++ zp :: List.replicate (ps.length - (j + 1)) zp)) := mkHid (by rw [← hrep]; exact HI.out.2.1)
      clear hxj hat hew hrep
      go_wp2_with (go_at_call 63; refine (cloneE_any _ e ta tc (EnW.below HXJ.out.2 (ba (Below.refl _ wr) _)) HSM.out).mono ?_; rintro r w2 ⟨a2, c2, rfl, ho2, hb2⟩; simp only [vP, vN, tv]; have HB2 : Hid (Below wr.heap.size wr w2) := mkHid (bt (ba (Below.refl _ wr) _) hb2); have HO2 : Hid (w2.ownsRow wr.heap.size 45 4 (.slice a2 e.ts.length c2) e.ts.length (e.ts.flatMap c4)) := mkHid (own_up4 ho2 (by simp)); have HL2 := mkHid (HLD.out.below HB2.out); obtain ⟨⟨q0, f0⟩, ⟨q1, f1⟩, ⟨q2, f2⟩, ⟨q3, f3⟩, ⟨q4, f4⟩, ⟨q5, f5⟩, ⟨q6, f6⟩, ⟨q7, f7⟩, ⟨q8, f8⟩, ⟨q9, f9⟩⟩ := led_ten HL2.out hqj; clear ho2 hb2)
      go_roundw
      case rel =>
        have hk := setAt_kept (F := fun k => w.heap.size ≤ k) (Kept.refl _ w2) (g := w.heap.size) (.inl (Nat.le_refl _)) (j * 10) (.int .i64 e.cl) (.int .i64 e.nu) (.int .i64 e.ki) (.int .i64 e.id) (.int .i64 e.sk) (.int .i64 e.sq) (.int .i64 e.st) (.int .i64 e.po) (.slice a2 e.ts.length c2) (.int .i64 e.tm)
        have hb2 := HB2.out
        have hst := HL2.out.store (t := (e, a2, c2)) (by simp; omega) (own_up4 HO2.out (by have := HI.out.2.2.1.size; omega)) (fun k e1 => by have := (HO2.out.lt k e1).1; have := HI.out.2.2.2; omega)
        rw [hqj] at hst
        refine ⟨j + 1, qs ++ [(e, a2, c2)], by go_num, by omega, by simp; omega, mkHid ⟨?_, by simpa using hst, (bt HI.out.2.2.1 hb2).trans (hk.below (fun _ h => h) (by have := HI.out.2.2.1.size; have := hb2.size; omega)), Nat.lt_of_lt_of_le (Nat.lt_of_lt_of_le HI.out.2.2.2 hb2.size) hk.size⟩⟩
        rw [List.take_add_one, fs1_at HXJ.out.1, fs1, List.map_append]
        show fs1 qs ++ _ = _
        rw [HI.out.1]
        rfl
      case measure => simp [intOf]; omega
    · obtain rfl : j = ps.length := by omega
      have hq := HI.out
      rw [Nat.sub_self, List.replicate_zero, List.append_nil, List.take_of_length_le (by simp)] at hq
      have HI2 := mkHid hq
      clear hq
      go_wp2
      go_ret
      exact ⟨_, qs, rfl, HI2.out.2.1, HI2.out.1, HI2.out.2.2.1⟩
end Go.Proofs.YtjocjkfllicjdaaDoor
