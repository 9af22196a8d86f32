/- Copies of entries and ledgers: slices.Clone, cloneEntry, clone. -/
import Derived.Test.YtihdkgekickohaaGreatDoorOplace
import Derived.Test.YtihdkgekickohaaGreatDoorOwrite
namespace Go.Proofs.YtihdkgekickohaaGreatDoor
open Go.ChangeShapes Go.WideShapes Go.ChangeAt Go.RowKit
set_option maxRecDepth 100000
attribute [local go_sem] World.cell?_alloc_some frozen_alloc_some

theorem eql_nilT (w : World) (a : Option Addr) (n c n' c' : Nat) : (binOp .eql 65 (.slice a n c) (.slice none n' c')).run Tryz.prog w = .ok (.bool a.isNone) w :=
  Lib.run_eql_slice_nil w _ _ a n c n' c' Tryz.underlying65
/-- The tasks in new memory. -/
theorem cloneT_any (w : World) (a : Option Addr) (cap : Nat) (ts : List Tk) (h : Tks w (.slice a ts.length cap) ts) (hs : ts.length * 32 ≤ 140737488355328) : Calls Tryz.prog 84 #[.slice a ts.length cap] w fun r w' => ∃ a2 c2, r = .returned (.slice a2 ts.length c2) ∧ w'.ownsRow w.heap.size 137 4 (.slice a2 ts.length c2) ts.length (ts.flatMap c4) ∧ Below w.heap.size w w' := by
  obtain ⟨ie, hi, hz0, hz1, hz2⟩ := info_parts info_task
  obtain ⟨zth, hzth⟩ : ∃ z : Value, z = .agg #[.int .i64 0, .int .i64 0, .int .i64 0, .int .i64 0] := ⟨_, rfl⟩
  rw [← hzth] at hz0
  have HZ : Hid (zth.cells.size = 4) := mkHid (by rw [hzth]; rfl)
  have hie := mkHid (And.intro hi (And.intro hz0 (And.intro hz1 hz2)))
  clear hzth hi hz0 hz1 hz2
  have HS := mkHid hs
  cases a with
  | none =>
    have h0 : ts = [] := by
      obtain ⟨a', c', e, _, hr⟩ := h
      by_cases hp : 0 < ts.length
      · obtain ⟨b, o, e2, _⟩ := hr hp
        simp only [Value.slice.injEq] at e
        rw [e2] at e
        simp at e
      · exact List.length_eq_zero_iff.mp (by omega)
    subst h0
    have hq := eql_nilT w none 0 cap 0 0
    clear h hs
    go_enter Tryz.func84, Tryz.ntmps84
    go_wp2
    go_ret
    exact ⟨none, 0, rfl, World.ownsRow_nil _ _ _ _, Below.refl _ _⟩
  | some ad =>
    have hq := eql_nilT w (some ad) ts.length cap 0 0
    have HSRC := mkHid ((h.below (ba (Below.refl _ w) (.cells #[] 137))).src)
    have HM : Hid ((w.alloc (.cells #[] 137)).ownsRow w.heap.size 137 4 (.slice (some ⟨w.heap.size, 0, none⟩) 0 0) 0 []) := mkHid (World.ownsRow_made (base := w.heap.size) (e := 137) (size := 4) w #[] 0 (Nat.le_refl _) (by unfold maxLen; omega) rfl)
    clear h hs
    go_enter Tryz.func84, Tryz.ntmps84
    go_wp2_with (at_builtin; refine wpList_append_src4 _ rfl (.tmp 5) (.tmp 6) 65 65 rfl w.heap.size 137 ie Tryz.underlying65 hie.out.1 zth 32 hie.out.2.1 HZ.out hie.out.2.2.1 hie.out.2.2.2 _ 0 [] rfl HM.out _ ts.length (ts.flatMap c4) rfl HSRC.out (by have := HS.out; unfold maxLen; omega) (by have := HS.out; omega) (by simp) ?_; intro v2 w2 ho2 hg2 _; rw [Nat.zero_add, List.nil_append] at ho2; obtain ⟨a2, c2, rfl⟩ := own_shape ho2; have HO2 := mkHid (And.intro ho2 ((ba (Below.refl _ w) _).grown hg2 (by simp) (fun k hk => (HM.out.lt k hk).1))); clear ho2 hg2)
    go_ret
    exact ⟨a2, c2, rfl, HO2.out.1, HO2.out.2⟩
theorem ent_leaves1 {W : World} {R : Nat} {p : Tmp} {fn : Func} {c0 c1 c2 c3 c4 c5 c6 c7 c8 c9 : Value} (hf : fn.results = #[.cell p 69]) (hR : W.heap[R]? = some (.cells #[c0, c1, c2, c3, c4, c5, c6, c7, c8, c9] 69 (0, 0))) (tmps : Array Value) (h2 : tmps.getD p undef = .pointer (some ⟨R, 0, none⟩)) : (results fn tmps).run Tryz.prog W = .ok (.agg #[c0, c1, c2, c3, c4, c5, c6, c7, c8, c9]) W := by
  have hl := run_loadVar_row (P := Tryz.prog) W R 69 69 #[c0, c1, c2, c3, c4, c5, c6, c7, c8, c9] (0, 0) _ hR Tryz.underlying69 rfl sizeE
  rw [results_cell1 hf, h2]
  simp [asAddr, Result.andThen, hl]
/-- Ten cells of a row are set. -/
theorem own_put {w : World} {base : Nat} {e : TypeId} {size g n cap : Nat} {xs : List Value} (h : w.ownsRow base e size (.slice (some ⟨g, 0, none⟩) n cap) n xs) (k : Nat) (u : Value) : (w.setCell ⟨g, k, none⟩ u).ownsRow base e size (.slice (some ⟨g, 0, none⟩) n cap) n (xs.set k u) := by
  refine ⟨by rw [List.length_set]; exact h.1, ?_⟩
  rcases h.2 with ⟨e, _⟩ | ⟨g', cap', cur, e1, hb, hg, h1, h2, h3, h4⟩
  · simp at e
  · simp only [Value.slice.injEq, Option.some.injEq, Addr.mk.injEq] at e1
    obtain ⟨⟨rfl, _⟩, _, rfl⟩ := e1
    refine .inr ⟨g, cap, cur.set! k u, rfl, hb, heap_set hg, h1, h2, by simpa using h3, ?_⟩
    rw [← h4]
    simp [List.take_set]
theorem own_cell {w : World} {base : Nat} {e : TypeId} {size g n cap : Nat} {xs : List Value} (h : w.ownsRow base e size (.slice (some ⟨g, 0, none⟩) n cap) n xs) {k : Nat} {u : Value} (hk : xs[k]? = some u) : w.cell? ⟨g, k, none⟩ = some u ∧ w.frozen? ⟨g, k, none⟩ = false := by
  rcases h.2 with ⟨e, _⟩ | ⟨g', cap', cur, e1, hb, hg, h1, h2, h3, h4⟩
  · simp at e
  · simp only [Value.slice.injEq, Option.some.injEq, Addr.mk.injEq] at e1
    obtain ⟨⟨rfl, _⟩, _, rfl⟩ := e1
    refine ⟨cell_of_block hg ?_, frozen_of_block hg⟩
    rw [← h4, List.getElem?_take] at hk
    split at hk
    · simpa using hk
    · cases hk
abbrev setAt (w : World) (g o : Nat) (v0 v1 v2 v3 v4 v5 v6 v7 v8 v9 : Value) : World := (((((((((w.setCell ⟨g, o, none⟩ v0).setCell ⟨g, o + 1, none⟩ v1).setCell ⟨g, o + 2, none⟩ v2).setCell ⟨g, o + 3, none⟩ v3).setCell ⟨g, o + 4, none⟩ v4).setCell ⟨g, o + 5, none⟩ v5).setCell ⟨g, o + 6, none⟩ v6).setCell ⟨g, o + 7, none⟩ v7).setCell ⟨g, o + 8, none⟩ v8).setCell ⟨g, o + 9, none⟩ v9
theorem setAt_kept {F : Nat → Prop} {w w' : World} (h : Kept F w w') {g : Nat} (hb : F g ∨ w.heap.size ≤ g) (o : Nat) (v0 v1 v2 v3 v4 v5 v6 v7 v8 v9 : Value) : Kept F w (setAt w' g o v0 v1 v2 v3 v4 v5 v6 v7 v8 v9) :=
  kset (kset (kset (kset (kset (kset (kset (kset (kset (kset h hb o v0) hb (o + 1) v1) hb (o + 2) v2) hb (o + 3) v3) hb (o + 4) v4) hb (o + 5) v5) hb (o + 6) v6) hb (o + 7) v7) hb (o + 8) v8) hb (o + 9) v9
theorem ten_sets (A B : List Value) (c0 c1 c2 c3 c4 c5 c6 c7 c8 c9 v0 v1 v2 v3 v4 v5 v6 v7 v8 v9 : Value) (o : Nat) (ho : A.length = o) :
    ((((((((((A ++ ([c0, c1, c2, c3, c4, c5, c6, c7, c8, c9] ++ B)).set o v0).set (o + 1) v1).set (o + 2) v2).set (o + 3) v3).set (o + 4) v4).set (o + 5) v5).set (o + 6) v6).set (o + 7) v7).set (o + 8) v8).set (o + 9) v9 = A ++ ([v0, v1, v2, v3, v4, v5, v6, v7, v8, v9] ++ B) := by
  subst ho
  simp [List.set_append_right]
def zEn : En := ⟨0, 0, 0, 0, 0, 0, 0, 0, [], 0⟩
abbrev zp : Ep := (zEn, none, 0)
theorem c10_len (t : Ep) : (c10 t).length = 10 := rfl
theorem Led.store {base g n cap : Nat} {w : World} {qs rest : List Ep} {z t : Ep} (h : Led base w (.slice (some ⟨g, 0, none⟩) n cap) (qs ++ z :: rest)) (hn : n = (qs ++ z :: rest).length) (ht : w.ownsRow base 137 4 (tv t) t.1.ts.length (t.1.ts.flatMap c4)) (hne : ∀ k, (tv t).ownBlock = some k → k ≠ g) :
    Led base (setAt w g (qs.length * 10) (.int .i64 t.1.cl) (.int .i64 t.1.nu) (.int .i64 t.1.ki) (.int .i64 t.1.id) (.int .i64 t.1.sk) (.int .i64 t.1.sq) (.int .i64 t.1.st) (.int .i64 t.1.po) (tv t) (.int .i64 t.1.tm)) (.slice (some ⟨g, 0, none⟩) n cap) (qs ++ t :: rest) := by
  have hl : (qs ++ z :: rest).length = (qs ++ t :: rest).length := by simp
  have hlt : qs.length < n := by rw [hn]; simp
  have ho := h.own
  rw [← hn] at ho
  have hq : (qs.flatMap c10).length = qs.length * 10 := fl_len c10 10 c10_len qs
  have hk := setAt_kept (F := fun k => k = g) (Kept.refl _ w) (g := g) (.inl rfl) (qs.length * 10) (.int .i64 t.1.cl) (.int .i64 t.1.nu) (.int .i64 t.1.ki) (.int .i64 t.1.id) (.int .i64 t.1.sk) (.int .i64 t.1.sq) (.int .i64 t.1.st) (.int .i64 t.1.po) (tv t) (.int .i64 t.1.tm)
  have hne2 : ∀ u ∈ qs ++ t :: rest, ∀ k, (tv u).ownBlock = some k → k ≠ g := by
    intro u hu k e
    rcases List.mem_append.mp hu with m | m
    · exact fun e2 => h.ne u (List.mem_append_left _ m) k e (by rw [e2]; rfl)
    · rcases List.mem_cons.mp m with rfl | m
      · exact hne k e
      · exact fun e2 => h.ne u (List.mem_append_right _ (List.mem_cons_of_mem _ m)) k e (by rw [e2]; rfl)
  refine ⟨?_, fun u hu => ownN_kept ?_ hk (fun k e => hne2 u hu k e), fun u hu k e e2 => hne2 u hu k e (by simpa [Value.ownBlock] using e2.symm)⟩
  · rw [← hl, ← hn]
    have hx := own_put (own_put (own_put (own_put (own_put (own_put (own_put (own_put (own_put (own_put ho (qs.length * 10) (.int .i64 t.1.cl)) (qs.length * 10 + 1) (.int .i64 t.1.nu)) (qs.length * 10 + 2) (.int .i64 t.1.ki)) (qs.length * 10 + 3) (.int .i64 t.1.id)) (qs.length * 10 + 4) (.int .i64 t.1.sk)) (qs.length * 10 + 5) (.int .i64 t.1.sq)) (qs.length * 10 + 6) (.int .i64 t.1.st)) (qs.length * 10 + 7) (.int .i64 t.1.po)) (qs.length * 10 + 8) (tv t)) (qs.length * 10 + 9) (.int .i64 t.1.tm)
    rw [List.flatMap_append, List.flatMap_cons] at hx
    rw [List.flatMap_append, List.flatMap_cons]
    have := ten_sets (qs.flatMap c10) (rest.flatMap c10) (.int .i64 z.1.cl) (.int .i64 z.1.nu) (.int .i64 z.1.ki) (.int .i64 z.1.id) (.int .i64 z.1.sk) (.int .i64 z.1.sq) (.int .i64 z.1.st) (.int .i64 z.1.po) (tv z) (.int .i64 z.1.tm) (.int .i64 t.1.cl) (.int .i64 t.1.nu) (.int .i64 t.1.ki) (.int .i64 t.1.id) (.int .i64 t.1.sk) (.int .i64 t.1.sq) (.int .i64 t.1.st) (.int .i64 t.1.po) (tv t) (.int .i64 t.1.tm) (qs.length * 10) hq
    rw [show c10 z = [.int .i64 z.1.cl, .int .i64 z.1.nu, .int .i64 z.1.ki, .int .i64 z.1.id, .int .i64 z.1.sk, .int .i64 z.1.sq, .int .i64 z.1.st, .int .i64 z.1.po, tv z, .int .i64 z.1.tm] from rfl, this] at hx
    exact hx
  · rcases List.mem_append.mp hu with m | m
    · exact h.tk u (List.mem_append_left _ m)
    · rcases List.mem_cons.mp m with rfl | m
      · exact ht
      · exact h.tk u (List.mem_append_right _ (List.mem_cons_of_mem _ m))
theorem made_zeros (n : Nat) : (madeCells (Value.agg #[.int .i64 0, .int .i64 0, .int .i64 0, .int .i64 0, .int .i64 0, .int .i64 0, .int .i64 0, .int .i64 0, .slice none 0 0, .int .i64 0]).cells (n * 10)).toList = (List.replicate n zp).flatMap c10 := by
  have hL : ((List.replicate n zp).flatMap c10).length = n * 10 := by rw [fl_len c10 10 c10_len, List.length_replicate]
  apply List.ext_getElem?
  intro i
  by_cases hi : i < n * 10
  · have h1 : (List.replicate n zp)[i / 10]? = some zp := by rw [List.getElem?_replicate]; simp; omega
    have h2 := fl_get c10 10 c10_len (List.replicate n zp) (i / 10) (i % 10) zp h1 (Nat.mod_lt _ (by omega))
    rw [show i / 10 * 10 + i % 10 = i by omega] at h2
    rw [h2]
    have h3 : (madeCells (Value.agg #[.int .i64 0, .int .i64 0, .int .i64 0, .int .i64 0, .int .i64 0, .int .i64 0, .int .i64 0, .int .i64 0, .slice none 0 0, .int .i64 0]).cells (n * 10)).toList[i]? = some ((Value.agg #[.int .i64 0, .int .i64 0, .int .i64 0, .int .i64 0, .int .i64 0, .int .i64 0, .int .i64 0, .int .i64 0, .slice none 0 0, .int .i64 0]).cells[i % 10]!) := by
      rw [madeCells]
      simp [hi, Value.cells]
    rw [h3]
    have hr : i % 10 < 10 := Nat.mod_lt _ (by omega)
    generalize i % 10 = r at hr
    have : r = 0 ∨ r = 1 ∨ r = 2 ∨ r = 3 ∨ r = 4 ∨ r = 5 ∨ r = 6 ∨ r = 7 ∨ r = 8 ∨ r = 9 := by omega
    rcases this with rfl | rfl | rfl | rfl | rfl | rfl | rfl | rfl | rfl | rfl <;> rfl
  · rw [List.getElem?_eq_none (by rw [Array.length_toList, size_madeCells]; omega), List.getElem?_eq_none (by rw [hL]; omega)]
/-- The ten cells of an entry of a ledger. -/
theorem led_ten {base g n cap j : Nat} {w : World} {qs rest : List Ep} {z : Ep} (h : Led base w (.slice (some ⟨g, 0, none⟩) n cap) (qs ++ z :: rest)) (hj : qs.length = j) :
    (w.cell? ⟨g, j * 10, none⟩ = some (.int .i64 z.1.cl) ∧ w.frozen? ⟨g, j * 10, none⟩ = false) ∧ (w.cell? ⟨g, j * 10 + 1, none⟩ = some (.int .i64 z.1.nu) ∧ w.frozen? ⟨g, j * 10 + 1, none⟩ = false) ∧ (w.cell? ⟨g, j * 10 + 2, none⟩ = some (.int .i64 z.1.ki) ∧ w.frozen? ⟨g, j * 10 + 2, none⟩ = false) ∧ (w.cell? ⟨g, j * 10 + 3, none⟩ = some (.int .i64 z.1.id) ∧ w.frozen? ⟨g, j * 10 + 3, none⟩ = false) ∧ (w.cell? ⟨g, j * 10 + 4, none⟩ = some (.int .i64 z.1.sk) ∧ w.frozen? ⟨g, j * 10 + 4, none⟩ = false) ∧ (w.cell? ⟨g, j * 10 + 5, none⟩ = some (.int .i64 z.1.sq) ∧ w.frozen? ⟨g, j * 10 + 5, none⟩ = false) ∧ (w.cell? ⟨g, j * 10 + 6, none⟩ = some (.int .i64 z.1.st) ∧ w.frozen? ⟨g, j * 10 + 6, none⟩ = false) ∧ (w.cell? ⟨g, j * 10 + 7, none⟩ = some (.int .i64 z.1.po) ∧ w.frozen? ⟨g, j * 10 + 7, none⟩ = false) ∧ (w.cell? ⟨g, j * 10 + 8, none⟩ = some (tv z) ∧ w.frozen? ⟨g, j * 10 + 8, none⟩ = false) ∧ (w.cell? ⟨g, j * 10 + 9, none⟩ = some (.int .i64 z.1.tm) ∧ w.frozen? ⟨g, j * 10 + 9, none⟩ = false) := by
  have ho := h.own
  have hz : (qs ++ z :: rest)[j]? = some z := by rw [← hj]; simp
  have hn : n = (qs ++ z :: rest).length := by obtain ⟨_, _, e, _⟩ := own_sh ho; simp only [Value.slice.injEq] at e; exact e.2.1
  rw [← hn] at ho
  have q : ∀ r u, r < 10 → (c10 z)[r]? = some u → w.cell? ⟨g, j * 10 + r, none⟩ = some u ∧ w.frozen? ⟨g, j * 10 + r, none⟩ = false := fun r u hr hu => own_cell ho ((fl_get c10 10 c10_len _ j r z hz hr).trans hu)
  exact ⟨q 0 _ (by omega) rfl, q 1 _ (by omega) rfl, q 2 _ (by omega) rfl, q 3 _ (by omega) rfl, q 4 _ (by omega) rfl, q 5 _ (by omega) rfl, q 6 _ (by omega) rfl, q 7 _ (by omega) rfl, q 8 _ (by omega) rfl, q 9 _ (by omega) rfl⟩
end Go.Proofs.YtihdkgekickohaaGreatDoor
