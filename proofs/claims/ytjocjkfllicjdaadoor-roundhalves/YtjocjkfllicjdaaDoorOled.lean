/- Ledgers in new memory; the document's Copy. -/
import Derived.Test.YtjocjkfllicjdaaDoorOget4
namespace Go.Proofs.YtjocjkfllicjdaaDoor
open Go.ChangeShapes Go.WideShapes Go.ChangeAt Go.RowKit
set_option maxRecDepth 100000
attribute [local go_sem] World.cell?_alloc_some frozen_alloc_some

theorem ownN_kept {G : Nat → Prop} {w w' : World} {b n0 : Nat} {e : TypeId} {v : Value} {n : Nat} {xs : List Value} (h : w.ownsRow b e n0 v n xs) (hk : Kept G w w') (hn : ∀ k, v.ownBlock = some k → ¬ G k) : w'.ownsRow b e n0 v n xs := by
  refine ⟨h.1, ?_⟩
  rcases h.2 with h1 | ⟨g, cap, cur, rfl, hbg, hg, rest⟩
  · exact .inl h1
  · exact .inr ⟨g, cap, cur, rfl, hbg, by rw [hk.block g (by have := (h.lt g rfl).2; exact this) (hn g rfl)]; exact hg, rest⟩
/-- A ledger that lies in memory from base on. -/
structure Led (base : Nat) (w : World) (v : Value) (ps : List Ep) : Prop where
  own : w.ownsRow base 28 10 v ps.length (ps.flatMap c10)
  tk : ∀ t ∈ ps, w.ownsRow base 45 4 (tv t) t.1.ts.length (t.1.ts.flatMap c4)
  ne : ∀ t ∈ ps, ∀ k, (tv t).ownBlock = some k → v.ownBlock ≠ some k
theorem Led.kept {G : Nat → Prop} {base : Nat} {w w' : World} {v : Value} {ps : List Ep} (h : Led base w v ps) (hk : Kept G w w') (hG : ∀ k, G k → k < base ∨ w.heap.size ≤ k) : Led base w' v ps :=
  ⟨ownN_kept h.own hk (fun k e g => by have := h.own.lt k e; have := hG k g; omega), fun t ht => ownN_kept (h.tk t ht) hk (fun k e g => by have := (h.tk t ht).lt k e; have := hG k g; omega), h.ne⟩
theorem Led.below {base : Nat} {w w' : World} {v : Value} {ps : List Ep} (h : Led base w v ps) (hb : Below w.heap.size w w') : Led base w' v ps := h.kept (kept_of_below hb) (fun _ hk => .inr hk)
theorem Led.push {base : Nat} {w w1 : World} {v v1 : Value} {ps : List Ep} {t : Ep} (h : Led base w v ps) (hown : w1.ownsRow base 28 10 v1 (ps.length + 1) (ps.flatMap c10 ++ c10 t)) (hg : w.grownBy w1 v.ownBlock) (hat : v1.ownBlock = v.ownBlock ∨ v1.ownBlock = some w.heap.size)
    (ht : w.ownsRow base 45 4 (tv t) t.1.ts.length (t.1.ts.flatMap c4)) (hne : ∀ k, (tv t).ownBlock = some k → v.ownBlock ≠ some k) : Led base w1 v1 (ps ++ [t]) := by
  have hk := Kept.grown hg (F := fun k => v.ownBlock = some k) (fun k hk => hk)
  have hne' : ∀ u : Ep, (∀ k, (tv u).ownBlock = some k → v.ownBlock ≠ some k) → w.ownsRow base 45 4 (tv u) u.1.ts.length (u.1.ts.flatMap c4) → ∀ k, (tv u).ownBlock = some k → v1.ownBlock ≠ some k := by
    intro u hu ho k e e2
    rcases hat with a | a
    · exact hu k e (a ▸ e2)
    · rw [a] at e2; simp at e2; have := (ho.lt k e).2; omega
  refine ⟨?_, fun u hu => ?_, fun u hu => ?_⟩
  · rw [List.flatMap_append, List.length_append]
    simpa using hown
  · rcases List.mem_append.mp hu with m | m
    · exact ownN_kept (h.tk u m) hk (fun k e e2 => h.ne u m k e e2)
    · simp at m; subst m; exact ownN_kept ht hk (fun k e e2 => hne k e e2)
  · rcases List.mem_append.mp hu with m | m
    · exact hne' u (h.ne u m) (h.tk u m)
    · simp at m; subst m; exact hne' u hne ht
theorem Led.ens {base : Nat} {w : World} {v : Value} {ps : List Ep} (h : Led base w v ps) (hl : (ps.length : Int) ≤ 9223372036854775807) (ht : ∀ t ∈ ps, (t.1.ts.length : Int) ≤ 9223372036854775807) : Ens w v ps := by
  obtain ⟨a, cap, e, he⟩ := ens_of_owns hl h.own (fun t hm => by
    obtain ⟨a, c, e, hx⟩ := tks_of_owns (ht t hm) (h.tk t hm)
    simp only [tv, Value.slice.injEq] at e
    unfold EnW tv
    rw [e.1, e.2.2]
    exact hx)
  rw [e]
  exact he
theorem own_sh {w : World} {base n0 : Nat} {e : TypeId} {v : Value} {n : Nat} {xs : List Value} (h : w.ownsRow base e n0 v n xs) : ∃ a c, v = .slice a n c ∧ n ≤ c := by
  rcases h.2 with ⟨rfl, rfl⟩ | ⟨g, cap, cur, rfl, _, _, hn, _⟩
  · exact ⟨none, 0, rfl, Nat.le_refl _⟩
  · exact ⟨_, cap, rfl, hn⟩
theorem src_entry (w : World) (t : Ep) : Src Tryd.prog 10 35 (.slice (some ⟨w.heap.size, 0, none⟩) 1 1) 1 (c10 t) (w.alloc (oE t.1 (tv t))) := by
  refine Src.ofSlice _ Tryd.underlying35 _ 1 1 _ rfl (fun j u hj => ?_) (fun u hu => by simp only [c10, List.mem_cons, List.not_mem_nil, or_false] at hu; rcases hu with rfl | rfl | rfl | rfl | rfl | rfl | rfl | rfl | rfl | rfl <;> rfl)
  have hn := heap_alloc_new w (oE t.1 (tv t))
  have hj10 : j < 10 := (List.getElem?_eq_some_iff.mp hj).1
  rw [add_none]
  have : j = 0 ∨ j = 1 ∨ j = 2 ∨ j = 3 ∨ j = 4 ∨ j = 5 ∨ j = 6 ∨ j = 7 ∨ j = 8 ∨ j = 9 := by omega
  rcases this with rfl | rfl | rfl | rfl | rfl | rfl | rfl | rfl | rfl | rfl <;> simp only [c10, List.getElem?_cons_zero, List.getElem?_cons_succ, Option.some.injEq] at hj <;> subst hj <;> exact cell_of_block hn rfl
theorem src_entry_set (w : World) (p : Addr) (v : Value) (t : Ep) : Src Tryd.prog 10 35 (.slice (some ⟨w.heap.size, 0, none⟩) 1 1) 1 (c10 t) ((w.setCell p v).alloc (oE t.1 (tv t))) := by
  have := src_entry (w.setCell p v) t
  rwa [show (w.setCell p v).heap.size = w.heap.size by simp [World.setCell]] at this
def small (t : Ep) : Prop := t.1.ts.length * 32 ≤ 140737488355328
theorem EnAt.ten {w : World} {b o : Nat} {t : Ep} (h : EnAt w b o t) : w.cell? ⟨b, o, none⟩ = some (.int .i64 t.1.cl) ∧ w.cell? ⟨b, o + 1, none⟩ = some (.int .i64 t.1.nu) ∧ w.cell? ⟨b, o + 2, none⟩ = some (.int .i64 t.1.ki) ∧ w.cell? ⟨b, o + 3, none⟩ = some (.int .i64 t.1.id) ∧ w.cell? ⟨b, o + 4, none⟩ = some (.int .i64 t.1.sk) ∧ w.cell? ⟨b, o + 5, none⟩ = some (.int .i64 t.1.sq) ∧ w.cell? ⟨b, o + 6, none⟩ = some (.int .i64 t.1.st) ∧ w.cell? ⟨b, o + 7, none⟩ = some (.int .i64 t.1.po) ∧ w.cell? ⟨b, o + 8, none⟩ = some (tv t) ∧ w.cell? ⟨b, o + 9, none⟩ = some (.int .i64 t.1.tm) := ⟨h.c0, h.c1, h.c2, h.c3, h.c4, h.c5, h.c6, h.c7, h.c8, h.c9⟩
/-- The tasks of an entry, in new memory: what a made row and an append leave. -/
theorem copied {w w2 : World} {e : En} {tv0 v2 : Value} (ho2 : w2.ownsRow (w.heap.size + 1) 45 4 v2 e.ts.length (e.ts.flatMap c4)) (hg2 : ((w.alloc (oE e tv0)).alloc (.cells #[] 45)).grownBy w2 (Value.slice (some ⟨w.heap.size + 1, 0, none⟩) 0 0).ownBlock) :
    Below w.heap.size w w2 ∧ w2.heap[w.heap.size]? = some (oE e tv0) ∧ ∀ k, v2.ownBlock = some k → w.heap.size + 1 ≤ k ∧ k < w2.heap.size := by
  have hk := Kept.grown hg2 (F := fun k => k = w.heap.size + 1) (fun k hk => by simpa [Value.ownBlock] using hk.symm)
  have hb0 : Below w.heap.size w ((w.alloc (oE e tv0)).alloc (.cells #[] 45)) := ba (ba (Below.refl _ w) _) _
  refine ⟨hb0.trans (hk.below (fun k h => by omega) hb0.size), ?_, fun k e => ho2.lt k e⟩
  rw [hk.block _ (by simp; omega) (by omega)]
  exact (two_facts (Below.refl _ _)).1
theorem copy_step {base : Nat} {wr w2 : World} {ov v2 : Value} {qs : List Ep} {e : En} (hL : Led base wr ov qs) (hbs : base ≤ wr.heap.size) (ho2 : w2.ownsRow (wr.heap.size + 1) 45 4 v2 e.ts.length (e.ts.flatMap c4)) (hb2 : Below wr.heap.size wr w2) :
    Led base ((w2.setCell ⟨wr.heap.size, 8, none⟩ v2).alloc (oE e v2)) ov qs ∧ ((w2.setCell ⟨wr.heap.size, 8, none⟩ v2).alloc (oE e v2)).ownsRow base 45 4 v2 e.ts.length (e.ts.flatMap c4) ∧ (∀ k, v2.ownBlock = some k → ov.ownBlock ≠ some k) ∧ Below wr.heap.size wr ((w2.setCell ⟨wr.heap.size, 8, none⟩ v2).alloc (oE e v2)) := by
  have k1 : Kept (fun k => wr.heap.size ≤ k) wr ((w2.setCell ⟨wr.heap.size, 8, none⟩ v2).alloc (oE e v2)) := (kset (kept_of_below hb2) (.inl (Nat.le_refl _)) 8 v2).trans (Kept.alloc (fun _ => False) _ _) (fun _ h => h.elim)
  have k2 : Kept (fun k => k = wr.heap.size) w2 ((w2.setCell ⟨wr.heap.size, 8, none⟩ v2).alloc (oE e v2)) := (Kept.setCell (F := fun k => k = wr.heap.size) w2 (p := ⟨wr.heap.size, 8, none⟩) rfl v2).trans (Kept.alloc (fun _ => False) _ _) (fun _ h => h.elim)
  refine ⟨hL.kept k1 (fun k h => .inr h), own_up4 (ownN_kept ho2 k2 (fun k e e2 => by have := (ho2.lt k e).1; omega)) (by omega), fun k e e2 => ?_, k1.below (fun _ h => h) (Nat.le_refl _)⟩
  have := (ho2.lt k e).1
  have := (hL.own.lt k e2).2
  omega
set_option maxHeartbeats 12800000 in
theorem copy_any (w : World) (v : Value) (ps : List Ep) (h : Ens w v ps) (hl : ps.length * 96 ≤ 140737488355328) (hs : ∀ t ∈ ps, small t) : Calls Tryd.prog 8 #[v] w fun r w' => ∃ v' qs, r = .returned v' ∧ Led w.heap.size w' v' qs ∧ qs.map (·.1) = ps.map (·.1) ∧ Below w.heap.size w w' := by
  obtain ⟨ie, hi, hz0, hz1, hz2⟩ := info_parts info_task
  obtain ⟨zth, hzth⟩ : ∃ z : Value, z = .agg #[.int .i64 0, .int .i64 0, .int .i64 0, .int .i64 0] := ⟨_, rfl⟩
  rw [← hzth] at hz0
  have HZ : Hid (zth.cells.size = 4) := mkHid (by rw [hzth]; rfl)
  have hie := mkHid (And.intro hi (And.intro hz0 (And.intro hz1 hz2)))
  clear hzth hi hz0 hz1 hz2
  obtain ⟨ie2, hi, hz0, hz1, hz2⟩ := info_parts info_entry
  obtain ⟨zth2, hzth⟩ : ∃ z : Value, z = .agg #[.int .i64 0, .int .i64 0, .int .i64 0, .int .i64 0, .int .i64 0, .int .i64 0, .int .i64 0, .int .i64 0, .slice none 0 0, .int .i64 0] := ⟨_, rfl⟩
  rw [← hzth] at hz0
  have HZ2 : Hid (zth2.cells.size = 10) := mkHid (by rw [hzth]; rfl)
  have hie2 := mkHid (And.intro hi (And.intro hz0 (And.intro hz1 hz2)))
  clear hzth hi hz0 hz1 hz2
  have h' := h
  obtain ⟨a0, cap0, rfl, hl0, _⟩ := h'
  have HE := mkHid h
  have HS := mkHid hs
  have HL := mkHid hl
  clear h hs hl
  go_enter Tryd.func8, Tryd.ntmps8
  go_wp2
  go_loopw [3, 9] (fun ov iv wr => ∃ (j : Nat) (qs : List Ep), iv = .int .i64 (j : Int) ∧ j ≤ ps.length ∧ Hid (qs.map (·.1) = (ps.take j).map (·.1) ∧ Led w.heap.size wr ov qs ∧ Below w.heap.size w wr)) (fun _ iv _ => ps.length - (intOf iv).toNat)
  case atStart =>
    refine ⟨0, [], rfl, Nat.zero_le _, mkHid ⟨by simp, ⟨?_, fun t ht => by simp at ht, fun t ht => by simp at ht⟩, ba (Below.refl _ w) _⟩⟩
    exact World.ownsRow_made (base := w.heap.size) (e := 28) (size := 10) w #[] 0 (Nat.le_refl _) (by unfold maxLen; omega) rfl
  case round =>
    obtain ⟨j, qs, rfl, hj, HI⟩ := hrel
    obtain ⟨oa, oc, rfl, _⟩ := own_sh HI.out.2.1.own
    by_cases hlt : j < ps.length
    · obtain ⟨b, off, t, rfl, hxj, hat, hew⟩ := HE.out.at HI.out.2.2 j hlt
      have hji : (j : Int) < ps.length := by omega
      have HSM : Hid (t.1.ts.length * 32 ≤ 140737488355328) := mkHid (HS.out t (List.mem_of_getElem? hxj))
      obtain ⟨d0, d1, d2, d3, d4, d5, d6, d7, d8, d9⟩ := hat.ten
      obtain ⟨e, ta, tc⟩ := t
      simp only [tv] at d0 d1 d2 d3 d4 d5 d6 d7 d8 d9
      have HXJ := mkHid hxj
      have HSRC := mkHid (Tks.src (Tks.below hew (ba (ba (Below.refl _ wr) (oE e (.slice ta e.ts.length tc))) (.cells #[] 45))))
      have HM : Hid (((wr.alloc (oE e (.slice ta e.ts.length tc))).alloc (.cells #[] 45)).ownsRow (wr.heap.size + 1) 45 4 (.slice (some ⟨wr.heap.size + 1, 0, none⟩) 0 0) 0 []) := mkHid (by
        have := World.ownsRow_made (base := wr.heap.size + 1) (e := 45) (size := 4) (wr.alloc (oE e (.slice ta e.ts.length tc))) #[] 0 (by simp) (by unfold maxLen; omega) rfl
        rw [show (wr.alloc (oE e (.slice ta e.ts.length tc))).heap.size = wr.heap.size + 1 by simp] at this
        exact this)
      have HQL : Hid (qs.length = j) := mkHid (by have := congrArg List.length HI.out.1; rw [List.length_map, List.length_map, List.length_take] at this; omega)
      clear hat hew hxj
      have M1 : True := trivial
      go_wp2_with (first
        | (at_builtin; clear M1; refine wpList_append_src4 _ rfl (.tmp 13) (.tmp 16) 24 24 rfl (wr.heap.size + 1) 45 ie Tryd.underlying24 hie.out.1 zth 32 hie.out.2.1 HZ.out hie.out.2.2.1 hie.out.2.2.2 _ 0 [] rfl HM.out _ e.ts.length (e.ts.flatMap c4) rfl HSRC.out (by have := HSM.out; unfold maxLen; simp only at this; omega) (by have := HSM.out; simp only at this; omega) (by simp) ?_; intro v2 w2 ho2 hg2 _; rw [Nat.zero_add, List.nil_append] at ho2; obtain ⟨a2, c2, rfl⟩ := own_shape ho2; obtain ⟨hb2, hx2, hv2⟩ := copied ho2 hg2; obtain ⟨q0, q1, q2, q3, q4, q5, q6, q7, q8, q9⟩ := ent_cells hx2; obtain ⟨f0, f1, f2, f3, f4, f5, f6, f7, f8, f9⟩ := ent_frozen hx2; have HW4 := mkHid (copy_step HI.out.2.1 HI.out.2.2.size ho2 hb2); clear ho2 hg2 hb2 hx2 hv2)
        | (at_builtin; refine wpList_append_src10 _ rfl (.tmp 20) (.tmp 22) 35 35 rfl w.heap.size 28 ie2 Tryd.underlying35 hie2.out.1 zth2 96 hie2.out.2.1 HZ2.out hie2.out.2.2.1 hie2.out.2.2.2 (.slice oa qs.length oc) qs.length (qs.flatMap c10) rfl HW4.out.1.own _ 1 (c10 (e, a2, c2)) rfl (src_entry_set w2 ⟨wr.heap.size, 8, none⟩ (.slice a2 e.ts.length c2) (e, a2, c2)) (by have := HL.out; have := HQL.out; unfold maxLen; omega) (by have := HL.out; have := HQL.out; omega) (Nat.le_trans HI.out.2.2.size HW4.out.2.2.2.size) ?_; intro v3 w3 ho3 hg3 hv3; have HP := mkHid (And.intro (HW4.out.1.push (t := (e, a2, c2)) ho3 hg3 hv3 HW4.out.2.1 HW4.out.2.2.1) ((bt HI.out.2.2 HW4.out.2.2.2).grown hg3 (Nat.le_trans HI.out.2.2.size HW4.out.2.2.2.size) (fun k hk => (HW4.out.1.own.lt k hk).1))); clear ho3 hg3 hv3))
      go_roundw
      case rel =>
        refine ⟨j + 1, qs ++ [(e, a2, c2)], by go_num, by omega, mkHid ⟨?_, HP.out.1, HP.out.2⟩⟩
        rw [List.take_add_one, HXJ.out, List.map_append, List.map_append, HI.out.1]
        rfl
      case measure => simp [intOf]; omega
    · obtain rfl : j = ps.length := by omega
      have hq := HI.out
      rw [List.take_of_length_le (Nat.le_refl _)] at hq
      have HI2 := mkHid hq
      clear hq
      go_wp2
      go_ret
      exact ⟨_, rfl, qs, HI2.out.2.1, HI2.out.1, HI2.out.2.2⟩
end Go.Proofs.YtjocjkfllicjdaaDoor
