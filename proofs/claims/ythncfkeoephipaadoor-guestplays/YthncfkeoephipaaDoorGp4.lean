/- The document's guest: New. -/
import Derived.Test.YthncfkeoephipaaDoorGp3
import Derived.Laws.MakeOwn
namespace Go.Proofs.YthncfkeoephipaaDoor
open Go.ChangeShapes Go.WideShapes Go.ChangeAt Go.RowKit
attribute [local go_sem] World.cell?_alloc_some frozen_alloc_some

theorem info_int : (Tryd.prog.info? 3).map (fun i => (i.zero, i.size, i.bytes)) = some (some (.int .i64 0), 1, 8) := by kernel_rfl
theorem made_int (base : Nat) (w : World) (n : Nat) (h : n ≤ 8) (hb : base ≤ w.heap.size) : (w.alloc (.cells (madeCells #[Value.int .i64 0] n) 3)).ownsRow base 3 1 (.slice (some ⟨w.heap.size, 0, none⟩) n n) n ((List.replicate n (0 : Int)).map (Value.int .i64)) := by
  have hl : (madeCells #[Value.int .i64 0] n).toList = List.replicate n (.int .i64 0) := by rw [toList_madeCells_one]
  have hs : (madeCells #[Value.int .i64 0] n).size = n := by rw [← Array.length_toList, hl]; simp
  refine ⟨by simp, .inr ⟨w.heap.size, n, _, rfl, hb, heap_alloc_new w _, Nat.le_refl _, by unfold maxLen; omega, by rw [hs]; omega, ?_⟩⟩
  rw [hl]
  simp
theorem make_int (n : Nat) (h : n ≤ 8) (W : World) : (Instr.makeSlice 53 (.int .i64 (n : Int)) (.int .i64 (n : Int))).run Tryd.prog W = .ok (.slice (some ⟨W.heap.size, 0, none⟩) n n) (W.alloc (.cells (madeCells #[Value.int .i64 0] n) 3)) := by
  obtain ⟨i, h1, h2, h3, h4⟩ := info_parts info_int
  have := run_makeSlice (P := Tryd.prog) W 53 3 i (.int .i64 0) Tryd.underlying53 h1 h2 .i64 .i64 (n : Int) (n : Int) (by omega) (by omega) (by rw [h3]; simp; omega) (by rw [h4]; omega) (by omega)
  rw [this, h3]
  simp [Value.cells]
/-- What New makes, as it lies there. -/
theorem dg_start {base : Nat} {w : World} {p : Int} {tv lv : Value} {ts : List Tk} (hb : base ≤ w.heap.size) (ht : w.ownsRow base 37 4 tv ts.length (ts.flatMap c4)) (hl : w.ownsRow base 3 1 lv ts.length ((List.replicate ts.length (0 : Int)).map (Value.int .i64))) (tl : ∀ k, tv.ownBlock = some k → lv.ownBlock ≠ some k) :
    DG base (w.alloc (.cells #[.int .i64 p, tv, lv, .slice none 0 0] 70)) w.heap.size p tv lv (.slice none 0 0) (List.replicate ts.length 0) ⟨ts.map (fun t => (t, 0)), []⟩ := by
  have hk := Kept.alloc (fun _ => False) w (.cells #[.int .i64 p, tv, lv, .slice none 0 0] 70)
  refine ⟨heap_alloc_new w _, ?_, ?_, World.ownsRow_nil _ _ _ _, hb, fun e => by have := (ht.lt _ e).2; omega, fun e => by have := (hl.lt _ e).2; omega, by simp [Value.ownBlock], tl, fun k _ => by simp [Value.ownBlock], fun k _ => by simp [Value.ownBlock], by simp, fun i l x hl2 hx => ?_⟩
  · rw [start_ts, List.length_map]
    exact ownN_kept ht hk (fun _ _ f => f)
  · rw [List.length_map]
    exact ownN_kept hl hk (fun _ _ f => f)
  · have e1 : l = 0 := by
      have := List.mem_of_getElem? hl2
      simp at this
      exact this.2
    have e2 : x.2 = 0 := by
      have := List.mem_of_getElem? hx
      obtain ⟨t, _, rfl⟩ := List.mem_map.mp this
      rfl
    subst e1
    exact ⟨Int.le_refl _, .inl ⟨rfl, e2⟩⟩
theorem step_append_src4D {P : Program} {ops : Array Oper} {o : Oper} {l : List Value} {df : List Deferred} {w : World} {K : Act → World → Prop} {Q : Exit → Act → World → Prop} {E : Prop} (d : Nat) (hd : o.dst = some d) (hgd : o.guard = none) (sl x : Operand) (t tx : TypeId)
    (hop : o.op = .call { callee := .builtin .append, args := #[sl, x], argTypes := #[t, tx] })
    (base : Nat) (e : TypeId) (i : TypeInfo) (ht : P.underlying t = some (.slice e)) (hi : P.info? e = some i) (z : Value) (B : Nat) (hz : i.zero = some z) (hzs : z.cells.size = 4) (hsize : i.size = 4) (hby : i.bytes = B)
    (v : Value) (n : Nat) (xs : List Value) (hs : Act.eval ⟨l.toArray, df⟩ sl = v) (hown : w.ownsRow base e 4 v n xs) (xv : Value) (m : Nat) (news : List Value) (hx : Act.eval ⟨l.toArray, df⟩ x = xv) (hsrc : Src P 4 tx xv m news w)
    (h63 : n + m ≤ maxLen) (hbytes : (n + m) * B ≤ 140737488355328) (hbase : base ≤ w.heap.size)
    (h : ∀ v' w', w'.ownsRow base e 4 v' (n + m) (xs ++ news) → w.grownBy w' v.ownBlock → (v'.ownBlock = v.ownBlock ∨ v'.ownBlock = some w.heap.size) → K ⟨(l.set d v').toArray, df⟩ w') :
    if Region.wanted o (yielded ops (Act.tmps ⟨l.toArray, df⟩)) = true then Oper.wp P o ⟨l.toArray, df⟩ w K Q else E := by
  have hw : Region.wanted o (yielded ops (Act.tmps ⟨l.toArray, df⟩)) = true := by simp [Region.wanted, hgd]
  rw [if_pos hw]
  obtain ⟨v', w', hr, h2, h3, h4⟩ := run_append_own_src4 (P := P) w base t tx o.type e i ht hi z B hz hzs hsize hby v n xs hown xv m news hsrc h63 hbytes hbase
  unfold Oper.wp execOp
  simp only [hop, resolve, invoke, builtin, Sem.run_bind, Sem.run_pure, Result.andThen_ok, List.map_toArray, List.map_cons, List.map_nil, hs, hx, hr]
  have h5 : K (Act.put ⟨l.toArray, df⟩ o.dst v') w' := by
    rw [hd]
    simpa [Act.put] using h v' w' h2 h3 h4
  exact h5
set_option maxHeartbeats 12800000 in
theorem dnew_is (w : World) (p : Int) (v : Value) (ts : List Tk) (h : Tks w v ts) (h8 : ts.length ≤ 8) : Calls Tryd.prog 11 #[.int .i64 p, v] w fun e w' => ∃ b tv lv, e = .returned (.pointer (some ⟨b, 0, none⟩)) ∧ DG w.heap.size w' b p tv lv (.slice none 0 0) (List.replicate ts.length 0) ⟨ts.map (fun t => (t, 0)), []⟩ ∧ Below w.heap.size w w' := by
  obtain ⟨ie, hie1, hz0, hz1, hz2⟩ := info_parts info_task
  obtain ⟨zth, hzth⟩ : ∃ z : Value, z = .agg #[.int .i64 0, .int .i64 0, .int .i64 0, .int .i64 0] := ⟨_, rfl⟩
  rw [← hzth] at hz0
  have HZ : Hid (zth.cells.size = 4) := mkHid (by rw [hzth]; rfl)
  have hie := mkHid (And.intro hie1 (And.intro hz0 (And.intro hz1 hz2)))
  clear hie1 hz0 hz1 hz2 hzth
  have HT := mkHid h
  obtain ⟨a0, cap, rfl, _, _⟩ := h
  have hmk := fun W => make_int ts.length h8 W
  have HMK := mkHid hmk
  clear hmk
  go_enter Tryd.func11, Tryd.ntmps11
  go_wp2
  refine wp_region_held_drew (S := fun _ => True) (by kernel_rfl) trivial (fun hHeld => ?_)
  refine takeD 0 5 (.int .i64 p) rfl rfl (by kernel_rfl) (by kernel_rfl) (by kernel_rfl) (fun _ _ _ h => h) (Or.inl ⟨by kernel_rfl, by intro w hSw; (try dsimp only at hSw); go_simp⟩) hHeld ?_
  simp only [List.set_cons_zero, List.set_cons_succ]
  refine takeD 2 7 (.slice a0 ts.length cap) rfl rfl (by kernel_rfl) (by kernel_rfl) (by kernel_rfl) (fun _ _ _ h => h) (Or.inl ⟨by kernel_rfl, by intro w hSw; (try dsimp only at hSw); go_simp⟩) hHeld ?_
  simp only [List.set_cons_zero, List.set_cons_succ]
  refine takeD 4 9 (.slice a0 ts.length cap) rfl rfl (by kernel_rfl) (by kernel_rfl) (by kernel_rfl) (fun _ _ _ h => h) (Or.inl ⟨by kernel_rfl, by intro w hSw; (try dsimp only at hSw); go_simp⟩) hHeld ?_
  simp only [List.set_cons_zero, List.set_cons_succ]
  refine takeD 5 10 (.int .i64 (ts.length : Int)) rfl rfl (by kernel_rfl) (by kernel_rfl) (by kernel_rfl) (fun _ _ _ h => h) (Or.inl ⟨by kernel_rfl, by intro w hSw; (try dsimp only at hSw); go_simp⟩) hHeld ?_
  simp only [List.set_cons_zero, List.set_cons_succ]
  refine wpAnyH_ready (rs := [1, 6]) (by kernel_rfl) (by simp) (AllReadyH.cons rfl (fun K hK => ?_) (AllReadyH.cons rfl (fun K hK => ?_) AllReadyH.nil))
  · go_simp
    obtain ⟨A1, hA1⟩ : ∃ X, X = (w.alloc (.cells #[] 37)).drew := ⟨_, rfl⟩
    have HEA1 : Hid ((A1).ownsRow w.heap.size 37 4 (.slice (some ⟨(w).heap.size, 0, none⟩) 0 0) 0 []) := mkHid (by rw [hA1]; exact ownN_kept (own_lower (World.ownsRow_made (base := (w).heap.size) (e := 37) (size := 4) (w) #[] 0 (Nat.le_refl _) (by unfold maxLen; omega) rfl) (by have := (Below.refl w.heap.size w).size; first | exact this | simpa using this)) (Kept.drew (fun _ => False) _) (fun _ _ f => f))
    have HBA1 : Hid (Below w.heap.size w A1) := mkHid (by rw [hA1]; exact (ba (Below.refl w.heap.size w) _).drew)
    have HKA1 : Hid (Kept (fun _ => False) (w) A1) := mkHid (by rw [hA1]; exact (Kept.alloc (fun _ => False) _ _).trans (Kept.drew (fun _ => False) _) (fun _ f => f.elim))
    rw [← hA1]
    clear hA1 hHeld
    refine hK.out _ _ trivial (fun hHeld => ?_)
    clear hK K
    (try simp only [Act.put])
    obtain ⟨yA1, hyA1⟩ : ∃ y, y = (w).heap.size := ⟨_, rfl⟩
    rw [← hyA1] at HEA1 ⊢
    have HYA1 := mkHid hyA1
    clear hyA1
    refine wpAnyH_ready (rs := [3, 6]) (by kernel_rfl) (by simp) (AllReadyH.cons rfl (fun K hK => ?_) (AllReadyH.cons rfl (fun K hK => ?_) AllReadyH.nil))
    · refine step_append_src4D (w := A1) 8 rfl rfl (.tmp 6) (.tmp 7) 22 22 rfl w.heap.size 37 ie Tryd.underlying22 hie.out.1 zth 32 hie.out.2.1 HZ.out hie.out.2.2.1 hie.out.2.2.2 (.slice (some ⟨yA1, 0, none⟩) 0 0) 0 [] (by simp [Act.eval]) (own_lower HEA1.out (by have := HYA1.out; omega)) _ ts.length (ts.flatMap c4) (by simp [Act.eval]) ((HT.out.below HBA1.out).src) (by unfold maxLen; omega) (by omega) HBA1.out.size ?_
      intro v5 A2 ho5 hg5 hat5
      rw [Nat.zero_add, List.nil_append] at ho5
      have HTA2 := mkHid ho5
      have HKA2 : Hid (Kept (fun k => k = yA1) A1 A2) := mkHid (Kept.grown hg5 (F := fun k => k = yA1) (fun k e => by simpa [Value.ownBlock] using e.symm))
      have HVA2 : Hid (∀ k, v5.ownBlock = some k → k = yA1 ∨ k = (A1).heap.size) := mkHid (fun k e => by
        rcases hat5 with a | a
        · rw [a] at e; exact .inl (by simpa [Value.ownBlock] using e.symm)
        · rw [a] at e; simp at e; exact .inr e.symm)
      obtain ⟨va5, vc5, hv5, _⟩ := own_sh ho5
      subst hv5
      clear ho5 hg5 hat5 hHeld
      refine hK.out _ _ trivial (fun hHeld => ?_)
      clear hK K
      simp only [List.set_cons_zero, List.set_cons_succ]
      have HBA2 : Hid (Below w.heap.size w A2) := mkHid (HBA1.out.trans (HKA2.out.below (fun k e => by have := HYA1.out; omega) HBA1.out.size))
      refine wpAnyH_ready (rs := [6]) (by kernel_rfl) (by simp) (AllReadyH.cons rfl (fun K hK => ?_) AllReadyH.nil)
      go_simp
      rw [HMK.out]
      go_simp
      obtain ⟨A3, hA3⟩ : ∃ X, X = (A2).alloc (.cells (madeCells #[Value.int .i64 0] ts.length) 3) := ⟨_, rfl⟩
      have HLA3 : Hid ((A3).ownsRow w.heap.size 3 1 (.slice (some ⟨(A2).heap.size, 0, none⟩) ts.length ts.length) ts.length ((List.replicate ts.length (0 : Int)).map (Value.int .i64))) := mkHid (by rw [hA3]; exact made_int _ _ _ h8 HBA2.out.size)
      have HBA3 : Hid (Below w.heap.size w A3) := mkHid (by rw [hA3]; exact ba HBA2.out _)
      have HKA3 : Hid (Kept (fun _ => False) (A2) A3) := mkHid (by rw [hA3]; exact Kept.alloc _ _ _)
      rw [← hA3]
      clear hA3 hHeld
      refine hK.out _ _ trivial (fun hHeld => ?_)
      clear hK K
      (try simp only [Act.put])
      obtain ⟨yA3, hyA3⟩ : ∃ y, y = (A2).heap.size := ⟨_, rfl⟩
      rw [← hyA3] at HLA3 ⊢
      have HYA3 := mkHid hyA3
      clear hyA3
      refine takeD 7 12 (.agg #[.int .i64 p, .slice va5 ts.length vc5, .slice (some ⟨yA3, 0, none⟩) ts.length ts.length, .slice none 0 0]) rfl rfl (by kernel_rfl) (by kernel_rfl) (by kernel_rfl) (fun _ _ _ h => h) (Or.inl ⟨by kernel_rfl, by intro w hSw; (try dsimp only at hSw); go_simp⟩) hHeld ?_
      simp only [List.set_cons_zero, List.set_cons_succ]
      refine wpAnyH_ready (rs := [8]) (by kernel_rfl) (by simp) (AllReadyH.cons rfl (fun K hK => ?_) AllReadyH.nil)
      go_simp
      clear hHeld
      refine hK.out _ _ trivial (fun hHeld => ?_)
      clear hK K
      (try simp only [Act.put])
      refine takeD 9 4 (.pointer (some ⟨(A3).heap.size, 0, none⟩)) rfl rfl (by kernel_rfl) (by kernel_rfl) (by kernel_rfl) (fun _ _ _ h => h) (Or.inl ⟨by kernel_rfl, by intro w hSw; (try dsimp only at hSw); go_simp⟩) hHeld ?_
      simp only [List.set_cons_zero, List.set_cons_succ]
      refine wpAnyH_done (by kernel_rfl) ?_ _
      clear hHeld
      go_wp2
      go_ret
      exact ⟨_, _, _, rfl, dg_start HBA3.out.size (ownN_kept HTA2.out HKA3.out (fun _ _ f => f)) HLA3.out (fun k e e2 => by have h1 := (HTA2.out.lt k e).2; have e3 : yA3 = k := (by simpa [Value.ownBlock] using e2); have := HYA3.out; omega), ba HBA3.out _⟩
    · go_simp
      rw [HMK.out]
      go_simp
      obtain ⟨A2, hA2⟩ : ∃ X, X = (A1).alloc (.cells (madeCells #[Value.int .i64 0] ts.length) 3) := ⟨_, rfl⟩
      have HLA2 : Hid ((A2).ownsRow w.heap.size 3 1 (.slice (some ⟨(A1).heap.size, 0, none⟩) ts.length ts.length) ts.length ((List.replicate ts.length (0 : Int)).map (Value.int .i64))) := mkHid (by rw [hA2]; exact made_int _ _ _ h8 HBA1.out.size)
      have HBA2 : Hid (Below w.heap.size w A2) := mkHid (by rw [hA2]; exact ba HBA1.out _)
      have HKA2 : Hid (Kept (fun _ => False) (A1) A2) := mkHid (by rw [hA2]; exact Kept.alloc _ _ _)
      rw [← hA2]
      clear hA2 hHeld
      refine hK.out _ _ trivial (fun hHeld => ?_)
      clear hK K
      (try simp only [Act.put])
      obtain ⟨yA2, hyA2⟩ : ∃ y, y = (A1).heap.size := ⟨_, rfl⟩
      rw [← hyA2] at HLA2 ⊢
      have HYA2 := mkHid hyA2
      clear hyA2
      refine wpAnyH_ready (rs := [3]) (by kernel_rfl) (by simp) (AllReadyH.cons rfl (fun K hK => ?_) AllReadyH.nil)
      refine step_append_src4D (w := A2) 8 rfl rfl (.tmp 6) (.tmp 7) 22 22 rfl w.heap.size 37 ie Tryd.underlying22 hie.out.1 zth 32 hie.out.2.1 HZ.out hie.out.2.2.1 hie.out.2.2.2 (.slice (some ⟨yA1, 0, none⟩) 0 0) 0 [] (by simp [Act.eval]) (ownN_kept (own_lower HEA1.out (by have := HYA1.out; omega)) HKA2.out (fun _ _ f => f)) _ ts.length (ts.flatMap c4) (by simp [Act.eval]) ((HT.out.below HBA2.out).src) (by unfold maxLen; omega) (by omega) HBA2.out.size ?_
      intro v5 A3 ho5 hg5 hat5
      rw [Nat.zero_add, List.nil_append] at ho5
      have HTA3 := mkHid ho5
      have HKA3 : Hid (Kept (fun k => k = yA1) A2 A3) := mkHid (Kept.grown hg5 (F := fun k => k = yA1) (fun k e => by simpa [Value.ownBlock] using e.symm))
      have HVA3 : Hid (∀ k, v5.ownBlock = some k → k = yA1 ∨ k = (A2).heap.size) := mkHid (fun k e => by
        rcases hat5 with a | a
        · rw [a] at e; exact .inl (by simpa [Value.ownBlock] using e.symm)
        · rw [a] at e; simp at e; exact .inr e.symm)
      obtain ⟨va5, vc5, hv5, _⟩ := own_sh ho5
      subst hv5
      clear ho5 hg5 hat5 hHeld
      refine hK.out _ _ trivial (fun hHeld => ?_)
      clear hK K
      simp only [List.set_cons_zero, List.set_cons_succ]
      have HBA3 : Hid (Below w.heap.size w A3) := mkHid (HBA2.out.trans (HKA3.out.below (fun k e => by have := HYA1.out; omega) HBA2.out.size))
      have hne : ¬ yA2 = yA1 := (by have := HYA2.out; have := (HEA1.out.lt yA1 rfl).2; omega)
      refine takeD 7 12 (.agg #[.int .i64 p, .slice va5 ts.length vc5, .slice (some ⟨yA2, 0, none⟩) ts.length ts.length, .slice none 0 0]) rfl rfl (by kernel_rfl) (by kernel_rfl) (by kernel_rfl) (fun _ _ _ h => h) (Or.inl ⟨by kernel_rfl, by intro w hSw; (try dsimp only at hSw); go_simp⟩) hHeld ?_
      simp only [List.set_cons_zero, List.set_cons_succ]
      refine wpAnyH_ready (rs := [8]) (by kernel_rfl) (by simp) (AllReadyH.cons rfl (fun K hK => ?_) AllReadyH.nil)
      go_simp
      clear hHeld
      refine hK.out _ _ trivial (fun hHeld => ?_)
      clear hK K
      (try simp only [Act.put])
      refine takeD 9 4 (.pointer (some ⟨(A3).heap.size, 0, none⟩)) rfl rfl (by kernel_rfl) (by kernel_rfl) (by kernel_rfl) (fun _ _ _ h => h) (Or.inl ⟨by kernel_rfl, by intro w hSw; (try dsimp only at hSw); go_simp⟩) hHeld ?_
      simp only [List.set_cons_zero, List.set_cons_succ]
      refine wpAnyH_done (by kernel_rfl) ?_ _
      clear hHeld
      go_wp2
      go_ret
      exact ⟨_, _, _, rfl, dg_start HBA3.out.size HTA3.out (ownN_kept HLA2.out HKA3.out (fun k e f => by have e3 : yA2 = k := (by simpa [Value.ownBlock] using e); omega)) (fun k e e2 => by have e3 : yA2 = k := (by simpa [Value.ownBlock] using e2); rcases HVA3.out k e with q | q; omega; have := (HLA2.out.lt yA2 rfl).2; omega), ba HBA3.out _⟩
  · go_simp
    have hmk0 := HMK.out w.drew
    rw [hmk0]
    clear hmk0
    go_simp
    obtain ⟨A1, hA1⟩ : ∃ X, X = (w.alloc (.cells (madeCells #[Value.int .i64 0] ts.length) 3)).drew := ⟨_, rfl⟩
    have HLA1 : Hid ((A1).ownsRow w.heap.size 3 1 (.slice (some ⟨(w).heap.size, 0, none⟩) ts.length ts.length) ts.length ((List.replicate ts.length (0 : Int)).map (Value.int .i64))) := mkHid (by rw [hA1]; exact ownN_kept (made_int _ _ _ h8 (Below.refl w.heap.size w).size) (Kept.drew (fun _ => False) _) (fun _ _ f => f))
    have HBA1 : Hid (Below w.heap.size w A1) := mkHid (by rw [hA1]; exact (ba (Below.refl w.heap.size w) _).drew)
    have HKA1 : Hid (Kept (fun _ => False) (w) A1) := mkHid (by rw [hA1]; exact (Kept.alloc (fun _ => False) _ _).trans (Kept.drew (fun _ => False) _) (fun _ f => f.elim))
    rw [← hA1]
    clear hA1 hHeld
    refine hK.out _ _ trivial (fun hHeld => ?_)
    clear hK K
    (try simp only [Act.put])
    obtain ⟨yA1, hyA1⟩ : ∃ y, y = (w).heap.size := ⟨_, rfl⟩
    rw [← hyA1] at HLA1 ⊢
    have HYA1 := mkHid hyA1
    clear hyA1
    refine wpAnyH_ready (rs := [1]) (by kernel_rfl) (by simp) (AllReadyH.cons rfl (fun K hK => ?_) AllReadyH.nil)
    go_simp
    obtain ⟨A2, hA2⟩ : ∃ X, X = (A1).alloc (.cells #[] 37) := ⟨_, rfl⟩
    have HEA2 : Hid ((A2).ownsRow w.heap.size 37 4 (.slice (some ⟨(A1).heap.size, 0, none⟩) 0 0) 0 []) := mkHid (by rw [hA2]; exact own_lower (World.ownsRow_made (base := (A1).heap.size) (e := 37) (size := 4) (A1) #[] 0 (Nat.le_refl _) (by unfold maxLen; omega) rfl) (by have := HBA1.out.size; first | exact this | simpa using this))
    have HBA2 : Hid (Below w.heap.size w A2) := mkHid (by rw [hA2]; exact ba HBA1.out _)
    have HKA2 : Hid (Kept (fun _ => False) (A1) A2) := mkHid (by rw [hA2]; exact Kept.alloc _ _ _)
    rw [← hA2]
    clear hA2 hHeld
    refine hK.out _ _ trivial (fun hHeld => ?_)
    clear hK K
    (try simp only [Act.put])
    obtain ⟨yA2, hyA2⟩ : ∃ y, y = (A1).heap.size := ⟨_, rfl⟩
    rw [← hyA2] at HEA2 ⊢
    have HYA2 := mkHid hyA2
    clear hyA2
    refine wpAnyH_ready (rs := [3]) (by kernel_rfl) (by simp) (AllReadyH.cons rfl (fun K hK => ?_) AllReadyH.nil)
    refine step_append_src4D (w := A2) 8 rfl rfl (.tmp 6) (.tmp 7) 22 22 rfl w.heap.size 37 ie Tryd.underlying22 hie.out.1 zth 32 hie.out.2.1 HZ.out hie.out.2.2.1 hie.out.2.2.2 (.slice (some ⟨yA2, 0, none⟩) 0 0) 0 [] (by simp [Act.eval]) HEA2.out _ ts.length (ts.flatMap c4) (by simp [Act.eval]) ((HT.out.below HBA2.out).src) (by unfold maxLen; omega) (by omega) HBA2.out.size ?_
    intro v5 A3 ho5 hg5 hat5
    rw [Nat.zero_add, List.nil_append] at ho5
    have HTA3 := mkHid ho5
    have HKA3 : Hid (Kept (fun k => k = yA2) A2 A3) := mkHid (Kept.grown hg5 (F := fun k => k = yA2) (fun k e => by simpa [Value.ownBlock] using e.symm))
    have HVA3 : Hid (∀ k, v5.ownBlock = some k → k = yA2 ∨ k = (A2).heap.size) := mkHid (fun k e => by
      rcases hat5 with a | a
      · rw [a] at e; exact .inl (by simpa [Value.ownBlock] using e.symm)
      · rw [a] at e; simp at e; exact .inr e.symm)
    obtain ⟨va5, vc5, hv5, _⟩ := own_sh ho5
    subst hv5
    clear ho5 hg5 hat5 hHeld
    refine hK.out _ _ trivial (fun hHeld => ?_)
    clear hK K
    simp only [List.set_cons_zero, List.set_cons_succ]
    have HBA3 : Hid (Below w.heap.size w A3) := mkHid (HBA2.out.trans (HKA3.out.below (fun k e => by have := HYA2.out; have := HBA1.out.size; omega) HBA2.out.size))
    have hne : ¬ yA1 = yA2 := (by have := HYA2.out; have := (HLA1.out.lt yA1 rfl).2; omega)
    refine takeD 7 12 (.agg #[.int .i64 p, .slice va5 ts.length vc5, .slice (some ⟨yA1, 0, none⟩) ts.length ts.length, .slice none 0 0]) rfl rfl (by kernel_rfl) (by kernel_rfl) (by kernel_rfl) (fun _ _ _ h => h) (Or.inl ⟨by kernel_rfl, by intro w hSw; (try dsimp only at hSw); go_simp⟩) hHeld ?_
    simp only [List.set_cons_zero, List.set_cons_succ]
    refine wpAnyH_ready (rs := [8]) (by kernel_rfl) (by simp) (AllReadyH.cons rfl (fun K hK => ?_) AllReadyH.nil)
    go_simp
    clear hHeld
    refine hK.out _ _ trivial (fun hHeld => ?_)
    clear hK K
    (try simp only [Act.put])
    refine takeD 9 4 (.pointer (some ⟨(A3).heap.size, 0, none⟩)) rfl rfl (by kernel_rfl) (by kernel_rfl) (by kernel_rfl) (fun _ _ _ h => h) (Or.inl ⟨by kernel_rfl, by intro w hSw; (try dsimp only at hSw); go_simp⟩) hHeld ?_
    simp only [List.set_cons_zero, List.set_cons_succ]
    refine wpAnyH_done (by kernel_rfl) ?_ _
    clear hHeld
    go_wp2
    go_ret
    exact ⟨_, _, _, rfl, dg_start HBA3.out.size HTA3.out (ownN_kept (ownN_kept (own_lower HLA1.out (by have := HYA1.out; omega)) HKA2.out (fun _ _ f => f)) HKA3.out (fun k e f => by have e3 : yA1 = k := (by simpa [Value.ownBlock] using e); omega)) (fun k e e2 => by have e3 : yA1 = k := (by simpa [Value.ownBlock] using e2); rcases HVA3.out k e with q | q; omega; have := (HLA1.out.lt yA1 rfl).2; have := HKA2.out.size; omega), ba HBA3.out _⟩
end Go.Proofs.YthncfkeoephipaaDoor
