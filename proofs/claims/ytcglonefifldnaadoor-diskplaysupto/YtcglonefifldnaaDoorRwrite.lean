/- Write of the document's disk. -/
import Derived.Test.YtcglonefifldnaaDoorRnew
import Derived.Test.YtcglonefifldnaaDoorTill
namespace Go.Proofs.YtcglonefifldnaaDoor
open Go.ChangeShapes Go.WideShapes Go.ChangeAt Go.RowKit

theorem laid_all {s bs : List Int} (hs : Sec s) (hb : Sec bs) : laid s bs = bs := by
  unfold laid
  rw [hb.len, List.drop_eq_nil_of_le (by rw [hs.len]; exact Nat.le_refl _), List.append_nil]
theorem rwrite_bad (F : Nat → Prop) (w : World) (q n : Nat) (fs fn : Int → List Int) (c : List (Int × List Int)) (nw : Int) (gone : Bool) (sb nb : Nat) (av dv : Value) (H : Nat → Prop) (i e : Int) (v : Value) (h : Rk F w q n fs fn c nw gone sb nb av dv H) (he : chk gone n i = e) (hne : e ≠ 0) :
    Calls Tryd.prog 22 #[.pointer (some ⟨q, 0, none⟩), .int .i64 i, v] w fun r w' => r = .returned (.int .i64 e) ∧ w' = w := by
  have hc := mkHid (rcheck_any F w q n fs fn c nw gone sb nb av dv H i h)
  rw [he] at hc
  go_enter Tryd.func22, Tryd.ntmps22
  go_wp2_with (go_at_call 32; refine hc.out.mono ?_; rintro r w1 ⟨rfl, rfl⟩)
  go_ret
  exact ⟨rfl, rfl⟩
theorem rwrite_large (F : Nat → Prop) (w : World) (q n : Nat) (fs fn : Int → List Int) (c : List (Int × List Int)) (nw : Int) (gone : Bool) (sb nb : Nat) (av dv : Value) (H : Nat → Prop) (i : Int) (v : Value) (bs : List Int) (h : Rk F w q n fs fn c nw gone sb nb av dv H) (he : chk gone n i = 0) (hv : Rd w v bs) (hl : bs.length ≠ 64) :
    Calls Tryd.prog 22 #[.pointer (some ⟨q, 0, none⟩), .int .i64 i, v] w fun r w' => r = .returned (.int .i64 8) ∧ w' = w := by
  obtain ⟨sa, sc, rfl, _⟩ := hv.2
  have hl' : ¬ (bs.length : Int) = 64 := by omega
  have hc := mkHid (rcheck_any F w q n fs fn c nw gone sb nb av dv H i h)
  rw [he] at hc
  go_enter Tryd.func22, Tryd.ntmps22
  go_wp2_with (go_at_call 32; refine hc.out.mono ?_; rintro r w1 ⟨rfl, rfl⟩)
  go_ret
  exact ⟨rfl, rfl⟩
/-- One write more: the places and the bytes were appended, then stored. -/
theorem Rk.wrote {F : Nat → Prop} {w W2 Va w40 wd wf : World} {q n : Nat} {fs fn fn' : Int → List Int} {c : List (Int × List Int)} {nw : Int} {sb nb e0 : Nat} {av dv v40 v47 v49 : Value} {H : Nat → Prop} {vs : List Value} {i : Int} {bs : List Int} {o : Obj} (h : Rk F w q n fs fn c nw false sb nb av dv H) (hk2 : Kept (fun k => k = nb) w W2)
    (hn2 : W2.heap[nb]? = some (.cells ((conc n fn').map (Value.int .u8)).toArray 5 (0, 0))) (sn' : ∀ i, Sec (fn' i)) (hbs : Sec bs) (hin : 0 ≤ i ∧ i < (n : Int)) (hr : RdAll H w vs (datas c))
    (ba : Below W2.heap.size W2 Va) (g40 : Va.grownBy w40 av.ownBlock) (o40 : w40.ownsRow 0 3 1 v40 (c.length + 1) (places c ++ [.int .i64 i])) (at40 : v40.ownBlock = av.ownBlock ∨ v40.ownBlock = some Va.heap.size)
    (he : W2.heap.size ≤ e0) (hne : v40.ownBlock ≠ some e0) (kd : Kept (fun k => k = e0) w40 wd) (r47 : Rd wd v47 bs) (b47 : ∀ k, v47.ownBlock = some k → (k = e0 ∨ w40.heap.size ≤ k) ∧ k < wd.heap.size)
    (g49 : (wd.alloc o).grownBy wf dv.ownBlock) (o49 : wf.ownsRow 0 33 1 v49 (c.length + 1) (vs ++ [v47])) (at49 : v49.ownBlock = dv.ownBlock ∨ v49.ownBlock = some (wd.alloc o).heap.size) :
    wf.heap[q]? = some (.cells #[.slice (some ⟨sb, 0, none⟩) (64 * n) (64 * n), .slice (some ⟨nb, 0, none⟩) (64 * n) (64 * n), av, dv, .int .i64 nw, .bool false] 41 (0, 0)) ∧
      ∃ F' H', Rk F' (((wf.setCell ⟨q, 2, none⟩ v40).setCell ⟨q, 3, none⟩ v49).setCell ⟨q, 4, none⟩ (.int .i64 (nw + 1))) q n fs fn' (c ++ [(i, bs)]) (nw + 1) false sb nb v40 v49 H' ∧ (∀ k, F' k → F k ∨ w.heap.size ≤ k) ∧ Kept F w (((wf.setCell ⟨q, 2, none⟩ v40).setCell ⟨q, 3, none⟩ v49).setCell ⟨q, 4, none⟩ (.int .i64 (nw + 1))) := by
  have k40 : Kept (fun k => av.ownBlock = some k) Va w40 := Kept.grown g40 (fun k hk => hk)
  have k49 : Kept (fun k => dv.ownBlock = some k) wd wf := (Kept.alloc _ wd o).trans (Kept.grown g49 (fun k hk => hk)) (fun i hi => .inl hi)
  have s1 := hk2.size
  have s2 := ba.size
  have s3 := k40.size
  have s4 := kd.size
  have s5 := k49.size
  -- a block of w that is none of nb, av's, dv's
  have old : ∀ k, k < w.heap.size → k ≠ nb → av.ownBlock ≠ some k → dv.ownBlock ≠ some k → wf.heap[k]? = w.heap[k]? := fun k hk h1 h2 h3 => by
    rw [k49.block k (by omega) h3, kd.block k (by omega) (by omega), k40.block k (by omega) h2, ba.block k (by omega), hk2.block k hk h1]
  have hq := h.lt q h.fq
  have hsb := h.lt sb h.fs_.1
  have hnb := h.lt nb h.fn_.1
  have avq : ∀ k, F k → (∀ j, av.ownBlock = some j → k ≠ j) → av.ownBlock ≠ some k := fun k _ h1 e => h1 k e rfl
  have hd : wf.heap[q]? = _ := (old q hq (fun e => h.fn_.2.1 e.symm) (fun e => (h.fa q e).2.1 rfl) (fun e => (h.fd q e).2.1 rfl)).trans h.hd
  refine ⟨hd, fun k => F k ∨ (w.heap.size ≤ k ∧ k < wf.heap.size), fun k => H k ∨ ((k = e0 ∨ w40.heap.size ≤ k) ∧ k < wd.heap.size), ?_, fun k e => e.imp id And.left, ?_⟩
  · generalize hW : ((wf.setCell ⟨q, 2, none⟩ v40).setCell ⟨q, 3, none⟩ v49).setCell ⟨q, 4, none⟩ (.int .i64 (nw + 1)) = W
    have kq : Kept (fun k => k = q) wf W := by
      rw [← hW]
      exact ((Kept.setCell (F := fun k => k = q) wf (p := ⟨q, 2, none⟩) rfl _).trans (Kept.setCell (F := fun k => k = q) _ (p := ⟨q, 3, none⟩) rfl _) (fun _ e => .inl e)).trans (Kept.setCell (F := fun k => k = q) _ (p := ⟨q, 4, none⟩) rfl _) (fun _ e => .inl e)
    have hdW : W.heap[q]? = some (.cells #[.slice (some ⟨sb, 0, none⟩) (64 * n) (64 * n), .slice (some ⟨nb, 0, none⟩) (64 * n) (64 * n), v40, v49, .int .i64 (nw + 1), .bool false] 41 (0, 0)) := by
      rw [← hW, heap_set (heap_set (heap_set hd))]
      simp
    have sW := kq.size
    have l40 : ∀ k, v40.ownBlock = some k → av.ownBlock = some k ∨ k = Va.heap.size := fun k hk => by
      rcases at40 with e | e
      · exact .inl (e ▸ hk)
      · rw [e] at hk; simp at hk; exact .inr hk.symm
    have l49 : ∀ k, v49.ownBlock = some k → dv.ownBlock = some k ∨ k = wd.heap.size + 1 := fun k hk => by
      rcases at49 with e | e
      · exact .inl (e ▸ hk)
      · rw [e] at hk; simp at hk; exact .inr hk.symm
    have lt40 : ∀ k, v40.ownBlock = some k → k < w40.heap.size := fun k hk => (o40.lt k hk).2
    have lt49 : ∀ k, v49.ownBlock = some k → k < wf.heap.size := fun k hk => (o49.lt k hk).2
    have oW40 : wd.ownsRow 0 3 1 v40 (c.length + 1) (places c ++ [.int .i64 i]) := own_keptV o40 kd (fun k hk e => hne (e ▸ hk))
    have dvav : ∀ k, v40.ownBlock = some k → ¬ dv.ownBlock = some k := fun k hk hd2 => by
      rcases l40 k hk with e | e
      · exact (h.fd k hd2).2.2.2.2 e
      · have := h.lt k (h.fd k hd2).1; omega
    have oF40 := own_keptV oW40 k49 dvav
    have F'40 : ∀ k, v40.ownBlock = some k → (F k ∨ (w.heap.size ≤ k ∧ k < wf.heap.size)) ∧ k ≠ q ∧ k ≠ sb ∧ k ≠ nb := fun k hk => by
      rcases l40 k hk with e | e
      · exact ⟨.inl (h.fa k e).1, (h.fa k e).2⟩
      · have := lt40 k hk
        exact ⟨.inr (by omega), by omega, by omega, by omega⟩
    have F'49 : ∀ k, v49.ownBlock = some k → (F k ∨ (w.heap.size ≤ k ∧ k < wf.heap.size)) ∧ k ≠ q ∧ k ≠ sb ∧ k ≠ nb ∧ v40.ownBlock ≠ some k := fun k hk => by
      rcases l49 k hk with e | e
      · exact ⟨.inl (h.fd k e).1, (h.fd k e).2.1, (h.fd k e).2.2.1, (h.fd k e).2.2.2.1, fun e2 => dvav k e2 e⟩
      · have := lt49 k hk
        exact ⟨.inr (by omega), by omega, by omega, by omega, fun e2 => by have := lt40 k e2; omega⟩
    have F'H : ∀ k, (H k ∨ ((k = e0 ∨ w40.heap.size ≤ k) ∧ k < wd.heap.size)) → (F k ∨ (w.heap.size ≤ k ∧ k < wf.heap.size)) ∧ k ≠ q ∧ k ≠ sb ∧ k ≠ nb ∧ v40.ownBlock ≠ some k := fun k hk => by
      rcases hk with hk | ⟨hk, hk3⟩
      · have hf := h.fh k hk
        have := h.lt k hf.1
        exact ⟨.inl hf.1, hf.2.1, hf.2.2.1, hf.2.2.2.1, fun e2 => by rcases l40 k e2 with e | e; exact hf.2.2.2.2 e; omega⟩
      · refine ⟨.inr (by omega), by omega, by omega, by omega, fun e2 => ?_⟩
        rcases hk with e | e
        · exact hne (e ▸ e2)
        · have := lt40 k e2; omega
    obtain ⟨vs0, ho0, hr0, hd0⟩ := h.hl
    have Hdv : ∀ k, H k → dv.ownBlock ≠ some k := fun k hk e => hd0 k e hk
    -- the entries of the list of bytes
    have rW2 : RdAll H W2 vs (datas c) := hr.kept hk2 (fun k e => (h.fh k e).2.2.2.1)
    have rVa : RdAll H Va vs (datas c) := rW2.kept (kept_of_below ba) (fun k e hge => by have := h.lt k (h.fh k e).1; omega)
    have r40 : RdAll H w40 vs (datas c) := rVa.kept k40 (fun k e => (h.fh k e).2.2.2.2)
    have rd : RdAll H wd vs (datas c) := r40.kept kd (fun k e e2 => by have := h.lt k (h.fh k e).1; omega)
    have rall : RdAll (fun k => H k ∨ ((k = e0 ∨ w40.heap.size ≤ k) ∧ k < wd.heap.size)) wd (vs ++ [v47]) (datas (c ++ [(i, bs)])) := by
      rw [datas_snoc]
      exact (rd.mono (fun k e => .inl e)).append ⟨⟨r47, fun _ k hk => .inr (b47 k hk)⟩, trivial⟩
    have hdvw : ∀ k, dv.ownBlock = some k → k < w.heap.size := fun k hk => h.lt k (h.fd k hk).1
    have rf := rall.kept k49 (fun k e e2 => by
      rcases e with e | ⟨e, _⟩
      · exact Hdv k e e2
      · have := hdvw k e2; omega)
    have ml : (datas (c ++ [(i, bs)])).length = c.length + 1 := by simp [datas]
    refine ⟨fun k e => ?_, .inl h.fq, h.ss, sn', fun x hx => ?_, fun x hx => ?_, h.n0, h.n1, hdW, ?_, ?_, ?_, ⟨vs ++ [v47], ?_, rf.kept kq (fun k e => (F'H k e).2.1), fun k hk e => ?_⟩, ⟨.inl h.fs_.1, h.fs_.2⟩, ⟨.inl h.fn_.1, h.fn_.2⟩, F'40, F'49, F'H⟩
    · rcases e with e | e
      · have := h.lt k e; omega
      · omega
    · rcases List.mem_append.mp hx with hx | hx
      · exact h.sc x hx
      · simp at hx; subst hx; exact hbs
    · rcases List.mem_append.mp hx with hx | hx
      · exact h.pc x hx
      · simp at hx; subst hx; exact hin
    · rw [kq.block sb (by omega) h.fs_.2, old sb hsb (fun e => h.fn_.2.2 e.symm) (fun e => (h.fa sb e).2.2.1 rfl) (fun e => (h.fd sb e).2.2.1 rfl)]; exact h.hs
    · rw [kq.block nb (by omega) h.fn_.2.1, k49.block nb (by omega) (fun e => (h.fd nb e).2.2.2.1 rfl), kd.block nb (by omega) (by omega), k40.block nb (by omega) (fun e => (h.fa nb e).2.2.2 rfl), ba.block nb (by omega)]; exact hn2
    · rw [places_snoc, List.length_append]
      exact own_keptV oF40 kq (fun k hk => (F'40 k hk).2.1)
    · rw [ml]
      exact own_keptV o49 kq (fun k hk => (F'49 k hk).2.1)
    · rcases l49 k hk with e2 | e2
      · rcases e with e | ⟨e, _⟩
        · exact Hdv k e e2
        · have := hdvw k e2; omega
      · rcases e with e | ⟨e, e3⟩
        · have := h.lt k (h.fh k e).1; omega
        · omega
  · refine ⟨?_, ?_, ?_, ?_, fun k hk hn => ?_⟩
    · exact (k49.os.trans (kd.os.trans (k40.os.trans (ba.os.trans hk2.os))))
    · exact (k49.tape.trans (kd.tape.trans (k40.tape.trans (ba.tape.trans hk2.tape))))
    · exact (k49.output.trans (kd.output.trans (k40.output.trans (ba.output.trans hk2.output))))
    · simp [World.setCell]; omega
    · have e1 : k ≠ q := fun e => hn (e ▸ h.fq)
      rw [Below.heap_setCell _ _ _ _ (fun e => e1 e), Below.heap_setCell _ _ _ _ (fun e => e1 e), Below.heap_setCell _ _ _ _ (fun e => e1 e)]
      exact old k hk (fun e => hn (e ▸ h.fn_.1)) (fun e => hn (h.fa k e).1) (fun e => hn (h.fd k e).1)
theorem step_append_srcV {P : Program} {ops : Array Oper} {o : Oper} {a : Act} {w : World} {K : Act → World → Prop} {Q : Exit → Act → World → Prop} {E : Prop} (hgd : o.guard = none) (sl x : Operand) (t tx : TypeId)
    (hop : o.op = .call { callee := .builtin .append, args := #[sl, x], argTypes := #[t, tx] })
    (base : Nat) (e : TypeId) (i : TypeInfo) (ht : P.underlying t = some (.slice e)) (hi : P.info? e = some i) (z : Value) (B : Nat) (hz : i.zero = some z) (hzs : z.cells.size = 1) (hsize : i.size = 1) (hby : i.bytes = B)
    (v : Value) (n : Nat) (xs : List Value) (hs : a.eval sl = v) (hown : w.ownsRow base e 1 v n xs) (xv : Value) (m : Nat) (news : List Value) (hx : a.eval x = xv) (hsrc : Src P 1 tx xv m news w)
    (h63 : n + m ≤ maxLen) (hbytes : (n + m) * B ≤ 140737488355328) (hbase : base ≤ w.heap.size)
    (h : ∀ v' w', w'.ownsRow base e 1 v' (n + m) (xs ++ news) → w.grownBy w' v.ownBlock → (v'.ownBlock = v.ownBlock ∨ v'.ownBlock = some w.heap.size) → K (a.put o.dst v') w') :
    if Region.wanted o (yielded ops a.tmps) = true then Oper.wp P o a w K Q else E := by
  have hw : Region.wanted o (yielded ops a.tmps) = true := by simp [Region.wanted, hgd]
  rw [if_pos hw]
  obtain ⟨v', w', hr, h2, h3, h4⟩ := run_append_own_srcV (P := P) w base t tx o.type e i ht hi z B hz hzs hsize hby v n xs hown xv m news hsrc h63 hbytes hbase
  unfold Oper.wp execOp
  simp only [hop, resolve, invoke, builtin, Sem.run_bind, Sem.run_pure, Result.andThen_ok, List.map_toArray, List.map_cons, List.map_nil, hs, hx, hr]
  exact h v' w' h2 h3 h4
theorem step_append_src {P : Program} {ops : Array Oper} {o : Oper} {a : Act} {w : World} {K : Act → World → Prop} {Q : Exit → Act → World → Prop} {E : Prop} (hgd : o.guard = none) (sl x : Operand) (t tx : TypeId)
    (hop : o.op = .call { callee := .builtin .append, args := #[sl, x], argTypes := #[t, tx] })
    (base : Nat) (e : TypeId) (i : TypeInfo) (ht : P.underlying t = some (.slice e)) (hi : P.info? e = some i) (hz : i.zero = some (.int .u8 0)) (hsize : i.size = 1) (hby : i.bytes = 1)
    (v : Value) (n : Nat) (xs : List Value) (hs : a.eval sl = v) (hown : w.ownsRow base e 1 v n xs) (xv : Value) (m : Nat) (news : List Value) (hx : a.eval x = xv) (hsrc : Src P 1 tx xv m news w)
    (h63 : n + m ≤ maxLen) (hbytes : n + m ≤ 140737488355328) (hbase : base ≤ w.heap.size)
    (h : ∀ v' w', w'.ownsRow base e 1 v' (n + m) (xs ++ news) → w.grownBy w' v.ownBlock → (v'.ownBlock = v.ownBlock ∨ v'.ownBlock = some w.heap.size) → K (a.put o.dst v') w') :
    if Region.wanted o (yielded ops a.tmps) = true then Oper.wp P o a w K Q else E := by
  have hw : Region.wanted o (yielded ops a.tmps) = true := by simp [Region.wanted, hgd]
  rw [if_pos hw]
  obtain ⟨v', w', hr, h2, h3, h4⟩ := run_append_own_src (P := P) w base t tx o.type e i ht hi hz hsize hby v n xs hown xv m news hsrc h63 hbytes hbase
  unfold Oper.wp execOp
  simp only [hop, resolve, invoke, builtin, Sem.run_bind, Sem.run_pure, Result.andThen_ok, List.map_toArray, List.map_cons, List.map_nil, hs, hx, hr]
  exact h v' w' h2 h3 h4
theorem src_int {w' : World} (x : Int) (g : Nat) (h : w'.cell? ⟨g, 0, none⟩ = some (.int .i64 x)) : Src Tryd.prog 1 38 (.slice (some ⟨g, 0, none⟩) 1 1) 1 [.int .i64 x] w' := by
  refine Src.ofSlice _ Tryd.underlying38 _ 1 1 _ rfl (fun j u hj => ?_) (fun u hu => by simp at hu; subst hu; rfl)
  match j, hj with
  | 0, hj => simp at hj; subst hj; simpa [Addr.add] using h
set_option maxHeartbeats 3200000 in
theorem rwrite_ok (F : Nat → Prop) (w : World) (q n : Nat) (fs fn : Int → List Int) (c : List (Int × List Int)) (nw : Int) (sb nb : Nat) (av dv : Value) (H : Nat → Prop) (i : Nat) (v : Value) (bs : List Int) (h : Rk F w q n fs fn c nw false sb nb av dv H) (hi : i < n) (hv : Rd w v bs) (hvF : ∀ k, v.ownBlock = some k → ¬ F k) (hl : bs.length = 64) (hcl : c.length ≤ 1000000000) (hnw : 0 ≤ nw ∧ nw ≤ 1000000000000000) :
    Calls Tryd.prog 22 #[.pointer (some ⟨q, 0, none⟩), .int .i64 (i : Int), v] w fun r w' => r = .returned (.int .i64 0) ∧ ∃ F' av' dv' H', Rk F' w' q n fs (updI fn (i : Int) bs) (c ++ [((i : Int), bs)]) (nw + 1) false sb nb av' dv' H' ∧ (∀ k, F' k → F k ∨ w.heap.size ≤ k) ∧ Kept F w w' := by
  obtain ⟨i0, hi0, hz0, hz1, hz2⟩ := info_parts Tryd.info5
  have hc := mkHid (rcheck_any F w q n fs fn c nw false sb nb av dv H i h)
  rw [show chk false n (i : Int) = 0 by simp [chk]; omega] at hc
  have c1 : w.cell? ⟨q, 1, none⟩ = some (.slice (some ⟨nb, 0, none⟩) (64 * n) (64 * n)) := cell_of_block h.hd rfl
  obtain ⟨sa, sc, rfl, _⟩ := id hv.2
  have hn := h.n1
  have l2 := conc_len n fn h.sn
  have hsl : ∀ W : World, (Instr.slice 33 (.slice (some ⟨nb, 0, none⟩) (64 * n) (64 * n)) (some (.int .i64 (64 * (i : Int)))) (some (.int .i64 (64 * (i : Int) + 64))) none).run Tryd.prog W = .ok (.slice (some ⟨nb, 64 * i, none⟩) 64 (64 * n - 64 * i)) W := by
    intro W
    have := run_slice_lh (P := Tryd.prog) W 33 (some ⟨nb, 0, none⟩) (64 * n) (64 * n) elemB.1 .i64 .i64 (64 * (i : Int)) (64 * (i : Int) + 64) (by omega) (by omega) (by omega)
    rw [elemB.2, size1] at this
    rw [this]
    have e1 : (64 * (i : Int)).toNat = 64 * i := by omega
    have e2 : (64 * (i : Int) + 64).toNat = 64 * i + 64 := by omega
    have e3 : ¬ 64 * n = 64 * i := by omega
    simp [Result.andThen, sliced, e1, e2, e3, add_none]
  obtain ⟨W2, hrun, hn2, hk2⟩ := copy_into (w := w) 3 nb (64 * i) 64 (64 * n - 64 * i) _ 5 h.hn (.slice sa bs.length sc) bs hv (by omega) (by omega) (by simp; omega)
  have hbs : Sec bs := ⟨hl, hv.1⟩
  rw [splice_map, conc_splice n fn h.sn i hi bs (by omega), laid_all (h.sn i) hbs] at hn2
  have HSB : Hid (Sec bs) := mkHid hbs
  have HN2 := mkHid hn2
  have HK2 := mkHid hk2
  have HV := mkHid hv
  have HVF := mkHid hvF
  have m1 : IntKind.i64.wrap (64 * (i : Int)) = 64 * (i : Int) := by rw [IntKind.wrap_i64]; omega
  have m2 : IntKind.i64.wrap (64 * (i : Int) + 64) = 64 * (i : Int) + 64 := by rw [IntKind.wrap_i64]; omega
  have HRk := mkHid h
  have HL := mkHid hl
  have hli : (bs.length : Int) = 64 := by omega
  generalize hbv : Value.slice (some ⟨nb, 0, none⟩) (64 * n) (64 * n) = bv at hsl c1
  generalize hbd : Value.slice (some ⟨nb, 64 * i, none⟩) 64 (64 * n - 64 * i) = bd at hsl hrun
  clear hn2 hk2 hv hvF h hl hbs l2 hbv hbd
  go_enter Tryd.func22, Tryd.ntmps22
  go_wp2_with (go_at_call 32; refine hc.out.mono ?_; rintro r w1 ⟨rfl, rfl⟩)
  obtain ⟨vs, hlo, hlr, hld⟩ := HRk.out.hl
  have hD2 : W2.heap[q]? = _ := (HK2.out.block q (HRk.out.lt q HRk.out.fq) (fun e => HRk.out.fn_.2.1 e.symm)).trans HRk.out.hd
  have HT : Hid (W2.drew.cell? ⟨q, 2, none⟩ = some av ∧ W2.drew.cell? ⟨q, 3, none⟩ = some dv) := mkHid ⟨cell_of_block hD2 rfl, cell_of_block hD2 rfl⟩
  have kd0 : Kept (fun k => k = nb) w1 W2.drew := HK2.out.trans (Kept.drew _ W2) (fun _ e => .inl e)
  have HA : Hid (W2.drew.ownsRow 0 3 1 av c.length (places c)) := mkHid (own_keptV HRk.out.ha kd0 (fun k e => (HRk.out.fa k e).2.2.2))
  have HLO : Hid (W2.drew.ownsRow 0 33 1 dv (datas c).length vs) := mkHid (own_keptV hlo kd0 (fun k e => (HRk.out.fd k e).2.2.2.1))
  have HVD : Hid (Rd W2.drew (.slice sa bs.length sc) bs) := mkHid (HV.out.kept kd0 (fun k hk e => HVF.out k hk (e ▸ HRk.out.fn_.1)))
  have HLR := mkHid hlr
  clear hlo hlr hld hD2 kd0 hsl c1 hrun
  obtain ⟨V0, hV0⟩ : ∃ V0, V0 = W2.drew := ⟨_, rfl⟩
  have hz0v : V0.heap.size = W2.heap.size := by rw [hV0]; rfl
  have HB0 : Hid (Below W2.heap.size W2 V0) := mkHid (by rw [hV0]; exact (Below.refl _ W2).drew)
  obtain ⟨ii, hii, hi1, hi2, hi3⟩ := info_parts Tryd.info3
  obtain ⟨il, hil, hl1, hl2, hl3⟩ := info_parts Tryd.info33
  have HLN : Hid ((c.length + 1 ≤ maxLen ∧ (c.length + 1) * 8 ≤ 140737488355328) ∧ ((datas c).length + 1 ≤ maxLen ∧ ((datas c).length + 1) * 24 ≤ 140737488355328) ∧ (0 + bs.length ≤ maxLen ∧ 0 + bs.length ≤ 140737488355328)) := mkHid (by have := HL.out; rw [datas_len]; unfold maxLen; omega)
  have HAQ : Hid ((∀ k, av.ownBlock = some k → k ≠ q ∧ F k) ∧ (∀ k, dv.ownBlock = some k → k ≠ q ∧ F k ∧ av.ownBlock ≠ some k) ∧ q < W2.heap.size ∧ (∀ k, F k → k < W2.heap.size)) := mkHid ⟨fun k e => ⟨(HRk.out.fa k e).2.1, (HRk.out.fa k e).1⟩, fun k e => ⟨(HRk.out.fd k e).2.1, (HRk.out.fd k e).1, (HRk.out.fd k e).2.2.2.2⟩, Nat.lt_of_lt_of_le (HRk.out.lt q HRk.out.fq) HK2.out.size, fun k e => Nat.lt_of_lt_of_le (HRk.out.lt k e) HK2.out.size⟩
  have HSV : Hid (∀ k, (Value.slice sa bs.length sc).ownBlock = some k → av.ownBlock ≠ some k) := mkHid (fun k hk e => HVF.out k hk (HRk.out.fa k e).1)
  refine wp_region_till (fun w' => w'.cell? ⟨q, 2, none⟩ = some av ∧ w'.cell? ⟨q, 3, none⟩ = some dv) 20 (by kernel_rfl) ?_
  rw [← hV0] at HT HA HLO HVD ⊢
  clear hV0
  have HTA : Hid (∀ o, ((V0.alloc o).cell? ⟨q, 2, none⟩ = some av ∧ (V0.alloc o).cell? ⟨q, 3, none⟩ = some dv)) := mkHid (fun o => ⟨(Kept.alloc (fun _ => False) V0 o).cell HT.out.1 (fun h => h), (Kept.alloc (fun _ => False) V0 o).cell HT.out.2 (fun h => h)⟩)
  have HTAA : Hid (∀ o o', (((V0.alloc o).alloc o').cell? ⟨q, 2, none⟩ = some av ∧ ((V0.alloc o).alloc o').cell? ⟨q, 3, none⟩ = some dv)) := mkHid (fun o o' => ⟨(Kept.alloc (fun _ => False) _ o').cell (HTA.out o).1 (fun h => h), (Kept.alloc (fun _ => False) _ o').cell (HTA.out o).2 (fun h => h)⟩)
  refine wpT_free 0 (.pointer (some ⟨q, 0, none⟩)) rfl (by kernel_rfl) (by kernel_rfl) (by kernel_rfl) (by decide) (fun _ _ _ h => h) (fun _ => HT.out) (Or.inl ⟨by rfl, by intro w _; go_simp⟩) ?_
  try simp only [Act.put]
  refine wpT_free 1 (.pointer (some ⟨q, 0, none⟩)) rfl (by kernel_rfl) (by kernel_rfl) (by kernel_rfl) (by decide) (fun _ _ _ h => h) (fun _ => HT.out) (Or.inl ⟨by rfl, by intro w _; go_simp⟩) ?_
  try simp only [Act.put]
  refine wpT_free 2 (.pointer (some ⟨q, 0, none⟩)) rfl (by kernel_rfl) (by kernel_rfl) (by kernel_rfl) (by decide) (fun _ _ _ h => h) (fun _ => HT.out) (Or.inl ⟨by rfl, by intro w _; go_simp⟩) ?_
  try simp only [Act.put]
  refine wpT_free 3 (.pointer (some ⟨q, 0, none⟩)) rfl (by kernel_rfl) (by kernel_rfl) (by kernel_rfl) (by decide) (fun _ _ _ h => h) (fun _ => HT.out) (Or.inl ⟨by rfl, by intro w _; go_simp⟩) ?_
  try simp only [Act.put]
  refine wpT_free 4 (.pointer (some ⟨q, 2, none⟩)) rfl (by kernel_rfl) (by kernel_rfl) (by kernel_rfl) (by decide) (fun _ _ _ h => h) (fun _ => HT.out) (Or.inl ⟨by rfl, by intro w _; go_simp⟩) ?_
  try simp only [Act.put]
  refine wpT_first 5 (av) rfl (by kernel_rfl) (by kernel_rfl) (by kernel_rfl) (by kernel_rfl) (by decide) (by kernel_rfl) (fun _ _ _ h => h) (Or.inl ⟨by rfl, by intro w hT; obtain ⟨x2, x3⟩ := hT; go_simp⟩) HT.out ?_
  try simp only [Act.put]
  refine wpT_free 6 (.int .i64 (i : Int)) rfl (by kernel_rfl) (by kernel_rfl) (by kernel_rfl) (by decide) (fun _ _ _ h => h) (fun _ => HT.out) (Or.inl ⟨by rfl, by intro w _; go_simp⟩) ?_
  try simp only [Act.put]
  refine wpT_free 9 (.pointer (some ⟨q, 0, none⟩)) rfl (by kernel_rfl) (by kernel_rfl) (by kernel_rfl) (by decide) (fun _ _ _ h => h) (fun _ => HT.out) (Or.inl ⟨by rfl, by intro w _; go_simp⟩) ?_
  try simp only [Act.put]
  refine wpT_free 10 (.pointer (some ⟨q, 0, none⟩)) rfl (by kernel_rfl) (by kernel_rfl) (by kernel_rfl) (by decide) (fun _ _ _ h => h) (fun _ => HT.out) (Or.inl ⟨by rfl, by intro w _; go_simp⟩) ?_
  try simp only [Act.put]
  refine wpT_free 11 (.pointer (some ⟨q, 3, none⟩)) rfl (by kernel_rfl) (by kernel_rfl) (by kernel_rfl) (by decide) (fun _ _ _ h => h) (fun _ => HT.out) (Or.inl ⟨by rfl, by intro w _; go_simp⟩) ?_
  try simp only [Act.put]
  refine wpT_first 12 (dv) rfl (by kernel_rfl) (by kernel_rfl) (by kernel_rfl) (by kernel_rfl) (by decide) (by kernel_rfl) (fun _ _ _ h => h) (Or.inl ⟨by rfl, by intro w hT; obtain ⟨x2, x3⟩ := hT; go_simp⟩) HT.out ?_
  try simp only [Act.put]
  refine wpT_free 14 (.slice sa bs.length sc) rfl (by kernel_rfl) (by kernel_rfl) (by kernel_rfl) (by decide) (fun _ _ _ h => h) (fun _ => HT.out) (Or.inl ⟨by rfl, by intro w _; go_simp⟩) ?_
  try simp only [Act.put]
  refine wpT_ready (rs := [7, 13]) (by kernel_rfl) (by simp) (AllT.cons rfl (fun K hK => ?_) (AllT.cons rfl (fun K hK => ?_) AllT.nil))
  · go_simp
    refine hK.out _ _ (fun _ => HTA.out _) ?_
    clear hK K
    try simp only [Act.put]
    refine wpT_ready (rs := [8, 13]) (by kernel_rfl) (by simp) (AllT.cons rfl (fun K hK => ?_) (AllT.cons rfl (fun K hK => ?_) AllT.nil))
    · refine step_append_srcV (w := V0.alloc (.cells #[.int .i64 (i : Int)] 3)) rfl (.tmp 37) (.tmp 39) 38 38 rfl 0 3 ii Tryd.underlying38 hii (.int .i64 0) 8 hi1 rfl hi2 hi3 av c.length (places c) (by simp [Act.eval]) (HA.out.alloc _) (.slice (some ⟨V0.heap.size, 0, none⟩) 1 1) 1 [.int .i64 (i : Int)] (by simp [Act.eval]) (src_int _ _ (cell_of_block (heap_alloc_new V0 _) rfl)) HLN.out.1.1 HLN.out.1.2 (Nat.zero_le _) ?_
      intro v40 w40 ho40 hg40 hat40
      obtain ⟨Va, hVa⟩ : ∃ Va, Va = V0.alloc (.cells #[.int .i64 (i : Int)] 3) := ⟨_, rfl⟩
      have hbVa : Below W2.heap.size W2 Va := by rw [hVa]; exact HB0.out.alloc HB0.out.size _
      have hzVa : Va.heap.size = W2.heap.size + 1 := by rw [hVa]; simp [hz0v]
      have HVVa : Hid (Rd Va (.slice sa bs.length sc) bs) := mkHid (by rw [hVa]; exact HVD.out.alloc _)
      have HLVa : Hid (Va.ownsRow 0 33 1 dv (datas c).length vs) := mkHid (by rw [hVa]; exact HLO.out.alloc _)
      have tVa : Va.cell? ⟨q, 2, none⟩ = some av ∧ Va.cell? ⟨q, 3, none⟩ = some dv := by rw [hVa]; exact HTA.out _
      rw [← hVa] at hg40 hat40
      have k40 : Kept (fun k => av.ownBlock = some k) Va w40 := Kept.grown hg40 (fun k hk => hk)
      have t40 : w40.cell? ⟨q, 2, none⟩ = some av ∧ w40.cell? ⟨q, 3, none⟩ = some dv := ⟨k40.cell tVa.1 (fun e => (HAQ.out.1 _ e).1 rfl), k40.cell tVa.2 (fun e => (HAQ.out.1 _ e).1 rfl)⟩
      have HV40 : Hid (Rd w40 (.slice sa bs.length sc) bs) := mkHid (HVVa.out.kept k40 (fun k hk => HSV.out k hk))
      have HL40 : Hid (w40.ownsRow 0 33 1 dv (datas c).length vs) := mkHid (own_keptV HLVa.out k40 (fun k hk => (HAQ.out.2.1 k hk).2.2))
      obtain ⟨l40, c40, rfl⟩ := own_shape ho40
      have hs40 := k40.size
      have HO40 := mkHid ho40
      have HG40 := mkHid hg40
      have HAT40 := mkHid hat40
      have HBVa := mkHid hbVa
      refine hK.out _ _ (fun _ => t40) ?_
      clear hK K
      try simp only [Act.put]
      refine wpT_ready (rs := [13]) (by kernel_rfl) (by simp) (AllT.cons rfl (fun K hK => ?_) AllT.nil)
      go_simp
      have tC : (w40.alloc (.cells #[] 5)).cell? ⟨q, 2, none⟩ = some av ∧ (w40.alloc (.cells #[] 5)).cell? ⟨q, 3, none⟩ = some dv := ⟨(Kept.alloc (fun _ => False) w40 _).cell t40.1 (fun h => h), (Kept.alloc (fun _ => False) w40 _).cell t40.2 (fun h => h)⟩
      refine hK.out _ _ (fun _ => tC) ?_
      clear hK K
      try simp only [Act.put]
      have HE : Hid ((w40.alloc (.cells #[] 5)).ownsRow W2.heap.size 5 1 (.slice (some ⟨w40.heap.size, 0, none⟩) 0 0) 0 []) := mkHid (World.ownsRow_made (base := W2.heap.size) (e := 5) (size := 1) w40 #[] 0 (by omega) (by unfold maxLen; omega) rfl)
      have HNE : Hid (W2.heap.size ≤ w40.heap.size ∧ (Value.slice l40 (c.length + 1) c40).ownBlock ≠ some w40.heap.size) := mkHid ⟨by omega, fun e => by have := (HO40.out.lt _ e).2; omega⟩
      have HKC : Hid (Kept (fun k => k = w40.heap.size) w40 (w40.alloc (.cells #[] 5))) := mkHid (Kept.alloc _ w40 _)
      have HVC := mkHid (HV40.out.alloc (.cells #[] 5))
      have HLC := mkHid (HL40.out.alloc (.cells #[] 5))
      obtain ⟨Wc, hWc⟩ : ∃ Wc, Wc = w40.alloc (.cells #[] 5) := ⟨_, rfl⟩
      rw [← hWc] at HE HKC HVC HLC tC ⊢
      obtain ⟨e0, he0⟩ : ∃ e0, e0 = w40.heap.size := ⟨_, rfl⟩
      rw [← he0] at HE HNE HKC ⊢
      clear hWc he0
      clear tVa t40 hat40 ho40 hg40 hbVa hzVa hVa k40
      refine wpT_ready (rs := [15]) (by kernel_rfl) (by simp) (AllT.cons rfl (fun K hK => ?_) AllT.nil)
      refine step_append_src (w := Wc) rfl (.tmp 45) (.tmp 46) 33 33 rfl W2.heap.size 5 i0 Tryd.underlying33 hi0 hz0 hz1 hz2 (.slice (some ⟨e0, 0, none⟩) 0 0) 0 [] (by simp [Act.eval]) HE.out (.slice sa bs.length sc) bs.length _ (by simp [Act.eval]) HVC.out.src HLN.out.2.2.1 HLN.out.2.2.2 (by have := HKC.out.size; have := HNE.out.1; have := HBVa.out.size; omega) ?_
      intro v47 w47 ho47 hg47 hat47
      rw [Nat.zero_add, List.nil_append] at ho47
      have k47 : Kept (fun k => k = e0) Wc w47 := Kept.grown hg47 (fun k hk => by simp [Value.ownBlock] at hk; exact hk.symm)
      have t47 : w47.cell? ⟨q, 2, none⟩ = some av ∧ w47.cell? ⟨q, 3, none⟩ = some dv := ⟨k47.cell tC.1 (fun e => by have h1 := HNE.out.1; have h2 := HAQ.out.2.2.1; simp at e; omega), k47.cell tC.2 (fun e => by have h1 := HNE.out.1; have h2 := HAQ.out.2.2.1; simp at e; omega)⟩
      have HKD : Hid (Kept (fun k => k = e0) w40 w47) := mkHid (HKC.out.trans k47 (fun _ e => .inl e))
      have HR47 : Hid (Rd w47 v47 bs) := mkHid (Rd.of_owns HV.out.1 ho47)
      have HB47 : Hid (∀ k, v47.ownBlock = some k → (k = e0 ∨ w40.heap.size ≤ k) ∧ k < w47.heap.size) := mkHid (fun k hk => ⟨by rcases hat47 with e | e; (rw [e] at hk; simp [Value.ownBlock] at hk; exact .inl hk.symm); (rw [e] at hk; simp at hk; have := HKC.out.size; exact .inr (by omega)), (ho47.lt k hk).2⟩)
      have HL47 : Hid (w47.ownsRow 0 33 1 dv (datas c).length vs) := mkHid (own_keptV HLC.out k47 (fun k hk e => by have h1 := HNE.out.1; have h2 := HAQ.out.2.2.2 k (HAQ.out.2.1 k hk).2.1; omega))
      have tA : (w47.alloc (.cells #[v47] 33)).cell? ⟨q, 2, none⟩ = some av ∧ (w47.alloc (.cells #[v47] 33)).cell? ⟨q, 3, none⟩ = some dv := ⟨(Kept.alloc (fun _ => False) w47 _).cell t47.1 (fun h => h), (Kept.alloc (fun _ => False) w47 _).cell t47.2 (fun h => h)⟩
      obtain ⟨l47, c47, rfl⟩ := own_shape ho47
      refine hK.out _ _ (fun _ => t47) ?_
      clear hK K ho47 hg47 hat47 k47
      try simp only [Act.put]
      refine wpT_ready (rs := [16]) (by kernel_rfl) (by simp) (AllT.cons rfl (fun K hK => ?_) AllT.nil)
      go_simp
      refine hK.out _ _ (fun _ => tA) ?_
      clear hK K
      try simp only [Act.put]
      refine wpT_ready (rs := [17]) (by kernel_rfl) (by simp) (AllT.cons rfl (fun K hK => ?_) AllT.nil)
      refine step_append_srcV (w := w47.alloc (.cells #[.slice l47 bs.length c47] 33)) rfl (.tmp 44) (.tmp 48) 39 39 rfl 0 33 il Tryd.underlying39 hil (.slice none 0 0) 24 hl1 rfl hl2 hl3 dv (datas c).length vs (by simp [Act.eval]) (HL47.out.alloc _) (.slice (some ⟨w47.heap.size, 0, none⟩) 1 1) 1 [.slice l47 bs.length c47] (by simp [Act.eval]) (src_oneV w47 _ rfl) HLN.out.2.1.1 HLN.out.2.1.2 (Nat.zero_le _) ?_
      intro v49 w49 ho49 hg49 hat49
      rw [datas_len] at ho49
      obtain ⟨hd49, F', H', hRk, hF', hKp⟩ := Rk.wrote HRk.out HK2.out HN2.out (fun j => by unfold updI; split; exact HSB.out; exact HRk.out.sn j) HSB.out (by omega) HLR.out HBVa.out HG40.out HO40.out HAT40.out HNE.out.1 HNE.out.2 HKD.out HR47.out HB47.out hg49 ho49 hat49
      obtain ⟨l49, c49, rfl⟩ := own_shape ho49
      have HFin := mkHid (And.intro hRk (And.intro hF' hKp))
      have e2 : w49.cell? ⟨q, 2, none⟩ = some av := cell_of_block hd49 rfl
      have e3 : w49.cell? ⟨q, 3, none⟩ = some dv := cell_of_block hd49 rfl
      have e4 : w49.cell? ⟨q, 4, none⟩ = some (.int .i64 nw) := cell_of_block hd49 rfl
      have g2 : w49.frozen? ⟨q, 2, none⟩ = false := frozen_of_block hd49
      have g3 : w49.frozen? ⟨q, 3, none⟩ = false := frozen_of_block hd49
      have g4 : w49.frozen? ⟨q, 4, none⟩ = false := frozen_of_block hd49
      have hwr : wrap64 (nw + 1) = nw + 1 := by unfold wrap64; omega
      refine hK.out _ _ (fun _ => ⟨e2, e3⟩) ?_
      clear hK K ho49 hg49 hat49 hd49 hRk hF' hKp tA t47 tC
      try simp only [Act.put]
      refine wpT_free 18 (.pointer (some ⟨q, 0, none⟩)) rfl (by kernel_rfl) (by kernel_rfl) (by kernel_rfl) (by decide) (fun _ _ _ h => h) (fun _ => ⟨e2, e3⟩) (Or.inl ⟨by rfl, by intro w _; go_simp⟩) ?_
      try simp only [Act.put]
      refine wpT_free 19 (.pointer (some ⟨q, 2, none⟩)) rfl (by kernel_rfl) (by kernel_rfl) (by kernel_rfl) (by decide) (fun _ _ _ h => h) (fun _ => ⟨e2, e3⟩) (Or.inl ⟨by rfl, by intro w _; go_simp⟩) ?_
      try simp only [Act.put]
      refine wpT_ready (rs := [20]) (by kernel_rfl) (by simp) (AllT.cons rfl (fun K hK => ?_) AllT.nil)
      go_simp
      refine hK.out _ _ (bool_no (by kernel_rfl)) ?_
      clear hK K
      try simp only [Act.put]
      refine wpT_free 21 (.pointer (some ⟨q, 0, none⟩)) rfl (by kernel_rfl) (by kernel_rfl) (by kernel_rfl) (by decide) (fun _ _ _ h => h) (bool_no (by kernel_rfl)) (Or.inl ⟨by rfl, by intro w _; go_simp⟩) ?_
      try simp only [Act.put]
      refine wpT_free 22 (.pointer (some ⟨q, 3, none⟩)) rfl (by kernel_rfl) (by kernel_rfl) (by kernel_rfl) (by decide) (fun _ _ _ h => h) (bool_no (by kernel_rfl)) (Or.inl ⟨by rfl, by intro w _; go_simp⟩) ?_
      try simp only [Act.put]
      refine wpT_ready (rs := [23]) (by kernel_rfl) (by simp) (AllT.cons rfl (fun K hK => ?_) AllT.nil)
      go_simp
      refine hK.out _ _ (bool_no (by kernel_rfl)) ?_
      clear hK K
      try simp only [Act.put]
      refine wpT_done (by kernel_rfl) ?_ _
      go_wp2
      go_ret
      exact ⟨rfl, F', _, _, H', HFin.out.1, HFin.out.2.1, HFin.out.2.2⟩
    · go_simp
      refine hK.out _ _ (fun _ => HTAA.out _ _) ?_
      clear hK K
      try simp only [Act.put]
      refine wpT_ready (rs := [8]) (by kernel_rfl) (by simp) (AllT.cons rfl (fun K hK => ?_) AllT.nil)
      refine step_append_srcV (w := (V0.alloc (.cells #[.int .i64 (i : Int)] 3)).alloc (.cells #[] 5)) rfl (.tmp 37) (.tmp 39) 38 38 rfl 0 3 ii Tryd.underlying38 hii (.int .i64 0) 8 hi1 rfl hi2 hi3 av c.length (places c) (by simp [Act.eval]) ((HA.out.alloc _).alloc _) (.slice (some ⟨V0.heap.size, 0, none⟩) 1 1) 1 [.int .i64 (i : Int)] (by simp [Act.eval]) (src_int _ _ ((Kept.alloc (fun _ => False) _ _).cell (cell_of_block (heap_alloc_new V0 _) rfl) (fun h => h))) HLN.out.1.1 HLN.out.1.2 (Nat.zero_le _) ?_
      intro v40 w40 ho40 hg40 hat40
      obtain ⟨Va, hVa⟩ : ∃ Va, Va = (V0.alloc (.cells #[.int .i64 (i : Int)] 3)).alloc (.cells #[] 5) := ⟨_, rfl⟩
      have hbVa : Below W2.heap.size W2 Va := by rw [hVa]; exact (HB0.out.alloc HB0.out.size _).alloc (by have := HB0.out.size; simp; omega) _
      have hzVa : Va.heap.size = W2.heap.size + 2 := by rw [hVa]; simp [hz0v]
      have HVVa : Hid (Rd Va (.slice sa bs.length sc) bs) := mkHid (by rw [hVa]; exact (HVD.out.alloc _).alloc _)
      have HLVa : Hid (Va.ownsRow 0 33 1 dv (datas c).length vs) := mkHid (by rw [hVa]; exact (HLO.out.alloc _).alloc _)
      have tVa : Va.cell? ⟨q, 2, none⟩ = some av ∧ Va.cell? ⟨q, 3, none⟩ = some dv := by rw [hVa]; exact HTAA.out _ _
      rw [← hVa] at hg40 hat40
      have k40 : Kept (fun k => av.ownBlock = some k) Va w40 := Kept.grown hg40 (fun k hk => hk)
      have t40 : w40.cell? ⟨q, 2, none⟩ = some av ∧ w40.cell? ⟨q, 3, none⟩ = some dv := ⟨k40.cell tVa.1 (fun e => (HAQ.out.1 _ e).1 rfl), k40.cell tVa.2 (fun e => (HAQ.out.1 _ e).1 rfl)⟩
      have HV40 : Hid (Rd w40 (.slice sa bs.length sc) bs) := mkHid (HVVa.out.kept k40 (fun k hk => HSV.out k hk))
      have HL40 : Hid (w40.ownsRow 0 33 1 dv (datas c).length vs) := mkHid (own_keptV HLVa.out k40 (fun k hk => (HAQ.out.2.1 k hk).2.2))
      obtain ⟨l40, c40, rfl⟩ := own_shape ho40
      have hs40 := k40.size
      have HO40 := mkHid ho40
      have HG40 := mkHid hg40
      have HAT40 := mkHid hat40
      have HBVa := mkHid hbVa
      refine hK.out _ _ (fun _ => t40) ?_
      clear hK K
      try simp only [Act.put]
      have HE : Hid (w40.ownsRow W2.heap.size 5 1 (.slice (some ⟨W2.heap.size + 1, 0, none⟩) 0 0) 0 []) := mkHid (own_keptV (show Va.ownsRow W2.heap.size 5 1 (.slice (some ⟨W2.heap.size + 1, 0, none⟩) 0 0) 0 [] from by rw [hVa]; exact (by have := World.ownsRow_made (base := W2.heap.size) (e := 5) (size := 1) (V0.alloc (.cells #[.int .i64 (i : Int)] 3)) #[] 0 (by simp; omega) (by unfold maxLen; omega) rfl; simpa [hz0v] using this)) k40 (fun k hk e => by simp [Value.ownBlock] at hk; have := HAQ.out.2.2.2 k (HAQ.out.1 k e).2; omega))
      have HNE : Hid (W2.heap.size ≤ W2.heap.size + 1 ∧ (Value.slice l40 (c.length + 1) c40).ownBlock ≠ some (W2.heap.size + 1)) := mkHid ⟨by omega, fun e => by rcases HAT40.out with h1 | h1; (have := HAQ.out.2.2.2 _ (HAQ.out.1 _ (h1 ▸ e)).2; omega); (rw [h1] at e; simp at e; omega)⟩
      have HKC : Hid (Kept (fun k => k = W2.heap.size + 1) w40 w40) := mkHid (Kept.refl _ _)
      have HVC := HV40
      have HLC := HL40
      have tC := t40
      obtain ⟨Wc, hWc⟩ : ∃ Wc, Wc = w40 := ⟨_, rfl⟩
      rw [← hWc] at HE HVC HLC tC ⊢
      obtain ⟨e0, he0⟩ : ∃ e0, e0 = W2.heap.size + 1 := ⟨_, rfl⟩
      have HKC' : Hid (Kept (fun k => k = e0) w40 Wc) := mkHid (by rw [he0, hWc]; exact HKC.out)
      clear HKC
      have HKC := HKC'
      clear HKC'
      rw [← he0] at HE HNE ⊢
      clear he0
      clear tVa t40 hat40 ho40 hg40 hbVa hzVa hVa k40
      refine wpT_ready (rs := [15]) (by kernel_rfl) (by simp) (AllT.cons rfl (fun K hK => ?_) AllT.nil)
      refine step_append_src (w := Wc) rfl (.tmp 45) (.tmp 46) 33 33 rfl W2.heap.size 5 i0 Tryd.underlying33 hi0 hz0 hz1 hz2 (.slice (some ⟨e0, 0, none⟩) 0 0) 0 [] (by simp [Act.eval]) HE.out (.slice sa bs.length sc) bs.length _ (by simp [Act.eval]) HVC.out.src HLN.out.2.2.1 HLN.out.2.2.2 (by have := HKC.out.size; have := HNE.out.1; have := HBVa.out.size; omega) ?_
      intro v47 w47 ho47 hg47 hat47
      rw [Nat.zero_add, List.nil_append] at ho47
      have k47 : Kept (fun k => k = e0) Wc w47 := Kept.grown hg47 (fun k hk => by simp [Value.ownBlock] at hk; exact hk.symm)
      have t47 : w47.cell? ⟨q, 2, none⟩ = some av ∧ w47.cell? ⟨q, 3, none⟩ = some dv := ⟨k47.cell tC.1 (fun e => by have h1 := HNE.out.1; have h2 := HAQ.out.2.2.1; simp at e; omega), k47.cell tC.2 (fun e => by have h1 := HNE.out.1; have h2 := HAQ.out.2.2.1; simp at e; omega)⟩
      have HKD : Hid (Kept (fun k => k = e0) w40 w47) := mkHid (HKC.out.trans k47 (fun _ e => .inl e))
      have HR47 : Hid (Rd w47 v47 bs) := mkHid (Rd.of_owns HV.out.1 ho47)
      have HB47 : Hid (∀ k, v47.ownBlock = some k → (k = e0 ∨ w40.heap.size ≤ k) ∧ k < w47.heap.size) := mkHid (fun k hk => ⟨by rcases hat47 with e | e; (rw [e] at hk; simp [Value.ownBlock] at hk; exact .inl hk.symm); (rw [e] at hk; simp at hk; have := HKC.out.size; exact .inr (by omega)), (ho47.lt k hk).2⟩)
      have HL47 : Hid (w47.ownsRow 0 33 1 dv (datas c).length vs) := mkHid (own_keptV HLC.out k47 (fun k hk e => by have h1 := HNE.out.1; have h2 := HAQ.out.2.2.2 k (HAQ.out.2.1 k hk).2.1; omega))
      have tA : (w47.alloc (.cells #[v47] 33)).cell? ⟨q, 2, none⟩ = some av ∧ (w47.alloc (.cells #[v47] 33)).cell? ⟨q, 3, none⟩ = some dv := ⟨(Kept.alloc (fun _ => False) w47 _).cell t47.1 (fun h => h), (Kept.alloc (fun _ => False) w47 _).cell t47.2 (fun h => h)⟩
      obtain ⟨l47, c47, rfl⟩ := own_shape ho47
      refine hK.out _ _ (fun _ => t47) ?_
      clear hK K ho47 hg47 hat47 k47
      try simp only [Act.put]
      refine wpT_ready (rs := [16]) (by kernel_rfl) (by simp) (AllT.cons rfl (fun K hK => ?_) AllT.nil)
      go_simp
      refine hK.out _ _ (fun _ => tA) ?_
      clear hK K
      try simp only [Act.put]
      refine wpT_ready (rs := [17]) (by kernel_rfl) (by simp) (AllT.cons rfl (fun K hK => ?_) AllT.nil)
      refine step_append_srcV (w := w47.alloc (.cells #[.slice l47 bs.length c47] 33)) rfl (.tmp 44) (.tmp 48) 39 39 rfl 0 33 il Tryd.underlying39 hil (.slice none 0 0) 24 hl1 rfl hl2 hl3 dv (datas c).length vs (by simp [Act.eval]) (HL47.out.alloc _) (.slice (some ⟨w47.heap.size, 0, none⟩) 1 1) 1 [.slice l47 bs.length c47] (by simp [Act.eval]) (src_oneV w47 _ rfl) HLN.out.2.1.1 HLN.out.2.1.2 (Nat.zero_le _) ?_
      intro v49 w49 ho49 hg49 hat49
      rw [datas_len] at ho49
      obtain ⟨hd49, F', H', hRk, hF', hKp⟩ := Rk.wrote HRk.out HK2.out HN2.out (fun j => by unfold updI; split; exact HSB.out; exact HRk.out.sn j) HSB.out (by omega) HLR.out HBVa.out HG40.out HO40.out HAT40.out HNE.out.1 HNE.out.2 HKD.out HR47.out HB47.out hg49 ho49 hat49
      obtain ⟨l49, c49, rfl⟩ := own_shape ho49
      have HFin := mkHid (And.intro hRk (And.intro hF' hKp))
      have e2 : w49.cell? ⟨q, 2, none⟩ = some av := cell_of_block hd49 rfl
      have e3 : w49.cell? ⟨q, 3, none⟩ = some dv := cell_of_block hd49 rfl
      have e4 : w49.cell? ⟨q, 4, none⟩ = some (.int .i64 nw) := cell_of_block hd49 rfl
      have g2 : w49.frozen? ⟨q, 2, none⟩ = false := frozen_of_block hd49
      have g3 : w49.frozen? ⟨q, 3, none⟩ = false := frozen_of_block hd49
      have g4 : w49.frozen? ⟨q, 4, none⟩ = false := frozen_of_block hd49
      have hwr : wrap64 (nw + 1) = nw + 1 := by unfold wrap64; omega
      refine hK.out _ _ (fun _ => ⟨e2, e3⟩) ?_
      clear hK K ho49 hg49 hat49 hd49 hRk hF' hKp tA t47 tC
      try simp only [Act.put]
      refine wpT_free 18 (.pointer (some ⟨q, 0, none⟩)) rfl (by kernel_rfl) (by kernel_rfl) (by kernel_rfl) (by decide) (fun _ _ _ h => h) (fun _ => ⟨e2, e3⟩) (Or.inl ⟨by rfl, by intro w _; go_simp⟩) ?_
      try simp only [Act.put]
      refine wpT_free 19 (.pointer (some ⟨q, 2, none⟩)) rfl (by kernel_rfl) (by kernel_rfl) (by kernel_rfl) (by decide) (fun _ _ _ h => h) (fun _ => ⟨e2, e3⟩) (Or.inl ⟨by rfl, by intro w _; go_simp⟩) ?_
      try simp only [Act.put]
      refine wpT_ready (rs := [20]) (by kernel_rfl) (by simp) (AllT.cons rfl (fun K hK => ?_) AllT.nil)
      go_simp
      refine hK.out _ _ (bool_no (by kernel_rfl)) ?_
      clear hK K
      try simp only [Act.put]
      refine wpT_free 21 (.pointer (some ⟨q, 0, none⟩)) rfl (by kernel_rfl) (by kernel_rfl) (by kernel_rfl) (by decide) (fun _ _ _ h => h) (bool_no (by kernel_rfl)) (Or.inl ⟨by rfl, by intro w _; go_simp⟩) ?_
      try simp only [Act.put]
      refine wpT_free 22 (.pointer (some ⟨q, 3, none⟩)) rfl (by kernel_rfl) (by kernel_rfl) (by kernel_rfl) (by decide) (fun _ _ _ h => h) (bool_no (by kernel_rfl)) (Or.inl ⟨by rfl, by intro w _; go_simp⟩) ?_
      try simp only [Act.put]
      refine wpT_ready (rs := [23]) (by kernel_rfl) (by simp) (AllT.cons rfl (fun K hK => ?_) AllT.nil)
      go_simp
      refine hK.out _ _ (bool_no (by kernel_rfl)) ?_
      clear hK K
      try simp only [Act.put]
      refine wpT_done (by kernel_rfl) ?_ _
      go_wp2
      go_ret
      exact ⟨rfl, F', _, _, H', HFin.out.1, HFin.out.2.1, HFin.out.2.2⟩
  · go_simp
    refine hK.out _ _ (fun _ => HTA.out _) ?_
    clear hK K
    try simp only [Act.put]
    refine wpT_ready (rs := [7]) (by kernel_rfl) (by simp) (AllT.cons rfl (fun K hK => ?_) AllT.nil)
    go_simp
    refine hK.out _ _ (fun _ => HTAA.out _ _) ?_
    clear hK K
    try simp only [Act.put]
    refine wpT_ready (rs := [8]) (by kernel_rfl) (by simp) (AllT.cons rfl (fun K hK => ?_) AllT.nil)
    refine step_append_srcV (w := (V0.alloc (.cells #[] 5)).alloc (.cells #[.int .i64 (i : Int)] 3)) rfl (.tmp 37) (.tmp 39) 38 38 rfl 0 3 ii Tryd.underlying38 hii (.int .i64 0) 8 hi1 rfl hi2 hi3 av c.length (places c) (by simp [Act.eval]) ((HA.out.alloc _).alloc _) (.slice (some ⟨V0.heap.size + 1, 0, none⟩) 1 1) 1 [.int .i64 (i : Int)] (by simp [Act.eval]) (src_int _ _ (cell_of_block (by simpa using heap_alloc_new (V0.alloc (.cells #[] 5)) _) rfl)) HLN.out.1.1 HLN.out.1.2 (Nat.zero_le _) ?_
    intro v40 w40 ho40 hg40 hat40
    obtain ⟨Va, hVa⟩ : ∃ Va, Va = (V0.alloc (.cells #[] 5)).alloc (.cells #[.int .i64 (i : Int)] 3) := ⟨_, rfl⟩
    have hbVa : Below W2.heap.size W2 Va := by rw [hVa]; exact (HB0.out.alloc HB0.out.size _).alloc (by have := HB0.out.size; simp; omega) _
    have hzVa : Va.heap.size = W2.heap.size + 2 := by rw [hVa]; simp [hz0v]
    have HVVa : Hid (Rd Va (.slice sa bs.length sc) bs) := mkHid (by rw [hVa]; exact (HVD.out.alloc _).alloc _)
    have HLVa : Hid (Va.ownsRow 0 33 1 dv (datas c).length vs) := mkHid (by rw [hVa]; exact (HLO.out.alloc _).alloc _)
    have tVa : Va.cell? ⟨q, 2, none⟩ = some av ∧ Va.cell? ⟨q, 3, none⟩ = some dv := by rw [hVa]; exact HTAA.out _ _
    rw [← hVa] at hg40 hat40
    have k40 : Kept (fun k => av.ownBlock = some k) Va w40 := Kept.grown hg40 (fun k hk => hk)
    have t40 : w40.cell? ⟨q, 2, none⟩ = some av ∧ w40.cell? ⟨q, 3, none⟩ = some dv := ⟨k40.cell tVa.1 (fun e => (HAQ.out.1 _ e).1 rfl), k40.cell tVa.2 (fun e => (HAQ.out.1 _ e).1 rfl)⟩
    have HV40 : Hid (Rd w40 (.slice sa bs.length sc) bs) := mkHid (HVVa.out.kept k40 (fun k hk => HSV.out k hk))
    have HL40 : Hid (w40.ownsRow 0 33 1 dv (datas c).length vs) := mkHid (own_keptV HLVa.out k40 (fun k hk => (HAQ.out.2.1 k hk).2.2))
    obtain ⟨l40, c40, rfl⟩ := own_shape ho40
    have hs40 := k40.size
    have HO40 := mkHid ho40
    have HG40 := mkHid hg40
    have HAT40 := mkHid hat40
    have HBVa := mkHid hbVa
    refine hK.out _ _ (fun _ => t40) ?_
    clear hK K
    try simp only [Act.put]
    have HE : Hid (w40.ownsRow W2.heap.size 5 1 (.slice (some ⟨W2.heap.size, 0, none⟩) 0 0) 0 []) := mkHid (own_keptV (show Va.ownsRow W2.heap.size 5 1 (.slice (some ⟨W2.heap.size, 0, none⟩) 0 0) 0 [] from by rw [hVa]; exact (by have := (World.ownsRow_made (base := W2.heap.size) (e := 5) (size := 1) V0 #[] 0 (by omega) (by unfold maxLen; omega) rfl); rw [hz0v] at this; exact this.alloc _)) k40 (fun k hk e => by simp [Value.ownBlock] at hk; have := HAQ.out.2.2.2 k (HAQ.out.1 k e).2; omega))
    have HNE : Hid (W2.heap.size ≤ W2.heap.size ∧ (Value.slice l40 (c.length + 1) c40).ownBlock ≠ some (W2.heap.size)) := mkHid ⟨by omega, fun e => by rcases HAT40.out with h1 | h1; (have := HAQ.out.2.2.2 _ (HAQ.out.1 _ (h1 ▸ e)).2; omega); (rw [h1] at e; simp at e; omega)⟩
    have HKC : Hid (Kept (fun k => k = W2.heap.size) w40 w40) := mkHid (Kept.refl _ _)
    have HVC := HV40
    have HLC := HL40
    have tC := t40
    obtain ⟨Wc, hWc⟩ : ∃ Wc, Wc = w40 := ⟨_, rfl⟩
    rw [← hWc] at HE HVC HLC tC ⊢
    obtain ⟨e0, he0⟩ : ∃ e0, e0 = W2.heap.size := ⟨_, rfl⟩
    have HE' : Hid (Wc.ownsRow W2.heap.size 5 1 (.slice (some ⟨e0, 0, none⟩) 0 0) 0 []) := mkHid (by rw [he0]; exact HE.out)
    have HNE' : Hid (W2.heap.size ≤ e0 ∧ (Value.slice l40 (c.length + 1) c40).ownBlock ≠ some e0) := mkHid (by rw [he0]; exact HNE.out)
    have HKC' : Hid (Kept (fun k => k = e0) w40 Wc) := mkHid (by rw [he0, hWc]; exact HKC.out)
    clear HE HNE HKC
    have HE := HE'
    have HNE := HNE'
    have HKC := HKC'
    clear HE' HNE' HKC'
    rw [← he0]
    clear he0
    clear tVa t40 hat40 ho40 hg40 hbVa hzVa hVa k40
    refine wpT_ready (rs := [15]) (by kernel_rfl) (by simp) (AllT.cons rfl (fun K hK => ?_) AllT.nil)
    refine step_append_src (w := Wc) rfl (.tmp 45) (.tmp 46) 33 33 rfl W2.heap.size 5 i0 Tryd.underlying33 hi0 hz0 hz1 hz2 (.slice (some ⟨e0, 0, none⟩) 0 0) 0 [] (by simp [Act.eval]) HE.out (.slice sa bs.length sc) bs.length _ (by simp [Act.eval]) HVC.out.src HLN.out.2.2.1 HLN.out.2.2.2 (by have := HKC.out.size; have := HNE.out.1; have := HBVa.out.size; omega) ?_
    intro v47 w47 ho47 hg47 hat47
    rw [Nat.zero_add, List.nil_append] at ho47
    have k47 : Kept (fun k => k = e0) Wc w47 := Kept.grown hg47 (fun k hk => by simp [Value.ownBlock] at hk; exact hk.symm)
    have t47 : w47.cell? ⟨q, 2, none⟩ = some av ∧ w47.cell? ⟨q, 3, none⟩ = some dv := ⟨k47.cell tC.1 (fun e => by have h1 := HNE.out.1; have h2 := HAQ.out.2.2.1; simp at e; omega), k47.cell tC.2 (fun e => by have h1 := HNE.out.1; have h2 := HAQ.out.2.2.1; simp at e; omega)⟩
    have HKD : Hid (Kept (fun k => k = e0) w40 w47) := mkHid (HKC.out.trans k47 (fun _ e => .inl e))
    have HR47 : Hid (Rd w47 v47 bs) := mkHid (Rd.of_owns HV.out.1 ho47)
    have HB47 : Hid (∀ k, v47.ownBlock = some k → (k = e0 ∨ w40.heap.size ≤ k) ∧ k < w47.heap.size) := mkHid (fun k hk => ⟨by rcases hat47 with e | e; (rw [e] at hk; simp [Value.ownBlock] at hk; exact .inl hk.symm); (rw [e] at hk; simp at hk; have := HKC.out.size; exact .inr (by omega)), (ho47.lt k hk).2⟩)
    have HL47 : Hid (w47.ownsRow 0 33 1 dv (datas c).length vs) := mkHid (own_keptV HLC.out k47 (fun k hk e => by have h1 := HNE.out.1; have h2 := HAQ.out.2.2.2 k (HAQ.out.2.1 k hk).2.1; omega))
    have tA : (w47.alloc (.cells #[v47] 33)).cell? ⟨q, 2, none⟩ = some av ∧ (w47.alloc (.cells #[v47] 33)).cell? ⟨q, 3, none⟩ = some dv := ⟨(Kept.alloc (fun _ => False) w47 _).cell t47.1 (fun h => h), (Kept.alloc (fun _ => False) w47 _).cell t47.2 (fun h => h)⟩
    obtain ⟨l47, c47, rfl⟩ := own_shape ho47
    refine hK.out _ _ (fun _ => t47) ?_
    clear hK K ho47 hg47 hat47 k47
    try simp only [Act.put]
    refine wpT_ready (rs := [16]) (by kernel_rfl) (by simp) (AllT.cons rfl (fun K hK => ?_) AllT.nil)
    go_simp
    refine hK.out _ _ (fun _ => tA) ?_
    clear hK K
    try simp only [Act.put]
    refine wpT_ready (rs := [17]) (by kernel_rfl) (by simp) (AllT.cons rfl (fun K hK => ?_) AllT.nil)
    refine step_append_srcV (w := w47.alloc (.cells #[.slice l47 bs.length c47] 33)) rfl (.tmp 44) (.tmp 48) 39 39 rfl 0 33 il Tryd.underlying39 hil (.slice none 0 0) 24 hl1 rfl hl2 hl3 dv (datas c).length vs (by simp [Act.eval]) (HL47.out.alloc _) (.slice (some ⟨w47.heap.size, 0, none⟩) 1 1) 1 [.slice l47 bs.length c47] (by simp [Act.eval]) (src_oneV w47 _ rfl) HLN.out.2.1.1 HLN.out.2.1.2 (Nat.zero_le _) ?_
    intro v49 w49 ho49 hg49 hat49
    rw [datas_len] at ho49
    obtain ⟨hd49, F', H', hRk, hF', hKp⟩ := Rk.wrote HRk.out HK2.out HN2.out (fun j => by unfold updI; split; exact HSB.out; exact HRk.out.sn j) HSB.out (by omega) HLR.out HBVa.out HG40.out HO40.out HAT40.out HNE.out.1 HNE.out.2 HKD.out HR47.out HB47.out hg49 ho49 hat49
    obtain ⟨l49, c49, rfl⟩ := own_shape ho49
    have HFin := mkHid (And.intro hRk (And.intro hF' hKp))
    have e2 : w49.cell? ⟨q, 2, none⟩ = some av := cell_of_block hd49 rfl
    have e3 : w49.cell? ⟨q, 3, none⟩ = some dv := cell_of_block hd49 rfl
    have e4 : w49.cell? ⟨q, 4, none⟩ = some (.int .i64 nw) := cell_of_block hd49 rfl
    have g2 : w49.frozen? ⟨q, 2, none⟩ = false := frozen_of_block hd49
    have g3 : w49.frozen? ⟨q, 3, none⟩ = false := frozen_of_block hd49
    have g4 : w49.frozen? ⟨q, 4, none⟩ = false := frozen_of_block hd49
    have hwr : wrap64 (nw + 1) = nw + 1 := by unfold wrap64; omega
    refine hK.out _ _ (fun _ => ⟨e2, e3⟩) ?_
    clear hK K ho49 hg49 hat49 hd49 hRk hF' hKp tA t47 tC
    try simp only [Act.put]
    refine wpT_free 18 (.pointer (some ⟨q, 0, none⟩)) rfl (by kernel_rfl) (by kernel_rfl) (by kernel_rfl) (by decide) (fun _ _ _ h => h) (fun _ => ⟨e2, e3⟩) (Or.inl ⟨by rfl, by intro w _; go_simp⟩) ?_
    try simp only [Act.put]
    refine wpT_free 19 (.pointer (some ⟨q, 2, none⟩)) rfl (by kernel_rfl) (by kernel_rfl) (by kernel_rfl) (by decide) (fun _ _ _ h => h) (fun _ => ⟨e2, e3⟩) (Or.inl ⟨by rfl, by intro w _; go_simp⟩) ?_
    try simp only [Act.put]
    refine wpT_ready (rs := [20]) (by kernel_rfl) (by simp) (AllT.cons rfl (fun K hK => ?_) AllT.nil)
    go_simp
    refine hK.out _ _ (bool_no (by kernel_rfl)) ?_
    clear hK K
    try simp only [Act.put]
    refine wpT_free 21 (.pointer (some ⟨q, 0, none⟩)) rfl (by kernel_rfl) (by kernel_rfl) (by kernel_rfl) (by decide) (fun _ _ _ h => h) (bool_no (by kernel_rfl)) (Or.inl ⟨by rfl, by intro w _; go_simp⟩) ?_
    try simp only [Act.put]
    refine wpT_free 22 (.pointer (some ⟨q, 3, none⟩)) rfl (by kernel_rfl) (by kernel_rfl) (by kernel_rfl) (by decide) (fun _ _ _ h => h) (bool_no (by kernel_rfl)) (Or.inl ⟨by rfl, by intro w _; go_simp⟩) ?_
    try simp only [Act.put]
    refine wpT_ready (rs := [23]) (by kernel_rfl) (by simp) (AllT.cons rfl (fun K hK => ?_) AllT.nil)
    go_simp
    refine hK.out _ _ (bool_no (by kernel_rfl)) ?_
    clear hK K
    try simp only [Act.put]
    refine wpT_done (by kernel_rfl) ?_ _
    go_wp2
    go_ret
    exact ⟨rfl, F', _, _, H', HFin.out.1, HFin.out.2.1, HFin.out.2.2⟩
end Go.Proofs.YtcglonefifldnaaDoor
