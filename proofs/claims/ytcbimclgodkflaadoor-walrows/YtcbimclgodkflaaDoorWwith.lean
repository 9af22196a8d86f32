/- An area with a record more. -/
import Derived.Test.YtcbimclgodkflaaDoorWnep
import Derived.BigQuiet
namespace Go.Proofs.YtcbimclgodkflaaDoor
open Go.ChangeShapes Go.WideShapes Go.ChangeAt Go.RowKit
set_option maxRecDepth 100000

abbrev oA (a b v c : Value) : Obj := .cells #[a, b, v, c] 69
abbrev oR (t : Rp) : Obj := .cells #[.int .i64 (t.1.gen : Int), .int .i64 (t.1.epoch : Int), .int .i64 (t.1.index : Int), dv t] 92
abbrev oAZ : Obj := .cells #[.int .i64 0, .int .i64 0, .slice none 0 0, .int .i64 0] 69
theorem three_of (w W : World) (o1 o2 o3 : Obj) (hb : Below (((w.alloc o1).alloc o2).alloc o3).heap.size (((w.alloc o1).alloc o2).alloc o3) W) : W.heap[w.heap.size]? = some o1 ∧ W.heap[w.heap.size + 1]? = some o2 ∧ W.heap[w.heap.size + 1 + 1]? = some o3 := by
  refine ⟨?_, ?_, ?_⟩
  · rw [hb.block _ (by simp; omega), heap_alloc_old _ _ (by simp; omega), heap_alloc_old _ _ (by simp)]; exact heap_alloc_new w o1
  · rw [hb.block _ (by simp), heap_alloc_old _ _ (by simp)]
    have := heap_alloc_new (w.alloc o1) o2
    simpa using this
  · rw [hb.block _ (by simp)]
    have := heap_alloc_new ((w.alloc o1).alloc o2) o3
    simpa using this
theorem dhA {W : World} {R : Nat} {o : Obj} (h : W.heap[R]? = some o) : W.drew.heap[R]? = some o := h
theorem area3_leaves {W : World} {R : Nat} {p u x : Tmp} {fn : Func} {a b c d : Value} (hf : fn.results = #[.cell p 69, .tmp u, .tmp x]) (hR : W.heap[R]? = some (.cells #[a, b, c, d] 69 (0, 0))) (tmps : Array Value) (h2 : tmps.getD p undef = .pointer (some ⟨R, 0, none⟩)) : (results fn tmps).run Tryd.prog W = .ok (.tuple #[.agg #[a, b, c, d], tmps.getD u undef, tmps.getD x undef]) W := by
  have hl := run_loadVar_row (P := Tryd.prog) W R 69 69 #[a, b, c, d] (0, 0) _ hR Tryd.underlying69 rfl sizeArea
  rw [results_cell_tmp2 hf, h2]
  simp [asAddr, Result.andThen, hl]
/-- What with answers, where there is room. -/
def WithPost (F : Nat → Prop) (w : World) (fr en nx : Nat) (v : Value) (ts : List Rp) (t : Rp) (e : Ending) (w' : World) : Prop :=
  ∃ (v' z : Value) (F' : Nat → Prop), e = .returned (.tuple #[.agg #[.int .i64 (fr : Int), .int .i64 (en : Int), v', .int .i64 ((nx : Int) + (npc (frm t.1).length : Int))], z, .nilIface]) ∧ Recs F' w' v' (ts ++ [t]) ∧ (∀ k, F' k → F k ∨ (dv t).ownBlock = some k ∨ w.heap.size ≤ k) ∧
    Rd w' z (frm t.1) ∧ (∀ k, z.ownBlock = some k → w.heap.size ≤ k ∧ k < w'.heap.size ∧ ¬ F' k) ∧ Kept (fun k => v.ownBlock = some k) w w'
/-- Memory behind the append. -/
theorem with_grow {w W3 w5 : World} {o1 o2 o3 o : Obj} {va za : Option Addr} {n vc L zc : Nat} {xs : List Value} (hb : Below w.heap.size w W3) (hs : w.heap.size + 3 ≤ W3.heap.size) (hv : ∀ k, (Value.slice va n vc).ownBlock = some k → k < w.heap.size) (hg : (W3.alloc o).grownBy w5 (Value.slice va n vc).ownBlock) (hx : W3.heap[w.heap.size]? = some o1 ∧ W3.heap[w.heap.size + 1]? = some o2 ∧ W3.heap[w.heap.size + 1 + 1]? = some o3) (ho : W3.ownsRow (w.heap.size + 3) 5 1 (.slice za L zc) L xs) :
    w5.heap[w.heap.size]? = some o1 ∧ w5.heap[w.heap.size + 1 + 1]? = some o3 ∧ w5.ownsRow (w.heap.size + 3) 5 1 (.slice za L zc) L xs ∧ Kept (fun k => (Value.slice va n vc).ownBlock = some k) w w5 ∧ W3.heap.size ≤ w5.heap.size := by
  have k1 : Kept (fun k => (Value.slice va n vc).ownBlock = some k) (W3.alloc o) w5 := Kept.grown hg (fun k hk => hk)
  have k2 : Kept (fun k => (Value.slice va n vc).ownBlock = some k) W3 w5 := (Kept.alloc _ W3 o).trans k1 (fun _ h => .inl h)
  have hn : ∀ k, w.heap.size ≤ k → ¬ (Value.slice va n vc).ownBlock = some k := fun k hk e => by have := hv k e; omega
  refine ⟨(k2.block _ (by omega) (hn _ (Nat.le_refl _))).trans hx.1, (k2.block _ (by omega) (hn _ (by omega))).trans hx.2.2, own_keep ho k2 (fun k e => hn k (by have := (ho.lt k e).1; omega)), ⟨?_, ?_, ?_, Nat.le_trans hb.size k2.size, fun k hk hk2 => ?_⟩, k2.size⟩
  · exact k2.os.trans hb.os
  · exact k2.tape.trans hb.tape
  · exact k2.output.trans hb.output
  · rw [k2.block k (by have := hb.size; omega) hk2]; exact hb.block k hk
set_option maxHeartbeats 12800000 in
theorem with_ok {F : Nat → Prop} (w : World) (fr en nx : Nat) (v : Value) (ts : List Rp) (t : Rp) (h : Recs F w v ts) (hok : t.1.ok) (hd : t.1.data.length ≤ 32000) (hrd : Rd w (dv t) t.1.data) (hdF : ∀ k, (dv t).ownBlock = some k → k < w.heap.size ∧ v.ownBlock ≠ some k) (hl : (ts.length : Int) ≤ 1000000000) (hfit : nx + npc (frm t.1).length ≤ en) (hen : en ≤ 1000000) :
    Calls Tryd.prog 42 #[.agg #[.int .i64 (fr : Int), .int .i64 (en : Int), v, .int .i64 (nx : Int)], .agg #[.int .i64 (t.1.gen : Int), .int .i64 (t.1.epoch : Int), .int .i64 (t.1.index : Int), dv t]] w (WithPost F w fr en nx v ts t) := by
  obtain ⟨ie, hi, hz0, hz1, hz2⟩ := info_parts infoRec
  obtain ⟨zth, hzth⟩ : ∃ z : Value, z = .agg #[.int .i64 0, .int .i64 0, .int .i64 0, .slice none 0 0] := ⟨_, rfl⟩
  rw [← hzth] at hz0
  have HZ : Hid (zth.cells.size = 4) := mkHid (by rw [hzth]; rfl)
  have hie := mkHid (And.intro hi (And.intro hz0 (And.intro hz1 hz2)))
  clear hzth hi hz0 hz1 hz2
  obtain ⟨va, vc, rfl⟩ := h.shape
  obtain ⟨r, da, dc⟩ := t
  have hg40 : ((r.gen : Nat) : Int) ≤ 1099511627776 := by have := hok.g; simp only at this; omega
  obtain ⟨L, hL⟩ : ∃ L, L = (frm r).length := ⟨_, rfl⟩
  obtain ⟨K, hK⟩ : ∃ K, K = npc L := ⟨_, rfl⟩
  have hfit' : (nx : Int) + (K : Int) ≤ (en : Int) := by rw [hK, hL]; simp only at hfit; omega
  have HLK := mkHid (And.intro hL hK)
  have hLb : (L : Int) ≤ 1000000000 := by
    have : L ≤ 63 * K := by rw [hK]; unfold npc; omega
    omega
  have HPC : Hid (∀ W, Calls Tryd.prog 67 #[.int .i64 (L : Int)] W fun e w' => e = .returned (.int .i64 (K : Int)) ∧ w' = W) := mkHid (fun W => by rw [hK]; exact pieces_is W L hLb)
  have HR := mkHid h
  have HOK := mkHid hok
  have HD := mkHid hd
  have HRD := mkHid hrd
  have HDF := mkHid hdF
  have HFR := mkHid (fun W (hW : Rd W (dv (r, da, dc)) r.data) => frame_rec W r (dv (r, da, dc)) hok hd hW)
  clear h hok hd hrd hdF hL hK hfit
  simp only [dv] at HFR HRD HDF ⊢
  go_enter Tryd.func42, Tryd.ntmps42
  go_wp2_with (go_at_call 66; refine (HFR.out _ (HRD.out.later (((Below.refl _ w).alloc (Nat.le_refl _) _ |>.alloc (by simp) _).alloc (by simp; omega) _))).mono ?_; rintro e w2 ⟨z, rfl, ho2, hb2⟩; rw [← HLK.out.1] at ho2; obtain ⟨za, zc, rfl⟩ := own_shape ho2; have HB2 := mkHid hb2; have HO2 := mkHid ho2; obtain ⟨x1, x2, x3⟩ := three_of w w2 _ _ _ hb2; have HX := mkHid (And.intro x1 (And.intro x2 x3)); obtain ⟨a0, a1, a2, a3, fa0, fa1, fa2, fa3⟩ := four_facts x1; obtain ⟨b0, b1, b2, b3, _, _, _, _⟩ := four_facts x2; obtain ⟨c0, c1, c2, c3, fc0, fc1, fc2, fc3⟩ := four_facts x3; clear ho2 hb2 x1 x2 x3)
  go_quiet (first | (go_at_call 67; exact Calls.quiet_of_same (HPC.out _)))
  have HB3 : Hid (Below w2.heap.size w2 (w2.drewN nq)) := mkHid ⟨rfl, rfl, rfl, Nat.le_refl _, fun _ _ => rfl⟩
  have HX3 : Hid ((w2.drewN nq).heap[w.heap.size]? = some (oA (.int .i64 (fr : Int)) (.int .i64 (en : Int)) (.slice va ts.length vc) (.int .i64 (nx : Int))) ∧ (w2.drewN nq).heap[w.heap.size + 1]? = some (oR (r, da, dc)) ∧ (w2.drewN nq).heap[w.heap.size + 1 + 1]? = some oAZ) := mkHid HX.out
  have HO3 : Hid ((w2.drewN nq).ownsRow (w.heap.size + 3) 5 1 (.slice za L zc) L ((frm r).map (Value.int .u8))) := mkHid (own_weak HO2.out (by simp))
  have HW3 : Hid (Below w.heap.size w (w2.drewN nq)) := mkHid ((((Below.refl _ w).alloc (Nat.le_refl _) _ |>.alloc (by simp) _).alloc (by simp; omega) _).trans ((HB2.out.mono (by simp; omega)).trans (HB3.out.mono (by have := HB2.out.size; simp at this; omega))))
  have HS3 : Hid (w.heap.size + 3 ≤ (w2.drewN nq).heap.size) := mkHid (by have h1 := HB2.out.size; have h2 := HB3.out.size; simp at h1; omega)
  generalize w2.drewN nq = W3 at *
  clear a0 a1 a2 a3 fa0 fa1 fa2 fa3 b0 b1 b2 b3 c0 c1 c2 c3 fc0 fc1 fc2 fc3 HX HO2 HB2 HB3
  obtain ⟨a0, a1, a2, a3, fa0, fa1, fa2, fa3⟩ := four_facts HX3.out.1
  obtain ⟨b0, b1, b2, b3, _, _, _, _⟩ := four_facts HX3.out.2.1
  simp only [dv] at b3
  have HRC : Hid (Recs F (W3.alloc (oR (r, da, dc))) (.slice va ts.length vc) ts) := mkHid (HR.out.below (HW3.out.alloc HW3.out.size _))
  have HSR := mkHid (src_rec W3 (r, da, dc))
  have HRD3 : Hid (Rd (W3.alloc (oR (r, da, dc))) (dv (r, da, dc)) r.data) := mkHid (HRD.out.later (HW3.out.alloc HW3.out.size _))
  have HVB : Hid (∀ k, (Value.slice va ts.length vc).ownBlock = some k → k < w.heap.size) := mkHid (fun k e => HR.out.lt k (HR.out.row k e))
  simp only [dv] at HSR
  go_wp2_with (at_builtin; refine wpList_append_src4 _ rfl (.tmp 37) (.tmp 39) 67 67 rfl 0 92 ie Tryd.underlying67 hie.out.1 zth 48 hie.out.2.1 HZ.out hie.out.2.2.1 hie.out.2.2.2 _ ts.length (ts.flatMap rcl) rfl HRC.out.own _ 1 (rcl (r, da, dc)) rfl HSR.out (by unfold maxLen; omega) (by omega) (Nat.zero_le _) ?_; intro v5 w5 ho5 hg5 hv5; obtain ⟨xa, xc, rfl⟩ := own_shape ho5; have HE5 := mkHid (with_grow HW3.out HS3.out HVB.out hg5 HX3.out HO3.out); have HP5 := mkHid (HRC.out.push (t := (r, da, dc)) ho5 hg5 hv5 HRD3.out HOK.out (fun k e => ⟨by have h1 := (HDF.out k e).1; have h2 := HS3.out; simp; omega, (HDF.out k e).2⟩)); obtain ⟨d0, d1, d2, d3, fd0, fd1, fd2, fd3⟩ := four_facts HE5.out.1; obtain ⟨e0, e1, e2, e3, fe0, fe1, fe2, fe3⟩ := four_facts HE5.out.2.1; clear ho5 hg5 hv5)
  have k6 : Kept (fun k => k = w.heap.size) w5 ((w5.setCell ⟨w.heap.size, 2, none⟩ (.slice xa (ts.length + 1) xc)).setCell ⟨w.heap.size, 3, none⟩ (.int .i64 ((nx : Int) + (K : Int)))) := kept_setc (F := fun k => k = w.heap.size) (kept_setc (F := fun k => k = w.heap.size) (Kept.refl _ w5) (p := ⟨w.heap.size, 2, none⟩) rfl _) (p := ⟨w.heap.size, 3, none⟩) rfl _
  have hr6 : ((w5.setCell ⟨w.heap.size, 2, none⟩ (.slice xa (ts.length + 1) xc)).setCell ⟨w.heap.size, 3, none⟩ (.int .i64 ((nx : Int) + (K : Int)))).heap[w.heap.size + 1 + 1]? = some oAZ := (k6.block _ (lt_of_heap HE5.out.2.1) (by omega)).trans HE5.out.2.1
  have k7 := kept_four (F := fun k => k = w.heap.size ∨ k = w.heap.size + 1 + 1) (R := w.heap.size + 1 + 1) (k6.mono (fun _ h => .inl h)) (.inr rfl) (.int .i64 (fr : Int)) (.int .i64 (en : Int)) (.slice xa (ts.length + 1) xc) (.int .i64 ((nx : Int) + (K : Int)))
  have hs3 := HS3.out
  have hfk : ∀ k, (k < w5.heap.size ∧ (F k ∨ (dv (r, da, dc)).ownBlock = some k ∨ k = (W3.alloc (oR (r, da, dc))).heap.size)) → k < w.heap.size ∨ W3.heap.size < k := by
    rintro k ⟨_, a | a | a⟩
    · exact .inl (HR.out.lt k a)
    · exact .inl (HDF.out k a).1
    · simp at a; exact .inr (by omega)
  refine bodyPost_ret (area3_leaves rfl (afour_leaves hr6 _ _ _ _) _ rfl) rfl ⟨.slice xa (ts.length + 1) xc, .slice za L zc, _, ?_, HP5.out.kept k7 (fun k hk e => by have := hfk k hk; omega), ?_, ?_, ?_, HE5.out.2.2.2.1.trans k7 (fun k e => .inr (by omega))⟩
  · rw [HLK.out.2, HLK.out.1]
    rfl
  · rintro k ⟨_, a | a | a⟩
    · exact .inl a
    · exact .inr (.inl a)
    · simp at a; exact .inr (.inr (by omega))
  · have ho := own_keep HE5.out.2.2.1 k7 (fun k e e2 => by have := (HE5.out.2.2.1.lt k e).1; omega)
    exact Rd.of_owns (frame_byts (wpay_byts HOK.out.b)) (by rw [← HLK.out.1]; exact ho)
  · intro k e
    have h1 := HO3.out.lt k e
    refine ⟨by omega, by have := k7.size; have := HE5.out.2.2.2.2; omega, fun hk => ?_⟩
    have := hfk k hk
    omega
set_option maxHeartbeats 12800000 in
/-- There is no room. -/
theorem with_full (w : World) (fr en nx : Nat) (va : Option Addr) (vn vc : Nat) (t : Rp) (ef : Value) (hok : t.1.ok) (hd : t.1.data.length ≤ 32000) (hrd : Rd w (dv t) t.1.data) (hfit : en < nx + npc (frm t.1).length) (hnx : nx ≤ 1000000) (he : w.cell? ⟨4, 0, none⟩ = some ef) :
    Calls Tryd.prog 42 #[.agg #[.int .i64 (fr : Int), .int .i64 (en : Int), .slice va vn vc, .int .i64 (nx : Int)], .agg #[.int .i64 (t.1.gen : Int), .int .i64 (t.1.epoch : Int), .int .i64 (t.1.index : Int), dv t]] w fun e w' => e = .returned (.tuple #[.agg #[.int .i64 0, .int .i64 0, .slice none 0 0, .int .i64 0], .slice none 0 0, ef]) ∧ Below w.heap.size w w' := by
  obtain ⟨r, da, dc⟩ := t
  obtain ⟨L, hL⟩ : ∃ L, L = (frm r).length := ⟨_, rfl⟩
  obtain ⟨K, hK⟩ : ∃ K, K = npc L := ⟨_, rfl⟩
  have hfit' : ¬ (nx : Int) + (K : Int) ≤ (en : Int) := by rw [hK, hL]; simp only at hfit; omega
  have hLb : (L : Int) ≤ 1000000000 := by
    have h1 := frame_len (wpay r)
    have h2 := wpay_len hok hd
    rw [hL]
    unfold frm
    simp only at h1 h2
    omega
  have hKb : (K : Int) ≤ 1000000000 := by rw [hK]; unfold npc; omega
  have HPC : Hid (∀ W, Calls Tryd.prog 67 #[.int .i64 (L : Int)] W fun e w' => e = .returned (.int .i64 (K : Int)) ∧ w' = W) := mkHid (fun W => by rw [hK]; exact pieces_is W L hLb)
  have HRD := mkHid hrd
  have HE := mkHid he
  have HLK := mkHid hL
  have hgl : 4 < w.heap.size := World.block_lt_of_cell? w _ he
  have hn1 : ¬ 4 = w.heap.size + 1 + 1 := by omega
  have hn2 : ¬ w.heap.size + 1 + 1 = 4 := by omega
  have HFR := mkHid (fun W (hW : Rd W (dv (r, da, dc)) r.data) => frame_rec W r (dv (r, da, dc)) hok hd hW)
  clear hok hd hrd hL hK hfit he hgl
  simp only [dv] at HFR HRD ⊢
  go_enter Tryd.func42, Tryd.ntmps42
  go_wp2_with (go_at_call 66; refine (HFR.out _ (HRD.out.later (((Below.refl _ w).alloc (Nat.le_refl _) _ |>.alloc (by simp) _).alloc (by simp; omega) _))).mono ?_; rintro e w2 ⟨z, rfl, ho2, hb2⟩; rw [← HLK.out] at ho2; obtain ⟨za, zc, rfl⟩ := own_shape ho2; have HB2 := mkHid hb2; obtain ⟨x1, x2, x3⟩ := three_of w w2 _ _ _ hb2; have HX := mkHid (And.intro x1 (And.intro x2 x3)); obtain ⟨a0, a1, a2, a3, fa0, fa1, fa2, fa3⟩ := four_facts x1; obtain ⟨b0, b1, b2, b3, _, _, _, _⟩ := four_facts x2; clear ho2 hb2 x1 x2 x3)
  go_quiet (first | (go_at_call 67; exact Calls.quiet_of_same (HPC.out _)))
  have HX3 : Hid ((w2.drewN nq).heap[w.heap.size + 1 + 1]? = some oAZ) := mkHid HX.out.2.2
  have HW3 : Hid (Below w.heap.size w (w2.drewN nq)) := mkHid ((((Below.refl _ w).alloc (Nat.le_refl _) _ |>.alloc (by simp) _).alloc (by simp; omega) _).trans ((HB2.out.mono (by simp; omega)).trans ⟨rfl, rfl, rfl, Nat.le_refl _, fun _ _ => rfl⟩))
  have HA3 : Hid ((w2.drewN nq).heap[w.heap.size]? = some (oA (.int .i64 (fr : Int)) (.int .i64 (en : Int)) (.slice va vn vc) (.int .i64 (nx : Int)))) := mkHid HX.out.1
  generalize w2.drewN nq = W3 at *
  clear a0 a1 a2 a3 fa0 fa1 fa2 fa3 b0 b1 b2 b3 HX HB2
  obtain ⟨a0, a1, a2, a3, fa0, fa1, fa2, fa3⟩ := four_facts HA3.out
  obtain ⟨c0, c1, c2, c3, fc0, fc1, fc2, fc3⟩ := azero_facts HX3.out
  have ce := cell_lat HW3.out HE.out
  have hgt : (en : Int) < (nx : Int) + (K : Int) := by omega
  go_wp2
  go_region
  all_goals go_wp2
  all_goals exact bodyPost_ret (area3_leaves rfl (dhA (afour_leaves HX3.out (.int .i64 0) (.int .i64 0) (.slice none 0 0) (.int .i64 0))) _ rfl) rfl ⟨rfl, (below_four HW3.out (by omega) _ _ _ _).drew⟩
end Go.Proofs.YtcbimclgodkflaaDoor
