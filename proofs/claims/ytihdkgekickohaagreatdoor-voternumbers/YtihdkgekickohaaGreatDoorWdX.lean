import Derived.Test.YtihdkgekickohaaGreatDoorWcX
import Derived.BigQuiet
namespace Go.Proofs.YtihdkgekickohaaGreatDoor
open Go.ChangeShapes Go.WideShapes Go.ChangeAt Go.RowKit
set_option maxRecDepth 100000
abbrev oA (a b v c:Value):Obj:=.cells #[a,b,v,c] 151
abbrev oR (t:Rp):Obj:=.cells #[.int .i64 (t.1.gen:Int),.int .i64 (t.1.epoch:Int),.int .i64 (t.1.index:Int),dv t] 167
abbrev oAZ:Obj:=.cells #[.int .i64 0,.int .i64 0,.slice none 0 0,.int .i64 0] 151
theorem three_of (w W:World) (o1 o2 o3:Obj) (hb:Below (((w.alloc o1).alloc o2).alloc o3).heap.size (((w.alloc o1).alloc o2).alloc o3) W):W.heap[w.heap.size]? = some o1 ∧ W.heap[w.heap.size + 1]? = some o2 ∧ W.heap[w.heap.size + 1 + 1]? = some o3:=by
 refine ⟨?_,?_,?_⟩
 ·rw [hb.block _ (by simp;omega),heap_alloc_old _ _ (by simp;omega),heap_alloc_old _ _ (by simp)];exact heap_alloc_new w o1
 ·rw [hb.block _ (by simp),heap_alloc_old _ _ (by simp)]
  have:=heap_alloc_new (w.alloc o1) o2
  simpa using this
 ·rw [hb.block _ (by simp)]
  have:=heap_alloc_new ((w.alloc o1).alloc o2) o3
  simpa using this
theorem dhA {W:World} {R:Nat} {o:Obj} (h:W.heap[R]? = some o):W.drew.heap[R]? = some o:=h
theorem area3_leaves {W:World} {R:Nat} {p u x:Tmp} {fn:Func} {a b c d:Value} (hf:fn.results = #[.cell p 151,.tmp u,.tmp x]) (hR:W.heap[R]? = some (.cells #[a,b,c,d] 151 (0,0))) (tmps:Array Value) (h2:tmps.getD p undef = .pointer (some ⟨R,0,none⟩)):(results fn tmps).run Tryz.prog W = .ok (.tuple #[.agg #[a,b,c,d],tmps.getD u undef,tmps.getD x undef]) W:=by
 have hl:=run_loadVar_row (P:=Tryz.prog) W R 151 151 #[a,b,c,d] (0,0) _ hR Tryz.underlying151 rfl sizeArea
 rw [results_cell_tmp2 hf,h2]
 simp [asAddr,Result.andThen,hl]
def WithPost (F:Nat → Prop) (w:World) (fr en nx:Nat) (v:Value) (ts:List Rp) (t:Rp) (e:Ending) (w':World):Prop:=
 ∃ (v' z:Value) (F':Nat → Prop),e = .returned (.tuple #[.agg #[.int .i64 (fr:Int),.int .i64 (en:Int),v',.int .i64 ((nx:Int) + (npc (frm t.1).length:Int))],z,.nilIface]) ∧ Recs F' w' v' (ts ++ [t]) ∧ (∀ k,F' k → F k ∨ (dv t).ownBlock = some k ∨ w.heap.size ≤ k) ∧
  Rd w' z (frm t.1) ∧ (∀ k,z.ownBlock = some k → w.heap.size ≤ k ∧ k < w'.heap.size ∧ ¬ F' k) ∧ Kept (fun k=>v.ownBlock = some k) w w'
theorem with_grow {w W3 w5:World} {o1 o2 o3 o:Obj} {va za:Option Addr} {n vc L zc:Nat} {xs:List Value} (hb:Below w.heap.size w W3) (hs:w.heap.size + 3 ≤ W3.heap.size) (hv:∀ k,(Value.slice va n vc).ownBlock = some k → k < w.heap.size) (hg:(W3.alloc o).grownBy w5 (Value.slice va n vc).ownBlock) (hx:W3.heap[w.heap.size]? = some o1 ∧ W3.heap[w.heap.size + 1]? = some o2 ∧ W3.heap[w.heap.size + 1 + 1]? = some o3) (ho:W3.ownsRow (w.heap.size + 3) 5 1 (.slice za L zc) L xs) :
  w5.heap[w.heap.size]? = some o1 ∧ w5.heap[w.heap.size + 1 + 1]? = some o3 ∧ w5.ownsRow (w.heap.size + 3) 5 1 (.slice za L zc) L xs ∧ Kept (fun k=>(Value.slice va n vc).ownBlock = some k) w w5 ∧ W3.heap.size ≤ w5.heap.size:=by
 have k1:Kept (fun k=>(Value.slice va n vc).ownBlock = some k) (W3.alloc o) w5:=Kept.grown hg (fun k hk=>hk)
 have k2:Kept (fun k=>(Value.slice va n vc).ownBlock = some k) W3 w5:=(Kept.alloc _ W3 o).trans k1 (fun _ h=>.inl h)
 have hn:∀ k,w.heap.size ≤ k → ¬ (Value.slice va n vc).ownBlock = some k:=fun k hk e=>by have:=hv k e;omega
 refine ⟨(k2.block _ (by omega) (hn _ (Nat.le_refl _))).trans hx.1,(k2.block _ (by omega) (hn _ (by omega))).trans hx.2.2,own_keep ho k2 (fun k e=>hn k (by have:=(ho.lt k e).1;omega)),⟨?_,?_,?_,Nat.le_trans hb.size k2.size,fun k hk hk2=>?_⟩,k2.size⟩
 ·exact k2.os.trans hb.os
 ·exact k2.tape.trans hb.tape
 ·exact k2.output.trans hb.output
 ·rw [k2.block k (by have:=hb.size;omega) hk2];exact hb.block k hk
set_option maxHeartbeats 12800000 in
theorem with_ok {F:Nat → Prop} (w:World) (fr en nx:Nat) (v:Value) (ts:List Rp) (t:Rp) (h:Recs F w v ts) (hok:t.1.ok) (hd:t.1.data.length ≤ 32000) (hrd:Rd w (dv t) t.1.data) (hdF:∀ k,(dv t).ownBlock = some k → k < w.heap.size ∧ v.ownBlock ≠ some k) (hl:(ts.length:Int) ≤ 1000000000) (hfit:nx + npc (frm t.1).length ≤ en) (hen:en ≤ 1000000) :
  Calls Tryz.prog 108 #[.agg #[.int .i64 (fr:Int),.int .i64 (en:Int),v,.int .i64 (nx:Int)],.agg #[.int .i64 (t.1.gen:Int),.int .i64 (t.1.epoch:Int),.int .i64 (t.1.index:Int),dv t]] w (WithPost F w fr en nx v ts t):=by
 obtain ⟨ie,hi,hz0,hz1,hz2⟩:=info_parts infoRec
 obtain ⟨zth,hzth⟩:∃ z:Value,z = .agg #[.int .i64 0,.int .i64 0,.int .i64 0,.slice none 0 0]:=⟨_,rfl⟩
 rw [← hzth] at hz0
 have HZ:Hid (zth.cells.size = 4):=mkHid (by rw [hzth];rfl)
 have hie:=mkHid (And.intro hi (And.intro hz0 (And.intro hz1 hz2)))
 clear hzth hi hz0 hz1 hz2
 obtain ⟨va,vc,rfl⟩:=h.shape
 obtain ⟨r,da,dc⟩:=t
 have hg40:((r.gen:Nat):Int) ≤ 1099511627776:=by have:=hok.g;simp only at this;omega
 obtain ⟨L,hL⟩:∃ L,L = (frm r).length:=⟨_,rfl⟩
 obtain ⟨K,hK⟩:∃ K,K = npc L:=⟨_,rfl⟩
 have hfit':(nx:Int) + (K:Int) ≤ (en:Int):=by rw [hK,hL];simp only at hfit;omega
 have HLK:=mkHid (And.intro hL hK)
 have hLb:(L:Int) ≤ 1000000000:=by
  have:L ≤ 63 * K:=by rw [hK];unfold npc;omega
  omega
 have HPC:Hid (∀ W,Calls Tryz.prog 141 #[.int .i64 (L:Int)] W fun e w'=>e = .returned (.int .i64 (K:Int)) ∧ w' = W):=mkHid (fun W=>by rw [hK];exact pieces_is W L hLb)
 have HR:=mkHid h
 have HOK:=mkHid hok
 have HD:=mkHid hd
 have HRD:=mkHid hrd
 have HDF:=mkHid hdF
 have HFR:=mkHid (fun W (hW:Rd W (dv (r,da,dc)) r.data)=>frame_rec W r (dv (r,da,dc)) hok hd hW)
 clear h hok hd hrd hdF hL hK hfit
 simp only [dv] at HFR HRD HDF ⊢
 go_enter Tryz.func108,Tryz.ntmps108
 go_wp2_with (go_at_call 140;refine (HFR.out _ (HRD.out.later (((Below.refl _ w).alloc (Nat.le_refl _) _ |>.alloc (by simp) _).alloc (by simp;omega) _))).mono ?_;rintro e w2 ⟨z,rfl,ho2,hb2⟩;rw [← HLK.out.1] at ho2;obtain ⟨za,zc,rfl⟩:=own_shape ho2;have HB2:=mkHid hb2;have HO2:=mkHid ho2;obtain ⟨x1,x2,x3⟩:=three_of w w2 _ _ _ hb2;have HX:=mkHid (And.intro x1 (And.intro x2 x3));obtain ⟨a0,a1,a2,a3,fa0,fa1,fa2,fa3⟩:=four_facts x1;obtain ⟨b0,b1,b2,b3,_,_,_,_⟩:=four_facts x2;obtain ⟨c0,c1,c2,c3,fc0,fc1,fc2,fc3⟩:=four_facts x3;clear ho2 hb2 x1 x2 x3)
 go_quiet (first | (go_at_call 141;exact Calls.quiet_of_same (HPC.out _)))
 have HB3:Hid (Below w2.heap.size w2 (w2.drewN nq)):=mkHid ⟨rfl,rfl,rfl,Nat.le_refl _,fun _ _=>rfl⟩
 have HX3:Hid ((w2.drewN nq).heap[w.heap.size]? = some (oA (.int .i64 (fr:Int)) (.int .i64 (en:Int)) (.slice va ts.length vc) (.int .i64 (nx:Int))) ∧ (w2.drewN nq).heap[w.heap.size + 1]? = some (oR (r,da,dc)) ∧ (w2.drewN nq).heap[w.heap.size + 1 + 1]? = some oAZ):=mkHid HX.out
 have HO3:Hid ((w2.drewN nq).ownsRow (w.heap.size + 3) 5 1 (.slice za L zc) L ((frm r).map (Value.int .u8))):=mkHid (own_weak HO2.out (by simp))
 have HW3:Hid (Below w.heap.size w (w2.drewN nq)):=mkHid ((((Below.refl _ w).alloc (Nat.le_refl _) _ |>.alloc (by simp) _).alloc (by simp;omega) _).trans ((HB2.out.mono (by simp;omega)).trans (HB3.out.mono (by have:=HB2.out.size;simp at this;omega))))
 have HS3:Hid (w.heap.size + 3 ≤ (w2.drewN nq).heap.size):=mkHid (by have h1:=HB2.out.size;have h2:=HB3.out.size;simp at h1;omega)
 generalize w2.drewN nq = W3 at *
 clear a0 a1 a2 a3 fa0 fa1 fa2 fa3 b0 b1 b2 b3 c0 c1 c2 c3 fc0 fc1 fc2 fc3 HX HO2 HB2 HB3
 obtain ⟨a0,a1,a2,a3,fa0,fa1,fa2,fa3⟩:=four_facts HX3.out.1
 obtain ⟨b0,b1,b2,b3,_,_,_,_⟩:=four_facts HX3.out.2.1
 simp only [dv] at b3
 have HRC:Hid (Recs F (W3.alloc (oR (r,da,dc))) (.slice va ts.length vc) ts):=mkHid (HR.out.below (HW3.out.alloc HW3.out.size _))
 have HSR:=mkHid (src_rec W3 (r,da,dc))
 have HRD3:Hid (Rd (W3.alloc (oR (r,da,dc))) (dv (r,da,dc)) r.data):=mkHid (HRD.out.later (HW3.out.alloc HW3.out.size _))
 have HVB:Hid (∀ k,(Value.slice va ts.length vc).ownBlock = some k → k < w.heap.size):=mkHid (fun k e=>HR.out.lt k (HR.out.row k e))
 simp only [dv] at HSR
 go_wp2_with (at_builtin;refine wpList_append_src4 _ rfl (.tmp 37) (.tmp 39) 149 149 rfl 0 167 ie Tryz.underlying149 hie.out.1 zth 48 hie.out.2.1 HZ.out hie.out.2.2.1 hie.out.2.2.2 _ ts.length (ts.flatMap rcl) rfl HRC.out.own _ 1 (rcl (r,da,dc)) rfl HSR.out (by unfold maxLen;omega) (by omega) (Nat.zero_le _) ?_;intro v5 w5 ho5 hg5 hv5;obtain ⟨xa,xc,rfl⟩:=own_shape ho5;have HE5:=mkHid (with_grow HW3.out HS3.out HVB.out hg5 HX3.out HO3.out);have HP5:=mkHid (HRC.out.push (t:=(r,da,dc)) ho5 hg5 hv5 HRD3.out HOK.out (fun k e=>⟨by have h1:=(HDF.out k e).1;have h2:=HS3.out;simp;omega,(HDF.out k e).2⟩));obtain ⟨d0,d1,d2,d3,fd0,fd1,fd2,fd3⟩:=four_facts HE5.out.1;obtain ⟨e0,e1,e2,e3,fe0,fe1,fe2,fe3⟩:=four_facts HE5.out.2.1;clear ho5 hg5 hv5)
 have k6:Kept (fun k=>k = w.heap.size) w5 ((w5.setCell ⟨w.heap.size,2,none⟩ (.slice xa (ts.length + 1) xc)).setCell ⟨w.heap.size,3,none⟩ (.int .i64 ((nx:Int) + (K:Int)))):=kept_setc (F:=fun k=>k = w.heap.size) (kept_setc (F:=fun k=>k = w.heap.size) (Kept.refl _ w5) (p:=⟨w.heap.size,2,none⟩) rfl _) (p:=⟨w.heap.size,3,none⟩) rfl _
 have hr6:((w5.setCell ⟨w.heap.size,2,none⟩ (.slice xa (ts.length + 1) xc)).setCell ⟨w.heap.size,3,none⟩ (.int .i64 ((nx:Int) + (K:Int)))).heap[w.heap.size + 1 + 1]? = some oAZ:=(k6.block _ (wlt_of_heap HE5.out.2.1) (by omega)).trans HE5.out.2.1
 have k7:=kept_four (F:=fun k=>k = w.heap.size ∨ k = w.heap.size + 1 + 1) (R:=w.heap.size + 1 + 1) (k6.mono (fun _ h=>.inl h)) (.inr rfl) (.int .i64 (fr:Int)) (.int .i64 (en:Int)) (.slice xa (ts.length + 1) xc) (.int .i64 ((nx:Int) + (K:Int)))
 have hs3:=HS3.out
 have hfk:∀ k,(k < w5.heap.size ∧ (F k ∨ (dv (r,da,dc)).ownBlock = some k ∨ k = (W3.alloc (oR (r,da,dc))).heap.size)) → k < w.heap.size ∨ W3.heap.size < k:=by
  rintro k ⟨_,a | a | a⟩
  ·exact .inl (HR.out.lt k a)
  ·exact .inl (HDF.out k a).1
  ·simp at a;exact .inr (by omega)
 refine bodyPost_ret (area3_leaves rfl (afour_leaves hr6 _ _ _ _) _ rfl) rfl ⟨.slice xa (ts.length + 1) xc,.slice za L zc,_,?_,HP5.out.kept k7 (fun k hk e=>by have:=hfk k hk;omega),?_,?_,?_,HE5.out.2.2.2.1.trans k7 (fun k e=>.inr (by omega))⟩
 ·rw [HLK.out.2,HLK.out.1]
  rfl
 ·rintro k ⟨_,a | a | a⟩
  ·exact .inl a
  ·exact .inr (.inl a)
  ·simp at a;exact .inr (.inr (by omega))
 ·have ho:=own_keep HE5.out.2.2.1 k7 (fun k e e2=>by have:=(HE5.out.2.2.1.lt k e).1;omega)
  exact Rd.of_owns (frame_byts (wpay_byts HOK.out.b)) (by rw [← HLK.out.1];exact ho)
 ·intro k e
  have h1:=HO3.out.lt k e
  refine ⟨by omega,by have:=k7.size;have:=HE5.out.2.2.2.2;omega,fun hk=>?_⟩
  have:=hfk k hk
  omega
set_option maxHeartbeats 12800000 in
theorem with_full (w:World) (fr en nx:Nat) (va:Option Addr) (vn vc:Nat) (t:Rp) (ef:Value) (hok:t.1.ok) (hd:t.1.data.length ≤ 32000) (hrd:Rd w (dv t) t.1.data) (hfit:en < nx + npc (frm t.1).length) (hnx:nx ≤ 1000000) (he:w.cell? ⟨2,0,none⟩ = some ef) :
  Calls Tryz.prog 108 #[.agg #[.int .i64 (fr:Int),.int .i64 (en:Int),.slice va vn vc,.int .i64 (nx:Int)],.agg #[.int .i64 (t.1.gen:Int),.int .i64 (t.1.epoch:Int),.int .i64 (t.1.index:Int),dv t]] w fun e w'=>e = .returned (.tuple #[.agg #[.int .i64 0,.int .i64 0,.slice none 0 0,.int .i64 0],.slice none 0 0,ef]) ∧ Below w.heap.size w w':=by
 obtain ⟨r,da,dc⟩:=t
 obtain ⟨L,hL⟩:∃ L,L = (frm r).length:=⟨_,rfl⟩
 obtain ⟨K,hK⟩:∃ K,K = npc L:=⟨_,rfl⟩
 have hfit':¬ (nx:Int) + (K:Int) ≤ (en:Int):=by rw [hK,hL];simp only at hfit;omega
 have hLb:(L:Int) ≤ 1000000000:=by
  have h1:=frame_len (wpay r)
  have h2:=wpay_len hok hd
  rw [hL]
  unfold frm
  simp only at h1 h2
  omega
 have hKb:(K:Int) ≤ 1000000000:=by rw [hK];unfold npc;omega
 have HPC:Hid (∀ W,Calls Tryz.prog 141 #[.int .i64 (L:Int)] W fun e w'=>e = .returned (.int .i64 (K:Int)) ∧ w' = W):=mkHid (fun W=>by rw [hK];exact pieces_is W L hLb)
 have HRD:=mkHid hrd
 have HE:=mkHid he
 have HLK:=mkHid hL
 have hgl:2 < w.heap.size:=World.block_lt_of_cell? w _ he
 have hn1:¬ 2 = w.heap.size + 1 + 1:=by omega
 have hn2:¬ w.heap.size + 1 + 1 = 2:=by omega
 have HFR:=mkHid (fun W (hW:Rd W (dv (r,da,dc)) r.data)=>frame_rec W r (dv (r,da,dc)) hok hd hW)
 clear hok hd hrd hL hK hfit he hgl
 simp only [dv] at HFR HRD ⊢
 go_enter Tryz.func108,Tryz.ntmps108
 go_wp2_with (go_at_call 140;refine (HFR.out _ (HRD.out.later (((Below.refl _ w).alloc (Nat.le_refl _) _ |>.alloc (by simp) _).alloc (by simp;omega) _))).mono ?_;rintro e w2 ⟨z,rfl,ho2,hb2⟩;rw [← HLK.out] at ho2;obtain ⟨za,zc,rfl⟩:=own_shape ho2;have HB2:=mkHid hb2;obtain ⟨x1,x2,x3⟩:=three_of w w2 _ _ _ hb2;have HX:=mkHid (And.intro x1 (And.intro x2 x3));obtain ⟨a0,a1,a2,a3,fa0,fa1,fa2,fa3⟩:=four_facts x1;obtain ⟨b0,b1,b2,b3,_,_,_,_⟩:=four_facts x2;clear ho2 hb2 x1 x2 x3)
 go_quiet (first | (go_at_call 141;exact Calls.quiet_of_same (HPC.out _)))
 have HX3:Hid ((w2.drewN nq).heap[w.heap.size + 1 + 1]? = some oAZ):=mkHid HX.out.2.2
 have HW3:Hid (Below w.heap.size w (w2.drewN nq)):=mkHid ((((Below.refl _ w).alloc (Nat.le_refl _) _ |>.alloc (by simp) _).alloc (by simp;omega) _).trans ((HB2.out.mono (by simp;omega)).trans ⟨rfl,rfl,rfl,Nat.le_refl _,fun _ _=>rfl⟩))
 have HA3:Hid ((w2.drewN nq).heap[w.heap.size]? = some (oA (.int .i64 (fr:Int)) (.int .i64 (en:Int)) (.slice va vn vc) (.int .i64 (nx:Int)))):=mkHid HX.out.1
 generalize w2.drewN nq = W3 at *
 clear a0 a1 a2 a3 fa0 fa1 fa2 fa3 b0 b1 b2 b3 HX HB2
 obtain ⟨a0,a1,a2,a3,fa0,fa1,fa2,fa3⟩:=four_facts HA3.out
 obtain ⟨c0,c1,c2,c3,fc0,fc1,fc2,fc3⟩:=azero_facts HX3.out
 have ce:=cell_lat HW3.out HE.out
 have hgt:(en:Int) < (nx:Int) + (K:Int):=by omega
 go_wp2
 go_region
 all_goals go_wp2
 all_goals exact bodyPost_ret (area3_leaves rfl (dhA (afour_leaves HX3.out (.int .i64 0) (.int .i64 0) (.slice none 0 0) (.int .i64 0))) _ rfl) rfl ⟨rfl,(below_four HW3.out (by omega) _ _ _ _).drew⟩
def AnewPost (w:World) (fr2 en2:Nat) (t:Rp) (e:Ending) (w':World):Prop:=
 ∃ (v' z:Value) (F':Nat → Prop),e = .returned (.tuple #[.agg #[.int .i64 (fr2:Int),.int .i64 (en2:Int),v',.int .i64 ((fr2:Int) + (npc (frm t.1).length:Int))],z,.nilIface]) ∧ Recs F' w' v' [t] ∧ (∀ k,F' k → (dv t).ownBlock = some k ∨ w.heap.size ≤ k) ∧ Rd w' z (frm t.1) ∧ (∀ k,z.ownBlock = some k → w.heap.size ≤ k ∧ k < w'.heap.size ∧ ¬ F' k) ∧ Below w.heap.size w w'
set_option maxHeartbeats 25600000 in
theorem anew_ok {F:Nat → Prop} (w:World) (fr en nx fr2 en2 gn g1 ep:Nat) (va da:Option Addr) (vc dc:Nat) (ts:List Rp) (data:List Int) (h:Recs F w (.slice va ts.length vc) ts) (hg:(gn:Int) ≤ 1099511627775) (hg1:g1 = gn + 1) (hep:ep ≤ 1099511627776) (hd:data.length ≤ 32000) (hrd:Rd w (.slice da data.length dc) data) (hdb:∀ k,(Value.slice da data.length dc).ownBlock = some k → k < w.heap.size) (hfit:fr2 + npc (frm (⟨g1,ep,0,data⟩:Rc)).length ≤ en2) (hen:en2 ≤ 1000000)
  (hot:∀ W,Calls Tryz.prog 107 #[.agg #[.int .i64 (fr:Int),.int .i64 (en:Int),.slice va ts.length vc,.int .i64 (nx:Int)]] W fun e w'=>e = .returned (.agg #[.int .i64 (fr2:Int),.int .i64 (en2:Int),.slice none 0 0,.int .i64 (fr2:Int)]) ∧ Below W.heap.size W w')
  (hla:∀ W,Below w.heap.size w W → Calls Tryz.prog 105 #[.agg #[.int .i64 (fr:Int),.int .i64 (en:Int),.slice va ts.length vc,.int .i64 (nx:Int)]] W fun e w'=>∃ (ge gi:Int) (gd:Option Addr) (gl gc:Nat),e = .returned (.agg #[.int .i64 (gn:Int),.int .i64 ge,.int .i64 gi,.slice gd gl gc]) ∧ Below W.heap.size W w') :
  Calls Tryz.prog 68 #[.agg #[.int .i64 (fr:Int),.int .i64 (en:Int),.slice va ts.length vc,.int .i64 (nx:Int)],.int .i64 (ep:Int),.slice da data.length dc] w (AnewPost w fr2 en2 ((⟨g1,ep,0,data⟩:Rc),da,dc)):=by
 have HOT:=mkHid hot
 have HLA:=mkHid hla
 have HR:=mkHid h
 have hw1:IntKind.i64.wrap ((gn:Int) + 1) = (g1:Int):=by rw [IntKind.wrap_i64];omega
 have HOK:Hid ((⟨g1,ep,0,data⟩:Rc).ok):=mkHid ⟨by simp only;omega,hep,by simp,by simp only;omega,hrd.1⟩
 have HDL:Hid (data.length ≤ 32000):=mkHid hd
 have HRD:=mkHid hrd
 have HDB:=mkHid hdb
 have HFIT:=mkHid (And.intro hfit hen)
 clear hot hla h hd hrd hdb hfit hen hep hg1 hg
 go_enter Tryz.func68,Tryz.ntmps68
 go_wp2
 obtain ⟨b0,hb0⟩:∃ b0,b0 = w.heap.size:=⟨_,rfl⟩
 obtain ⟨W0,hW0⟩:∃ W0,W0 = (w.alloc (oA (.int .i64 (fr:Int)) (.int .i64 (en:Int)) (.slice va ts.length vc) (.int .i64 (nx:Int)))).alloc oAZ:=⟨_,rfl⟩
 have HB0:Hid (Below w.heap.size w W0.drew):=mkHid (by rw [hW0];exact (((Below.refl _ w).alloc (Nat.le_refl _) _).alloc (by simp) _).drew)
 have HX0:Hid (W0.drew.heap[b0]? = some (oA (.int .i64 (fr:Int)) (.int .i64 (en:Int)) (.slice va ts.length vc) (.int .i64 (nx:Int))) ∧ W0.drew.heap[b0 + 1]? = some oAZ):=mkHid (by rw [hW0,hb0];exact ⟨by show ((w.alloc _).alloc _).heap[w.heap.size]? = _;rw [heap_alloc_old _ _ (by simp)];exact heap_alloc_new w _,atwo_new w _ _⟩)
 have HS0:Hid (b0 + 2 ≤ W0.drew.heap.size ∧ b0 = w.heap.size):=mkHid ⟨by show b0 + 2 ≤ W0.heap.size;rw [hW0,hb0];simp,hb0⟩
 rw [← hW0,← hb0]
 clear hW0 hb0
 obtain ⟨a0,a1,a2,a3,_,_,_,_⟩:=four_facts HX0.out.1
 refine wp_region_held_drew (S:=fun w'=>w'.cell? ⟨b0,0,none⟩ = some (.int .i64 (fr:Int)) ∧ w'.cell? ⟨b0,1,none⟩ = some (.int .i64 (en:Int)) ∧ w'.cell? ⟨b0,2,none⟩ = some (.slice va ts.length vc) ∧ w'.cell? ⟨b0,3,none⟩ = some (.int .i64 (nx:Int))) (by kernel_rfl) ⟨a0,a1,a2,a3⟩ (fun hHeld=>?_)
 clear a0 a1 a2 a3
 refine wtE 0 9 (.agg #[.int .i64 (fr:Int),.int .i64 (en:Int),.slice va ts.length vc,.int .i64 (nx:Int)]) rfl rfl hHeld ?_
 simp only [List.set_cons_zero,List.set_cons_succ]
 refine wtE 2 11 (.agg #[.int .i64 (fr:Int),.int .i64 (en:Int),.slice va ts.length vc,.int .i64 (nx:Int)]) rfl rfl hHeld ?_
 simp only [List.set_cons_zero,List.set_cons_succ]
 refine wtE 6 15 (.int .i64 (ep:Int)) rfl rfl hHeld ?_
 simp only [List.set_cons_zero,List.set_cons_succ]
 refine wtE 7 16 (.slice da data.length dc) rfl rfl hHeld ?_
 simp only [List.set_cons_zero,List.set_cons_succ]
 refine wpAnyH_ready (rs:=[1]) (by kernel_rfl) (by simp) (AllReadyH.cons rfl (fun K hK=>?_) AllReadyH.nil)
 go_simp
 refine (HOT.out W0.drew).mono ?_
 rintro e w2 ⟨rfl,b2⟩
 have HB2:=mkHid b2
 refine hK.out _ _ ⟨cell_lat b2 hHeld.1,cell_lat b2 hHeld.2.1,cell_lat b2 hHeld.2.2.1,cell_lat b2 hHeld.2.2.2⟩ (fun hHeld=>?_)
 clear hK K b2
 refine wpAnyH_ready (rs:=[3]) (by kernel_rfl) (by simp) (AllReadyH.cons rfl (fun K hK=>?_) AllReadyH.nil)
 go_simp
 refine (HLA.out w2 ((HB0.out.trans (HB2.out.mono HB0.out.size)))).mono ?_
 rintro e w3 ⟨ge,gi,gd,gl,gc,rfl,b3⟩
 have HB3:=mkHid b3
 refine hK.out _ _ ⟨cell_lat b3 hHeld.1,cell_lat b3 hHeld.2.1,cell_lat b3 hHeld.2.2.1,cell_lat b3 hHeld.2.2.2⟩ (fun hHeld=>?_)
 clear hK K b3
 have hfg:∀ W,(Instr.field 167 (.agg #[.int .i64 (gn:Int),.int .i64 ge,.int .i64 gi,.slice gd gl gc]) 0).run Tryz.prog W = .ok (.int .i64 (gn:Int)) W:=fun W=>field_gen _ _ _ _ _ _ W
 refine wtE 4 13 (.int .i64 (gn:Int)) rfl rfl hHeld ?_
 simp only [List.set_cons_zero,List.set_cons_succ]
 refine wtE 5 14 (.int .i64 (g1:Int)) rfl rfl hHeld ?_
 simp only [List.set_cons_zero,List.set_cons_succ]
 refine wtE 8 17 (  .agg #[.int .i64 (g1:Int),.int .i64 (ep:Int),.int .i64 0,.slice da data.length dc]) rfl rfl hHeld ?_
 simp only [List.set_cons_zero,List.set_cons_succ]
 have HB3b:Hid (Below w.heap.size w w3):=mkHid ((HB0.out.trans (HB2.out.mono HB0.out.size)).trans (HB3.out.mono (Nat.le_trans HB0.out.size HB2.out.size)))
 have HX3:Hid (w3.heap[b0 + 1]? = some oAZ ∧ b0 + 2 ≤ w3.heap.size):=mkHid ⟨by rw [HB3.out.block _ (by have:=HS0.out.1;have:=HB2.out.size;omega),HB2.out.block _ (by have:=HS0.out.1;omega)];exact HX0.out.2,by have:=HS0.out.1;have:=HB2.out.size;have:=HB3.out.size;omega⟩
 refine wpAnyH_ready (rs:=[9]) (by kernel_rfl) (by simp) (AllReadyH.cons rfl (fun K hK=>?_) AllReadyH.nil)
 go_simp
 refine (with_ok w3 fr2 en2 fr2 (.slice none 0 0) [] ((⟨g1,ep,0,data⟩:Rc),da,dc) (Recs.nil w3) HOK.out HDL.out (HRD.out.later HB3b.out) (fun k e=>⟨Nat.lt_of_lt_of_le (HDB.out k e) HB3b.out.size,by simp [Value.ownBlock]⟩) (by simp) HFIT.out.1 HFIT.out.2).mono ?_
 rintro e w4 ⟨v4,z4,F4,rfl,hR4,hF4,hz4,hzo,hk4⟩
 obtain ⟨xa,xc,rfl⟩:=hR4.shape
 obtain ⟨za,zc,rfl⟩:∃ a c,z4 = .slice a (frm (⟨g1,ep,0,data⟩:Rc)).length c:=hz4.2.imp fun a h=>h.imp fun c h=>h.1
 have hb4:Below w3.heap.size w3 w4:=hk4.below (fun k e=>by simp [Value.ownBlock] at e) (Nat.le_refl _)
 have HB4:=mkHid hb4
 have HX4:Hid (w4.heap[b0 + 1]? = some oAZ):=mkHid ((hb4.block _ (wlt_of_heap HX3.out.1)).trans HX3.out.1)
 have HP4:=mkHid (And.intro hR4 (And.intro hF4 (And.intro hz4 hzo)))
 obtain ⟨KK,hKK⟩:∃ KK:Int,KK = (npc (frm (⟨g1,ep,0,data⟩:Rc)).length:Int):=⟨_,rfl⟩
 obtain ⟨L,hL⟩:∃ L,L = (frm (⟨g1,ep,0,data⟩:Rc)).length:=⟨_,rfl⟩
 have HKL:=mkHid (And.intro hKK hL)
 simp only [List.nil_append,List.length_singleton]
 rw [← hKK]
 rw [← hL]
 refine hK.out _ _ ⟨cell_lat hb4 hHeld.1,cell_lat hb4 hHeld.2.1,cell_lat hb4 hHeld.2.2.1,cell_lat hb4 hHeld.2.2.2⟩ (fun hHeld=>?_)
 clear hK K hR4 hF4 hz4 hzo hk4 hb4 hKK hL
 (try simp only [Act.put])
 refine wtE 10 19 (.agg #[.int .i64 (fr2:Int),.int .i64 (en2:Int),.slice xa 1 xc,.int .i64 ((fr2:Int) + KK)]) rfl rfl hHeld ?_
 simp only [List.set_cons_zero,List.set_cons_succ]
 refine wtE 11 20 (.slice za L zc) rfl rfl hHeld ?_
 simp only [List.set_cons_zero,List.set_cons_succ]
 refine wtE 12 21 (.nilIface) rfl rfl hHeld ?_
 simp only [List.set_cons_zero,List.set_cons_succ]
 obtain ⟨c0,c1,c2,c3,fc0,fc1,fc2,fc3⟩:=azero_facts HX4.out
 refine wpAnyH_ready (rs:=[13]) (by kernel_rfl) (by simp) (AllReadyH.cons rfl (fun K hK=>?_) AllReadyH.nil)
 go_simp
 have HK7:=mkHid (kept_four (F:=fun k=>k = b0 + 1) (R:=b0 + 1) (Kept.refl _ w4) rfl (.int .i64 (fr2:Int)) (.int .i64 (en2:Int)) (.slice xa 1 xc) (.int .i64 ((fr2:Int) + KK)))
 have hnb:¬ (b0:Nat) = b0 + 1:=by omega
 refine hK.out _ _ ⟨HK7.out.cell hHeld.1 hnb,HK7.out.cell hHeld.2.1 hnb,HK7.out.cell hHeld.2.2.1 hnb,HK7.out.cell hHeld.2.2.2 hnb⟩ (fun hHeld=>?_)
 clear hK K
 (try simp only [Act.put])
 refine wtE 14 7 (.slice za L zc) rfl rfl hHeld ?_
 simp only [List.set_cons_zero,List.set_cons_succ]
 refine wtE 15 8 (.nilIface) rfl rfl hHeld ?_
 simp only [List.set_cons_zero,List.set_cons_succ]
 refine wpAnyH_done (by kernel_rfl) ?_ _
 clear hHeld c0 c1 c2 c3 fc0 fc1 fc2 fc3
 go_wp2
 have hs0:=HS0.out
 have hb34:Below w.heap.size w w4:=HB3b.out.trans (HB4.out.mono HB3b.out.size)
 have hx3:=HX3.out.2
 have hs4:=HB4.out.size
 have hF4:∀ k,F4 k → (dv ((⟨g1,ep,0,data⟩:Rc),da,dc)).ownBlock = some k ∨ w3.heap.size ≤ k:=fun k hk=>by
  rcases HP4.out.2.1 k hk with a | a
  ·exact a.elim
  ·exact a
 have hne:∀ k,F4 k → ¬ k = b0 + 1:=fun k hk e=>by
  rcases hF4 k hk with a | a
  ·have:=HDB.out k a;omega
  ·omega
 refine bodyPost_ret (area3_leaves rfl (afour_leaves HX4.out _ _ _ _) _ rfl) rfl ⟨.slice xa 1 xc,.slice za L zc,F4,?_,HP4.out.1.kept HK7.out hne,fun k hk=>?_,?_,fun k e=>?_,hb34.trans (HK7.out.below (fun k e=>by omega) hb34.size)⟩
 ·rw [HKL.out.1]
  rfl
 ·rcases hF4 k hk with a | a
  ·exact .inl a
  ·exact .inr (by have:=HB3b.out.size;omega)
 ·have hz:=HP4.out.2.2.1
  rw [← HKL.out.2] at hz
  refine hz.kept HK7.out (fun k e e2=>?_)
  have:=HP4.out.2.2.2 k (by rw [← HKL.out.2];exact e)
  omega
 ·have:=HP4.out.2.2.2 k (by rw [← HKL.out.2];exact e)
  exact ⟨by have:=HB3b.out.size;omega,Nat.lt_of_lt_of_le this.2.1 HK7.out.size,this.2.2⟩
def cellS (ep:Nat):List Int:=frame (enc ep) ++ List.replicate (64 - (frame (enc ep)).length) 0
theorem cellS_len {ep:Nat} (h:ep ≤ 1099511627776):(frame (enc ep)).length ≤ 14 ∧ (cellS ep).length = 64:=by
 have h1:=frame_len (enc ep)
 have h2:=enc_len6 h
 refine ⟨by omega,?_⟩
 unfold cellS
 rw [List.length_append,List.length_replicate]
 omega
theorem cellS_sec {ep:Nat} (h:ep ≤ 1099511627776):Sec (cellS ep):=by
 refine ⟨(cellS_len h).2,?_⟩
 exact (frame_byts (enc_byts _)).append (fun x hx=>by have:=(List.mem_replicate.mp hx).2;omega)
theorem splice_cell {ep:Nat} (h:ep ≤ 1099511627776):splice (scells zeros) 0 (((frame (enc ep)).take 64).map (Value.int .u8)) = scells (cellS ep):=by
 have h1:=(cellS_len h).1
 rw [List.take_of_length_le (by omega)]
 unfold splice scells cellS zeros
 simp only [List.map_append,List.map_replicate,List.take_zero,List.nil_append,Nat.zero_add,List.length_map,List.drop_replicate]
theorem cellN_cellS {ep:Nat} (h:ep ≤ 1099511627776):cellN (cellS ep) = ep:=by
 have h2:=enc_len6 h
 obtain ⟨k1,k2,_⟩:=frame_read (enc ep) (List.replicate (64 - (frame (enc ep)).length) 0) (by omega) (enc_byts _)
 exact cellN_yes k1 k2 h
set_option maxHeartbeats 12800000 in
theorem claim_ok (F:Nat → Prop) (w:World) (p n ep:Nat) (f:Int → List Int) (c:List (Int × List Int)) (nw:Int) (h:Dk F w p n f c nw false) (hn4:4 ≤ n) (hn2:(n:Int) ≤ 1024) (hep:ep ≤ 1099511627776) (hcl:c.length ≤ 100000000) (hnw:0 ≤ nw ∧ nw ≤ 100000000) :
  Calls Tryz.prog 70 #[.pointer (some ⟨p,0,none⟩),.int .i64 (ep:Int)] w fun e w'=>e = .returned .nilIface ∧ ∃ F',Dk F' w' p n (flushed f (c ++ [(((n - 2 + ep % 2:Nat):Int),cellS ep)])) [] (nw + 1) false ∧ (∀ k,F' k → F k ∨ w.heap.size ≤ k) ∧ Kept F w w':=by
 have HD:=mkHid h
 have hepi:(ep:Int) ≤ 1099511627776:=by omega
 have HEP:=mkHid hep
 obtain ⟨PL,hPL⟩:∃ PL:Int,PL = ((n - 2 + ep % 2:Nat):Int):=⟨_,rfl⟩
 have HPL:Hid (PL = ((n - 2 + ep % 2:Nat):Int) ∧ 0 ≤ PL ∧ PL < n):=mkHid ⟨hPL,by omega,by omega⟩
 have hmod:(ep:Int).tmod 2 = ((ep % 2:Nat):Int):=by rw [Int.tmod_eq_emod_of_nonneg (by omega)];omega
 have hplw:IntKind.i64.wrap ((n:Int) - 2 + (ep:Int) % 2) = PL:=by rw [IntKind.wrap_i64,hPL];omega
 have hsubw:IntKind.i64.wrap ((n:Int) - 2) = (n:Int) - 2:=by rw [IntKind.wrap_i64];omega
 rw [← hPL]
 clear h hep hPL
 go_enter Tryz.func70,Tryz.ntmps70
 go_wp2_with (first
  |(go_at_call 59;refine (new_any w).mono ?_;rintro e w1 ⟨rfl,hw1,b1⟩;have HW1:=mkHid hw1;have HB1:=mkHid b1;clear hw1 b1)
  |(go_at_call 61;refine (num_any _ w1 w.heap.size [] false ep HW1.out (by omega) (by simp)).mono ?_;rintro e w2 ⟨rfl,F2,hw2,_,hk2⟩;rw [List.nil_append] at hw2;have HW2:=mkHid hw2;have HB2:Hid (Below w.heap.size w w2):=mkHid (HB1.out.trans (hk2.below (fun k e=>by omega) HB1.out.size));clear hw2 hk2)
  |(go_at_call 63;refine (done_ok F2 w2 w.heap.size (enc ep) HW2.out (by have:=enc_len6 HEP.out;omega)).mono ?_;rintro e w3 ⟨v3,rfl,ho3,b3⟩;obtain ⟨a3,c3,rfl⟩:=own_shape ho3;have HR3:=mkHid (Rd.of_owns (enc_byts ep) ho3);have HB3:Hid (Below w.heap.size w w3):=mkHid (HB2.out.trans (b3.mono HB2.out.size));clear ho3 b3)
  |(go_at_call 109;refine (frame_any w3 _ (enc ep) HR3.out (by have:=enc_len6 HEP.out;omega)).mono ?_;rintro e w4 ⟨v4,rfl,ho4,b4⟩;obtain ⟨a4,c4,rfl⟩:=own_shape ho4;have HB4:Hid (Below w.heap.size w w4):=mkHid (HB3.out.trans (b4.mono HB3.out.size));obtain ⟨W2,hrun,hg2,hk2⟩:=copy_min (w:=w4.alloc (.cells (scells zeros).toArray 110)) 3 w4.heap.size 0 64 64 (scells zeros) 110 (heap_alloc_new w4 _) (.slice a4 ((enc ep).length + 8) c4) (frame (enc ep)) ((Rd.of_owns (frame_byts (enc_byts ep)) (by rw [frame_len];exact ho4)).alloc _) (by rw [frame_len];omega) (by simp [scells,zeros]);rw [splice_cell HEP.out] at hg2;have HRS:=mkHid (rd_block (cellS_sec HEP.out) hg2);have HBW:Hid (Below w.heap.size w W2):=mkHid ((HB4.out.alloc HB4.out.size _).trans (hk2.below (fun k e=>by have:=HB4.out.size;omega) (by have:=HB4.out.size;simp;omega)));clear ho4 b4 hg2 hk2)
  |(refine wpList_alloc_z rfl 110 rfl (scells zeros).toArray (zero64 _) ?_))
 have HD2:Hid (Dk F W2.drew p n f c nw false):=mkHid (HD.out.below (HBW.out.drew))
 have HRS2:Hid (Rd W2.drew (.slice (some ⟨w4.heap.size,0,none⟩) 64 64) (cellS ep)):=mkHid (HRS.out.later (Below.refl _ _).drew)
 have HBW2:Hid (Below w.heap.size w W2.drew):=mkHid HBW.out.drew
 clear hrun
 refine wp_region_held_drew (S:=fun _=>True) (by kernel_rfl) trivial (fun hHeld=>?_)
 generalize W2.drew = W3 at *
 refine wtE 0 34 (.pointer (some ⟨p,0,none⟩)) rfl rfl hHeld ?_
 simp only [List.set_cons_zero,List.set_cons_succ]
 refine wtE 1 35 (.pointer (some ⟨p,0,none⟩)) rfl rfl hHeld ?_
 simp only [List.set_cons_zero,List.set_cons_succ]
 refine wtE 4 38 (.int .i64 (ep:Int)) rfl rfl hHeld ?_
 simp only [List.set_cons_zero,List.set_cons_succ]
 refine wtE 5 39 (.int .i64 ((ep % 2:Nat):Int)) rfl rfl hHeld ?_
 simp only [List.set_cons_zero,List.set_cons_succ]
 refine wtE 7 41 (.slice (some ⟨w4.heap.size,0,none⟩) 64 64) rfl rfl hHeld ?_
 simp only [List.set_cons_zero,List.set_cons_succ]
 refine wpAnyH_ready (rs:=[2]) (by kernel_rfl) (by simp) (AllReadyH.cons rfl (fun K hK=>?_) AllReadyH.nil)
 go_simp
 refine (sectors_is F W3 p n f c nw false HD2.out).mono ?_
 rintro e w5 ⟨rfl,hw5⟩
 rw [hw5]
 clear hw5
 refine hK.out _ _ trivial (fun hHeld=>?_)
 clear hK K
 refine wtE 3 37 (.int .i64 ((n:Int) - 2)) rfl rfl hHeld ?_
 simp only [List.set_cons_zero,List.set_cons_succ]
 refine wtE 6 40 (.int .i64 PL) rfl rfl hHeld ?_
 simp only [List.set_cons_zero,List.set_cons_succ]
 refine wpAnyH_ready (rs:=[8]) (by kernel_rfl) (by simp) (AllReadyH.cons rfl (fun K hK=>?_) AllReadyH.nil)
 go_simp
 refine (write_ok F W3 p n f c nw PL _ (cellS ep) HD2.out HPL.out.2.1 HPL.out.2.2 HRS2.out (cellS_len HEP.out).2 (by omega) (by omega)).mono ?_
 rintro e w6 ⟨rfl,F6,hD6,hF6,hk6⟩
 have HD6:=mkHid (And.intro hD6 (And.intro hF6 hk6))
 clear hD6 hF6 hk6
 refine hK.out _ _ trivial (fun hHeld=>?_)
 clear hK K
 (try simp only [Act.put])
 refine wtE 9 10 (.nilIface) rfl rfl hHeld ?_
 simp only [List.set_cons_zero,List.set_cons_succ]
 refine wpAnyH_done (by kernel_rfl) ?_ _
 go_wp2_with (go_at_call 111;refine (flush_ok F6 w6 p n f _ _ HD6.out.1 (by rw [List.length_append];simp;omega)).mono ?_;rintro e w7 ⟨rfl,hD7,hk7⟩;have HD7:=mkHid (And.intro hD7 hk7);clear hD7 hk7)
 go_ret
 have hs:=HBW2.out.size
 have hb:Kept F w W3:=⟨HBW2.out.os,HBW2.out.tape,HBW2.out.output,HBW2.out.size,fun k hk _=>HBW2.out.block k hk⟩
 have hF6:∀ k,F6 k → F k ∨ w.heap.size ≤ k:=fun k hk=>by
  rcases HD6.out.2.1 k hk with a | a
  ·exact .inl a
  ·exact .inr (by omega)
 exact ⟨rfl,F6,HD7.out.1,hF6,(hb.trans HD6.out.2.2 (fun k e=>.inl e)).trans HD7.out.2 hF6⟩
def Lg (w:World) (l p:Nat) (fr en:Nat) (v:Value) (nx ep:Nat):Prop:=w.heap[l]? = some (.cells #[.pointer (some ⟨p,0,none⟩),.int .i64 (fr:Int),.int .i64 (en:Int),v,.int .i64 (nx:Int),.int .i64 (ep:Int)] 159 (0,0))
theorem Lg.facts {w:World} {l p fr en nx ep:Nat} {v:Value} (h:Lg w l p fr en v nx ep):w.cell? ⟨l,0,none⟩ = some (.pointer (some ⟨p,0,none⟩)) ∧ w.cell? ⟨l,1,none⟩ = some (.int .i64 (fr:Int)) ∧ w.cell? ⟨l,2,none⟩ = some (.int .i64 (en:Int)) ∧ w.cell? ⟨l,3,none⟩ = some v ∧ w.cell? ⟨l,4,none⟩ = some (.int .i64 (nx:Int)) ∧ w.cell? ⟨l,5,none⟩ = some (.int .i64 (ep:Int)) ∧ w.frozen? ⟨l,1,none⟩ = false ∧ w.frozen? ⟨l,2,none⟩ = false ∧ w.frozen? ⟨l,3,none⟩ = false ∧ w.frozen? ⟨l,4,none⟩ = false:=
 ⟨cell_of_block h rfl,cell_of_block h rfl,cell_of_block h rfl,cell_of_block h rfl,cell_of_block h rfl,cell_of_block h rfl,frozen_of_block h,frozen_of_block h,frozen_of_block h,frozen_of_block h⟩
theorem Lg.set {w:World} {l p fr en nx ep:Nat} {v:Value} (h:Lg w l p fr en v nx ep) (fr2 en2 nx2:Nat) (v2:Value):Lg ((((w.setCell ⟨l,1,none⟩ (.int .i64 (fr2:Int))).setCell ⟨l,2,none⟩ (.int .i64 (en2:Int))).setCell ⟨l,3,none⟩ v2).setCell ⟨l,4,none⟩ (.int .i64 (nx2:Int))) l p fr2 en2 v2 nx2 ep:=by
 unfold Lg
 rw [heap_set (heap_set (heap_set (heap_set h)))]
 kernel_rfl
set_option maxHeartbeats 12800000 in
theorem moveTo_ok (F:Nat → Prop) (w:World) (l p n:Nat) (f:Int → List Int) (c:List (Int × List Int)) (nw:Int) (fr en nx ep fr2 en2 nx2:Nat) (v:Value) (xa:Option Addr) (xn xc:Nat) (z:Value) (fm:List Int) (h:Dk F w p n f c nw false) (hL:Lg w l p fr en v nx ep) (hlF:¬ F l) (hz:Rd w z fm) (hzF:∀ k,z.ownBlock = some k → ¬ F k) (hzl:∀ k,z.ownBlock = some k → k < w.heap.size) (hn:fr2 + npc fm.length ≤ n) (hl:(fm.length:Int) ≤ 1000000) (hn2:(n:Int) ≤ 1024) (hcl:c.length ≤ 100000000) (hnw:0 ≤ nw ∧ nw ≤ 100000000) :
  Calls Tryz.prog 71 #[.pointer (some ⟨l,0,none⟩),.agg #[.int .i64 (fr2:Int),.int .i64 (en2:Int),.slice xa xn xc,.int .i64 (nx2:Int)],z] w fun e w'=>e = .returned .nilIface ∧ ∃ F',Dk F' w' p n (flushed f (c ++ writesOf fm (fr2:Int) (npc fm.length))) [] (nw + (npc fm.length:Int)) false ∧ Lg w' l p fr2 en2 (.slice xa xn xc) nx2 ep ∧ (∀ k,F' k → F k ∨ w.heap.size ≤ k) ∧ Kept (fun k=>F k ∨ k = l) w w':=by
 obtain ⟨za,zc,rfl⟩:∃ a c,z = .slice a fm.length c:=hz.2.imp fun a h=>h.imp fun c h=>h.1
 have hll:l < w.heap.size:=wlt_of_heap hL
 have HLL:Hid (l < w.heap.size ∧ ¬ F l):=mkHid ⟨hll,hlF⟩
 have HD:=mkHid h
 have HLG:=mkHid hL
 have HZ:=mkHid (And.intro hz (And.intro hzF hzl))
 have hnl:¬ l = w.heap.size:=by omega
 clear h hL hz hzF hzl hlF hll
 go_enter Tryz.func71,Tryz.ntmps71
 go_wp2
 obtain ⟨b0,hb0⟩:∃ b0,b0 = w.heap.size:=⟨_,rfl⟩
 obtain ⟨W0,hW0⟩:∃ W0,W0 = w.alloc (oA (.int .i64 (fr2:Int)) (.int .i64 (en2:Int)) (.slice xa xn xc) (.int .i64 (nx2:Int))):=⟨_,rfl⟩
 have HB0:Hid (Below w.heap.size w W0.drew):=mkHid (by rw [hW0];exact ((Below.refl _ w).alloc (Nat.le_refl _) _).drew)
 have HX0:Hid (W0.drew.heap[b0]? = some (oA (.int .i64 (fr2:Int)) (.int .i64 (en2:Int)) (.slice xa xn xc) (.int .i64 (nx2:Int)))):=mkHid (by rw [hW0,hb0];exact heap_alloc_new w _)
 have HN:Hid (b0 = w.heap.size):=mkHid hb0
 have HLG0:Hid (Lg W0.drew l p fr en v nx ep):=mkHid ((HB0.out.block l HLL.out.1).trans HLG.out)
 rw [← hW0,← hb0]
 rw [← hb0] at hnl
 clear hW0 hb0
 refine wp_region_held_drew (S:=fun w'=>w'.cell? ⟨l,0,none⟩ = some (.pointer (some ⟨p,0,none⟩)) ∧ w'.cell? ⟨b0,0,none⟩ = some (.int .i64 (fr2:Int))) (by kernel_rfl) ⟨HLG0.out.facts.1,(four_facts HX0.out).1⟩ (fun hHeld=>?_)
 have HD0:=mkHid (HD.out.below HB0.out)
 generalize W0.drew = W1 at *
 refine wtE 0 9 (.pointer (some ⟨l,0,none⟩)) rfl rfl hHeld ?_
 simp only [List.set_cons_zero,List.set_cons_succ]
 refine wtE 1 10 (.pointer (some ⟨l,0,none⟩)) rfl rfl hHeld ?_
 simp only [List.set_cons_zero,List.set_cons_succ]
 refine wtE 2 11 (.pointer (some ⟨l,0,none⟩)) rfl rfl hHeld ?_
 simp only [List.set_cons_zero,List.set_cons_succ]
 refine wtE 3 12 (.pointer (some ⟨p,0,none⟩)) rfl rfl hHeld ?_
 simp only [List.set_cons_zero,List.set_cons_succ]
 refine wtE 4 13 (.pointer (some ⟨b0,0,none⟩)) rfl rfl hHeld ?_
 simp only [List.set_cons_zero,List.set_cons_succ]
 refine wtE 5 14 (.int .i64 (fr2:Int)) rfl rfl hHeld ?_
 simp only [List.set_cons_zero,List.set_cons_succ]
 refine wtE 6 15 (.slice za fm.length zc) rfl rfl hHeld ?_
 simp only [List.set_cons_zero,List.set_cons_succ]
 refine wpAnyH_ready (rs:=[7]) (by kernel_rfl) (by simp) (AllReadyH.cons rfl (fun K hK=>?_) AllReadyH.nil)
 go_simp
 refine (wwrite_ok F W1 p n f c nw fr2 _ fm HD0.out (HZ.out.1.later HB0.out) HZ.out.2.1 (fun k e=>Nat.lt_of_lt_of_le (HZ.out.2.2 k e) HB0.out.size) hn hl hn2 hcl hnw).mono ?_
 rintro e w2 ⟨rfl,F2,hD2,hF2,hk2⟩
 have HD2:=mkHid (And.intro hD2 (And.intro hF2 hk2))
 have hbF:¬ F b0:=fun e=>by have:=HD.out.1 b0 e;have:=HN.out;omega
 have HLG2:Hid (Lg w2 l p fr en v nx ep):=mkHid ((hk2.block l (Nat.lt_of_lt_of_le HLL.out.1 HB0.out.size) HLL.out.2).trans HLG0.out)
 have HX2:Hid (w2.heap[b0]? = some (oA (.int .i64 (fr2:Int)) (.int .i64 (en2:Int)) (.slice xa xn xc) (.int .i64 (nx2:Int)))):=mkHid ((hk2.block b0 (wlt_of_heap HX0.out) hbF).trans HX0.out)
 clear hD2 hF2 hk2
 refine hK.out _ _ ⟨HLG2.out.facts.1,(four_facts HX2.out).1⟩ (fun hHeld=>?_)
 clear hK K
 (try simp only [Act.put])
 refine wtE 8 7 (.nilIface) rfl rfl hHeld ?_
 simp only [List.set_cons_zero,List.set_cons_succ]
 refine wpAnyH_done (by kernel_rfl) ?_ _
 clear hHeld
 have l0:=HLG2.out.facts.1
 go_wp2_with (go_at_call 111;refine (flush_ok F2 w2 p n f _ _ HD2.out.1 (by rw [List.length_append,writesOf_len];omega)).mono ?_;rintro e w3 ⟨rfl,hD3,hk3⟩;have HF2:Hid (∀ k,F2 k → F k ∨ w.heap.size + 1 ≤ k):=mkHid (fun k hk=>by rcases HD2.out.2.1 k hk with a | a;exact .inl a;(have:=wlt_of_heap HX0.out;have:=HN.out;exact .inr (by omega)));have hlF2:¬ F2 l:=(fun e=>by rcases HF2.out l e with a | a;exact HLL.out.2 a;(have:=HLL.out.1;omega));have hbF2:¬ F2 b0:=(fun e=>by rcases HF2.out b0 e with a | a;exact hbF a;(have:=HN.out;omega));have HLG3:Hid (Lg w3 l p fr en v nx ep):=mkHid ((hk3.block l (wlt_of_heap HLG2.out) hlF2).trans HLG2.out);have HX3:Hid (w3.heap[b0]? = some (oA (.int .i64 (fr2:Int)) (.int .i64 (en2:Int)) (.slice xa xn xc) (.int .i64 (nx2:Int)))):=mkHid ((hk3.block b0 (wlt_of_heap HX2.out) hbF2).trans HX2.out);have HD3:=mkHid (And.intro hD3 hk3);have HNF:=mkHid hlF2;obtain ⟨g0,g1,g2,g3,g4,g5,y1,y2,y3,y4⟩:=HLG3.out.facts;obtain ⟨x0,x1,x2,x3,_,_,_,_⟩:=four_facts HX3.out;clear hD3 hk3 hlF2 hbF2)
 go_ret
 have k7:Kept (fun k=>k = l) w3 ((((w3.setCell ⟨l,1,none⟩ (.int .i64 (fr2:Int))).setCell ⟨l,2,none⟩ (.int .i64 (en2:Int))).setCell ⟨l,3,none⟩ (.slice xa xn xc)).setCell ⟨l,4,none⟩ (.int .i64 (nx2:Int))):=kept_setc (F:=fun k=>k = l) (kept_setc (F:=fun k=>k = l) (kept_setc (F:=fun k=>k = l) (kept_setc (F:=fun k=>k = l) (Kept.refl _ w3) (p:=⟨l,1,none⟩) rfl _) (p:=⟨l,2,none⟩) rfl _) (p:=⟨l,3,none⟩) rfl _) (p:=⟨l,4,none⟩) rfl _
 have hb:Kept (fun k=>F k ∨ k = l) w W1:=⟨HB0.out.os,HB0.out.tape,HB0.out.output,HB0.out.size,fun k hk _=>HB0.out.block k hk⟩
 have hF2:∀ k,F2 k → F k ∨ w.heap.size ≤ k:=fun k hk=>by
  rcases HF2.out k hk with a | a
  ·exact .inl a
  ·exact .inr (by omega)
 refine ⟨rfl,F2,HD3.out.1.kept k7 (fun k e e2=>HNF.out (e2 ▸ e)),HLG3.out.set fr2 en2 nx2 _,hF2,((hb.trans HD2.out.2.2 (fun k e=>.inl (.inl e))).trans HD3.out.2 (fun k e=>?_)).trans k7 (fun k e=>.inl (.inr e))⟩
 rcases hF2 k e with a | a
 ·exact .inl (.inl a)
 ·exact .inr a
theorem sync_ok (F:Nat → Prop) (w:World) (l p n fr en nx ep:Nat) (v:Value) (f:Int → List Int) (c:List (Int × List Int)) (nw:Int) (h:Lg w l p fr en v nx ep) (hD:Dk F w p n f c nw false) (hcl:c.length ≤ 1000000000000) :
  Calls Tryz.prog 76 #[.pointer (some ⟨l,0,none⟩)] w fun e w'=>e = .returned .nilIface ∧ Dk F w' p n (flushed f c) [] nw false ∧ Kept F w w':=by
 obtain ⟨l0,l1,l2,l3,l4,l5,_,_,_,_⟩:=h.facts
 have HF:=mkHid (flush_ok F w p n f c nw hD hcl)
 clear h hD
 go_enter Tryz.func76,Tryz.ntmps76
 go_wp2_with (go_at_call 111;refine HF.out.mono ?_;rintro e w2 ⟨rfl,hd2,hk2⟩;have HD2:=mkHid (And.intro hd2 hk2);clear hd2 hk2)
 go_ret
 exact ⟨rfl,HD2.out.1,HD2.out.2⟩
set_option maxHeartbeats 25600000 in
theorem anew_full {F:Nat → Prop} (w:World) (fr en nx fr2 en2 gn g1 ep:Nat) (va da:Option Addr) (vc dc:Nat) (ts:List Rp) (data:List Int) (ef:Addr) (h:Recs F w (.slice va ts.length vc) ts) (hg:(gn:Int) ≤ 1099511627775) (hg1:g1 = gn + 1) (hep:ep ≤ 1099511627776) (hd:data.length ≤ 32000) (hrd:Rd w (.slice da data.length dc) data) (hfit:en2 < fr2 + npc (frm (⟨g1,ep,0,data⟩:Rc)).length) (hen:fr2 ≤ 1000000) (hef:w.cell? ⟨2,0,none⟩ = some (.iface 284 (.pointer (some ef))))
  (hot:∀ W,Calls Tryz.prog 107 #[.agg #[.int .i64 (fr:Int),.int .i64 (en:Int),.slice va ts.length vc,.int .i64 (nx:Int)]] W fun e w'=>e = .returned (.agg #[.int .i64 (fr2:Int),.int .i64 (en2:Int),.slice none 0 0,.int .i64 (fr2:Int)]) ∧ Below W.heap.size W w')
  (hla:∀ W,Below w.heap.size w W → Calls Tryz.prog 105 #[.agg #[.int .i64 (fr:Int),.int .i64 (en:Int),.slice va ts.length vc,.int .i64 (nx:Int)]] W fun e w'=>∃ (ge gi:Int) (gd:Option Addr) (gl gc:Nat),e = .returned (.agg #[.int .i64 (gn:Int),.int .i64 ge,.int .i64 gi,.slice gd gl gc]) ∧ Below W.heap.size W w') :
  Calls Tryz.prog 68 #[.agg #[.int .i64 (fr:Int),.int .i64 (en:Int),.slice va ts.length vc,.int .i64 (nx:Int)],.int .i64 (ep:Int),.slice da data.length dc] w fun e w'=>e = .returned (.tuple #[.agg #[.int .i64 0,.int .i64 0,.slice none 0 0,.int .i64 0],.slice none 0 0,.iface 284 (.pointer (some ef))]) ∧ Below w.heap.size w w':=by
 have HOT:=mkHid hot
 have HLA:=mkHid hla
 have HR:=mkHid h
 have hw1:IntKind.i64.wrap ((gn:Int) + 1) = (g1:Int):=by rw [IntKind.wrap_i64];omega
 have HOK:Hid ((⟨g1,ep,0,data⟩:Rc).ok):=mkHid ⟨by simp only;omega,hep,by simp,by simp only;omega,hrd.1⟩
 have HDL:Hid (data.length ≤ 32000):=mkHid hd
 have HRD:=mkHid hrd
 have HFIT:=mkHid (And.intro hfit hen)
 have HEF:=mkHid hef
 clear hot hla h hd hrd hfit hen hep hg1 hg hef
 go_enter Tryz.func68,Tryz.ntmps68
 go_wp2
 obtain ⟨b0,hb0⟩:∃ b0,b0 = w.heap.size:=⟨_,rfl⟩
 obtain ⟨W0,hW0⟩:∃ W0,W0 = (w.alloc (oA (.int .i64 (fr:Int)) (.int .i64 (en:Int)) (.slice va ts.length vc) (.int .i64 (nx:Int)))).alloc oAZ:=⟨_,rfl⟩
 have HB0:Hid (Below w.heap.size w W0.drew):=mkHid (by rw [hW0];exact (((Below.refl _ w).alloc (Nat.le_refl _) _).alloc (by simp) _).drew)
 have HX0:Hid (W0.drew.heap[b0]? = some (oA (.int .i64 (fr:Int)) (.int .i64 (en:Int)) (.slice va ts.length vc) (.int .i64 (nx:Int))) ∧ W0.drew.heap[b0 + 1]? = some oAZ):=mkHid (by rw [hW0,hb0];exact ⟨by show ((w.alloc _).alloc _).heap[w.heap.size]? = _;rw [heap_alloc_old _ _ (by simp)];exact heap_alloc_new w _,atwo_new w _ _⟩)
 have HS0:Hid (b0 + 2 ≤ W0.drew.heap.size ∧ b0 = w.heap.size):=mkHid ⟨by show b0 + 2 ≤ W0.heap.size;rw [hW0,hb0];simp,hb0⟩
 rw [← hW0,← hb0]
 clear hW0 hb0
 obtain ⟨a0,a1,a2,a3,_,_,_,_⟩:=four_facts HX0.out.1
 refine wp_region_held_drew (S:=fun w'=>w'.cell? ⟨b0,0,none⟩ = some (.int .i64 (fr:Int)) ∧ w'.cell? ⟨b0,1,none⟩ = some (.int .i64 (en:Int)) ∧ w'.cell? ⟨b0,2,none⟩ = some (.slice va ts.length vc) ∧ w'.cell? ⟨b0,3,none⟩ = some (.int .i64 (nx:Int))) (by kernel_rfl) ⟨a0,a1,a2,a3⟩ (fun hHeld=>?_)
 clear a0 a1 a2 a3
 refine wtE 0 9 (.agg #[.int .i64 (fr:Int),.int .i64 (en:Int),.slice va ts.length vc,.int .i64 (nx:Int)]) rfl rfl hHeld ?_
 simp only [List.set_cons_zero,List.set_cons_succ]
 refine wtE 2 11 (.agg #[.int .i64 (fr:Int),.int .i64 (en:Int),.slice va ts.length vc,.int .i64 (nx:Int)]) rfl rfl hHeld ?_
 simp only [List.set_cons_zero,List.set_cons_succ]
 refine wtE 6 15 (.int .i64 (ep:Int)) rfl rfl hHeld ?_
 simp only [List.set_cons_zero,List.set_cons_succ]
 refine wtE 7 16 (.slice da data.length dc) rfl rfl hHeld ?_
 simp only [List.set_cons_zero,List.set_cons_succ]
 refine wpAnyH_ready (rs:=[1]) (by kernel_rfl) (by simp) (AllReadyH.cons rfl (fun K hK=>?_) AllReadyH.nil)
 go_simp
 refine (HOT.out W0.drew).mono ?_
 rintro e w2 ⟨rfl,b2⟩
 have HB2:=mkHid b2
 refine hK.out _ _ ⟨cell_lat b2 hHeld.1,cell_lat b2 hHeld.2.1,cell_lat b2 hHeld.2.2.1,cell_lat b2 hHeld.2.2.2⟩ (fun hHeld=>?_)
 clear hK K b2
 refine wpAnyH_ready (rs:=[3]) (by kernel_rfl) (by simp) (AllReadyH.cons rfl (fun K hK=>?_) AllReadyH.nil)
 go_simp
 refine (HLA.out w2 ((HB0.out.trans (HB2.out.mono HB0.out.size)))).mono ?_
 rintro e w3 ⟨ge,gi,gd,gl,gc,rfl,b3⟩
 have HB3:=mkHid b3
 refine hK.out _ _ ⟨cell_lat b3 hHeld.1,cell_lat b3 hHeld.2.1,cell_lat b3 hHeld.2.2.1,cell_lat b3 hHeld.2.2.2⟩ (fun hHeld=>?_)
 clear hK K b3
 have hfg:∀ W,(Instr.field 167 (.agg #[.int .i64 (gn:Int),.int .i64 ge,.int .i64 gi,.slice gd gl gc]) 0).run Tryz.prog W = .ok (.int .i64 (gn:Int)) W:=fun W=>field_gen _ _ _ _ _ _ W
 refine wtE 4 13 (.int .i64 (gn:Int)) rfl rfl hHeld ?_
 simp only [List.set_cons_zero,List.set_cons_succ]
 refine wtE 5 14 (.int .i64 (g1:Int)) rfl rfl hHeld ?_
 simp only [List.set_cons_zero,List.set_cons_succ]
 refine wtE 8 17 (  .agg #[.int .i64 (g1:Int),.int .i64 (ep:Int),.int .i64 0,.slice da data.length dc]) rfl rfl hHeld ?_
 simp only [List.set_cons_zero,List.set_cons_succ]
 have HB3b:Hid (Below w.heap.size w w3):=mkHid ((HB0.out.trans (HB2.out.mono HB0.out.size)).trans (HB3.out.mono (Nat.le_trans HB0.out.size HB2.out.size)))
 have HX3:Hid (w3.heap[b0 + 1]? = some oAZ ∧ b0 + 2 ≤ w3.heap.size):=mkHid ⟨by rw [HB3.out.block _ (by have:=HS0.out.1;have:=HB2.out.size;omega),HB2.out.block _ (by have:=HS0.out.1;omega)];exact HX0.out.2,by have:=HS0.out.1;have:=HB2.out.size;have:=HB3.out.size;omega⟩
 refine wpAnyH_ready (rs:=[9]) (by kernel_rfl) (by simp) (AllReadyH.cons rfl (fun K hK=>?_) AllReadyH.nil)
 go_simp
 refine (with_full w3 fr2 en2 fr2 none 0 0 ((⟨g1,ep,0,data⟩:Rc),da,dc) (.iface 284 (.pointer (some ef))) HOK.out HDL.out (HRD.out.later HB3b.out) HFIT.out.1 HFIT.out.2 (cell_lat HB3b.out HEF.out)).mono ?_
 rintro e w4 ⟨rfl,hb4⟩
 have HB4:=mkHid hb4
 have HX4:Hid (w4.heap[b0 + 1]? = some oAZ):=mkHid ((hb4.block _ (wlt_of_heap HX3.out.1)).trans HX3.out.1)
 refine hK.out _ _ ⟨cell_lat hb4 hHeld.1,cell_lat hb4 hHeld.2.1,cell_lat hb4 hHeld.2.2.1,cell_lat hb4 hHeld.2.2.2⟩ (fun hHeld=>?_)
 clear hK K hb4
 (try simp only [Act.put])
 refine wtE 10 19 (.agg #[.int .i64 0,.int .i64 0,.slice none 0 0,.int .i64 0]) rfl rfl hHeld ?_
 simp only [List.set_cons_zero,List.set_cons_succ]
 refine wtE 11 20 (.slice none 0 0) rfl rfl hHeld ?_
 simp only [List.set_cons_zero,List.set_cons_succ]
 refine wtE 12 21 (.iface 284 (.pointer (some ef))) rfl rfl hHeld ?_
 simp only [List.set_cons_zero,List.set_cons_succ]
 obtain ⟨c0,c1,c2,c3,fc0,fc1,fc2,fc3⟩:=azero_facts HX4.out
 refine wpAnyH_ready (rs:=[13]) (by kernel_rfl) (by simp) (AllReadyH.cons rfl (fun K hK=>?_) AllReadyH.nil)
 go_simp
 have HK7:=mkHid (kept_four (F:=fun k=>k = b0 + 1) (R:=b0 + 1) (Kept.refl _ w4) rfl (.int .i64 0) (.int .i64 0) (.slice none 0 0) (.int .i64 0))
 have hnb:¬ (b0:Nat) = b0 + 1:=by omega
 refine hK.out _ _ ⟨HK7.out.cell hHeld.1 hnb,HK7.out.cell hHeld.2.1 hnb,HK7.out.cell hHeld.2.2.1 hnb,HK7.out.cell hHeld.2.2.2 hnb⟩ (fun hHeld=>?_)
 clear hK K
 (try simp only [Act.put])
 refine wtE 14 7 (.slice none 0 0) rfl rfl hHeld ?_
 simp only [List.set_cons_zero,List.set_cons_succ]
 refine wtE 15 8 (.iface 284 (.pointer (some ef))) rfl rfl hHeld ?_
 simp only [List.set_cons_zero,List.set_cons_succ]
 refine wpAnyH_done (by kernel_rfl) ?_ _
 clear hHeld c0 c1 c2 c3 fc0 fc1 fc2 fc3
 go_wp2
 have hs0:=HS0.out
 have hb34:Below w.heap.size w w4:=HB3b.out.trans (HB4.out.mono HB3b.out.size)
 exact bodyPost_ret (area3_leaves rfl (afour_leaves HX4.out _ _ _ _) _ rfl) rfl ⟨rfl,hb34.trans (HK7.out.below (fun k e=>by omega) hb34.size)⟩
end Go.Proofs.YtihdkgekickohaaGreatDoor
