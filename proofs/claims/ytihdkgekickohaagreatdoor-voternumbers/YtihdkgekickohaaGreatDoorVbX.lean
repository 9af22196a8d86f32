import Derived.Test.YtihdkgekickohaaGreatDoorVaX
import Derived.Test.YtihdkgekickohaaGreatDoorOread
import Derived.Test.YtihdkgekickohaaGreatDoorBaseH
import Derived.Test.YtihdkgekickohaaGreatDoorStoreBx
namespace Go.Proofs.YtihdkgekickohaaGreatDoor
open Go.ChangeShapes Go.WideShapes Go.ChangeAt Go.RowKit
set_option maxRecDepth 100000
attribute [local go_sem] World.cell?_alloc_some frozen_alloc_some
theorem bytesL_inj {l m:List En} (hl:∀ e ∈ l,inF e) (hm:∀ e ∈ m,inF e) (h:bytesL l = bytesL m):l = m:=by
 rw [bytesL_eq,bytesL_eq] at h
 obtain ⟨h1,h2⟩:=enc_free _ _ _ _ h
 have:=(chunks_pre l m [] hl hm (by omega) (by simpa using h2)).2
 rw [this,h1,List.take_of_length_le (Nat.le_refl _)]
theorem read_yes (w:World) (v:Value) (l:List En) (eb es:Addr) (h:Rd w v (bytesL l)) (hl:l.length ≤ 64) (hf:∀ e ∈ l,inF e) (he:w.cell? ⟨4,0,none⟩ = some (vErr eb)) (hes:w.cell? ⟨15,0,none⟩ = some (vErr es)) :
  Calls Tryz.prog 172 #[v] w fun r w'=>∃ v' qs,r = .returned (.tuple #[v',.nilIface]) ∧ Led w.heap.size w' v' qs ∧ fs1 qs = l ∧ Below w.heap.size w w':=by
 refine (read_any w v _ eb es h (by have:=bytesL_len hl hf;omega) he hes).mono ?_
 rintro r w' ⟨hb,⟨v',qs,hq,hq64,he,rfl,hL⟩ | ⟨hno,_⟩⟩
 ·exact ⟨v',qs,rfl,hL,(bytesL_inj hf (fun e he=>by obtain ⟨t,ht,rfl⟩:=List.mem_map.mp he;exact hq t ht) he).symm,hb⟩
 ·exact absurd rfl (hno l hl hf)
theorem keptB (F:Nat → Prop) {w w':World} (hb:Below w.heap.size w w'):Kept F w w':=⟨hb.os,hb.tape,hb.output,hb.size,fun k hk _=>hb.block k hk⟩
theorem piece_all {bs:List Int} {i:Nat} {l:List Int} (hd:bs.drop i = enc l.length ++ l) (hi:i ≤ bs.length):PieceYes bs i ((bs.length:Int) - i) l.length l ∧ i + (enc l.length).length + l.length = bs.length:=by
 have:=(piece_parts hd hi).1
 exact ⟨⟨hd,by omega,Nat.le_refl _⟩,by omega⟩
set_option maxHeartbeats 3200000 in
theorem getLedger_ok (F:Nat → Prop) (w:World) (p:Nat) (bs:List Int) (i:Nat) (l:List En) (eb es:Addr) (h:Rr F w p bs i) (hl:(bs.length:Int) ≤ 140737488355328) (hd:bs.drop i = enc (bytesL l).length ++ bytesL l) (hf:ledF l) (b0:Nat) (hb0:∀ k,F k → b0 ≤ k) (hg:4 < b0 ∧ 15 < b0) (he:w.cell? ⟨4,0,none⟩ = some (vErr eb)) (hes:w.cell? ⟨15,0,none⟩ = some (vErr es)) :
  Calls Tryz.prog 152 #[.pointer (some ⟨p,0,none⟩)] w fun r w'=>∃ a c qs,r = .returned (.tuple #[.slice a qs.length c,.nilIface]) ∧ fs1 qs = l ∧ Led w.heap.size w' (.slice a qs.length c) qs ∧ Rr F w' p bs bs.length ∧ Kept F w w':=by
 have hi:i ≤ bs.length:=h.parts.choose_spec.2.2.2.2
 obtain ⟨hy,hz⟩:=piece_all hd hi
 have hYES:=mkHid hy
 have HZ:=mkHid hz
 have HR:=mkHid h
 have HE:=mkHid he
 have HES:=mkHid hes
 have HF:=mkHid hf
 have HG0:=mkHid (And.intro hb0 hg)
 clear h he hes hf hy hz hd hb0 hg
 go_enter Tryz.func152,Tryz.ntmps152
 go_wp2_with (first
  |(go_at_call 153;refine (left_any F w p bs i HR.out hl).mono ?_;rintro r w2 ⟨rfl,nq,hw2⟩;have HB2:Hid (Below w.heap.size w w2):=mkHid (by rw [hw2];exact drb (Below.refl _ _) nq);clear hw2)
  |(go_at_call 171;have HN:=rbytes_yes F w2 p bs i _ (vErr eb) _ _ (HR.out.below HB2.out) hl (kc HE.out HB2.out) hYES.out;(with_reducible refine HN.mono ?_);clear HN;rintro r w3 ⟨v3,rfl,ho3,hr3,k3⟩;rw [HZ.out] at hr3;rw [List.take_length] at ho3;obtain ⟨a3,c3,rfl⟩:=own_shape ho3;have HRD3:=mkHid (Rd.of_owns (bytesL_byts l) ho3);have HR3:=mkHid hr3;have HK3:=mkHid ((keptB F HB2.out).trans k3 (fun _ hk=>.inl hk));have HS3:=mkHid (Nat.le_trans HB2.out.size k3.size);have HE3:Hid (w3.cell? ⟨4,0,none⟩ = some (vErr eb) ∧ w3.cell? ⟨15,0,none⟩ = some (vErr es)):=mkHid ⟨k3.cell (kc HE.out HB2.out) (fun f=>by have:=HG0.out.1 _ f;have:=HG0.out.2;simp only at *;omega),k3.cell (kc HES.out HB2.out) (fun f=>by have:=HG0.out.1 _ f;have:=HG0.out.2;simp only at *;omega)⟩;clear ho3 hr3 k3)
  |(go_at_call 172;have HN:=read_yes w3 _ l eb es HRD3.out HF.out.1 HF.out.2 HE3.out.1 HE3.out.2;(with_reducible refine HN.mono ?_);clear HN;rintro r w4 ⟨v4,qs,rfl,hl4,hq4,b4⟩;obtain ⟨a4,c4',rfl,_⟩:=own_sh hl4.own;have HL4:=mkHid (And.intro hl4 (And.intro hq4 b4));clear hl4 hq4 b4))
 go_ret2
 exact ⟨a4,c4',qs,rfl,HL4.out.2.1,HL4.out.1.up HS3.out,HR3.out.below HL4.out.2.2,HK3.out.trans (keptB F HL4.out.2.2) (fun _ hk=>.inl hk)⟩
theorem size6:(Tryz.prog.info? 96).map (·.size) = some 6:=by kernel_rfl
theorem withHead_ok (w:World) (x0 x1 x2 x3 x4:Int):Calls Tryz.prog 151 #[.agg #[.int .i64 x0,.int .i64 x1,.int .i64 x2,.int .i64 x3,.int .i64 x4]] w fun r w'=>r = .returned (.agg #[.int .i64 x0,.int .i64 x1,.int .i64 x2,.int .i64 x3,.int .i64 x4,.slice none 0 0]) ∧ Below w.heap.size w w':=by
 go_enter Tryz.func151,Tryz.ntmps151
 go_wp2
 refine bodyPost_ret (arr_leaves (p:=2) rfl (run_loadVar_row _ (w.heap.size + 1) _ 96 _ _ _ (by rw [heap_alloc_old _ _ (by simp),heap_alloc_old _ _ (by simp)];exact two_of_two w _ _) Tryz.underlying96 rfl ?_) _ rfl) rfl ⟨rfl,ba (ba (ba (ba (Below.refl _ _) _) _) _) _⟩
 exact size6
theorem rnumI (F:Nat → Prop) (w:World) (p:Nat) (bs:List Int) (i:Nat) (most:Int) (ev:Value) (x:Int) (r:List Int) (h:Rr F w p bs i) (hl:(bs.length:Int) ≤ 140737488355328) (he:w.cell? ⟨4,0,none⟩ = some ev) (hd:bs.drop i = enc x.toNat ++ r) (hx:0 ≤ x ∧ x ≤ most) (hm:most ≤ 9223372036854775807) :
  Calls Tryz.prog 139 #[.pointer (some ⟨p,0,none⟩),.int .i64 most] w fun e w'=>e = .returned (.tuple #[.int .i64 x,.nilIface]) ∧ Rr F w' p bs (i + (enc x.toNat).length) ∧ Kept F w w':=by
 have:=rnum_yes F w p bs i most ev x.toNat r h hl he hd (by omega) hm
 rwa [show ((x.toNat:Nat):Int) = x by omega] at this
theorem nums_drop {l:List Int} {j:Nat} {x:Int} (t:List Int) (hx:l[j]? = some x):(encL l ++ t).drop (encL (l.take j)).length = enc x.toNat ++ (encL (l.drop (j + 1)) ++ t):=by
 have h1:l = l.take j ++ (x :: l.drop (j + 1)):=by
  have hj:=(List.getElem?_eq_some_iff.mp hx).1
  rw [← (List.getElem?_eq_some_iff.mp hx).2,← List.drop_eq_getElem_cons hj,List.take_append_drop]
 conv=>{ lhs;rw [h1] }
 rw [encL_append,encL_cons,List.append_assoc,List.take_append_of_le_length (by rw [List.length_take];have:=(List.getElem?_eq_some_iff.mp hx).1;omega),List.take_take,Nat.min_self,List.drop_left,List.append_assoc]
def p5 (l:List Int) (j:Nat):Array Value:=((l.take j ++ List.replicate (5 - j) 0).map (Value.int .i64)).toArray
abbrev oZ6:Obj:=.cells #[.int .i64 0,.int .i64 0,.int .i64 0,.int .i64 0,.int .i64 0,.slice none 0 0] 96
structure GS (F:Nat → Prop) (w wr:World) (p:Nat) (bs:List Int) (l:List Int) (j:Nat):Prop where
 rr:Rr F wr p bs (encL (l.take j)).length
 arr:wr.heap[w.heap.size + 1]? = some (.cells (p5 l j) 143 (0,0))
 res:wr.heap[w.heap.size]? = some oZ6
 kp:Kept F w wr
 lt:∀ k,F k → k < w.heap.size
theorem GS.num {F:Nat → Prop} {w wr w':World} {p:Nat} {bs l:List Int} {j:Nat} {x:Int} (h:GS F w wr p bs l j) (hx:l[j]? = some x) (hk:Kept F wr w') (hr:Rr F w' p bs ((encL (l.take j)).length + (enc x.toNat).length)) :
  (Rr F w' p bs (encL (l.take (j + 1))).length ∧ w'.heap[w.heap.size + 1]? = some (.cells (p5 l j) 143 (0,0)) ∧ w'.heap[w.heap.size]? = some oZ6 ∧ Kept F w w' ∧ ∀ k,F k → k < w.heap.size) ∧ w'.heap[w.heap.size + 1]? = some (.cells (p5 l j) 143 (0,0)):=by
 have h1:w'.heap[w.heap.size + 1]? = some (.cells (p5 l j) 143 (0,0)):=(hk.block _ (lt_of_heap h.arr) (fun f=>by have:=h.lt _ f;omega)).trans h.arr
 refine ⟨⟨by rw [encLt hx,List.length_append];exact hr,h1,(hk.block _ (lt_of_heap h.res) (fun f=>by have:=h.lt _ f;omega)).trans h.res,h.kp.trans hk (fun _ f=>.inl f),h.lt⟩,h1⟩
def GN (F:Nat → Prop) (w w':World) (p:Nat) (bs l:List Int) (j:Nat):Prop:=Rr F w' p bs (encL (l.take (j + 1))).length ∧ w'.heap[w.heap.size + 1]? = some (.cells (p5 l j) 143 (0,0)) ∧ w'.heap[w.heap.size]? = some oZ6 ∧ Kept F w w' ∧ ∀ k,F k → k < w.heap.size
theorem GN.set {F:Nat → Prop} {w w':World} {p:Nat} {bs l:List Int} {j m:Nat} {x:Int} (h:GN F w w' p bs l j) (hm:m = j + 1) (hc:(p5 l j).set! j (.int .i64 x) = p5 l m):GS F w (w'.setCell ⟨w.heap.size + 1,j,none⟩ (.int .i64 x)) p bs l m:=by
 subst hm
 obtain ⟨h1,h2,h3,h4,h5⟩:=h
 have hk:Kept (fun k=>k = w.heap.size + 1) w' (w'.setCell ⟨w.heap.size + 1,j,none⟩ (.int .i64 x)):=Kept.setCell (F:=fun k=>k = w.heap.size + 1) w' (p:=⟨w.heap.size + 1,j,none⟩) rfl _
 refine ⟨h1.kept hk (fun k f e=>by have:=h5 k f;omega),by rw [heap_set h2,hc],(hk.block _ (lt_of_heap h3) (by omega)).trans h3,h4.trans hk (fun k e=>.inr (by omega)),h5⟩
theorem GS.more {F:Nat → Prop} {w wr w':World} {p:Nat} {bs l:List Int} {j:Nat} {x:Int} (h:GS F w wr p bs l j) (hx:l[j]? = some x) (hk:Kept F wr w') (hr:Rr F w' p bs ((encL (l.take j)).length + (enc x.toNat).length)):GN F w w' p bs l j ∧ w'.heap[w.heap.size + 1]? = some (.cells (p5 l j) 143 (0,0)):=h.num hx hk hr
theorem one6 (x0 x1 x2 x3 x4:Int) (a:Option Addr) (n c:Nat):(#[Value.int .i64 x0,.int .i64 x1,.int .i64 x2,.int .i64 x3,.int .i64 x4,.slice a n c]:Array Value).all (·.oneCell') = true:=by simp [Value.oneCell']
theorem six_leaves {W:World} {R:Nat} {p u:Tmp} {fn:Func} {c0 c1 c2 c3 c4 c5:Value} (hf:fn.results = #[.cell p 96,.tmp u]) (hR:W.heap[R]? = some (.cells #[c0,c1,c2,c3,c4,c5] 96 (0,0))) (tmps:Array Value) (h2:tmps.getD p undef = .pointer (some ⟨R,0,none⟩)):(results fn tmps).run Tryz.prog W = .ok (.tuple #[.agg #[c0,c1,c2,c3,c4,c5],tmps.getD u undef]) W:=by
 have hl:=run_loadVar_row (P:=Tryz.prog) W R 96 96 #[c0,c1,c2,c3,c4,c5] (0,0) _ hR Tryz.underlying96 rfl size6
 rw [results_cell_tmp hf,h2]
 simp [asAddr,Result.andThen,hl]
def GL (F:Nat → Prop) (wr w6 w8:World) (p:Nat) (bs l5:List Int) (l:List En) (a:Option Addr) (c:Nat) (qs:List Ep):Prop:=
 fs1 qs = l ∧ Led (w6.heap.size + 1) w8 (.slice a qs.length c) qs ∧ Rr F w8 p bs bs.length ∧ Kept F (w6.alloc (.cells (l5.map (Value.int .i64) ++ [Value.slice none 0 0]).toArray 96)) w8 ∧ Below wr.heap.size wr w6
theorem GL.box {F:Nat → Prop} {w wr w6 w8:World} {p:Nat} {bs l5:List Int} {l:List En} {a:Option Addr} {c j:Nat} {qs:List Ep} (h:GL F wr w6 w8 p bs l5 l a c qs) (hG:GS F w wr p bs l5 j):w8.heap[w6.heap.size]? = some (.cells (l5.map (Value.int .i64) ++ [Value.slice none 0 0]).toArray 96 (0,0)) ∧ w.heap.size + 2 ≤ w6.heap.size:=by
 obtain ⟨_,_,_,hk,hb⟩:=h
 have h1:=lt_of_heap hG.arr
 have h2:=hb.size
 exact ⟨(hk.block _ (by simp) (fun f=>by have:=hG.lt _ f;omega)).trans (heap_alloc_new w6 _),by omega⟩
theorem GL.res {F:Nat → Prop} {w wr w6 w8:World} {p:Nat} {bs l5:List Int} {l:List En} {a:Option Addr} {c j:Nat} {qs:List Ep} {v:Value} (h:GL F wr w6 w8 p bs l5 l a c qs) (hG:GS F w wr p bs l5 j):(w8.setCell ⟨w6.heap.size,5,none⟩ v).heap[w.heap.size]? = some oZ6:=by
 have hs:=(h.box hG).2
 obtain ⟨_,_,_,hk,hb⟩:=h
 have k1:Kept (fun k=>k = w6.heap.size) w8 (w8.setCell ⟨w6.heap.size,5,none⟩ v):=Kept.setCell (F:=fun k=>k = w6.heap.size) w8 (p:=⟨w6.heap.size,5,none⟩) rfl _
 have h0:=lt_of_heap hG.res
 have h1:=hb.size
 have h2:=hk.size
 simp at h2
 rw [k1.block _ (by omega) (by omega),hk.block _ (by simp;omega) (fun f=>by have:=hG.lt _ f;omega),heap_alloc_old _ _ (by omega),hb.block _ h0]
 exact hG.res
theorem GL.fin {F:Nat → Prop} {w wr w6 w8 w9:World} {p:Nat} {bs l5:List Int} {l:List En} {a:Option Addr} {c j:Nat} {qs:List Ep} {v:Value} (h:GL F wr w6 w8 p bs l5 l a c qs) (hG:GS F w wr p bs l5 j) (hk9:Kept (fun k=>k = w.heap.size) (w8.setCell ⟨w6.heap.size,5,none⟩ v) w9):Led w.heap.size w9 (.slice a qs.length c) qs ∧ Rr F w9 p bs bs.length ∧ Kept F w w9:=by
 have hs:=(h.box hG).2
 obtain ⟨_,hL,hr,hk,hb⟩:=h
 have k1:Kept (fun k=>k = w6.heap.size) w8 (w8.setCell ⟨w6.heap.size,5,none⟩ v):=Kept.setCell (F:=fun k=>k = w6.heap.size) w8 (p:=⟨w6.heap.size,5,none⟩) rfl _
 have h1:=hb.size
 refine ⟨((hL.kept k1 (fun k e=>.inl (by omega))).kept hk9 (fun k e=>.inl (by omega))).up (by omega),(hr.kept k1 (fun k f e=>by have:=hG.lt _ f;omega)).kept hk9 (fun k f e=>by have:=hG.lt _ f;omega),?_⟩
 refine (((hG.kp.trans (keptB F (ba hb (.cells (l5.map (Value.int .i64) ++ [Value.slice none 0 0]).toArray 96))) (fun _ f=>.inl f)).trans hk (fun _ f=>.inl f)).trans k1 (fun k e=>.inr (by omega))).trans hk9 (fun k e=>.inr (by omega))
set_option maxHeartbeats 6400000 in
theorem getState_ok (F:Nat → Prop) (w:World) (p:Nat) (s:Vs) (eb es:Addr) (h:Rr F w p (bytesS s) 0) (hok:s.ok) (b0:Nat) (hb0:∀ k,F k → b0 ≤ k) (hg:4 < b0 ∧ 15 < b0) (he:w.cell? ⟨4,0,none⟩ = some (vErr eb)) (hes:w.cell? ⟨15,0,none⟩ = some (vErr es)) :
  Calls Tryz.prog 123 #[.pointer (some ⟨p,0,none⟩)] w fun r w'=>∃ a k qs,r = .returned (.tuple #[vS s (.slice a qs.length k),.nilIface]) ∧ fs1 qs = s.l ∧ Led w.heap.size w' (.slice a qs.length k) qs ∧ Rr F w' p (bytesS s) (bytesS s).length ∧ Kept F w w':=by
 have hl:((bytesS s).length:Int) ≤ 140737488355328:=by have:=bytesS_len hok;omega
 have HAM:=mkHid (snum_amt hok)
 have HE:=mkHid (And.intro he hes)
 have HG0:=mkHid (And.intro hb0 hg)
 have HF:=mkHid hok.l
 have HBS:Hid (bytesS s = encL (snum s) ++ (enc (bytesL s.l).length ++ bytesL s.l)):=mkHid rfl
 obtain ⟨bs,hbs⟩:∃ bs,bs = bytesS s:=⟨_,rfl⟩
 rw [← hbs] at HBS h hl ⊢
 have HLT0:=mkHid h.1
 have HR:=mkHid h
 obtain ⟨⟨p1,p2⟩,⟨a1,a2⟩,c,l⟩:=s
 clear h hbs hok hb0 hg he hes
 simp only [vS] at HF HBS ⊢
 go_enter Tryz.func123,Tryz.ntmps123
 go_wp2
 go_loopw [10] (fun iv wr=>∃ j:Nat,iv = .int .i64 (j:Int) ∧ j ≤ 5 ∧ Hid (GS F w wr p bs [p1,p2,a1,a2,c] j)) (fun iv _=>5 - (intOf iv).toNat)
 case atStart=>
  refine ⟨0,rfl,Nat.zero_le _,mkHid ⟨HR.out.below (ba (ba (Below.refl _ w) _) _),two_of_two w _ _,by rw [heap_alloc_old _ _ (by simp)];exact heap_alloc_new w _,keptB F (ba (ba (Below.refl _ w) _) _),HLT0.out⟩⟩
 case round=>
  obtain ⟨j,rfl,hj,HG⟩:=hrel
  by_cases hlt:j < 5
  ·have hj8:j = 0 ∨ j = 1 ∨ j = 2 ∨ j = 3 ∨ j = 4:=by omega
   obtain ⟨x,hx⟩:∃ x,(snum ⟨(p1,p2),(a1,a2),c,l⟩)[j]? = some x:=⟨_,List.getElem?_eq_getElem (by show j < 5;exact hlt)⟩
   have hd:=nums_drop (enc (bytesL l).length ++ bytesL l) hx
   rw [← HBS.out] at hd
   have ha:=HAM.out x (List.mem_of_getElem? hx)
   have HN:=mkHid (rnumI F wr p bs _ 1099511627776 (vErr eb) x _ HG.out.rr hl (HG.out.kp.cell HE.out.1 (fun f=>by have:=HG0.out.1 _ f;have:=HG0.out.2;simp only at *;omega)) hd ⟨ha.1,ha.2⟩ (by omega))
   have HLT:=mkHid hx
   clear hd ha
   rcases hj8 with rfl | rfl | rfl | rfl | rfl
   ·simp [snum] at hx
    subst hx
    go_wp2_with (go_at_call 139;(with_reducible refine HN.out.mono ?_);rintro r w5 ⟨rfl,hr5,k5⟩;have H5:=mkHid (HG.out.more HLT.out k5 hr5);have c5:w5.cell? ⟨w.heap.size + 1,0,none⟩ = some (.int .i64 0):=cell_of_block H5.out.2 rfl;have f5:w5.frozen? ⟨w.heap.size + 1,0,none⟩ = false:=frozen_of_block H5.out.2;clear hr5 k5)
    go_roundw
    case rel=>exact ⟨1,by first | rfl | go_num,by omega,mkHid (H5.out.1.set rfl (by rfl))⟩
    case measure=>simp [intOf]
   ·simp [snum] at hx
    subst hx
    go_wp2_with (go_at_call 139;(with_reducible refine HN.out.mono ?_);rintro r w5 ⟨rfl,hr5,k5⟩;have H5:=mkHid (HG.out.more HLT.out k5 hr5);have c5:w5.cell? ⟨w.heap.size + 1,1,none⟩ = some (.int .i64 0):=cell_of_block H5.out.2 rfl;have f5:w5.frozen? ⟨w.heap.size + 1,1,none⟩ = false:=frozen_of_block H5.out.2;clear hr5 k5)
    go_roundw
    case rel=>exact ⟨2,by first | rfl | go_num,by omega,mkHid (H5.out.1.set rfl (by rfl))⟩
    case measure=>simp [intOf]
   ·simp [snum] at hx
    subst hx
    go_wp2_with (go_at_call 139;(with_reducible refine HN.out.mono ?_);rintro r w5 ⟨rfl,hr5,k5⟩;have H5:=mkHid (HG.out.more HLT.out k5 hr5);have c5:w5.cell? ⟨w.heap.size + 1,2,none⟩ = some (.int .i64 0):=cell_of_block H5.out.2 rfl;have f5:w5.frozen? ⟨w.heap.size + 1,2,none⟩ = false:=frozen_of_block H5.out.2;clear hr5 k5)
    go_roundw
    case rel=>exact ⟨3,by first | rfl | go_num,by omega,mkHid (H5.out.1.set rfl (by rfl))⟩
    case measure=>simp [intOf]
   ·simp [snum] at hx
    subst hx
    go_wp2_with (go_at_call 139;(with_reducible refine HN.out.mono ?_);rintro r w5 ⟨rfl,hr5,k5⟩;have H5:=mkHid (HG.out.more HLT.out k5 hr5);have c5:w5.cell? ⟨w.heap.size + 1,3,none⟩ = some (.int .i64 0):=cell_of_block H5.out.2 rfl;have f5:w5.frozen? ⟨w.heap.size + 1,3,none⟩ = false:=frozen_of_block H5.out.2;clear hr5 k5)
    go_roundw
    case rel=>exact ⟨4,by first | rfl | go_num,by omega,mkHid (H5.out.1.set rfl (by rfl))⟩
    case measure=>simp [intOf]
   ·simp [snum] at hx
    subst hx
    go_wp2_with (go_at_call 139;(with_reducible refine HN.out.mono ?_);rintro r w5 ⟨rfl,hr5,k5⟩;have H5:=mkHid (HG.out.more HLT.out k5 hr5);have c5:w5.cell? ⟨w.heap.size + 1,4,none⟩ = some (.int .i64 0):=cell_of_block H5.out.2 rfl;have f5:w5.frozen? ⟨w.heap.size + 1,4,none⟩ = false:=frozen_of_block H5.out.2;clear hr5 k5)
    go_roundw
    case rel=>exact ⟨5,by first | rfl | go_num,by omega,mkHid (H5.out.1.set rfl (by rfl))⟩
    case measure=>simp [intOf]
  ·obtain rfl:j = 5:=by omega
   have hG:=HG.out
   obtain ⟨q0,q1,q2,q3,q4⟩:=rc_cells (show wr.heap[w.heap.size + 1]? = some (.cells #[.int .i64 p1,.int .i64 p2,.int .i64 a1,.int .i64 a2,.int .i64 c] 143 (0,0)) from hG.arr)
   have hd:bs.drop (encL (snum ⟨(p1,p2),(a1,a2),c,l⟩)).length = enc (bytesL l).length ++ bytesL l:=by rw [HBS.out,List.drop_left]
   have HD:=mkHid hd
   have HRR:Hid (Rr F wr p bs (encL (snum ⟨(p1,p2),(a1,a2),c,l⟩)).length):=mkHid hG.rr
   clear hG hd
   go_wp2_with (first
    |(go_at_call 151;(with_reducible refine (withHead_ok _ _ _ _ _ _).mono ?_);rintro r w6 ⟨rfl,b6⟩;have HB6:=mkHid b6;clear b6 q0 q1 q2 q3 q4)
    |(go_at_call 152;have hb7:Below wr.heap.size wr (w6.alloc (.cells #[.int .i64 p1,.int .i64 p2,.int .i64 a1,.int .i64 a2,.int .i64 c,.slice none 0 0] 96)):=ba HB6.out _;have HN:=getLedger_ok F _ p bs _ l eb es (HRR.out.below hb7) hl HD.out HF.out b0 HG0.out.1 HG0.out.2 (kc (HG.out.kp.cell HE.out.1 (fun f=>by have:=HG0.out.1 _ f;have:=HG0.out.2;simp only at *;omega)) hb7) (kc (HG.out.kp.cell HE.out.2 (fun f=>by have:=HG0.out.1 _ f;have:=HG0.out.2;simp only at *;omega)) hb7);(with_reducible refine HN.mono ?_);clear HN;rintro r w8 ⟨a8,c8,qs,rfl,e8,l8,r8,k8⟩;have HX8:Hid (GL F wr w6 w8 p bs [p1,p2,a1,a2,c] l a8 c8 qs):=mkHid ⟨e8,by simpa using l8,r8,k8,HB6.out⟩;have hX:=HX8.out.box HG.out;obtain ⟨x0,x1,x2,x3,x4,x5⟩:=st_cells hX.1;have y5:w8.frozen? ⟨w6.heap.size,5,none⟩ = false:=frozen_of_block hX.1;clear hX e8 l8 r8 k8 hb7)
    |(refine wpList_store_box rfl 96 (.tmp 2) (.tmp 34) rfl w.heap.size #[.int .i64 p1,.int .i64 p2,.int .i64 a1,.int .i64 a2,.int .i64 c,.slice a8 qs.length c8] rfl rfl 96 _ (HX8.out.res HG.out) size6 rfl (one6 _ _ _ _ _ _ _ _) ?_;intro w9 h9 k9))
   refine bodyPost_ret (six_leaves rfl h9 _ rfl) rfl ⟨a8,c8,qs,rfl,HX8.out.1,?_⟩
   exact HX8.out.fin HG.out k9
theorem box_late {w:World} {o:Obj} {w':World} (hb:Below (w.alloc o).heap.size (w.alloc o) w'):w'.heap[w.heap.size]? = some o:=(hb.block w.heap.size (by simp)).trans (heap_alloc_new w _)
theorem two_cells {w:World} {b:Nat} {x0 x1:Value} {T:TypeId} (h:w.heap[b]? = some (.cells #[x0,x1] T (0,0))):w.cell? ⟨b,0,none⟩ = some x0 ∧ w.cell? ⟨b,1,none⟩ = some x1:=⟨cell_of_block h rfl,cell_of_block h rfl⟩
theorem mayBe_ok (w:World) (b:Bl) (h:mayF b):Calls Tryz.prog 155 #[vB b] w fun e w'=>e = .returned (.bool true) ∧ Below w.heap.size w w':=by
 have HN:=fun W=>mkHid (isNone_any W b)
 have HL:=fun W=>mkHid (isLegal_any W b)
 have hq:noneB b = true ∨ (noneB b = false ∧ balB b = true):=by
  rcases h with e | e
  ·exact .inl (noneB_iff.mpr e)
  ·exact .inr ⟨noneB_no e.ne,balB_iff.mpr e⟩
 obtain ⟨q,hqe⟩:∃ q,q = noneB b:=⟨_,rfl⟩
 obtain ⟨r,hre⟩:∃ r,r = balB b:=⟨_,rfl⟩
 rw [← hqe,← hre] at hq
 rw [← hqe] at HN
 rw [← hre] at HL
 clear hqe hre h
 obtain ⟨b1,b2⟩:=b
 simp only [vB] at HN HL ⊢
 rcases hq with rfl | ⟨rfl,rfl⟩
 ·go_enter Tryz.func155,Tryz.ntmps155
  go_wp2_with (go_at_call 154;(with_reducible refine (HN _).out.mono ?_);rintro r1 w1 ⟨rfl,b1⟩;have HB1:=mkHid b1;clear b1)
  go_ret
  exact ⟨rfl,bt (ba (Below.refl _ w) _) HB1.out⟩
 ·go_enter Tryz.func155,Tryz.ntmps155
  go_wp2_with (first
   |(go_at_call 154;(with_reducible refine (HN _).out.mono ?_);rintro r1 w1 ⟨rfl,hb1⟩;have HB1:=mkHid hb1;obtain ⟨q0,q1⟩:=two_cells (box_late hb1);clear hb1)
   |(go_at_call 72;(with_reducible refine (HL _).out.mono ?_);rintro r2 w2 ⟨rfl,hb2⟩;have HB2:=mkHid hb2;clear hb2))
  go_ret
  exact ⟨rfl,bt (bt (ba (Below.refl _ w) _) HB1.out) HB2.out⟩
set_option maxHeartbeats 1600000 in
theorem inForm_ok (w:World) (s:Vs) (a:Option Addr) (n c:Nat) (h:s.ok) (hn:n = s.l.length):Calls Tryz.prog 125 #[vS s (.slice a n c)] w fun e w'=>e = .returned (.bool true) ∧ Below w.heap.size w w':=by
 have HN:=fun W=>mkHid (isNone_any W s.a)
 have HP:=fun W=>mkHid (mayBe_ok W s.p h.p)
 have HA:=fun W=>mkHid (mayBe_ok W s.a h.a)
 have hq:(noneB s.a = true ∧ n = 0) ∨ noneB s.a = false:=by
  by_cases e:s.a = (0,0)
  ·exact .inl ⟨noneB_iff.mpr e,by rw [hn,h.n e];rfl⟩
  ·exact .inr (noneB_no e)
 obtain ⟨q,hqe⟩:∃ q,q = noneB s.a:=⟨_,rfl⟩
 rw [← hqe] at hq HN
 clear hqe h hn
 obtain ⟨⟨p1,p2⟩,⟨a1,a2⟩,c',l⟩:=s
 simp only [vB,vS] at HN HP HA ⊢
 rcases hq with ⟨rfl,rfl⟩ | rfl
 all_goals
  go_enter Tryz.func125,Tryz.ntmps125
  go_wp2_with (first
   |(go_at_call 154;(with_reducible refine (HN _).out.mono ?_);rintro r1 w1 ⟨rfl,hb1⟩;have HB1:=mkHid hb1;obtain ⟨q0,q1,q2,q3,q4,q5⟩:=st_cells (box_late hb1);clear hb1)
   |(go_at_call 155;(with_reducible refine (HP w1).out.mono ?_);rintro r2 w2 ⟨rfl,hb2⟩;have HB2:=mkHid (bt HB1.out hb2);clear hb2 q0 q1 q2 q3 q4 q5;obtain ⟨q0,q1,q2,q3,q4,q5⟩:=st_cells (box_late HB2.out))
   |(go_at_call 155;(with_reducible refine (HA w2).out.mono ?_);rintro r3 w3 ⟨rfl,hb3⟩;have HB3:=mkHid (bt HB2.out hb3);clear hb3 q0 q1 q2 q3 q4 q5))
  go_ret
  exact ⟨rfl,bt (ba (Below.refl _ w) _) HB3.out⟩
def StP (w:World) (s:Vs) (r:Ending) (w':World):Prop:=∃ a k qs,r = .returned (.tuple #[vS s (.slice a qs.length k),.nilIface]) ∧ fs1 qs = s.l ∧ Led w.heap.size w' (.slice a qs.length k) qs ∧ Below w.heap.size w w'
structure SO (F:Nat → Prop) (w w1 w2:World) (p:Nat) (bs:List Int) (qs:List Ep) (lv:Value):Prop where
 b1:Below (w.alloc oZ6).heap.size (w.alloc oZ6) w1
 ge:∀ k,F k → (w.alloc oZ6).heap.size ≤ k
 kp:Kept F w1 w2
 rr:Rr F w2 p bs bs.length
 led:Led w1.heap.size w2 lv qs
theorem SO.bel {F:Nat → Prop} {w w1 w2:World} {p:Nat} {bs:List Int} {qs:List Ep} {lv:Value} (h:SO F w w1 w2 p bs qs lv):Below (w.alloc oZ6).heap.size (w.alloc oZ6) w2:=h.b1.trans (h.kp.below h.ge h.b1.size)
theorem SO.fin {F:Nat → Prop} {w w1 w2 w3 w9:World} {p:Nat} {bs:List Int} {qs:List Ep} {lv:Value} (h:SO F w w1 w2 p bs qs lv) (hb:Below w2.heap.size w2 w3) (hk:Kept (fun k=>k = w.heap.size) w3 w9):Led w.heap.size w9 lv qs ∧ Below w.heap.size w w9:=by
 have hs:=h.b1.size
 simp at hs
 have hb3:Below w.heap.size w w3:=bt (bt (ba (Below.refl _ w) oZ6) h.bel) hb
 exact ⟨((h.led.below hb).kept hk (fun k e=>.inl (by omega))).up (by omega),hb3.trans (hk.below (fun k e=>by omega) hb3.size)⟩
theorem SO.res {F:Nat → Prop} {w w1 w2 w3:World} {p:Nat} {bs:List Int} {qs:List Ep} {lv:Value} (h:SO F w w1 w2 p bs qs lv) (hb:Below w2.heap.size w2 w3):w3.heap[w.heap.size]? = some oZ6:=by
 have hs:=h.bel.size
 simp at hs
 rw [hb.block _ (by omega)]
 exact box_late h.bel
set_option maxHeartbeats 6400000 in
theorem stateOf_ok (w:World) (v:Value) (s:Vs) (eb es:Addr) (h:Rd w v (bytesS s)) (hok:s.ok) (he:w.cell? ⟨4,0,none⟩ = some (vErr eb)) (hes:w.cell? ⟨15,0,none⟩ = some (vErr es)) :
  Calls Tryz.prog 81 #[v] w (StP w s):=by
 have hl:((bytesS s).length:Int) ≤ 140737488355328:=by have:=bytesS_len hok;omega
 have hg1:=World.block_lt_of_cell? w _ he
 have hg2:=World.block_lt_of_cell? w _ hes
 simp only at hg1 hg2
 have HG:=mkHid (And.intro (show 4 < (w.alloc oZ6).heap.size by simp;omega) (show 15 < (w.alloc oZ6).heap.size by simp;omega))
 have HE:=mkHid (And.intro (kl he oZ6) (kl hes oZ6))
 have HV:=mkHid (h.later (ba (Below.refl _ w) oZ6))
 have HOK:=mkHid hok
 obtain ⟨⟨p1,p2⟩,⟨a1,a2⟩,c,l⟩:=s
 clear h he hes hok hg1 hg2
 go_enter Tryz.func81,Tryz.ntmps81
 go_wp2_with (first
  |(go_at_call 122;have HN:=newReader_any _ v _ HV.out hl;(with_reducible refine HN.mono ?_);clear HN;rintro r w1 ⟨p,F,rfl,hr1,hF1,b1⟩;have HR1:=mkHid hr1;have HF1:=mkHid hF1;have HB1:=mkHid b1;clear hr1 hF1 b1)
  |(go_at_call 123;have HN:=getState_ok F w1 p ⟨(p1,p2),(a1,a2),c,l⟩ eb es HR1.out HOK.out _ HF1.out HG.out (kc HE.out.1 HB1.out) (kc HE.out.2 HB1.out);(with_reducible refine HN.mono ?_);clear HN;rintro r w2 ⟨a,k,qs,rfl,e2,l2,r2,k2⟩;have HSO:Hid (SO F w w1 w2 p (bytesS ⟨(p1,p2),(a1,a2),c,l⟩) qs (.slice a qs.length k)):=mkHid ⟨HB1.out,HF1.out,k2,r2,l2⟩;have HQ:=mkHid e2;simp only [vS];clear e2 l2 r2 k2)
  |(go_at_call 124;have HN:=end_nil F _ p _ _ (HSO.out.rr.below (ba (Below.refl _ w2) (oS ⟨(p1,p2),(a1,a2),c,l⟩ (.slice a qs.length k)))) hl rfl;(with_reducible refine HN.mono ?_);clear HN;rintro r w3 ⟨rfl,nq,hw3⟩;have HB3:Hid (Below (w2.alloc (oS ⟨(p1,p2),(a1,a2),c,l⟩ (.slice a qs.length k))).heap.size (w2.alloc (oS ⟨(p1,p2),(a1,a2),c,l⟩ (.slice a qs.length k))) w3):=mkHid (by rw [hw3];exact drb (Below.refl _ _) nq);clear hw3;obtain ⟨q0,q1,q2,q3,q4,q5⟩:=st_cells (box_late HB3.out))
  |(go_at_call 125;have HN:=inForm_ok w3 ⟨(p1,p2),(a1,a2),c,l⟩ a qs.length k HOK.out (by rw [← HQ.out];simp [fs1]);(with_reducible refine HN.mono ?_);clear HN;rintro r w4 ⟨rfl,b4⟩;have HB4:=mkHid (bt HB3.out b4);clear b4 q0 q1 q2 q3 q4 q5;obtain ⟨q0,q1,q2,q3,q4,q5⟩:=st_cells (box_late HB4.out))
  |(refine wpList_store_box rfl 96 (.tmp 2) (.tmp 28) rfl w.heap.size #[.int .i64 p1,.int .i64 p2,.int .i64 a1,.int .i64 a2,.int .i64 c,.slice a qs.length k] rfl rfl 96 _ (HSO.out.res (bt (ba (Below.refl _ w2) _) HB4.out)) size6 rfl (one6 _ _ _ _ _ _ _ _) ?_;intro w9 h9 k9))
 refine bodyPost_ret (six_leaves rfl h9 _ rfl) rfl ⟨a,k,qs,rfl,HQ.out,?_⟩
 exact HSO.out.fin (bt (ba (Below.refl _ w2) _) HB4.out) k9
end Go.Proofs.YtihdkgekickohaaGreatDoor
