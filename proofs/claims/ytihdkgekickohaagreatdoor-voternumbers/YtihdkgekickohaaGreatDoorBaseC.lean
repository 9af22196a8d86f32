import Derived.Test.YtihdkgekickohaaGreatDoorBaseB
import Derived.Great.FillDense
import Derived.Great.BuildSlice
namespace Go.Proofs.YtihdkgekickohaaGreatDoor
open Go.ChangeShapes Go.WideShapes Go.ChangeAt Go.RowKit
set_option maxRecDepth 100000
theorem step_append_src65 {P:Program} {ops:Array Oper} {o:Oper} {a:Act} {w:World} {K:Act → World → Prop} {Q:Exit → Act → World → Prop} {E:Prop} (hgd:o.guard = none) (sl x:Operand) (t tx:TypeId)
  (hop:o.op = .call { callee:=.builtin .append,args:=#[sl,x],argTypes:=#[t,tx] })
  (base:Nat) (e:TypeId) (i:TypeInfo) (ht:P.underlying t = some (.slice e)) (hi:P.info? e = some i) (z:Value) (B:Nat) (hz:i.zero = some z) (hzs:z.cells.size = 65) (hsize:i.size = 65) (hby:i.bytes = B)
  (v:Value) (n:Nat) (xs:List Value) (hs:a.eval sl = v) (hown:w.ownsRow base e 65 v n xs) (xv:Value) (m:Nat) (news:List Value) (hx:a.eval x = xv) (hsrc:Src P 65 tx xv m news w)
  (h63:n + m ≤ maxLen) (hbytes:(n + m) * B ≤ 140737488355328) (hbase:base ≤ w.heap.size)
  (h:∀ v' w',w'.ownsRow base e 65 v' (n + m) (xs ++ news) → w.grownBy w' v.ownBlock → (v'.ownBlock = v.ownBlock ∨ v'.ownBlock = some w.heap.size) → K (a.put o.dst v') w') :
  if Region.wanted o (yielded ops a.tmps) = true then Oper.wp P o a w K Q else E:=by
 have hw:Region.wanted o (yielded ops a.tmps) = true:=by simp [Region.wanted,hgd]
 rw [if_pos hw]
 obtain ⟨v',w',hr,h2,h3,h4⟩:=run_append_own_src65 (P:=P) w base t tx o.type e i ht hi z B hz hzs hsize hby v n xs hown xv m news hsrc h63 hbytes hbase
 unfold Oper.wp execOp
 simp only [hop,resolve,invoke,builtin,Sem.run_bind,Sem.run_pure,Result.andThen_ok,List.map_toArray,List.map_cons,List.map_nil,hs,hx,hr]
 exact h v' w' h2 h3 h4
def zwrite:Value:=.agg (wcell (0,zeros)).toArray
theorem info67:(Tryz.prog.info? 113).map (fun i=>(i.zero,i.size,i.bytes)) = some (some zwrite,65,72):=by kernel_rfl
theorem size67:(Tryz.prog.info? 113).map (·.size) = some 65:=by kernel_rfl
theorem zero67 (w:World):(zeroValue 113).run Tryz.prog w = .ok zwrite w:=by
 obtain ⟨i,hi,h1,h2,h3⟩:=info_parts info67
 simp [zeroValue,typeInfo,hi,h1]
theorem build67 (w:World) (i:Int):(Instr.build 113 #[(0,.int .i64 i)]).run Tryz.prog w = .ok (.agg (wcell (i,zeros)).toArray) w:=by
 kernel_rfl
theorem wpList_build67 {w:World} {ops:Array Oper} {rest:List Oper} {o:Oper} {a:Act} {Q:Exit → Act → World → Prop} (hgd:o.guard = none) (x:Operand) (ho:o.op = .build 113 #[(0,x)]) (i:Int) (hx:a.eval x = .int .i64 i)
  (h:wpList Tryz.prog ops Q rest (a.put o.dst (.agg (wcell (i,zeros)).toArray)) w):wpList Tryz.prog ops Q (o :: rest) a w:=by
 refine wpList_plain hgd fun K hK=>?_
 have hb:=build67 w i
 unfold Oper.wp execOp
 simp only [ho,List.map_toArray,List.map_cons,List.map_nil,hx,Sem.run_bind,hb,Result.andThen_ok]
 exact hK _ _ h
theorem buildSlice67 (w:World) (x:Int × List Int) (hx:Sec x.2):(Instr.buildSlice 71 1 #[(0,.agg (wcell x).toArray)]).run Tryz.prog w = .ok (.slice (some ⟨w.heap.size,0,none⟩) 1 1) (w.alloc (.cells (wcell x).toArray 113)):=by
 obtain ⟨ie,hie,h1,h2,h3⟩:=info_parts info67
 have hlen:=wcell_len hx
 have hf:=Great.fill_whole (s:=65) (by omega) [.agg (wcell x).toArray] ((Array.range (1 * 65)).map (zwrite.cells[· % zwrite.cells.size]!)) (fun v hv=>by simp at hv;subst hv;simp [Value.cells,hlen]) (by simp)
 refine run_buildSlice w 71 113 1 _ (wcell x).toArray ie zwrite Tryz.underlying71 hie h1 (by rw [h2];omega) (by rw [h2];omega) ?_
 rw [h2]
 simpa [Value.cells] using hf
theorem copy_write (w:World) (ty:TypeId) (i:Int) (s bs:List Int) (sb so sc:Nat) (hs:Sec s) (hl:bs.length = 64) (hsb:sb < w.heap.size) (hcell:∀ k,k < bs.length → w.cell? ⟨sb,so + k,none⟩ = some (.int .u8 (bs.getD k 0))) :
  (Builtin.copy_ #[74,74] ty #[.slice (some ⟨w.heap.size,1,none⟩) 64 64,.slice (some ⟨sb,so,none⟩) bs.length sc]).run Tryz.prog (w.alloc (.cells (wcell (i,s)).toArray 113)) = .ok (goInt bs.length) (w.alloc (.cells (wcell (i,bs)).toArray 113)):=by
 have hb:Below w.heap.size w (w.alloc (.cells (wcell (i,s)).toArray 113)):=(Below.refl _ _).alloc (Nat.le_refl _) _
 have hcl:(scells bs).length = bs.length:=by rw [scells,List.length_map]
 have hr:=run_copy_row (P:=Tryz.prog) (w.alloc (.cells (wcell (i,s)).toArray 113)) 74 74 ty 5 w.heap.size 1 64 64 ⟨sb,so,none⟩ bs.length sc (wcell (i,s)).toArray 113 (scells bs) Tryz.underlying74 sizeByte (heap_alloc_new w _) (by rw [hcl];exact (Nat.min_eq_left (by omega)).symm) (rd_src (fun k hk=>(hb.cell (p:=⟨sb,so + k,none⟩) hsb).trans (hcell k hk))) (by rw [hcl,List.size_toArray,wcell_len hs];omega) (scells_one _)
 rw [hr,World.setRow_alloc_new,hcl]
 have hd:(wcell (i,s)).drop (1 + bs.length) = []:=List.drop_eq_nil_of_le (by rw [wcell_len hs];omega)
 rw [List.toList_toArray,hd]
 simp [wcell]
theorem src_write (w:World) (x:Int × List Int) (hx:Sec x.2):Src Tryz.prog 65 71 (.slice (some ⟨w.heap.size,0,none⟩) 1 1) 1 (wcell x) (w.alloc (.cells (wcell x).toArray 113)):=by
 refine Src.ofSlice _ Tryz.underlying71 _ 1 1 _ (by rw [wcell_len hx]) (fun j u hj=>?_) (wcell_one x)
 rw [add_none,Nat.zero_add,cell_of_row _ w.heap.size j _ _ _ (heap_alloc_new w _)]
 simpa using hj
theorem step_buildSlice67 {ops:Array Oper} {o:Oper} {a:Act} {w:World} {K:Act → World → Prop} {Q:Exit → Act → World → Prop} {E:Prop} (hgd:o.guard = none) (x:Operand) (ho:o.op = .buildSlice 71 1 #[(0,x)]) (y:Int × List Int) (hy:Sec y.2) (hx:a.eval x = .agg (wcell y).toArray)
  (h:K (a.put o.dst (.slice (some ⟨w.heap.size,0,none⟩) 1 1)) (w.alloc (.cells (wcell y).toArray 113))):if Region.wanted o (yielded ops a.tmps) = true then Oper.wp Tryz.prog o a w K Q else E:=by
 have hw:Region.wanted o (yielded ops a.tmps) = true:=by simp [Region.wanted,hgd]
 rw [if_pos hw]
 have hb:=buildSlice67 w y hy
 unfold Oper.wp execOp
 simp only [ho,List.map_toArray,List.map_cons,List.map_nil,hx,Sem.run_bind,hb,Result.andThen_ok]
 exact h
theorem Dk.wrote {F:Nat → Prop} {w:World} {p:Nat} {n:Int} {f:Int → List Int} {c:List (Int × List Int)} {nw:Int} (h:Dk F w p n f c nw false) (i:Int) (bs:List Int) (hs:Sec bs) :
  ∃ mb cv,w.heap[p]? = some (.cells #[.int .i64 n,.map (some mb),cv,.int .i64 nw,.bool false] 73 (0,0)) ∧ w.ownsRow 0 113 65 cv c.length (wcells c) ∧ p < w.heap.size ∧
   ∀ (w4 w5:World) (v5:Value),Below w.heap.size w w4 → w4.grownBy w5 cv.ownBlock → (v5.ownBlock = cv.ownBlock ∨ v5.ownBlock = some w4.heap.size) → w5.ownsRow 0 113 65 v5 (c.length + 1) (wcells c ++ wcell (i,bs)) →
    w5.heap[p]? = some (.cells #[.int .i64 n,.map (some mb),cv,.int .i64 nw,.bool false] 73 (0,0)) ∧
    ∃ F',Dk F' ((w5.setCell ⟨p,2,none⟩ v5).setCell ⟨p,3,none⟩ (.int .i64 (nw + 1))) p n f (c ++ [(i,bs)]) (nw + 1) false ∧ (∀ k,F' k → F k ∨ w.heap.size ≤ k) ∧ Kept F w ((w5.setCell ⟨p,2,none⟩ v5).setCell ⟨p,3,none⟩ (.int .i64 (nw + 1))):=by
 obtain ⟨hF,hp,hc,mb,cv,hmb,hpm,hd,hM,hcv,ho⟩:=h
 refine ⟨mb,cv,hd,ho,hF p hp,fun w4 w5 v5 hb4 hg hv ho5=>?_⟩
 have hk5:Kept (fun k=>cv.ownBlock = some k) w w5:=(kept_below _ hb4).trans (Kept.grown hg (fun k hk=>hk)) (fun _ h=>.inl h)
 have hd5:w5.heap[p]? = some (.cells #[.int .i64 n,.map (some mb),cv,.int .i64 nw,.bool false] 73 (0,0)):=by
  rw [hk5.block p (hF p hp) (fun e=>(hcv p e).2.1 rfl)]
  exact hd
 have hM5:Ms w5 mb f:=hM.kept hk5 (fun e=>(hcv mb e).2.2 rfl)
 have k6:Kept (fun k=>k = p) w5 (w5.setCell ⟨p,2,none⟩ v5):=Kept.setCell (F:=fun k=>k = p) w5 (p:=⟨p,2,none⟩) rfl v5
 have k7:Kept (fun k=>k = p) (w5.setCell ⟨p,2,none⟩ v5) ((w5.setCell ⟨p,2,none⟩ v5).setCell ⟨p,3,none⟩ (.int .i64 (nw + 1))):=Kept.setCell (F:=fun k=>k = p) _ (p:=⟨p,3,none⟩) rfl _
 have k57:=k6.trans k7 (fun _ h=>.inl h)
 have hs4:=hb4.size
 have hs5:=hg.size
 have hs7:=k57.size
 have hpl:=hF p hp
 have hml:=hM.lt
 have hv5:∀ k,v5.ownBlock = some k → (F k ∨ w.heap.size ≤ k) ∧ k ≠ p ∧ k ≠ mb ∧ k < w5.heap.size:=by
  intro k hk
  have hlt:=(ho5.lt k hk).2
  rcases hv with e | e
  ·rw [e] at hk
   obtain ⟨a1,a2,a3⟩:=hcv k hk
   exact ⟨.inl a1,a2,a3,hlt⟩
  ·rw [e] at hk
   simp at hk
   exact ⟨.inr (by omega),by omega,by omega,hlt⟩
 refine ⟨hd5,fun k=>F k ∨ v5.ownBlock = some k,⟨fun k hk=>?_,.inl hp,fun x hx=>?_,mb,v5,.inl hmb,hpm,?_,hM5.kept k57 (fun e=>hpm e.symm),fun k hk=>⟨.inr hk,(hv5 k hk).2.1,(hv5 k hk).2.2.1⟩,?_⟩,fun k hk=>?_,?_⟩
 ·rcases hk with hk | hk
  ·have:=hF k hk;omega
  ·have:=(hv5 k hk).2.2.2;omega
 ·rcases List.mem_append.mp hx with hx | hx
  ·exact hc x hx
  ·simp at hx;subst hx;exact hs
 ·rw [heap_set (heap_set hd5)]
  simp
 ·rw [wcells_append,List.length_append]
  have:wcells [(i,bs)] = wcell (i,bs):=by simp [wcells]
  rw [this]
  exact own_keep65 ho5 k57 (fun k hk=>(hv5 k hk).2.1)
 ·rcases hk with hk | hk
  ·exact .inl hk
  ·exact (hv5 k hk).1
 ·exact (hk5.mono (fun k hk=>(hcv k hk).1)).trans k57 (fun k hk=>.inl (by rw [hk];exact hp))
set_option maxHeartbeats 3200000 in
theorem write_ok (F:Nat → Prop) (w:World) (p:Nat) (n:Int) (f:Int → List Int) (c:List (Int × List Int)) (nw i:Int) (v:Value) (bs:List Int) (h:Dk F w p n f c nw false) (h0:0 ≤ i) (hi:i < n) (hv:Rd w v bs) (hl:bs.length = 64) (hcl:c.length ≤ 1000000000000) (hnw:0 ≤ nw ∧ nw ≤ 1000000000000000) :
  Calls Tryz.prog 110 #[.pointer (some ⟨p,0,none⟩),.int .i64 i,v] w fun e w'=>e = .returned .nilIface ∧ ∃ F',Dk F' w' p n f (c ++ [(i,bs)]) (nw + 1) false ∧ (∀ k,F' k → F k ∨ w.heap.size ≤ k) ∧ Kept F w w':=by
 obtain ⟨sa,sc,rfl,hcap,_,hr⟩:=hv.2
 obtain ⟨sb,so,rfl,hsb,hcell⟩:=hr (by omega)
 have hcp:=copy_write w 3 i zeros bs sb so sc zeros_sec hl hsb hcell
 rw [hl] at hcp ⊢
 have HSB:Hid (Sec bs):=mkHid ⟨hl,hv.1⟩
 have HD:=mkHid h
 clear hv hr hcell h hl hcap
 go_enter Tryz.func110,Tryz.ntmps110
 go_wp2_with (first | (go_at_call 145;refine (refused_ok F w p n f c nw i HD.out h0 hi).mono ?_;rintro e w1 ⟨rfl,rfl⟩) | (refine wpList_build67 rfl (.tmp 19) rfl i rfl ?_) | (refine wpList_alloc_z rfl 113 rfl (wcell (0,zeros)).toArray (zero67 _) ?_) | (refine wpList_store_new rfl 113 (.tmp 8) (.tmp 20) rfl _ (wcell (i,zeros)) rfl rfl (by rw [wcell_len zeros_sec];exact size67) (by rw [List.size_toArray,wcell_len zeros_sec,wcell_len zeros_sec]) (wcell_one _) ?_))
 clear hcp
 obtain ⟨W2,hW2⟩:∃ W2,W2 = w1.alloc (.cells (wcell (i,bs)).toArray 113):=⟨_,rfl⟩
 have hb2:Below w1.heap.size w1 W2:=by rw [hW2];exact (Below.refl _ w1).alloc (Nat.le_refl _) _
 have hrg:W2.rangeAt w1.heap.size 0 (wcell (i,bs)):=fun j v hj=>by
  rw [hW2,Nat.zero_add,cell_of_row _ w1.heap.size j _ _ _ (heap_alloc_new w1 _)]
  simpa using hj
 rw [← hW2]
 clear hW2
 obtain ⟨mb,cv,hd,ho,hpl,hfin⟩:=HD.out.wrote i bs HSB.out
 have hd2:W2.heap[p]? = some (.cells #[.int .i64 n,.map (some mb),cv,.int .i64 nw,.bool false] 73 (0,0)):=by rw [hb2.block p hpl];exact hd
 have d2:W2.cell? ⟨p,2,none⟩ = some cv:=cell_of_block hd2 rfl
 have HO:Hid (W2.drew.ownsRow 0 113 65 cv c.length (wcells c)):=mkHid (own_keep65 (own_keep65 ho (kept_below (fun _=>False) hb2) (fun _ _ h=>h)) (Kept.drew (fun _=>False) W2) (fun _ _ h=>h))
 have HFIN:=mkHid hfin
 have HCV:Hid (∀ k,cv.ownBlock = some k → k < w1.heap.size):=mkHid (fun k hk=>(ho.lt k hk).2)
 have HB2:=mkHid hb2
 have hu67:=Tryz.underlying113
 have hi67:(Tryz.prog.info? 113).map (·.size) = some (wcell (i,bs)).length:=by rw [wcell_len HSB.out];exact size67
 obtain ⟨ie,hie⟩:∃ ie,Hid (Tryz.prog.info? 113 = some ie ∧ ie.zero = some zwrite ∧ ie.size = 65 ∧ ie.bytes = 72):=by
  obtain ⟨ie,h1,h2,h3,h4⟩:=info_parts info67
  exact ⟨ie,mkHid ⟨h1,h2,h3,h4⟩⟩
 have HLN:Hid (c.length + 1 ≤ maxLen ∧ (c.length + 1) * 72 ≤ 140737488355328):=mkHid ⟨by unfold maxLen;omega,by omega⟩
 have HZ:Hid (zwrite.cells.size = 65):=mkHid rfl
 clear hfin ho hb2 hd hsb hd2
 refine wp_region_held_drew (S:=fun w'=>w'.rangeAt w1.heap.size 0 (wcell (i,bs))) (by kernel_rfl) hrg (fun hHeld=>?_)
 refine wpAnyH_take (i:=5) (v:=.agg (wcell (i,bs)).toArray) rfl (by kernel_rfl) (by kernel_rfl) (by kernel_rfl) (fun _ _ _ h=>h) (yieldsIf_load_mid (by rfl) _ _ rfl _ _ rfl (wcell (i,bs)) _ (fun _ h=>h) hu67 rfl hi67) hHeld ?_
 simp only [Act.put]
 refine wpAnyH_take (i:=0) (v:=.pointer (some ⟨p,0,none⟩)) rfl (by kernel_rfl) (by kernel_rfl) (by kernel_rfl) (fun _ _ _ h=>h) (Or.inl ⟨by rfl,by intro w hSw;go_simp⟩) hHeld ?_
 simp only [Act.put]
 refine wpAnyH_take (i:=1) (v:=.pointer (some ⟨p,0,none⟩)) rfl (by kernel_rfl) (by kernel_rfl) (by kernel_rfl) (fun _ _ _ h=>h) (Or.inl ⟨by rfl,by intro w hSw;go_simp⟩) hHeld ?_
 simp only [Act.put]
 refine wpAnyH_take (i:=2) (v:=.pointer (some ⟨p,0,none⟩)) rfl (by kernel_rfl) (by kernel_rfl) (by kernel_rfl) (fun _ _ _ h=>h) (Or.inl ⟨by rfl,by intro w hSw;go_simp⟩) hHeld ?_
 simp only [Act.put]
 refine wpAnyH_take (i:=3) (v:=.pointer (some ⟨p,2,none⟩)) rfl (by kernel_rfl) (by kernel_rfl) (by kernel_rfl) (fun _ _ _ h=>h) (Or.inl ⟨by rfl,by intro w hSw;go_simp⟩) hHeld ?_
 simp only [Act.put]
 have d2d:W2.drew.cell? ⟨p,2,none⟩ = some cv:=d2
 have S6:(W2.drew.alloc (.cells (wcell (i,bs)).toArray 113)).rangeAt w1.heap.size 0 (wcell (i,bs)):=World.rangeAt_alloc hHeld _
 have d6:(W2.drew.alloc (.cells (wcell (i,bs)).toArray 113)).cell? ⟨p,2,none⟩ = some cv:=(Kept.alloc (fun _=>False) W2.drew _).cell d2d (fun h=>h)
 obtain ⟨W4,hW4⟩:∃ W4,W4 = W2.drew.alloc (.cells (wcell (i,bs)).toArray 113):=⟨_,rfl⟩
 have hsrc:=src_write W2.drew (i,bs) HSB.out
 have ho4:=HO.out.alloc (.cells (wcell (i,bs)).toArray 113)
 have hb4:Below w1.heap.size w1 (W2.drew.alloc (.cells (wcell (i,bs)).toArray 113)):=(HB2.out.drew).alloc (by have:=HB2.out.size;exact this) _
 rw [← hW4] at S6 d6 hsrc ho4 hb4
 have HSRC:=mkHid hsrc
 have HO4:=mkHid ho4
 have HB4:=mkHid hb4
 have HS6:=mkHid S6
 have HW4:=mkHid hW4
 have h4:W2.drew.heap.size = W2.heap.size:=rfl
 clear hsrc ho4 hb4 hW4
 refine wpAnyH_ready (rs:=[4,6]) (by kernel_rfl) (by simp) (AllReadyH.cons rfl (fun K hK=>?_) (AllReadyH.cons rfl (fun K hK=>?_) AllReadyH.nil))
 ·go_simp
  refine hK.out _ _ hHeld (fun hHeld=>?_)
  clear hK K
  refine wpAnyH_ready (rs:=[6]) (by kernel_rfl) (by simp) (AllReadyH.cons rfl (fun K hK=>?_) AllReadyH.nil)
  refine step_buildSlice67 (w:=W2.drew) rfl (.tmp 30) rfl (i,bs) HSB.out (by simp [Act.eval]) ?_
  rw [← HW4.out]
  refine hK.out _ _ HS6.out (fun hHeld=>?_)
  clear hK K
  simp only [Act.put]
  refine wpAnyH_ready (rs:=[7]) (by kernel_rfl) (by simp) (AllReadyH.cons rfl (fun K hK=>?_) AllReadyH.nil)
  refine step_append_src65 (w:=W4) rfl (.tmp 29) (.tmp 31) 71 71 rfl 0 113 ie Tryz.underlying71 hie.out.1 zwrite 72 hie.out.2.1 HZ.out hie.out.2.2.1 hie.out.2.2.2 cv c.length (wcells c) (by simp [Act.eval]) HO4.out (.slice (some ⟨W2.drew.heap.size,0,none⟩) 1 1) 1 (wcell (i,bs)) (by simp [Act.eval]) HSRC.out HLN.out.1 HLN.out.2 (Nat.zero_le _) ?_
  intro v5 w5 ho5 hg5 hv5
  obtain ⟨hd5,F',hD7,hF7,hK7⟩:=HFIN.out _ w5 v5 HB4.out hg5 hv5 ho5
  have e2:w5.cell? ⟨p,2,none⟩ = some cv:=cell_of_block hd5 rfl
  have e3:w5.cell? ⟨p,3,none⟩ = some (.int .i64 nw):=cell_of_block hd5 rfl
  have g2:w5.frozen? ⟨p,2,none⟩ = false:=frozen_of_block hd5
  have g3:w5.frozen? ⟨p,3,none⟩ = false:=frozen_of_block hd5
  have S7:w5.rangeAt w1.heap.size 0 (wcell (i,bs)):=fun j v hj=>(Kept.grown hg5 (F:=fun k=>cv.ownBlock = some k) (fun k hk=>hk)).cell (hHeld j v hj) (fun e=>absurd (HCV.out _ e) (Nat.lt_irrefl _))
  obtain ⟨g5,c5,rfl⟩:∃ g cap,v5 = .slice (some ⟨g,0,none⟩) (c.length + 1) cap:=by
   rcases ho5.2 with ⟨_,h0⟩ | ⟨g,cap,_,hv,_⟩
   ·omega
   ·exact ⟨g,cap,hv⟩
  have HD7:=mkHid hD7
  have HF7:=mkHid hF7
  have HK7:=mkHid hK7
  have hwr:wrap64 (nw + 1) = nw + 1:=by unfold wrap64;omega
  refine hK.out _ _ S7 (fun hHeld=>?_)
  clear hK K hD7 hF7 hK7 hd5 ho5 hg5 hv5 HFIN HO d2 hrg d6 S6 d2d
  simp only [Act.put]
  refine wpAnyH_take (i:=8) (v:=.pointer (some ⟨p,0,none⟩)) rfl (by kernel_rfl) (by kernel_rfl) (by kernel_rfl) (fun _ _ _ h=>h) (Or.inl ⟨by rfl,by intro w hSw;go_simp⟩) hHeld ?_
  simp only [Act.put]
  refine wpAnyH_take (i:=9) (v:=.pointer (some ⟨p,2,none⟩)) rfl (by kernel_rfl) (by kernel_rfl) (by kernel_rfl) (fun _ _ _ h=>h) (Or.inl ⟨by rfl,by intro w hSw;go_simp⟩) hHeld ?_
  simp only [Act.put]
  refine wpAnyH_ready (rs:=[10]) (by kernel_rfl) (by simp) (AllReadyH.cons rfl (fun K hK=>?_) AllReadyH.nil)
  go_simp
  refine hK.out _ _ (fun j v hj=>(Kept.setCell (F:=fun k=>k = p) w5 (p:=⟨p,2,none⟩) rfl _).cell (hHeld j v hj) (show ¬ w1.heap.size = p by omega)) (fun _=>?_)
  clear hK K hHeld
  refine wpAnyH_done (by kernel_rfl) ?_ _
  go_wp2
  go_ret
  exact ⟨rfl,F',HD7.out,HF7.out,HK7.out⟩
 ·refine step_buildSlice67 (w:=W2.drew) rfl (.tmp 30) rfl (i,bs) HSB.out (by simp [Act.eval]) ?_
  rw [← HW4.out]
  refine hK.out _ _ HS6.out (fun hHeld=>?_)
  clear hK K
  simp only [Act.put]
  refine wpAnyH_ready (rs:=[4]) (by kernel_rfl) (by simp) (AllReadyH.cons rfl (fun K hK=>?_) AllReadyH.nil)
  go_simp
  refine hK.out _ _ hHeld (fun hHeld=>?_)
  clear hK K
  refine wpAnyH_ready (rs:=[7]) (by kernel_rfl) (by simp) (AllReadyH.cons rfl (fun K hK=>?_) AllReadyH.nil)
  refine step_append_src65 (w:=W4) rfl (.tmp 29) (.tmp 31) 71 71 rfl 0 113 ie Tryz.underlying71 hie.out.1 zwrite 72 hie.out.2.1 HZ.out hie.out.2.2.1 hie.out.2.2.2 cv c.length (wcells c) (by simp [Act.eval]) HO4.out (.slice (some ⟨W2.drew.heap.size,0,none⟩) 1 1) 1 (wcell (i,bs)) (by simp [Act.eval]) HSRC.out HLN.out.1 HLN.out.2 (Nat.zero_le _) ?_
  intro v5 w5 ho5 hg5 hv5
  obtain ⟨hd5,F',hD7,hF7,hK7⟩:=HFIN.out _ w5 v5 HB4.out hg5 hv5 ho5
  have e2:w5.cell? ⟨p,2,none⟩ = some cv:=cell_of_block hd5 rfl
  have e3:w5.cell? ⟨p,3,none⟩ = some (.int .i64 nw):=cell_of_block hd5 rfl
  have g2:w5.frozen? ⟨p,2,none⟩ = false:=frozen_of_block hd5
  have g3:w5.frozen? ⟨p,3,none⟩ = false:=frozen_of_block hd5
  have S7:w5.rangeAt w1.heap.size 0 (wcell (i,bs)):=fun j v hj=>(Kept.grown hg5 (F:=fun k=>cv.ownBlock = some k) (fun k hk=>hk)).cell (hHeld j v hj) (fun e=>absurd (HCV.out _ e) (Nat.lt_irrefl _))
  obtain ⟨g5,c5,rfl⟩:∃ g cap,v5 = .slice (some ⟨g,0,none⟩) (c.length + 1) cap:=by
   rcases ho5.2 with ⟨_,h0⟩ | ⟨g,cap,_,hv,_⟩
   ·omega
   ·exact ⟨g,cap,hv⟩
  have HD7:=mkHid hD7
  have HF7:=mkHid hF7
  have HK7:=mkHid hK7
  have hwr:wrap64 (nw + 1) = nw + 1:=by unfold wrap64;omega
  refine hK.out _ _ S7 (fun hHeld=>?_)
  clear hK K hD7 hF7 hK7 hd5 ho5 hg5 hv5 HFIN HO d2 hrg d6 S6 d2d
  simp only [Act.put]
  refine wpAnyH_take (i:=8) (v:=.pointer (some ⟨p,0,none⟩)) rfl (by kernel_rfl) (by kernel_rfl) (by kernel_rfl) (fun _ _ _ h=>h) (Or.inl ⟨by rfl,by intro w hSw;go_simp⟩) hHeld ?_
  simp only [Act.put]
  refine wpAnyH_take (i:=9) (v:=.pointer (some ⟨p,2,none⟩)) rfl (by kernel_rfl) (by kernel_rfl) (by kernel_rfl) (fun _ _ _ h=>h) (Or.inl ⟨by rfl,by intro w hSw;go_simp⟩) hHeld ?_
  simp only [Act.put]
  refine wpAnyH_ready (rs:=[10]) (by kernel_rfl) (by simp) (AllReadyH.cons rfl (fun K hK=>?_) AllReadyH.nil)
  go_simp
  refine hK.out _ _ (fun j v hj=>(Kept.setCell (F:=fun k=>k = p) w5 (p:=⟨p,2,none⟩) rfl _).cell (hHeld j v hj) (show ¬ w1.heap.size = p by omega)) (fun _=>?_)
  clear hK K hHeld
  refine wpAnyH_done (by kernel_rfl) ?_ _
  go_wp2
  go_ret
  exact ⟨rfl,F',HD7.out,HF7.out,HK7.out⟩
def lay1 (g:Int → List Int) (x:Int × List Int):Int → List Int:=updI g x.1 (laid (g x.1) x.2)
def flushed (f:Int → List Int) (c:List (Int × List Int)):Int → List Int:=c.foldl lay1 f
theorem flushed_snoc (f:Int → List Int) (c:List (Int × List Int)) (j:Nat) (x:Int × List Int) (h:c[j]? = some x):flushed f (c.take (j + 1)) = lay1 (flushed f (c.take j)) x:=by
 rw [List.take_add_one,h]
 simp [flushed]
structure Mid5 (F:Nat → Prop) (w wr:World) (p mb:Nat) (n:Int) (cv:Value) (nw:Int) (lost:Bool) (c:List (Int × List Int)) (f:Int → List Int):Prop where
 hd:wr.heap[p]? = some (.cells #[.int .i64 n,.map (some mb),cv,.int .i64 nw,.bool lost] 73 (0,0))
 ms:Ms wr mb f
 ho:wr.ownsRow 0 113 65 cv c.length (wcells c)
 kp:Kept F w wr
 cv:∀ k,cv.ownBlock = some k → k ≠ mb ∧ k < wr.heap.size
 pm:p ≠ mb
 sec:∀ x ∈ c,Sec x.2
theorem Mid5.later {F:Nat → Prop} {w wr w':World} {p mb:Nat} {n:Int} {cv:Value} {nw:Int} {lost:Bool} {c:List (Int × List Int)} {f:Int → List Int} (h:Mid5 F w wr p mb n cv nw lost c f) (hb:Below wr.heap.size wr w'):Mid5 F w w' p mb n cv nw lost c f:=by
 have hp:=(Array.getElem?_eq_some_iff.1 h.hd).1
 exact ⟨by rw [hb.block p hp];exact h.hd,h.ms.kept (kept_of_below hb) (by have:=h.ms.lt;omega),own_keep65 h.ho (kept_of_below hb) (fun k hk=>by have:=(h.cv k hk).2;omega),h.kp.trans (kept_below F hb) (fun _ h=>.inl h),fun k hk=>⟨(h.cv k hk).1,Nat.lt_of_lt_of_le (h.cv k hk).2 hb.size⟩,h.pm,h.sec⟩
theorem Mid5.laid {F:Nat → Prop} {w wr w':World} {p mb:Nat} {n:Int} {cv:Value} {nw:Int} {lost:Bool} {c:List (Int × List Int)} {f f':Int → List Int} (h:Mid5 F w wr p mb n cv nw lost c f) (hm:F mb) (hM:Ms w' mb f') (hk:Kept (fun j=>j = mb) wr w'):Mid5 F w w' p mb n cv nw lost c f':=by
 have hp:=(Array.getElem?_eq_some_iff.1 h.hd).1
 exact ⟨by rw [hk.block p hp h.pm];exact h.hd,hM,own_keep65 h.ho hk (fun k e=>(h.cv k e).1),h.kp.trans hk (fun k e=>.inl (by rw [e];exact hm)),fun k e=>⟨(h.cv k e).1,Nat.lt_of_lt_of_le (h.cv k e).2 hk.size⟩,h.pm,h.sec⟩
theorem Mid5.range {F:Nat → Prop} {w wr:World} {p mb:Nat} {n:Int} {cv:Value} {nw:Int} {lost:Bool} {c:List (Int × List Int)} {f:Int → List Int} (h:Mid5 F w wr p mb n cv nw lost c f) {g cap:Nat} (hv:cv = .slice (some ⟨g,0,none⟩) c.length cap) {j:Nat} {x:Int × List Int} (hx:c[j]? = some x):wr.rangeAt g (j * 65) (wcell x):=by
 intro k v hk
 subst hv
 have:=h.ho.cells (g:=g) rfl (j * 65 + k) v (wcells_at c h.sec j x hx k v hk)
 rwa [add_none,Nat.zero_add] at this
theorem rd_write (w:World) (x:Int × List Int) (hx:Sec x.2):Rd (w.alloc (.cells (wcell x).toArray 113)) (.slice (some ⟨w.heap.size,1,none⟩) 64 64) x.2:=by
 refine ⟨hx.byts,some ⟨w.heap.size,1,none⟩,64,by rw [hx.len],by rw [hx.len];exact Nat.le_refl _,fun e=>by simp at e,fun _=>⟨w.heap.size,1,rfl,by simp,fun k hk=>?_⟩⟩
 rw [cell_of_row _ w.heap.size (1 + k) _ _ _ (heap_alloc_new w _)]
 simp [wcell,scells,Nat.add_comm 1 k,List.getD,hk]
set_option maxHeartbeats 6400000 in
theorem flush_ok (F:Nat → Prop) (w:World) (p:Nat) (n:Int) (f:Int → List Int) (c:List (Int × List Int)) (nw:Int) (h:Dk F w p n f c nw false) (hcl:c.length ≤ 1000000000000) :
  Calls Tryz.prog 111 #[.pointer (some ⟨p,0,none⟩)] w fun e w'=>e = .returned .nilIface ∧ Dk F w' p n (flushed f c) [] nw false ∧ Kept F w w':=by
 obtain ⟨hF,hp,hc,mb,cv,hmb,hpm,hd,hM,hcv,ho⟩:=h
 have HM0:Hid (Mid5 F w w p mb n cv nw false c f):=mkHid ⟨hd,hM,ho,Kept.refl F w,fun k hk=>⟨(hcv k hk).2.2,hF k (hcv k hk).1⟩,hpm,hc⟩
 have HF:Hid ((∀ k,F k → k < w.heap.size) ∧ F p ∧ F mb):=mkHid ⟨hF,hp,hmb⟩
 have c4:w.cell? ⟨p,4,none⟩ = some (.bool false):=cell_of_block hd rfl
 have c2:w.cell? ⟨p,2,none⟩ = some cv:=cell_of_block hd rfl
 have hsh:∃ a cap,cv = .slice a c.length cap ∧ (0 < c.length → ∃ g,a = some ⟨g,0,none⟩):=by
  rcases ho.2 with ⟨e,h0⟩ | ⟨g,cap,_,e,_⟩
  ·exact ⟨none,0,by rw [e,h0],fun h=>by omega⟩
  ·exact ⟨_,cap,e,fun _=>⟨g,rfl⟩⟩
 obtain ⟨sa,cap,rfl,hsa⟩:=hsh
 have hci:(c.length:Int) ≤ 1000000000000:=by omega
 clear hF hp hc hmb hpm hd hM hcv ho
 go_enter Tryz.func111,Tryz.ntmps111
 go_wp2
 go_loopw [15] (fun iv wr=>∃ j:Nat,iv = .int .i64 (j:Int) ∧ j ≤ c.length ∧ Mid5 F w wr p mb n (.slice sa c.length cap) nw false c (flushed f (c.take j))) (fun iv _=>c.length - (intOf iv).toNat)
 case atStart=>exact ⟨0,rfl,Nat.zero_le _,by simpa [flushed] using HM0.out⟩
 case round=>
  clear HM0
  obtain ⟨j,rfl,hj,hMid⟩:=hrel
  have HMid:=mkHid hMid
  clear hMid
  by_cases hlt:j < c.length
  ·obtain ⟨g,rfl⟩:=hsa (by omega)
   have hji:(j:Int) < c.length:=by omega
   have hx:c[j]? = some c[j]:=by simp [hlt]
   have hS:Sec (c[j]).2:=HMid.out.sec _ (by simp)
   have hstep:=flushed_snoc f c j _ hx
   have HR:=mkHid (HMid.out.range rfl hx)
   generalize c[j] = x at *
   have HS:=mkHid hS
   have HST:=mkHid hstep
   clear hx hS hstep
   go_wp2_with (first | (refine wpList_load_mid rfl 113 (.tmp 17) rfl g (j * 65) rfl (wcell x) _ HR.out Tryz.underlying113 rfl (by rw [wcell_len HS.out];exact size67) ?_) | (refine wpList_alloc_z rfl 113 rfl (wcell (0,zeros)).toArray (zero67 _) ?_) | (refine wpList_store_new rfl 113 (.tmp 4) (.tmp 18) rfl _ (wcell x) rfl rfl (by rw [wcell_len HS.out];exact size67) (by rw [List.size_toArray,wcell_len zeros_sec,wcell_len HS.out]) (wcell_one _) ?_))
   obtain ⟨W1,hW1⟩:∃ W1,W1 = wr.alloc (.cells (wcell x).toArray 113):=⟨_,rfl⟩
   have hb1:Below wr.heap.size wr W1:=by rw [hW1];exact (Below.refl _ wr).alloc (Nat.le_refl _) _
   have q0:W1.cell? ⟨wr.heap.size,0,none⟩ = some (.int .i64 x.1):=by
    rw [hW1,cell_of_row _ wr.heap.size 0 _ _ _ (heap_alloc_new wr _)]
    rfl
   have HRW:Hid (Rd W1.drew (.slice (some ⟨wr.heap.size,1,none⟩) 64 64) x.2):=mkHid (by
    have:=rd_write wr x HS.out
    rw [← hW1] at this
    exact this.later ⟨rfl,rfl,rfl,Nat.le_refl _,fun _ _=>rfl⟩)
   have HM1:=mkHid ((HMid.out.later hb1).later (show Below W1.heap.size W1 W1.drew from ⟨rfl,rfl,rfl,Nat.le_refl _,fun _ _=>rfl⟩))
   have HN:Hid (mb ≠ wr.heap.size):=mkHid (by have:=HMid.out.ms.lt;omega)
   rw [← hW1]
   simp only [Act.put]
   clear hW1 hb1 c4 c2
   go_region_held3 (fun w'=>w'.cell? ⟨wr.heap.size,0,none⟩ = some (.int .i64 x.1)) (go_keep) (first | (go_at_call 44;refine (lay_any W1.drew p mb _ x.1 _ x.2 (cell_of_block HM1.out.hd rfl) HM1.out.ms HRW.out (by rw [HS.out.len];omega) (by rw [HS.out.len];omega)).mono ?_;rintro e w2 ⟨rfl,hM2,hk2⟩;have HM2:=mkHid (HM1.out.laid HF.out.2.2 hM2 hk2);have q2:w2.cell? ⟨wr.heap.size,0,none⟩ = some (.int .i64 x.1):=hk2.cell (show W1.drew.cell? ⟨wr.heap.size,0,none⟩ = some (.int .i64 x.1) from q0) HN.out.symm;clear hM2 hk2))
   go_wp2
   go_roundw
   case rel=>exact ⟨j + 1,by go_num,by omega,by rw [HST.out];exact HM2.out⟩
   case measure=>simp [intOf];omega
  ·obtain rfl:j = c.length:=by omega
   have e2:wr.cell? ⟨p,2,none⟩ = some (.slice sa c.length cap):=cell_of_block HMid.out.hd rfl
   have g2:wr.frozen? ⟨p,2,none⟩ = false:=frozen_of_block HMid.out.hd
   clear c2 c4
   go_wp2
   go_ret
   have hm:=HMid.out
   rw [List.take_length] at hm
   have k7:Kept (fun k=>k = p) wr (wr.setCell ⟨p,2,none⟩ (.slice none 0 0)):=Kept.setCell (F:=fun k=>k = p) wr (p:=⟨p,2,none⟩) rfl _
   have hsz:=hm.kp.size
   refine ⟨rfl,⟨fun k hk=>by have:=HF.out.1 k hk;have:=k7.size;omega,HF.out.2.1,fun x hx=>by simp at hx,mb,.slice none 0 0,HF.out.2.2,hm.pm,?_,hm.ms.kept k7 (fun e=>hm.pm e.symm),fun k hk=>by simp [Value.ownBlock] at hk,World.ownsRow_nil _ _ _ _⟩,hm.kp.trans k7 (fun k hk=>.inl (by rw [hk];exact HF.out.2.1))⟩
   rw [heap_set hm.hd]
   simp
def kbit (keep:Int) (k:Nat):Bool:=!(bits .and .u64 (keep / 2 ^ (k % 64)) 1 == 0)
def crash1 (kb:Nat → Bool) (t:Int) (g:Int → List Int) (k:Nat) (x:Int × List Int):Int → List Int:=if kb k then updI g x.1 (laid (g x.1) (if (k:Int) = t then x.2.take 32 else x.2)) else g
def crashedTo (kb:Nat → Bool) (t:Int) (f:Int → List Int) (c:List (Int × List Int)):Nat → Int → List Int
 |0=>f
 |j + 1=>match c[j]? with
  |some x=>crash1 kb t (crashedTo kb t f c j) j x
  |none=>crashedTo kb t f c j
theorem crashedTo_succ (kb:Nat → Bool) (t:Int) (f:Int → List Int) (c:List (Int × List Int)) (j:Nat) (x:Int × List Int) (h:c[j]? = some x):crashedTo kb t f c (j + 1) = crash1 kb t (crashedTo kb t f c j) j x:=by
 simp [crashedTo,h]
theorem rd_write32 (w:World) (x:Int × List Int) (hx:Sec x.2):Rd (w.alloc (.cells (wcell x).toArray 113)) (.slice (some ⟨w.heap.size,1,none⟩) 32 64) (x.2.take 32):=by
 have hl:(x.2.take 32).length = 32:=by rw [List.length_take,hx.len];rfl
 refine ⟨fun b hb=>hx.byts b (List.mem_of_mem_take hb),some ⟨w.heap.size,1,none⟩,64,by rw [hl],by omega,fun e=>by simp at e,fun _=>⟨w.heap.size,1,rfl,by simp,fun k hk=>?_⟩⟩
 have hk2:k < x.2.length:=by rw [hx.len];omega
 have hk3:k < 32:=by omega
 rw [cell_of_row _ w.heap.size (1 + k) _ _ _ (heap_alloc_new w _)]
 simp [wcell,scells,Nat.add_comm 1 k,List.getD,hk2,hk3]
set_option maxHeartbeats 6400000 in
theorem crash_any (F:Nat → Prop) (w:World) (p:Nat) (n:Int) (f:Int → List Int) (c:List (Int × List Int)) (nw:Int) (lost:Bool) (keep torn:Int) (h:Dk F w p n f c nw lost) (hcl:c.length ≤ 1000000000000) :
  Calls Tryz.prog 20 #[.pointer (some ⟨p,0,none⟩),.int .u64 keep,.int .i64 torn] w fun e w'=>e = .returned (.tuple #[]) ∧ Dk F w' p n (crashedTo (kbit keep) torn f c c.length) [] nw lost ∧ Kept F w w':=by
 obtain ⟨hF,hp,hc,mb,cv,hmb,hpm,hd,hM,hcv,ho⟩:=h
 have HM0:Hid (Mid5 F w w p mb n cv nw lost c f):=mkHid ⟨hd,hM,ho,Kept.refl F w,fun k hk=>⟨(hcv k hk).2.2,hF k (hcv k hk).1⟩,hpm,hc⟩
 have HF:Hid ((∀ k,F k → k < w.heap.size) ∧ F p ∧ F mb):=mkHid ⟨hF,hp,hmb⟩
 have c2:w.cell? ⟨p,2,none⟩ = some cv:=cell_of_block hd rfl
 have hsh:∃ a cap,cv = .slice a c.length cap ∧ (0 < c.length → ∃ g,a = some ⟨g,0,none⟩):=by
  rcases ho.2 with ⟨e,h0⟩ | ⟨g,cap,_,e,_⟩
  ·exact ⟨none,0,by rw [e,h0],fun h=>by omega⟩
  ·exact ⟨_,cap,e,fun _=>⟨g,rfl⟩⟩
 obtain ⟨sa,cap,rfl,hsa⟩:=hsh
 have hci:(c.length:Int) ≤ 1000000000000:=by omega
 clear hF hp hc hmb hpm hd hM hcv ho
 go_enter Tryz.func20,Tryz.ntmps20
 go_wp2
 go_loopw [13] (fun iv wr=>∃ j:Nat,iv = .int .i64 (j:Int) ∧ j ≤ c.length ∧ Mid5 F w wr p mb n (.slice sa c.length cap) nw lost c (crashedTo (kbit keep) torn f c j)) (fun iv _=>c.length - (intOf iv).toNat)
 case atStart=>exact ⟨0,rfl,Nat.zero_le _,HM0.out⟩
 case round=>
  clear HM0
  obtain ⟨j,rfl,hj,hMid⟩:=hrel
  have HMid:=mkHid hMid
  clear hMid
  by_cases hlt:j < c.length
  ·obtain ⟨g,rfl⟩:=hsa (by omega)
   have hji:(j:Int) < c.length:=by omega
   have hx:c[j]? = some c[j]:=by simp [hlt]
   have hS:Sec (c[j]).2:=HMid.out.sec _ (by simp)
   have hstep:=crashedTo_succ (kbit keep) torn f c j _ hx
   have HR:=mkHid (HMid.out.range rfl hx)
   generalize c[j] = x at *
   have HS:=mkHid hS
   have HST:=mkHid hstep
   clear hx hS hstep
   by_cases hb:bits .and .u64 (keep / 2 ^ (j % 64)) 1 = 0
   ·have HC:Hid (crash1 (kbit keep) torn (crashedTo (kbit keep) torn f c j) j x = crashedTo (kbit keep) torn f c j):=mkHid (by simp [crash1,kbit,hb])
    go_wp2_with (first | (refine wpList_load_mid rfl 113 (.tmp 16) rfl g (j * 65) rfl (wcell x) _ HR.out Tryz.underlying113 rfl (by rw [wcell_len HS.out];exact size67) ?_) | (refine wpList_alloc_z rfl 113 rfl (wcell (0,zeros)).toArray (zero67 _) ?_) | (refine wpList_store_new rfl 113 (.tmp 7) (.tmp 17) rfl _ (wcell x) rfl rfl (by rw [wcell_len HS.out];exact size67) (by rw [List.size_toArray,wcell_len zeros_sec,wcell_len HS.out]) (wcell_one _) ?_))
    go_roundw
    case rel=>exact ⟨j + 1,by go_num,by omega,by rw [HST.out,HC.out];exact HMid.out.later ((Below.refl _ wr).alloc (Nat.le_refl _) _)⟩
    case measure=>simp [intOf];omega
   ·by_cases ht:(j:Int) = torn
    ·have HC:Hid (crash1 (kbit keep) torn (crashedTo (kbit keep) torn f c j) j x = updI (crashedTo (kbit keep) torn f c j) x.1 (laid (crashedTo (kbit keep) torn f c j x.1) (x.2.take 32))):=mkHid (by simp [crash1,kbit,hb,ht])
     have ht2:((j:Int) == torn) = true:=by simp [ht]
     clear ht
     go_wp2_with (first | (refine wpList_load_mid rfl 113 (.tmp 16) rfl g (j * 65) rfl (wcell x) _ HR.out Tryz.underlying113 rfl (by rw [wcell_len HS.out];exact size67) ?_) | (refine wpList_alloc_z rfl 113 rfl (wcell (0,zeros)).toArray (zero67 _) ?_) | (refine wpList_store_new rfl 113 (.tmp 7) (.tmp 17) rfl _ (wcell x) rfl rfl (by rw [wcell_len HS.out];exact size67) (by rw [List.size_toArray,wcell_len zeros_sec,wcell_len HS.out]) (wcell_one _) ?_))
     obtain ⟨W1,hW1⟩:∃ W1,W1 = wr.alloc (.cells (wcell x).toArray 113):=⟨_,rfl⟩
     have hb1:Below wr.heap.size wr W1:=by rw [hW1];exact (Below.refl _ wr).alloc (Nat.le_refl _) _
     have q0:W1.cell? ⟨wr.heap.size,0,none⟩ = some (.int .i64 x.1):=by
      rw [hW1,cell_of_row _ wr.heap.size 0 _ _ _ (heap_alloc_new wr _)]
      rfl
     have HRW:Hid (Rd W1.drew (.slice (some ⟨wr.heap.size,1,none⟩) 32 64) (x.2.take 32)):=mkHid (by
      have:=rd_write32 wr x HS.out
      rw [← hW1] at this
      exact this.later ⟨rfl,rfl,rfl,Nat.le_refl _,fun _ _=>rfl⟩)
     have HLL:Hid (1 ≤ (x.2.take 32).length ∧ (x.2.take 32).length ≤ 64):=mkHid (by have:=HS.out.len;simp [this])
     have HM1:=mkHid ((HMid.out.later hb1).later (show Below W1.heap.size W1 W1.drew from ⟨rfl,rfl,rfl,Nat.le_refl _,fun _ _=>rfl⟩))
     have HN:Hid (mb ≠ wr.heap.size):=mkHid (by have:=HMid.out.ms.lt;omega)
     rw [← hW1]
     clear hW1 hb1 c2
     go_region_held3 (fun w'=>w'.cell? ⟨wr.heap.size,0,none⟩ = some (.int .i64 x.1)) (go_keep) (first | (go_at_call 44;refine (lay_any W1.drew p mb _ x.1 _ (x.2.take 32) (cell_of_block HM1.out.hd rfl) HM1.out.ms HRW.out HLL.out.1 HLL.out.2).mono ?_;rintro e w2 ⟨rfl,hM2,hk2⟩;have HM2:=mkHid (HM1.out.laid HF.out.2.2 hM2 hk2);have q2:w2.cell? ⟨wr.heap.size,0,none⟩ = some (.int .i64 x.1):=hk2.cell (show W1.drew.cell? ⟨wr.heap.size,0,none⟩ = some (.int .i64 x.1) from q0) HN.out.symm;clear hM2 hk2))
     go_wp2
     go_roundw
     case rel=>exact ⟨j + 1,by go_num,by omega,by rw [HST.out,HC.out];exact HM2.out⟩
     case measure=>simp [intOf];omega
    ·have HC:Hid (crash1 (kbit keep) torn (crashedTo (kbit keep) torn f c j) j x = updI (crashedTo (kbit keep) torn f c j) x.1 (laid (crashedTo (kbit keep) torn f c j x.1) x.2)):=mkHid (by simp [crash1,kbit,hb,ht])
     go_wp2_with (first | (refine wpList_load_mid rfl 113 (.tmp 16) rfl g (j * 65) rfl (wcell x) _ HR.out Tryz.underlying113 rfl (by rw [wcell_len HS.out];exact size67) ?_) | (refine wpList_alloc_z rfl 113 rfl (wcell (0,zeros)).toArray (zero67 _) ?_) | (refine wpList_store_new rfl 113 (.tmp 7) (.tmp 17) rfl _ (wcell x) rfl rfl (by rw [wcell_len HS.out];exact size67) (by rw [List.size_toArray,wcell_len zeros_sec,wcell_len HS.out]) (wcell_one _) ?_))
     obtain ⟨W1,hW1⟩:∃ W1,W1 = wr.alloc (.cells (wcell x).toArray 113):=⟨_,rfl⟩
     have hb1:Below wr.heap.size wr W1:=by rw [hW1];exact (Below.refl _ wr).alloc (Nat.le_refl _) _
     have q0:W1.cell? ⟨wr.heap.size,0,none⟩ = some (.int .i64 x.1):=by
      rw [hW1,cell_of_row _ wr.heap.size 0 _ _ _ (heap_alloc_new wr _)]
      rfl
     have HRW:Hid (Rd W1.drew (.slice (some ⟨wr.heap.size,1,none⟩) 64 64) (x.2)):=mkHid (by
      have:=rd_write wr x HS.out
      rw [← hW1] at this
      exact this.later ⟨rfl,rfl,rfl,Nat.le_refl _,fun _ _=>rfl⟩)
     have HLL:Hid (1 ≤ (x.2).length ∧ (x.2).length ≤ 64):=mkHid (by have:=HS.out.len;simp [this])
     have HM1:=mkHid ((HMid.out.later hb1).later (show Below W1.heap.size W1 W1.drew from ⟨rfl,rfl,rfl,Nat.le_refl _,fun _ _=>rfl⟩))
     have HN:Hid (mb ≠ wr.heap.size):=mkHid (by have:=HMid.out.ms.lt;omega)
     rw [← hW1]
     clear hW1 hb1 c2
     go_region_held3 (fun w'=>w'.cell? ⟨wr.heap.size,0,none⟩ = some (.int .i64 x.1)) (go_keep) (first | (go_at_call 44;refine (lay_any W1.drew p mb _ x.1 _ (x.2) (cell_of_block HM1.out.hd rfl) HM1.out.ms HRW.out HLL.out.1 HLL.out.2).mono ?_;rintro e w2 ⟨rfl,hM2,hk2⟩;have HM2:=mkHid (HM1.out.laid HF.out.2.2 hM2 hk2);have q2:w2.cell? ⟨wr.heap.size,0,none⟩ = some (.int .i64 x.1):=hk2.cell (show W1.drew.cell? ⟨wr.heap.size,0,none⟩ = some (.int .i64 x.1) from q0) HN.out.symm;clear hM2 hk2))
     go_wp2
     go_roundw
     case rel=>exact ⟨j + 1,by go_num,by omega,by rw [HST.out,HC.out];exact HM2.out⟩
     case measure=>simp [intOf];omega
  ·obtain rfl:j = c.length:=by omega
   have e2:wr.cell? ⟨p,2,none⟩ = some (.slice sa c.length cap):=cell_of_block HMid.out.hd rfl
   have g2:wr.frozen? ⟨p,2,none⟩ = false:=frozen_of_block HMid.out.hd
   clear c2
   go_wp2
   go_end0
   have hm:=HMid.out
   have k7:Kept (fun k=>k = p) wr (wr.setCell ⟨p,2,none⟩ (.slice none 0 0)):=Kept.setCell (F:=fun k=>k = p) wr (p:=⟨p,2,none⟩) rfl _
   have hsz:=hm.kp.size
   refine ⟨rfl,⟨fun k hk=>by have:=HF.out.1 k hk;have:=k7.size;omega,HF.out.2.1,fun x hx=>by simp at hx,mb,.slice none 0 0,HF.out.2.2,hm.pm,?_,hm.ms.kept k7 (fun e=>hm.pm e.symm),fun k hk=>by simp [Value.ownBlock] at hk,World.ownsRow_nil _ _ _ _⟩,hm.kp.trans k7 (fun k hk=>.inl (by rw [hk];exact HF.out.2.1))⟩
   rw [heap_set hm.hd]
   simp
end Go.Proofs.YtihdkgekickohaaGreatDoor
