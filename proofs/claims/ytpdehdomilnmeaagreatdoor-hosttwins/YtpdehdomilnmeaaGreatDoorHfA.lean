import Derived.Test.YtpdehdomilnmeaaGreatDoorHsE
import Derived.Sort.QuietIn
namespace Go.Proofs.YtpdehdomilnmeaaGreatDoor
open Go.ChangeShapes Go.WideShapes Go.ChangeAt Go.RowKit
set_option maxRecDepth 100000
attribute [local go_sem] World.cell?_alloc_some fAs
set_option maxRecDepth 100000 in
set_option maxHeartbeats 25600000 in
theorem htree_is {B:Nat} {own:Nat->Int} {w:World} {b mb:Nat} {lay:Int->Option Lay} {nv gv wv:Value} {ps:List Np} {os:List Op} {hh:Hs} (H:HB B own w b mb lay nv gv wv ps os hh) (hs:hh.t.Sm 1000) :
  Calls Tryz.prog 18 #[pB b] w fun e w'=>∃ nv' gv' qs,e=.returned (vTr nv' gv' hh.t)/\TrO w.heap.size w' nv' gv' qs hh.t.gs/\nds qs=hh.t.ns/\Below w.heap.size w w':=by
 have h:TrW w nv gv ps hh.t:=TrO.trw H.tr hs H.te
 have b1:=cOb (i:=1) H.blk rfl
 have b2:=cOb (i:=2) H.blk rfl
 have b3:=cOb (i:=3) H.blk rfl
 have b4:=cOb (i:=4) H.blk rfl
 have hbl:=lOh H.blk
 clear H
 obtain⟨now,t,rvs,ws⟩:=hh
 simp only at h hs b1 b2 b3 b4 ⊢
 have hl:ps.length<=1000:=by have:=hs.n;rw [<- h.e,List.length_map] at this;exact this
 have hgl:=hs.g
 have HE:=mH h.e
 obtain⟨a1,cap,rfl,_⟩:=h.n.row.shape
 obtain⟨a2,cap2,rfl,_⟩:=h.g.shape
 have HN:Hid (∀ W,Below w.heap.size w W->Calls Tryz.prog 41 #[.slice a1 ps.length cap] W fun r w'=>∃ a2 c2,r=.returned (.slice a2 ps.length c2)/\w'.ownsRow W.heap.size 69 7 (.slice a2 ps.length c2) ps.length (ps.flatMap c7)/\Below W.heap.size W w'):=mH (fun W hW=>cloneN_any W a1 cap ps (fun X hX=>RowIn.src Tryz.underlying27 (by omega) c7_len one7 (h.n.row.below (bt hW hX))) (fun e=>row_nil h.n.row e) (by omega))
 have HG:Hid (∀ W,Below w.heap.size w W->Calls Tryz.prog 42 #[.slice a2 t.gs.length cap2] W fun r w'=>∃ a3 c3,r=.returned (.slice a3 t.gs.length c3)/\w'.ownsRow W.heap.size 111 5 (.slice a3 t.gs.length c3) t.gs.length (t.gs.flatMap c5)/\Below W.heap.size W w'):=mH (fun W hW=>cloneG_any W a2 cap2 t.gs (fun X hX=>RowIn.src Tryz.underlying28 (by omega) c5_len one5 (h.g.below (bt hW hX))) (fun e=>row_nil h.g e) (by omega))
 have HC:Hid (∀ x ∈ ps,∀ W,Below w.heap.size w W->Calls Tryz.prog 28 #[tvN x] W fun r w'=>∃ a2 c2,r=.returned (.slice a2 x.1.ts.length c2)/\w'.ownsRow W.heap.size 45 4 (.slice a2 x.1.ts.length c2) x.1.ts.length (x.1.ts.flatMap c4)/\Below W.heap.size W w'):=mH (fun x hx W hW=>by
  have ht:=(h.n.tk x hx).1.below hW
  have h8:=hs.s x.1 (by rw [<- h.e];exact List.mem_map.mpr ⟨x,hx,rfl⟩)
  obtain⟨⟨id,pa,⟨k,q,T⟩,po,ts⟩,a,cap⟩:=x
  simp only [tvN] at ht h8 ⊢
  exact cloneT_any W a cap ts (fun X hX=>(ht.below hX).src) (fun e=>tks_nil ht e) (by omega))
 clear h hs
 go_enter Tryz.func18,Tryz.ntmps18
 go_wp2_with (go_at_call 41;refine(HN.out _ (ba (ba (Below.refl _ w) _) _)).mono ?_;rintro r w1 ⟨na,nc,rfl,ho1,hb1⟩;obtain⟨hy,hx,hbb⟩:=new_two hb1;obtain⟨c0,c1,c2,c3⟩:=four hx;have f0:w1.frozen? ⟨w.heap.size+1,0,none⟩=false:=fOb hx;have HX:=mH (And.intro hx hy);have HB:=mH hbb;have HO:=mH ho1;clear hb1 hx hy hbb ho1)
 obtain⟨W,hW⟩:∃ W,W=w1.setCell ⟨w.heap.size+1,0,none⟩ (.slice na ps.length nc):=⟨_,rfl⟩
 have hkW:=Kept.setCell (F:=fun k=>k=w.heap.size+1) w1 (p:=⟨w.heap.size+1,0,none⟩) rfl (.slice na ps.length nc)
 have HX2:Hid (W.heap[w.heap.size+1]?=some (.cells #[.slice na ps.length nc,.slice a2 t.gs.length cap2,.int .i64 t.last,.int .i64 t.now] 30 (0,0))/\W.heap[w.heap.size]?=some (.cells #[.slice none 0 0,.slice none 0 0,.int .i64 0,.int .i64 0] 30 (0,0))):=mH (by
  rw [hW]
  exact⟨hSt HX.out.1,(hkW.block _ (lOh HX.out.2) (by omega)).trans HX.out.2⟩)
 have HB2:Hid (Below w.heap.size w W):=mH (by rw [hW];exact HB.out.trans (hkW.below (fun k e=>by omega) HB.out.size))
 have HCP:Hid (Cp w.heap.size W (.slice na ps.length nc) ps [] 0 (fun k=>k=w.heap.size ∨ k=w.heap.size+1)):=mH ⟨by
  rw [hW,List.nil_append,List.drop_zero]
  exact own_lower (oNk HO.out hkW (fun k e1 e2=>by have:=(HO.out.lt k e1).1;simp at this;omega)) (by simp;omega),fun x hx=>by simp at hx,by simp,Nat.zero_le _⟩
 have HNB:Hid (∀ k,(Value.slice na ps.length nc).ownBlock=some k->w.heap.size+2<=k):=mH (fun k e=>by have:=(HO.out.lt k e).1;simp at this;omega)
 rw [<- hW]
 clear hW hkW HX HB HO c0 c1 c2 c3 f0 b1 b2 b3 b4 hbl
 go_loopw [17] (fun iv wr=>∃ (j:Nat) (qs:List Np),iv=.int .i64 (j:Int)/\j<=ps.length/\Hid (Cp w.heap.size wr (.slice na ps.length nc) ps qs j (fun k=>k=w.heap.size ∨ k=w.heap.size+1))/\Hid (Below w.heap.size w wr)/\Hid (wr.heap[w.heap.size+1]?=some (.cells #[.slice na ps.length nc,.slice a2 t.gs.length cap2,.int .i64 t.last,.int .i64 t.now] 30 (0,0))/\wr.heap[w.heap.size]?=some (.cells #[.slice none 0 0,.slice none 0 0,.int .i64 0,.int .i64 0] 30 (0,0)))) (fun iv _=>ps.length - (intOf iv).toNat)
 case atStart=>exact⟨0,[],rfl,Nat.zero_le _,HCP,HB2,HX2⟩
 case round=>
  clear HCP HB2 HX2
  obtain⟨j,qs,rfl,hj,HCP,HB,HX⟩:=hrel
  by_cases hlt:j < ps.length
  ·obtain⟨x,hx⟩:∃ x,ps[j]?=some x:=⟨_,List.getElem?_eq_getElem hlt⟩
   obtain⟨g,cp,hga,hbg,hgl'⟩:=own_addr HCP.out.own hlt
   simp only [Value.slice.injEq] at hga
   obtain⟨rfl,hlen,rfl⟩:=hga
   clear hlen
   have HCX:=mH (HC.out x (List.mem_of_getElem? hx))
   obtain⟨⟨q0,q1,q2,q3,q4,q5,q6⟩,_⟩:=node_cells HCP.out.own (HCP.out.at hx)
   have hg2:=HNB.out g rfl
   have HGG:Hid (g < wr.heap.size/\w.heap.size+2<=g):=mH ⟨hgl',hg2⟩
   have HXJ:=mH hx
   obtain⟨⟨id,pa,⟨k,q,T⟩,po,ts⟩,ta,tc⟩:=x
   simp only [tvN] at q0 q1 q2 q3 q4 q5 q6
   simp only [tvN] at HCX
   have hji:(j:Int) < ps.length:=by omega
   have c0:=(four HX.out.1).1
   clear hx hbg hgl' hg2
   go_wp2
   obtain⟨W,hW⟩:∃ W,W=wr.alloc (.cells #[.int .i64 id,.int .i64 pa,.int .i64 k,.int .i64 q,.int .i64 T,.int .i64 po,.slice ta ts.length tc] 69):=⟨_,rfl⟩
   have hbx:W.heap[wr.heap.size]?=some (.cells #[.int .i64 id,.int .i64 pa,.int .i64 k,.int .i64 q,.int .i64 T,.int .i64 po,.slice ta ts.length tc] 69 (0,0)):=by rw [hW];exact heap_alloc_new wr _
   have HWX:Hid (W.heap[w.heap.size+1]?=some (.cells #[.slice (some ⟨g,0,none⟩) ps.length nc,.slice a2 t.gs.length cap2,.int .i64 t.last,.int .i64 t.now] 30 (0,0))/\W.heap[w.heap.size]?=some (.cells #[.slice none 0 0,.slice none 0 0,.int .i64 0,.int .i64 0] 30 (0,0))):=mH (by rw [hW];exact⟨(heap_alloc_old wr _ (lOh HX.out.1)).trans HX.out.1,(heap_alloc_old wr _ (lOh HX.out.2)).trans HX.out.2⟩)
   have HWB:Hid (Below w.heap.size w W):=mH (by rw [hW];exact ba HB.out _)
   have HWC:Hid (Cp w.heap.size W (.slice (some ⟨g,0,none⟩) ps.length nc) ps qs j (fun k=>k=w.heap.size ∨ k=w.heap.size+1)):=mH (by rw [hW];exact HCP.out.kept (Kept.alloc _ _ _))
   have HGG2:Hid (g < W.heap.size/\w.heap.size+2<=g/\¬ wr.heap.size=g):=mH ⟨by rw [hW];have:=HGG.out;simp;omega,HGG.out.2,by have:=HGG.out;omega⟩
   obtain⟨n0,n1,n2,n3,n4,n5,n6⟩:=nd_cells hbx
   clear c0 q0 q1 q2 q3 q4 q5 q6 n0 n1 n2 n3 n4 n5
   have c0:=(four HWX.out.1).1
   rw [<- hW]
   clear hW hbx HX HB HCP HGG
   generalize wr.heap.size=Bx at *
   obtain⟨B0,hB0⟩:∃ B0,B0=w.heap.size+1:=⟨_,rfl⟩
   have HB0:=mH hB0
   rw [<- hB0] at c0 ⊢
   clear hB0
   refine wp_region_held_drew (S:=fun w'=>w'.cell? ⟨B0,0,none⟩=some (.slice (some ⟨g,0,none⟩) ps.length nc)/\w'.cell? ⟨Bx,6,none⟩=some (.slice ta ts.length tc)) (by kernel_rfl) ⟨c0,n6⟩ (fun hHeld=>?_)
   refine tkE 0 22 (.pointer (some ⟨B0,0,none⟩)) rfl rfl hHeld ?_
   simp only [sZ,sS]
   refine tkE 1 23 (.slice (some ⟨g,0,none⟩) ps.length nc) rfl rfl hHeld ?_
   simp only [sZ,sS]
   refine tkE 2 24 (.int .i64 (j:Int)) rfl rfl hHeld ?_
   simp only [sZ,sS]
   refine tkE 3 25 (.pointer (some ⟨Bx,6,none⟩)) rfl rfl hHeld ?_
   simp only [sZ,sS]
   refine tkE 4 26 (.slice ta ts.length tc) rfl rfl hHeld ?_
   simp only [sZ,sS]
   refine wpAnyH_ready (rs:=[5]) (by kernel_rfl) (by simp) (AllReadyH.cons rfl (fun K hK=>?_) AllReadyH.nil)
   go_simp
   refine(HCX.out W.drew HWB.out.drew).mono ?_
   rintro e w4 ⟨a4,c4',rfl,ho4,b4⟩
   have y0:=kc (show W.drew.cell? _=_ from c0) b4
   have m6:=kc (show W.drew.cell? _=_ from n6) b4
   have HB4:=mH (bt HWB.out.drew b4)
   have HO4:=mH ho4
   have HX4:=mH (And.intro (bLt (w:=W.drew) HWX.out.1 b4) (bLt (w:=W.drew) HWX.out.2 b4))
   have HC4:=mH (HWC.out.kept ((Kept.drew _ W).trans (kept_new (F:=fun _=>False) b4) (fun _ h=>h.elim)))
   have HS4:=mH b4.size
   clear b4 ho4 hHeld
   refine hK.out _ _ ⟨y0,m6⟩ (fun hHeld=>?_)
   clear hK K c0 n6
   (try simp only [Act.put])
   refine tkE 6 28 (.pointer (some ⟨g,j * 7,none⟩)) rfl rfl hHeld ?_
   simp only [sZ,sS]
   refine tkE 7 29 (.pointer (some ⟨g,j * 7+6,none⟩)) rfl rfl hHeld ?_
   simp only [sZ,sS]
   refine wpAnyH_ready (rs:=[8]) (by kernel_rfl) (by simp) (AllReadyH.cons rfl (fun K hK=>?_) AllReadyH.nil)
   obtain⟨⟨q0,q1,q2,q3,q4,q5,q6⟩,f0,f1,f2,f3,f4,f5,f6⟩:=node_cells HC4.out.own (HC4.out.at HXJ.out)
   clear q0 q1 q2 q3 q4 q5 f0 f1 f2 f3 f4 f5
   go_simp
   have hk7:=Kept.setCell (F:=fun k=>k=g) w4 (p:=⟨g,j * 7+6,none⟩) rfl (.slice a4 ts.length c4')
   have hBg:¬ B0=g:=by have:=HB0.out;have:=HGG2.out;omega
   have hXg:¬ Bx=g:=HGG2.out.2.2
   refine hK.out _ _ ⟨hk7.cell y0 hBg,hk7.cell m6 hXg⟩ (fun hHeld=>?_)
   clear hK K hHeld y0 m6 q6 f6
   refine wpAnyH_done (by kernel_rfl) ?_ _
   have hlt4:w.heap.size+2<=W.heap.size:=by have:=HGG2.out;omega
   have HC9:Hid (Cp w.heap.size (w4.setCell ⟨g,j * 7+6,none⟩ (.slice a4 ts.length c4')) (.slice (some ⟨g,0,none⟩) ps.length nc) ps (qs ++ [(⟨id,pa,(k,q,T),po,ts⟩,a4,c4')]) (j+1) (fun k=>k=w.heap.size ∨ k=w.heap.size+1)):=mH (by
    have hc4:=HC4.out
    have hnew:∀ k',(Value.slice a4 ts.length c4').ownBlock=some k'->¬ k'=g/\w.heap.size+2<=k':=fun k' e=>by
     have h1:=(HO4.out.lt k' e).1
     have h2:=HGG2.out
     have h3:W.drew.heap.size=W.heap.size:=rfl
     omega
    have hset:=own_put hc4.own (j * 7+6) (.slice a4 ts.length c4')
    rw [fl_set c7 7 c7_len _ j 6 _ ((⟨id,pa,(k,q,T),po,ts⟩,a4,c4'):Np) _ (hc4.at HXJ.out) (by omega) rfl] at hset
    rw [hc4.set HXJ.out] at hset
    refine⟨hset,fun y hy=>?_, ?_,hlt⟩
    ·rcases List.mem_append.mp hy with hm | hm
     ·obtain⟨h1,h2⟩:=hc4.tk y hm
      exact⟨oNk h1 hk7 (fun k' e e2=>(h2 k' e).1 (by rw [e2];rfl)),h2⟩
     ·simp at hm
      subst hm
      refine⟨own_lower (oNk HO4.out hk7 (fun k' e e2=>(hnew k' e).1 e2)) (by have h3:W.drew.heap.size=W.heap.size:=rfl;omega),fun k' e=>?_⟩
      obtain⟨h1,h2⟩:=hnew k' e
      exact⟨fun e2=>h1 (by simpa [Value.ownBlock] using e2.symm),by omega⟩
    ·rw [nds,List.map_append,List.take_add_one,nds_at HXJ.out]
     show nds qs ++ _=_
     rw [hc4.e]
     rfl)
   have HB9:Hid (Below w.heap.size w (w4.setCell ⟨g,j * 7+6,none⟩ (.slice a4 ts.length c4'))):=mH (HB4.out.trans (hk7.below (fun k e=>by have:=HGG2.out;omega) HB4.out.size))
   have HX9:Hid ((w4.setCell ⟨g,j * 7+6,none⟩ (.slice a4 ts.length c4')).heap[w.heap.size+1]?=some (.cells #[.slice (some ⟨g,0,none⟩) ps.length nc,.slice a2 t.gs.length cap2,.int .i64 t.last,.int .i64 t.now] 30 (0,0))/\(w4.setCell ⟨g,j * 7+6,none⟩ (.slice a4 ts.length c4')).heap[w.heap.size]?=some (.cells #[.slice none 0 0,.slice none 0 0,.int .i64 0,.int .i64 0] 30 (0,0))):=mH ⟨(hk7.block _ (lOh HX4.out.1) (by have:=HGG2.out;omega)).trans HX4.out.1,(hk7.block _ (lOh HX4.out.2) (by have:=HGG2.out;omega)).trans HX4.out.2⟩
   clear hk7 hlt4 hBg hXg HO4 HC4 HX4 HB4 HS4
   have hB0:=HB0.out
   clear HB0
   subst hB0
   obtain⟨W9,hW9⟩:∃ W9,W9=w4.setCell ⟨g,j * 7+6,none⟩ (.slice a4 ts.length c4'):=⟨_,rfl⟩
   rw [<- hW9] at HC9 HB9 HX9
   rw [<- hW9]
   clear hW9
   go_wp2
   go_roundw
   case rel=>exact⟨j+1,_,by go_num,hlt,HC9,HB9,HX9⟩
   case measure=>simp [intOf];omega
  ·obtain rfl:j=ps.length:=by omega
   obtain⟨e0,e1,e2,e3⟩:=four HX.out.1
   have HQ:Hid (nds qs=t.ns):=mH (by rw [HCP.out.e,<- HE.out,List.take_of_length_le (by simp)])
   have HQL:=mH HCP.out.len
   clear hlt
   go_wp2_with (go_at_call 42;refine(HG.out _ HB.out).mono ?_;rintro r w5 ⟨a5,c5',rfl,ho5,b5⟩;have hx5:=bLt HX.out.1 b5;have hy5:=bLt HX.out.2 b5;clear e0 e1 e2 e3;obtain⟨e0,e1,e2,e3⟩:=four hx5;obtain⟨g0,g1,g2,g3⟩:=four hy5;have f1:w5.frozen? ⟨w.heap.size+1,1,none⟩=false:=fOb hx5;have k0:w5.frozen? ⟨w.heap.size,0,none⟩=false:=fOb hy5;have k1:w5.frozen? ⟨w.heap.size,1,none⟩=false:=fOb hy5;have k2:w5.frozen? ⟨w.heap.size,2,none⟩=false:=fOb hy5;have k3:w5.frozen? ⟨w.heap.size,3,none⟩=false:=fOb hy5;have HY5:=mH hy5;have HO5:=mH ho5;have HB5:=mH (bt HB.out b5);have HC5:=mH (HCP.out.kept (kept_new b5));have HS5:=mH HB.out.size;have HNL:=mH (fun k (e:(Value.slice na ps.length nc).ownBlock=some k)=>(HCP.out.own.lt k e).2);have HTL:=mH (fun x (hx:x ∈ qs) k (e:(tvN x).ownBlock=some k)=>((HCP.out.tk x hx).1.lt k e).2);clear ho5 b5 hx5 hy5)
   have hB1:=lOh HX.out.1
   have k8:=Kept.setCell (F:=fun k=>k=w.heap.size+1) w5 (p:=⟨w.heap.size+1,1,none⟩) rfl (.slice a5 t.gs.length c5')
   have hy8:=(k8.block _ (lOh HY5.out) (by omega)).trans HY5.out
   have kF:Kept (fun k=>k=w.heap.size ∨ k=w.heap.size+1) w5 (((((w5.setCell ⟨w.heap.size+1,1,none⟩ (.slice a5 t.gs.length c5')).setCell ⟨w.heap.size,0,none⟩ (.slice na ps.length nc)).setCell ⟨w.heap.size,1,none⟩ (.slice a5 t.gs.length c5')).setCell ⟨w.heap.size,2,none⟩ (.int .i64 t.last)).setCell ⟨w.heap.size,3,none⟩ (.int .i64 t.now)):=kset (kset (kset (kset (kset (Kept.refl _ _) (.inl (.inr rfl)) 1 _) (.inl (.inl rfl)) 0 _) (.inl (.inl rfl)) 1 _) (.inl (.inl rfl)) 2 _) (.inl (.inl rfl)) 3 _
   have hres:(((((w5.setCell ⟨w.heap.size+1,1,none⟩ (.slice a5 t.gs.length c5')).setCell ⟨w.heap.size,0,none⟩ (.slice na ps.length nc)).setCell ⟨w.heap.size,1,none⟩ (.slice a5 t.gs.length c5')).setCell ⟨w.heap.size,2,none⟩ (.int .i64 t.last)).setCell ⟨w.heap.size,3,none⟩ (.int .i64 t.now)).heap[w.heap.size]?=some (.cells #[.slice na ps.length nc,.slice a5 t.gs.length c5',.int .i64 t.last,.int .i64 t.now] 30 (0,0)):=by
    rw [hSt (hSt (hSt (hSt hy8)))]
    kernel_rfl
   refine bodyPost_ret (leaves1 rfl hres Tryz.underlying30 size_tree _ rfl) rfl ⟨_,_,qs,rfl,⟨?_,fun x hx=>?_, ?_,fun x hx k e=>((HC5.out.tk x hx).2 k e).1,fun x hx k e e2=>?_,fun k e e2=>?_⟩,HQ.out,HB5.out.trans (kF.below (fun k e=>by omega) HB5.out.size)⟩
   ·have:=HC5.out.own
    rw [List.drop_length,List.append_nil] at this
    rw [HQL.out]
    exact oNk this kF (fun k e e2=>by have:=HNB.out k e;omega)
   ·exact oNk (HC5.out.tk x hx).1 kF (fun k e e2=>((HC5.out.tk x hx).2 k e).2 e2)
   ·exact own_lower (oNk HO5.out kF (fun k e e2=>by have:=(HO5.out.lt k e).1;omega)) HS5.out
   ·have h1:=HTL.out x hx k e
    have h2:=(HO5.out.lt k e2).1
    omega
   ·have h1:=HNL.out k e
    have h2:=(HO5.out.lt k e2).1
    omega
end Go.Proofs.YtpdehdomilnmeaaGreatDoor
namespace Go.Proofs.YtpdehdomilnmeaaGreatDoor
open Go.ChangeShapes Go.WideShapes Go.ChangeAt Go.RowKit
set_option maxRecDepth 100000
def kNum (e:MapEntry):Int:=match e.key with
 |.int _ k=>k
 |_=>0
def lftS (f:Int->Int) (es:Array MapEntry) (seen:Array Nat):Int:=tot (fun e=>f (kNum e)) (leftOf es seen).toList
theorem left_list (es:Array MapEntry) (seen:Array Nat):(leftOf es seen).toList=es.toList.filter (fun e=>!seen.contains e.born):=by simp [leftOf]
theorem filt_out (f:MapEntry->Int) (p:Nat->Bool) {e:MapEntry} (hp:p e.born=true):∀ l:List MapEntry,(l.map (·.born)).Nodup->e ∈ l->tot f (l.filter (fun x=>p x.born))=f e+tot f (l.filter (fun x=>p x.born && !(x.born == e.born)))
 |[],_,he=>by simp at he
 |a :: r,hn,he=>by
  simp only [List.map_cons,List.nodup_cons] at hn
  by_cases c:a.born=e.born
  ·have hr:e ∉ r:=fun h=>hn.1 (c ▸ List.mem_map.mpr ⟨e,h,rfl⟩)
   have hae:a=e:=by
    rcases List.mem_cons.mp he with h | h
    ·exact h.symm
    ·exact absurd h hr
   subst hae
   have hq:r.filter (fun x=>p x.born && !(x.born == a.born))=r.filter (fun x=>p x.born):=by
    refine List.filter_congr (fun x hx=>?_)
    have:¬ x.born=a.born:=fun h=>hn.1 (h ▸ List.mem_map.mpr ⟨x,hx,rfl⟩)
    simp [this]
   rw [List.filter_cons,if_pos hp,List.filter_cons,if_neg (by simp),hq,tot_cons]
  ·have hm:e ∈ r:=by
    rcases List.mem_cons.mp he with h | h
    ·exact absurd (by rw [h]) c
    ·exact h
   have ih:=filt_out f p hp r hn.2 hm
   by_cases d:p a.born=true
   ·rw [List.filter_cons,if_pos d,List.filter_cons,if_pos (by simp [d,c]),tot_cons,tot_cons,ih]
    omega
   ·rw [List.filter_cons,if_neg d,List.filter_cons,if_neg (by simp [d]),ih]
theorem lft_push (f:Int->Int) {es:Array MapEntry} {seen:Array Nat} {e:MapEntry} (hn:(es.toList.map (·.born)).Nodup) (he:e ∈ (leftOf es seen).toList):lftS f es seen=f (kNum e)+lftS f es (seen.push e.born):=by
 unfold lftS
 rw [left_list] at he ⊢
 rw [left_list]
 obtain⟨h1,h2⟩:=List.mem_filter.mp he
 rw [filt_out (fun e=>f (kNum e)) (fun b=>!seen.contains b) h2 es.toList hn h1]
 congr 2
 refine List.filter_congr (fun x _=>?_)
 by_cases c:x.born=e.born <;> simp [c]
theorem keys_sum (f:Int->Int) {es:List MapEntry} {ns:List Nd} (hi:IntKeys es) (hd:(es.map (·.key)).Nodup) (hr:ns.Pairwise (fun a b=>a.id < b.id)) (hm:∀ k,(∃ e ∈ es,e.key=.int .i64 k) ↔ ∃ n ∈ ns,n.id=k):tot (fun e=>f (kNum e)) es=tot (fun n=>f n.id) ns:=by
 have e1:tot (fun e=>f (kNum e)) es=tot f (es.map kNum):=by simp [tot,Function.comp_def]
 have e2:tot (fun n:Nd=>f n.id) ns=tot f (ns.map (·.id)):=by simp [tot,Function.comp_def]
 rw [e1,e2]
 refine tot_perm f ((List.perm_ext_iff_of_nodup ?_ ?_).mpr (fun k=>?_))
 ·have key:∀ l:List MapEntry,IntKeys l->(l.map (·.key)).Nodup->(l.map kNum).Nodup:=by
   intro l
   induction l with
   |nil=>intro _ _;simp
   |cons a r ih=>
    intro h1 h2
    simp only [List.map_cons,List.nodup_cons] at h2 ⊢
    refine⟨fun h=>h2.1 ?_,ih (fun e he=>h1 e (by simp [he])) h2.2⟩
    obtain⟨x,hx,he⟩:=List.mem_map.mp h
    obtain⟨k1,hk1⟩:=h1 a (by simp)
    obtain⟨k2,hk2⟩:=h1 x (by simp [hx])
    simp only [kNum,hk1,hk2] at he
    exact List.mem_map.mpr ⟨x,hx,by rw [hk1,hk2,he]⟩
  exact key es hi hd
 ·rw [List.nodup_iff_pairwise_ne,List.pairwise_map]
  exact hr.imp (fun h e=>by omega)
 ·constructor
  ·intro h
   obtain⟨x,hx,he⟩:=List.mem_map.mp h
   obtain⟨k1,hk1⟩:=hi x hx
   simp only [kNum,hk1] at he
   obtain⟨n,hn,e⟩:=(hm k).mp ⟨x,hx,by rw [hk1,he]⟩
   exact List.mem_map.mpr ⟨n,hn,e⟩
  ·intro h
   obtain⟨n,hn,e⟩:=List.mem_map.mp h
   obtain⟨x,hx,he⟩:=(hm k).mpr ⟨n,hn,e⟩
   exact List.mem_map.mpr ⟨x,hx,by simp only [kNum,he]⟩
theorem map_sum (f:Int->Int) {W wr:World} {B r b clock:Nat} {es:Array MapEntry} {seen:Array Nat} {m:Int->Option Nat} (hr:wr.heap[r]?=some (.mapIter (some b) clock seen clock)) (hb:wr.heap[b]?=some (.map es clock)) (hi:IntKeys es.toList) (hd:(es.toList.map (·.key)).Nodup) (hbn:Born es.toList clock) (hf:∀ k,look es.toList k=(m k).map pB) (hB:Below B W wr) (hBr:B<=r) (hbr:b ≠ r) :
  (lftS f es seen=0/\∀ ty,(Instr.next (.pointer (some ⟨r,0,none⟩)) false ty).run Tryz.prog wr=.ok (.tuple #[.bool false]) wr) ∨
  (∃ (k:Int) (n:Nat) (w4:World) (seen':Array Nat),m k=some n/\(∀ ty,(Instr.next (.pointer (some ⟨r,0,none⟩)) false ty).run Tryz.prog wr=.ok (.tuple #[.bool true,.int .i64 k,pB n]) w4)/\(Instr.entry (.pointer (some ⟨r,0,none⟩))).run Tryz.prog w4=.ok (.tuple #[.int .i64 k,pB n]) w4/\w4.heap[r]?=some (.mapIter (some b) clock seen' clock)/\w4.heap[b]?=some (.map es clock)/\Below B W w4/\(leftOf es seen').size < (leftOf es seen).size/\lftS f es seen=f k+lftS f es seen'):=by
 rcases run_next_at (P:=Tryz.prog) wr 0 r b clock clock seen es clock hr hb hbn.1 (Nat.le_refl _) with ⟨hz,hrun⟩ | ⟨e,he,w3,hw3,hrun⟩
 ·refine .inl ⟨?_,fun _=>hrun⟩
  have hz':(leftOf es seen).toList=[]:=List.eq_nil_of_length_eq_zero (by simpa using hz)
  unfold lftS
  rw [hz']
  rfl
 ·obtain⟨k,hk⟩:=hi e (mem_left he).1
  have hl:=look_mem hi hd (mem_left he).1 hk
  rw [hf k] at hl
  obtain⟨n,hn,hv⟩:∃ n,m k=some n/\e.val=pB n:=by
   cases hm:m k with
   |none=>rw [hm] at hl;simp at hl
   |some n=>rw [hm] at hl;exact⟨n,rfl,by simpa using hl.symm⟩
  rw [hk,hv] at hrun
  have hr3:w3.heap[r]?=some (.mapIter (some b) clock seen clock):=by rcases hw3 with rfl | rfl <;> exact hr
  have hb3:w3.heap[b]?=some (.map es clock):=by rcases hw3 with rfl | rfl <;> exact hb
  have hB3:Below B W w3:=by
   rcases hw3 with rfl | rfl
   ·exact hB
   ·exact hB.drew
  have hr4:=setB_same hr3 (.mapIter (some b) clock (seen.push e.born) clock)
  have hb4:=(setB_other w3 hbr (.mapIter (some b) clock (seen.push e.born) clock)).trans hb3
  have hen:=run_entry_at (P:=Tryz.prog) _ r b clock seen es clock e hr4 hb4 (mem_left he).1 hbn.2
  rw [hk,hv] at hen
  have hs:=lft_push f hbn.2 he
  rw [show kNum e=k by simp only [kNum,hk]] at hs
  exact .inr ⟨k,n,_,seen.push e.born,hn,fun _=>hrun,hen,hr4,hb4,below_setB hB3 hBr _,left_shrinks es seen e he,hs⟩
end Go.Proofs.YtpdehdomilnmeaaGreatDoor
namespace Go.Proofs.YtpdehdomilnmeaaGreatDoor
open Go.ChangeShapes Go.WideShapes Go.ChangeAt Go.RowKit
set_option maxRecDepth 100000
attribute [local go_sem] World.cell?_alloc_some fAs
def lateR (now:Int) (r:Option Rv):Int:=match r with
 |some r=>(match r.g with
  |some (_,s)=>(lateN now s.js:Int)
  |none=>0)
 |none=>0
def lateH (h:Hs):Int:=tot (fun n:Nd=>lateR h.now (h.rv n.id)) h.t.ns
theorem lateN_le (now:Int) (js:List Jb):lateN now js<=js.length:=List.countP_le_length
theorem lft_all (f:Int->Int) (es:Array MapEntry):lftS f es #[]=tot (fun e=>f (kNum e)) es.toList:=by
 unfold lftS
 rw [left_list]
 congr 1
 rw [List.filter_eq_self]
 intro a _
 simp
theorem tot_nonneg16 {α:Type} (f:α->Int) (xs:List α) (h:∀ x ∈ xs,0<=f x):0<=tot f xs:=by
 induction xs with
 |nil=>simp [tot]
 |cons a r ih=>
  rw [tot_cons]
  have h1:=h a (by simp)
  have h2:=ih (fun x hx=>h x (by simp [hx]))
  omega
theorem lft_nonneg (f:Int->Int) (hf:∀ k,0<=f k) (es:Array MapEntry) (seen:Array Nat):0<=lftS f es seen:=(tot_nonneg16 _ _ (fun _ _=>hf _))
theorem look_some_ex {l:List MapEntry} (hi:IntKeys l) (hd:(l.map (·.key)).Nodup) (k:Int):(∃ e ∈ l,e.key=.int .i64 k) ↔ look l k ≠ none:=by
 constructor
 ·rintro ⟨e,he,hk⟩
  rw [look_mem hi hd he hk]
  simp
 ·intro h
  refine Classical.byContradiction (fun hn=>h ?_)
  have key:∀ l:List MapEntry,IntKeys l->(∀ e ∈ l,¬ e.key=.int .i64 k)->look l k=none:=by
   intro l
   induction l with
   |nil=>intro _ _;rfl
   |cons a r ih=>
    intro h1 h2
    obtain⟨x,hx⟩:=h1 a (by simp)
    have hne:¬ x=k:=fun e=>h2 a (by simp) (by rw [hx,e])
    simp only [look,hx,keyNum,Option.some.injEq,hne,if_false]
    exact ih (fun e he=>h1 e (by simp [he])) (fun e he=>h2 e (by simp [he]))
  exact key l hi (fun e he hk=>hn ⟨e,he,hk⟩)
set_option maxRecDepth 100000 in
set_option maxHeartbeats 25600000 in
theorem hlate_is {B:Nat} {own:Nat->Int} {w:World} {b mb:Nat} {lay:Int->Option Lay} {nv gv wv:Value} {ps:List Np} {os:List Op} {h:Hs} {K0:Nat} (H:HB B own w b mb lay nv gv wv ps os h) (hok:TOk K0 h.now h.t h.rv) (hk0:K0<=700) :
  Calls Tryz.prog 22 #[pB b] w fun e w'=>e=.returned (.int .i64 (lateH h))/\Below w.heap.size w w':=by
 obtain⟨es,clock,hmap,hik,hnd,hborn,hlook⟩:=H.mp
 have HG:Hid (∀ k,0<=lateR h.now (h.rv k)/\lateR h.now (h.rv k)<=64):=mH (fun k=>by
  unfold lateR
  cases hr:h.rv k with
  |none=>simp
  |some r=>
   simp only
   cases hg:r.g with
   |none=>simp
   |some ps=>
    obtain⟨p,s⟩:=ps
    simp only
    have h1:=lateN_le h.now s.js
    have h2:=(hok.gok hr hg).l
    omega)
 have HS:Hid (lftS (fun k=>lateR h.now (h.rv k)) es #[]=lateH h/\0<=lateH h/\lateH h<=1000 * 64):=mH (by
  have e1:=keys_sum (fun k=>lateR h.now (h.rv k)) hik hnd hok.good.rise (fun k=>by
   rw [look_some_ex hik hnd k,hlook k]
   show Option.map pB (Option.map Lay.rb (lay k)) ≠ none ↔ _
   constructor
   ·intro hn
    cases hr:h.rv k with
    |none=>rw [(H.dm k).mpr hr] at hn;simp at hn
    |some r=>exact hok.dom k r hr
   ·rintro ⟨n,hn,rfl⟩
    obtain⟨r,hr,_⟩:=hok.at_ n hn
    cases hl:lay n.id with
    |none=>rw [(H.dm n.id).mp hl] at hr;cases hr
    |some l=>simp)
  refine⟨by rw [lft_all,e1];rfl, ?_⟩
  have h2:=tot_bounds (fun n:Nd=>lateR h.now (h.rv n.id)) 64 h.t.ns (fun n _=>HG.out n.id)
  have h3:=hok.sm.n
  unfold lateH
  omega)
 have b0:=cOb (i:=0) H.blk rfl
 have b5:=cOb (i:=5) H.blk rfl
 simp only [List.getElem_toArray,List.getElem_cons_succ,List.getElem_cons_zero] at b0 b5
 have HH0:=mH (And.intro H hok)
 have hrg:=run_range_map (P:=Tryz.prog) w 85 3 113 mb es clock Tryz.underlying85 hmap
 have HMP:=mH (And.intro hik (And.intro hnd (And.intro hborn hlook)))
 have HN:Hid (mb < w.heap.size/\b < w.heap.size):=mH ⟨lOh hmap,lOh H.blk⟩
 have HMB:=mH hmap
 clear hik hnd hborn hlook hmap H hok hk0
 obtain⟨F,hF⟩:∃ F:Int->Int,F=fun k=>lateR h.now (h.rv k):=⟨_,rfl⟩
 rw [<- hF] at HS
 have HF:=mH hF
 clear hF
 obtain⟨T,hT⟩:∃ T,T=lateH h:=⟨_,rfl⟩
 rw [<- hT] at HS ⊢
 clear hT
 go_enter Tryz.func22,Tryz.ntmps22
 go_wp2
 clear hrg b5
 obtain⟨rb,hrb⟩:∃ rb,rb=w.heap.size:=⟨_,rfl⟩
 have HI0:Hid ((w.alloc (.mapIter (some mb) clock #[] clock)).heap[rb]?=some (.mapIter (some mb) clock #[] clock)):=mH (by rw [hrb];exact heap_alloc_new w _)
 have HB0:Hid ((w.alloc (.mapIter (some mb) clock #[] clock)).heap[mb]?=some (.map es clock)):=mH (by rw [heap_alloc_old w _ HN.out.1];exact HMB.out)
 have HC0:Hid (Below w.heap.size w (w.alloc (.mapIter (some mb) clock #[] clock))):=mH (ba (Below.refl _ w) _)
 have HRB:Hid (w.heap.size<=rb/\mb ≠ rb):=mH ⟨by rw [hrb];exact Nat.le_refl _,by have:=HN.out;omega⟩
 have HB0c:=mH b0
 clear b0
 rw [<- hrb]
 generalize w.alloc (.mapIter (some mb) clock #[] clock)=wi at *
 clear hrb HMB
 go_loopw [3] (fun cv wr=>∃ (seen:Array Nat) (C:Int),cv=.int .i64 C/\0<=C/\Hid (C+lftS F es seen=T)/\Hid (wr.heap[rb]?=some (.mapIter (some mb) clock seen clock)/\wr.heap[mb]?=some (.map es clock)/\Below w.heap.size w wr)) (fun _ wr=>(leftOf es (wr.iterSeen rb)).size)
 case atStart=>exact⟨#[],0,rfl,by omega,mH (by rw [HS.out.1];omega),mH ⟨HI0.out,HB0.out,HC0.out⟩⟩
 case round=>
  clear HI0 HB0 HC0
  obtain⟨seen,C,rfl,hC,HSU,HH⟩:=hrel
  rcases map_sum F HH.out.1 HH.out.2.1 HMP.out.1 HMP.out.2.1 HMP.out.2.2.1 HMP.out.2.2.2 HH.out.2.2 HRB.out.1 HRB.out.2 with ⟨hz,hnx⟩ | ⟨k,n,w4,seen',hmk,hnx,hen,hr4,hb4,hB4,hsm,hsum⟩
  case inr=>
   obtain⟨l,hl,rfl⟩:∃ l,lay k=some l/\l.rb=n:=by
    cases hl:lay k with
    |none=>rw [hl] at hmk;simp at hmk
    |some l=>rw [hl] at hmk;exact⟨l,rfl,by simpa using hmk⟩
   obtain⟨r,hr⟩:∃ r,h.rv k=some r:=by
    cases hr:h.rv k with
    |none=>rw [(HH0.out.1.dm k).mpr hr] at hl;cases hl
    |some r=>exact⟨r,rfl⟩
   have hm:=HH0.out.1.rm k l r hl hr
   have r1:=hB4.cell (p:=⟨l.rb,1,none⟩) (by exact hm.box.lt)
   rw [cOb (i:=1) hm.box rfl] at r1
   simp only [List.getElem_toArray,List.getElem_cons_succ,List.getElem_cons_zero] at r1
   have c0:=hB4.cell (p:=⟨b,0,none⟩) HN.out.2
   rw [HB0c.out] at c0
   have HR4:=mH (And.intro hr4 (And.intro hb4 hB4))
   have HSM:=mH hsm
   have hfk:F k=lateR h.now (some r):=by rw [HF.out];show lateR h.now (h.rv k)=_;rw [hr]
   have hst:=HSU.out
   rw [hsum,hfk] at hst
   have h64:=HG.out k
   rw [hr] at h64
   have hnn:=lft_nonneg F (fun k=>by rw [HF.out];exact(HG.out k).1) es seen'
   cases hg:r.g with
   |none=>
    have hgb:=hm.no hg
    rw [hgb] at r1
    have hl0:lateR h.now (some r)=0:=by simp only [lateR,hg]
    rw [hl0] at hst
    have HST:Hid (C+lftS F es seen'=T):=mH (by omega)
    clear hst hl0 h64 hnn hfk hsum hm hr4 hb4 hB4 hsm hmk
    simp only [pO] at r1
    go_wp2
    go_roundw
    case rel=>exact⟨seen',C,rfl,hC,HST,HR4⟩
    case measure=>rw [iter_of HH.out.1,iter_of HR4.out.1];exact HSM.out
   |some pq=>
    obtain⟨p,s⟩:=pq
    obtain⟨gb,hgb,hGB,_,_⟩:=hm.yes p s hg
    rw [hgb] at r1
    have hl0:lateR h.now (some r)=(lateN h.now s.js:Int):=by simp only [lateR,hg]
    rw [hl0] at hst h64
    have HLT:Hid (∀ W,Below w.heap.size w W->Calls Tryz.prog 44 #[.pointer (some ⟨gb,0,none⟩),.int .i64 h.now] W fun e w'=>e=.returned (.int .i64 (lateN h.now s.js:Int))/\Below W.heap.size W w'):=mH (fun W hW=>late_is B W gb p l.tv l.jv s h.now (hGB.below hW) (HH0.out.2.gok hr hg).l)
    have HST:Hid ((C+(lateN h.now s.js:Int))+lftS F es seen'=T):=mH (by omega)
    have hT1:C+(lateN h.now s.js:Int)<=64000:=by have:=HS.out.2.2;omega
    have hC2:0<=C+(lateN h.now s.js:Int):=by omega
    clear hst hl0 hnn hfk hsum hm hr4 hb4 hB4 hsm hmk hGB
    simp only [pO] at r1
    go_wp2
    have hLR:∀ (x:Nat),x=l.rb->True:=fun _ _=>trivial
    clear hLR
    obtain⟨lb,hlb⟩:∃ lb,lb=l.rb:=⟨_,rfl⟩
    rw [<- hlb] at r1 ⊢
    obtain⟨nw,hnw⟩:∃ nw,nw=h.now:=⟨_,rfl⟩
    obtain⟨ln,hln⟩:∃ ln,ln=lateN h.now s.js:=⟨_,rfl⟩
    rw [<- hln] at HST hT1 hC2 h64 HLT
    rw [<- hnw] at c0 HLT
    clear hlb hnw hln
    refine wp_region_held_drew (S:=fun w'=>w'.cell? ⟨lb,1,none⟩=some (pB gb)/\w'.cell? ⟨b,0,none⟩=some (.int .i64 nw)) (by kernel_rfl) ⟨r1,c0⟩ (fun hHeld=>?_)
    refine tkE 0 20 (.int .i64 C) rfl rfl hHeld ?_
    simp only [sZ,sS]
    refine tkE 1 21 (pB lb) rfl rfl hHeld ?_
    simp only [sZ,sS]
    refine tkE 2 22 (pB lb) rfl rfl hHeld ?_
    simp only [sZ,sS]
    refine tkE 3 23 (.pointer (some ⟨lb,1,none⟩)) rfl rfl hHeld ?_
    simp only [sZ,sS]
    refine tkE 4 24 (pB gb) rfl rfl hHeld ?_
    simp only [sZ,sS]
    refine tkE 5 25 (pB b) rfl rfl hHeld ?_
    simp only [sZ,sS]
    refine tkE 6 26 (pB b) rfl rfl hHeld ?_
    simp only [sZ,sS]
    refine tkE 7 27 (.pointer (some ⟨b,0,none⟩)) rfl rfl hHeld ?_
    simp only [sZ,sS]
    refine tkE 8 28 (.int .i64 nw) rfl rfl hHeld ?_
    simp only [sZ,sS]
    refine wpAnyH_ready (rs:=[9]) (by kernel_rfl) (by simp) (AllReadyH.cons rfl (fun K hK=>?_) AllReadyH.nil)
    go_simp
    refine(HLT.out w4.drew HR4.out.2.2.drew).mono ?_
    rintro e w5 ⟨rfl,b5⟩
    have y0:=kc (show w4.drew.cell? _=_ from r1) b5
    have y1:=kc (show w4.drew.cell? _=_ from c0) b5
    have HR5:Hid (w5.heap[rb]?=some (.mapIter (some mb) clock seen' clock)/\w5.heap[mb]?=some (.map es clock)/\Below w.heap.size w w5):=mH ⟨(b5.block rb (lOh (w:=w4.drew) HR4.out.1)).trans HR4.out.1,(b5.block mb (lOh (w:=w4.drew) HR4.out.2.1)).trans HR4.out.2.1,bt HR4.out.2.2.drew b5⟩
    clear b5 hHeld
    refine hK.out _ _ ⟨y0,y1⟩ (fun hHeld=>?_)
    clear hK K r1 c0
    (try simp only [Act.put])
    have hwr:IntKind.i64.wrap (C+(ln:Int))=C+(ln:Int):=wfit (by omega) (by omega)
    refine tkE 10 30 (.int .i64 (C+(ln:Int))) rfl rfl hHeld ?_
    simp only [sZ,sS]
    refine tkE 11 3 (.int .i64 (C+(ln:Int))) rfl rfl hHeld ?_
    simp only [sZ,sS]
    refine wpAnyH_done (by kernel_rfl) ?_ _
    clear y0 y1 hHeld
    go_wp2
    go_roundw
    case rel=>exact⟨seen',C+(ln:Int),rfl,hC2,HST,HR5⟩
    case measure=>rw [iter_of HH.out.1,iter_of HR5.out.1];exact HSM.out
  have HBr:Hid (Below w.heap.size w wr):=mH HH.out.2.2
  have hCT:C=T:=by have:=HSU.out;omega
  subst hCT
  clear HH
  go_wp2
  go_ret
  exact⟨by simp,HBr.out⟩
end Go.Proofs.YtpdehdomilnmeaaGreatDoor
namespace Go.Proofs.YtpdehdomilnmeaaGreatDoor
open Go.ChangeShapes Go.WideShapes Go.ChangeAt Go.RowKit
set_option maxRecDepth 100000
theorem HX.tree {B:Nat} {W:World} {own:Nat->Int} {w:World} {b mb:Nat} {h:Hs} (X:HX B W own w b mb h) (hs:h.t.Sm 1000) :
  Calls Tryz.prog 18 #[pB b] w fun e w'=>∃ nv gv qs,e=.returned (vTr nv gv h.t)/\TrO w.heap.size w' nv gv qs h.t.gs/\nds qs=h.t.ns/\HX B W own w' b mb h/\Below w.heap.size w w':=by
 obtain⟨_,_,_,_,_,_,hb⟩:=id X.hb
 refine(htree_is hb hs).mono ?_
 rintro e w' ⟨nv,gv,qs,rfl,h1,h2,h3⟩
 exact⟨nv,gv,qs,rfl,h1,h2,X.late h3,h3⟩
theorem HX.lates {B:Nat} {W:World} {own:Nat->Int} {w:World} {b mb:Nat} {h:Hs} {K0:Nat} (X:HX B W own w b mb h) (hok:TOk K0 h.now h.t h.rv) (hk0:K0<=700) :
  Calls Tryz.prog 22 #[pB b] w fun e w'=>e=.returned (.int .i64 (lateH h))/\HX B W own w' b mb h/\Below w.heap.size w w':=by
 obtain⟨_,_,_,_,_,_,hb⟩:=id X.hb
 refine(hlate_is hb hok hk0).mono ?_
 rintro e w' ⟨rfl,h1⟩
 exact⟨rfl,X.late h1,h1⟩
theorem HX.nows {B:Nat} {W:World} {own:Nat->Int} {w:World} {b mb:Nat} {h:Hs} (X:HX B W own w b mb h):Calls Tryz.prog 20 #[pB b] w fun e w'=>e=.returned (.int .i64 h.now)/\w'=w:=by
 obtain⟨_,_,_,_,_,_,hb⟩:=X.hb
 exact hnow_is hb
end Go.Proofs.YtpdehdomilnmeaaGreatDoor
namespace Go.Proofs.YtpdehdomilnmeaaGreatDoor
open Go.ChangeShapes Go.WideShapes Go.ChangeAt Go.RowKit
set_option maxRecDepth 100000
attribute [local go_sem] World.cell?_alloc_some fAs
def isRz (i:Int) (x:Rs):Bool:=decide (x.1=0) && decide (x.2=i)
set_option maxRecDepth 100000 in
set_option maxHeartbeats 25600000 in
theorem resized_is (w:World) (i c0:Int) (al:Option Addr) (cl:Nat) (rs:List Rs) (x2 x3 x4 x5 x6 x7 x8 x9:Value) (h:RowIn 2 c2r w (.slice al rs.length cl) rs) :
  Calls Tryz.prog 68 #[.agg #[.int .i64 c0,.slice al rs.length cl,x2,x3,x4,x5,x6,x7,x8,x9],.int .i64 i] w fun e w'=>e=.returned (.bool (rs.any (isRz i)))/\Below w.heap.size w w':=by
 have hlen:(rs.length:Int)<=9223372036854775807:=by
  obtain⟨_,_,_,_,hl,_⟩:=h
  exact hl
 have HE:=mH h
 clear h
 go_enter Tryz.func68,Tryz.ntmps68
 go_wp2
 obtain⟨W,hW⟩:∃ W,W=w.alloc (.cells #[.int .i64 c0,.slice al rs.length cl,x2,x3,x4,x5,x6,x7,x8,x9] 57):=⟨_,rfl⟩
 have HB0:Hid (Below w.heap.size w W):=mH (by rw [hW];exact ba (Below.refl _ w) _)
 rw [<- hW]
 clear hW
 go_loopw [10] (fun iv wr=>∃ j:Nat,iv=.int .i64 (j:Int)/\j<=rs.length/\Hid (∀ x ∈ rs.take j,isRz i x=false)/\Hid (Below w.heap.size w wr)) (fun iv _=>rs.length - (intOf iv).toNat)
 case atStart=>exact⟨0,rfl,Nat.zero_le _,mH (fun x hx=>by simp at hx),HB0⟩
 case round=>
  clear HB0
  obtain⟨j,rfl,hj,HA,HB⟩:=hrel
  by_cases hlt:j < rs.length
  ·obtain⟨b,off,x,rfl,hxj,hat⟩:=HE.out.at HB.out j hlt
   have q0:=hat 0 _ (by omega) rfl
   have q1:=hat 1 _ (by omega) rfl
   have HM:=mH (List.mem_of_getElem? hxj)
   have HTK:Hid (isRz i x=false->∀ y ∈ rs.take (j+1),isRz i y=false):=mH (fun hx y hy=>by
    rw [List.take_add_one,hxj] at hy
    rcases List.mem_append.mp hy with h | h
    ·exact HA.out y h
    ·simp at h;subst h;exact hx)
   obtain⟨xc,xi⟩:=x
   simp only [Nat.add_zero] at q0 q1
   have hji:(j:Int) < rs.length:=by omega
   clear hat hxj
   by_cases h0:xc=0
   ·subst h0
    by_cases h1:xi=i
    ·subst h1
     have HR:Hid (rs.any (isRz xi)=true):=mH (List.any_eq_true.mpr ⟨_,HM.out,by simp [isRz]⟩)
     go_wp2
     go_ret
     exact⟨by simp [HR.out],ba HB.out _⟩
    ·have h1':(xi == i)=false:=by simpa using h1
     go_wp2
     go_roundw
     case rel=>exact⟨j+1,by go_num,hlt,mH (HTK.out (by simp [isRz,h1])),mH (ba HB.out _)⟩
     case measure=>simp [intOf];omega
   ·have h0':(xc == 0)=false:=by simpa using h0
    go_wp2
    go_roundw
    case rel=>exact⟨j+1,by go_num,hlt,mH (HTK.out (by simp [isRz,h0])),mH (ba HB.out _)⟩
    case measure=>simp [intOf];omega
  ·obtain rfl:j=rs.length:=by omega
   have HR:Hid (rs.any (isRz i)=false):=mH (by
    rw [List.any_eq_false]
    intro x hx
    have:=HA.out x (by rw [List.take_length];exact hx)
    simp [this])
   go_wp2
   go_ret
   exact⟨by simp [HR.out],HB.out⟩
end Go.Proofs.YtpdehdomilnmeaaGreatDoor
namespace Go.Proofs.YtpdehdomilnmeaaGreatDoor
open Go.ChangeShapes Go.WideShapes Go.ChangeAt Go.RowKit
set_option maxRecDepth 100000
set_option maxRecDepth 100000
attribute [local go_sem] World.cell?_alloc_some fAs
theorem two_of2 (w:World) (o1 o2:Obj):((w.alloc o1).alloc o2).heap[w.heap.size+1]?=some o2:=by
 have:=heap_alloc_new (w.alloc o1) o2
 simpa using this
def fndP (ps:List Np) (i:Int):Option Np:=ps.find? (fun t=>decide (t.1.id=i))
def FndP (w:World) (ps:List Np) (i:Int) (e:Ending) (w':World):Prop:=
 ((∃ p,fndP ps i=some p/\e=.returned (.tuple #[vNp p,.bool true])) ∨ (fndP ps i=none/\e=.returned (.tuple #[vNd zNd (.slice none 0 0),.bool false])))/\Below w.heap.size w w'
theorem fndP_at {ps:List Np} {i:Int} {j:Nat} {x:Np} (hA:∀ t ∈ ps.take j,¬ t.1.id=i) (hx:ps[j]?=some x) (hi:x.1.id=i):fndP ps i=some x:=by
 unfold fndP
 obtain⟨hl,hg⟩:=List.getElem?_eq_some_iff.mp hx
 have:ps=ps.take j ++ x :: ps.drop (j+1):=by rw [<- hg,List.getElem_cons_drop,List.take_append_drop]
 rw [this,List.find?_append,List.find?_eq_none.mpr (fun t ht=>by simpa using hA t ht)]
 simp [hi]
theorem fndP_no {ps:List Np} {i:Int} (hA:∀ t ∈ ps,¬ t.1.id=i):fndP ps i=none:=by
 unfold fndP
 rw [List.find?_eq_none]
 intro t ht
 simpa using hA t ht
set_option maxHeartbeats 25600000 in
theorem rfind_is (w:World) (t:Tr) (al:Option Addr) (cl:Nat) (gv:Value) (ps:List Np) (i:Int) (h:RowIn 7 c7 w (.slice al ps.length cl) ps) :
  Calls Tryz.prog 67 #[vTr (.slice al ps.length cl) gv t,.int .i64 i] w (FndP w ps i):=by
 have hlen:(ps.length:Int)<=9223372036854775807:=by
  obtain⟨_,_,_,_,hl,_⟩:=h
  exact hl
 have HE:=mH h
 clear h
 go_enter Tryz.func67,Tryz.ntmps67
 go_wp2
 obtain⟨W,hW⟩:∃ W,W=(w.alloc (oTr (.slice al ps.length cl) gv t)).alloc (.cells #[.int .i64 0,.int .i64 0,.int .i64 0,.int .i64 0,.int .i64 0,.int .i64 0,.slice none 0 0] 69):=⟨_,rfl⟩
 have HB0:Hid (Below w.heap.size w W):=mH (by rw [hW];exact ba (ba (Below.refl _ w) _) _)
 have HN0:Hid (W.heap[w.heap.size+1]?=some (.cells #[.int .i64 0,.int .i64 0,.int .i64 0,.int .i64 0,.int .i64 0,.int .i64 0,.slice none 0 0] 69 (0,0))):=mH (by rw [hW];exact two_of2 w _ _)
 rw [<- hW]
 clear hW
 go_loopw [11] (fun iv wr=>∃ j:Nat,iv=.int .i64 (j:Int)/\j<=ps.length/\Hid (∀ x ∈ ps.take j,¬ x.1.id=i)/\Hid (Below w.heap.size w wr)/\Hid (wr.heap[w.heap.size+1]?=some (.cells #[.int .i64 0,.int .i64 0,.int .i64 0,.int .i64 0,.int .i64 0,.int .i64 0,.slice none 0 0] 69 (0,0)))) (fun iv _=>ps.length - (intOf iv).toNat)
 case atStart=>exact⟨0,rfl,Nat.zero_le _,mH (fun x hx=>by simp at hx),HB0,HN0⟩
 case round=>
  clear HB0 HN0
  obtain⟨j,rfl,hj,HA,HB,HN⟩:=hrel
  by_cases hlt:j < ps.length
  ·obtain⟨b,off,x,rfl,hxj,hat⟩:=HE.out.at HB.out j hlt
   have HXJ:=mH hxj
   obtain⟨⟨id,pa,⟨k,q,T⟩,po,ts⟩,ta,tc⟩:=x
   obtain⟨q0,q1,q2,q3,q4,q5,q6⟩:=seven hat
   simp only [tvN] at q0 q1 q2 q3 q4 q5 q6
   have hji:(j:Int) < ps.length:=by omega
   have HNW:Hid ((wr.alloc (.cells #[.int .i64 id,.int .i64 pa,.int .i64 k,.int .i64 q,.int .i64 T,.int .i64 po,.slice ta ts.length tc] 69)).heap[w.heap.size+1]?=some (.cells #[.int .i64 0,.int .i64 0,.int .i64 0,.int .i64 0,.int .i64 0,.int .i64 0,.slice none 0 0] 69 (0,0))):=mH ((heap_alloc_old _ _ (lOh HN.out)).trans HN.out)
   have HBW:Hid (Below w.heap.size w (wr.alloc (.cells #[.int .i64 id,.int .i64 pa,.int .i64 k,.int .i64 q,.int .i64 T,.int .i64 po,.slice ta ts.length tc] 69))):=mH (ba HB.out _)
   clear hat hxj
   by_cases h0:id=i
   ·subst h0
    have HR:Hid (fndP ps id=some (⟨id,pa,(k,q,T),po,ts⟩,ta,tc)):=mH (fndP_at HA.out HXJ.out rfl)
    go_wp2_with (refine wpList_store_box rfl 69 (.tmp 4) (.tmp 19) rfl (w.heap.size+1) #[.int .i64 id,.int .i64 pa,.int .i64 k,.int .i64 q,.int .i64 T,.int .i64 po,.slice ta ts.length tc] rfl rfl 69 _ HNW.out size_node rfl (by simp [Value.oneCell']) ?_;intro w9 h9 k9)
    refine bodyPost_ret (leavesCT rfl h9 Tryz.underlying69 size_node _ rfl) rfl ⟨.inl ⟨_,HR.out,rfl⟩,HBW.out.trans (k9.below (fun k e=>by omega) HBW.out.size)⟩
   ·have h0':(id == i)=false:=by simpa using h0
    have HA':Hid (∀ x ∈ ps.take (j+1),¬ x.1.id=i):=mH (fun x hx=>by
     rw [List.take_add_one,HXJ.out] at hx
     rcases List.mem_append.mp hx with h | h
     ·exact HA.out x h
     ·simp at h;subst h;exact h0)
    go_wp2
    go_roundw
    case rel=>exact⟨j+1,by go_num,hlt,HA',HBW,HNW⟩
    case measure=>simp [intOf];omega
  ·obtain rfl:j=ps.length:=by omega
   have HR:Hid (fndP ps i=none):=mH (fndP_no (by have:=HA.out;rwa [List.take_length] at this))
   go_wp2_with (refine wpList_store_box rfl 69 (.tmp 4) (.tmp 21) rfl (w.heap.size+1) #[.int .i64 0,.int .i64 0,.int .i64 0,.int .i64 0,.int .i64 0,.int .i64 0,.slice none 0 0] rfl rfl 69 _ HN.out size_node rfl (by simp [Value.oneCell']) ?_;intro w9 h9 k9)
   refine bodyPost_ret (leavesCT rfl h9 Tryz.underlying69 size_node _ rfl) rfl ⟨.inr ⟨HR.out,rfl⟩,HB.out.trans (k9.below (fun k e=>by omega) HB.out.size)⟩
end Go.Proofs.YtpdehdomilnmeaaGreatDoor
namespace Go.Proofs.YtpdehdomilnmeaaGreatDoor
open Go.ChangeShapes Go.WideShapes Go.ChangeAt Go.RowKit
set_option maxRecDepth 100000
set_option maxRecDepth 100000
theorem run_append_own_src6 {P:Program} (w:World) (base:Nat) (t tx ty e:TypeId) (i:TypeInfo) (ht:P.underlying t=some (.slice e)) (hi:P.info? e=some i) (z:Value) (B:Nat) (hz:i.zero=some z) (hzs:z.cells.size=6)
  (hsize:i.size=6) (hby:i.bytes=B) (v:Value) (n:Nat) (xs:List Value) (hown:w.ownsRow base e 6 v n xs) (x:Value) (m:Nat) (news:List Value) (hs:Src P 6 tx x m news w)
  (h63:n+m<=maxLen) (hbytes:(n+m) * B<=140737488355328) (hbase:base<=w.heap.size) :
  ∃ v' w',(Builtin.append_ #[t,tx] ty #[v,x]).run P w=.ok v' w'/\w'.ownsRow base e 6 v' (n+m) (xs ++ news)/\w.grownBy w' v.ownBlock /\
   (v'.ownBlock=v.ownBlock ∨ v'.ownBlock=some w.heap.size):=by
 have hsmall:n+m<=9223372036854775807:=by simp only [maxLen] at h63;omega
 have hxl:xs.length=n * 6:=hown.1
 have hnl:news.length=m * 6:=hs.newsLen
 have hlen:(xs ++ news).length=(n+m) * 6:=by rw [List.length_append,hxl,hnl];omega
 have grown:∀ (old:Nat),old < n+m->∀ (row:Option Nat),
   (w.drew.alloc (.cells ((xs ++ news).toArray ++ Builtin.zeroCells z.cells (grownCap w (n+m) old e - (n+m))) e)).ownsRow base e 6
    (.slice (some ⟨w.heap.size,0,none⟩) (n+m) (grownCap w (n+m) old e)) (n+m) (xs ++ news) /\
   w.grownBy (w.drew.alloc (.cells ((xs ++ news).toArray ++ Builtin.zeroCells z.cells (grownCap w (n+m) old e - (n+m))) e)) row:=by
  intro old ho row
  have hge:=grownCap_ge w (n+m) old e
  have hcm:grownCap w (n+m) old e<=maxLen:=grownCap_le_maxLen w (n+m) old e h63
  refine⟨⟨hlen,.inr ⟨w.heap.size,_,_,rfl,hbase,heap_alloc_new w.drew _,hge,hcm, ?_, ?_⟩⟩,⟨rfl,rfl,rfl,by simp,fun k hk _=>heap_alloc_old w.drew _ hk⟩⟩
  ·simp only [Array.size_append,List.size_toArray,size_zeroCells,hzs,List.length_append,hxl,hnl]
   omega
  ·simp only [Array.toList_append]
   rw [<- hlen]
   exact List.take_left
 have hs':Src P i.size tx x m news w:=by rw [hsize];exact hs
 rcases hown.2 with ⟨rfl,rfl⟩ | ⟨g,cap,cur,rfl,hbg,hg,hnc,hcm,hcs,htake⟩
 ·have hx:xs=[]:=List.eq_nil_of_length_eq_zero (by omega)
  subst hx
  by_cases hm:m=0
  ·subst hm
   have hn:news=[]:=List.eq_nil_of_length_eq_zero (by omega)
   subst hn
   refine⟨.slice none 0 0,w, ?_,World.ownsRow_nil w base e 6,⟨rfl,rfl,rfl,Nat.le_refl _,fun _ _ _=>rfl⟩,.inl rfl⟩
   have hf:=hs'.cells
   have hl:=hs.len
   rcases hs.kind with ⟨e',hk⟩ | hk <;> simp [Builtin.append_,run_underlying ht,run_underlying hk,sizeOf,typeInfo,hi,hl,hf]
  ·have hr:=run_append_grow_src (P:=P) w t tx ty e i z ht hi hz none 0 0 [] (by simpa using run_firstCells_none (P:=P) w.drew i.size 0 0 0) x m news hs' (by omega) (by omega) (by rw [hby];exact growslice_fits (by omega) (by first | exact hbytes | simpa using hbytes))
   have hgr:=grown 0 (by omega) (Value.ownBlock (.slice none 0 0))
   simp only [Nat.zero_add,List.nil_append] at hgr hr ⊢
   exact⟨_,_,hr,hgr.1,hgr.2,.inr rfl⟩
 ·by_cases hroom:n+m<=cap
  ·have hcs':cur.size=cap * 6:=hcs
   have hst:=run_storeCells_at P g (n * 6) e news 0 cur w hg (by rw [hnl];omega) hs.one
   simp only [Nat.add_zero,hnl] at hst
   have hr:(Builtin.append_ #[t,tx] ty #[.slice (some ⟨g,0,none⟩) n cap,x]).run P w=.ok (.slice (some ⟨g,0,none⟩) (n+m) cap) (w.setRow g (cur.toList.take (n * 6) ++ news ++ cur.toList.drop (n * 6+m * 6)).toArray):=by
    have hf:=hs.cells
    have hl:=hs.len
    rcases hs.kind with ⟨e',hk⟩ | hk <;> simp [Builtin.append_,run_underlying ht,run_underlying hk,sizeOf,typeInfo,hi,hsize,hl,hroom,hf,Addr.add_lit,hst]
   refine⟨_,_,hr,⟨hlen,.inr ⟨g,cap,_,rfl,hbg,setRow_heap w g cur _ e _ hg,hroom,hcm, ?_, ?_⟩⟩,⟨rfl,rfl,rfl,by simp,fun k _ hk=>setRow_other w g k _ (fun e=>hk (by simp [Value.ownBlock,e]))⟩,.inl rfl⟩
   ·simp only [List.size_toArray,List.length_append,List.length_take,List.length_drop,Array.length_toList,hnl]
    omega
   ·have ht':cur.toList.take (n * 6)=xs:=htake
    rw [ht',<- hlen]
    exact List.take_left
  ·have holds:∀ j u,xs[j]?=some u->w.cell? ((⟨g,0,none⟩:Addr).add j)=some u:=hown.cells (g:=g) rfl
   have hr:=run_append_grow_src (P:=P) w t tx ty e i z ht hi hz (some ⟨g,0,none⟩) n cap xs
    (run_firstCells_some (P:=P) w.drew i.size n ⟨g,0,none⟩ n cap xs (by rw [hsize];exact hxl) (by simpa using holds)) x m news hs' (by omega) (by omega) (by rw [hby];exact growslice_fits (by omega) (by first | exact hbytes | simpa using hbytes))
   have hgr:=grown cap (by omega) (Value.ownBlock (.slice (some ⟨g,0,none⟩) n cap))
   exact⟨_,_,hr,hgr.1,hgr.2,.inr rfl⟩
theorem wpList_append_src6 {P:Program} (w:World) {ops:Array Oper} {rest:List Oper} {o:Oper} {a:Act} {Q:Exit->Act->World->Prop} (hgd:o.guard=none) (sl x:Operand) (t tx:TypeId)
  (ho:o.op=.call { callee:=.builtin .append,args:=#[sl,x],argTypes:=#[t,tx] })
  (base:Nat) (e:TypeId) (i:TypeInfo) (ht:P.underlying t=some (.slice e)) (hi:P.info? e=some i) (z:Value) (B:Nat) (hz:i.zero=some z) (hzs:z.cells.size=6) (hsize:i.size=6) (hby:i.bytes=B)
  (v:Value) (n:Nat) (xs:List Value) (hs:a.eval sl=v) (hown:w.ownsRow base e 6 v n xs) (xv:Value) (m:Nat) (news:List Value) (hx:a.eval x=xv) (hsrc:Src P 6 tx xv m news w)
  (h63:n+m<=maxLen) (hbytes:(n+m) * B<=140737488355328) (hbase:base<=w.heap.size)
  (h:∀ v' w',w'.ownsRow base e 6 v' (n+m) (xs ++ news)->w.grownBy w' v.ownBlock->(v'.ownBlock=v.ownBlock ∨ v'.ownBlock=some w.heap.size)->wpList P ops Q rest (a.put o.dst v') w'):wpList P ops Q (o :: rest) a w:=by
 refine wpList_plain hgd fun K hK=>?_
 obtain⟨v',w',hr,h2,h3,h4⟩:=run_append_own_src6 (P:=P) w base t tx o.type e i ht hi z B hz hzs hsize hby v n xs hown xv m news hsrc h63 hbytes hbase
 unfold Oper.wp execOp
 simp only [ho,resolve,invoke,builtin,Sem.run_bind,Sem.run_pure,Result.andThen_ok,List.map_toArray,List.map_cons,List.map_nil,hs,hx,hr]
 exact hK _ _ (h v' w' h2 h3 h4)
theorem run_append_own_srcV {P:Program} (w:World) (base:Nat) (t tx ty e:TypeId) (i:TypeInfo) (ht:P.underlying t=some (.slice e)) (hi:P.info? e=some i) (z:Value) (B:Nat) (hz:i.zero=some z) (hzs:z.cells.size=1)
  (hsize:i.size=1) (hby:i.bytes=B) (v:Value) (n:Nat) (xs:List Value) (hown:w.ownsRow base e 1 v n xs) (x:Value) (m:Nat) (news:List Value) (hs:Src P 1 tx x m news w)
  (h63:n+m<=maxLen) (hbytes:(n+m) * B<=140737488355328) (hbase:base<=w.heap.size) :
  ∃ v' w',(Builtin.append_ #[t,tx] ty #[v,x]).run P w=.ok v' w'/\w'.ownsRow base e 1 v' (n+m) (xs ++ news)/\w.grownBy w' v.ownBlock /\
   (v'.ownBlock=v.ownBlock ∨ v'.ownBlock=some w.heap.size):=by
 have hsmall:n+m<=9223372036854775807:=by simp only [maxLen] at h63;omega
 have hxl:xs.length=n:=by simpa using hown.1
 have hnl:news.length=m:=by simpa using hs.newsLen
 have hlen:(xs ++ news).length=(n+m) * 1:=by rw [List.length_append,hxl,hnl,Nat.mul_one]
 have grown:∀ (old:Nat),old < n+m->∀ (row:Option Nat),
   (w.drew.alloc (.cells ((xs ++ news).toArray ++ Builtin.zeroCells z.cells (grownCap w (n+m) old e - (n+m))) e)).ownsRow base e 1
    (.slice (some ⟨w.heap.size,0,none⟩) (n+m) (grownCap w (n+m) old e)) (n+m) (xs ++ news) /\
   w.grownBy (w.drew.alloc (.cells ((xs ++ news).toArray ++ Builtin.zeroCells z.cells (grownCap w (n+m) old e - (n+m))) e)) row:=by
  intro old ho row
  have hge:=grownCap_ge w (n+m) old e
  have hcm:grownCap w (n+m) old e<=maxLen:=grownCap_le_maxLen w (n+m) old e h63
  refine⟨⟨hlen,.inr ⟨w.heap.size,_,_,rfl,hbase,heap_alloc_new w.drew _,hge,hcm, ?_, ?_⟩⟩,⟨rfl,rfl,rfl,by simp,fun k hk _=>heap_alloc_old w.drew _ hk⟩⟩
  ·simp only [Array.size_append,List.size_toArray,size_zeroCells,hzs,List.length_append,hxl,hnl]
   omega
  ·simp only [Array.toList_append]
   rw [<- hlen]
   exact List.take_left
 have hs':Src P i.size tx x m news w:=by rw [hsize];exact hs
 rcases hown.2 with ⟨rfl,rfl⟩ | ⟨g,cap,cur,rfl,hbg,hg,hnc,hcm,hcs,htake⟩
 ·have hx:xs=[]:=List.eq_nil_of_length_eq_zero hxl
  subst hx
  by_cases hm:m=0
  ·subst hm
   have hn:news=[]:=List.eq_nil_of_length_eq_zero hnl
   subst hn
   refine⟨.slice none 0 0,w, ?_,World.ownsRow_nil w base e 1,⟨rfl,rfl,rfl,Nat.le_refl _,fun _ _ _=>rfl⟩,.inl rfl⟩
   have hf:=hs'.cells
   have hl:=hs.len
   rcases hs.kind with ⟨e',hk⟩ | hk <;> simp [Builtin.append_,run_underlying ht,run_underlying hk,sizeOf,typeInfo,hi,hl,hf]
  ·have hr:=run_append_grow_src (P:=P) w t tx ty e i z ht hi hz none 0 0 [] (by simpa using run_firstCells_none (P:=P) w.drew i.size 0 0 0) x m news hs' (by omega) (by omega) (by rw [hby];exact growslice_fits (by omega) (by first | exact hbytes | simpa using hbytes))
   have hgr:=grown 0 (by omega) (Value.ownBlock (.slice none 0 0))
   simp only [Nat.zero_add,List.nil_append] at hgr hr ⊢
   exact⟨_,_,hr,hgr.1,hgr.2,.inr rfl⟩
 ·by_cases hroom:n+m<=cap
  ·have hcs':cur.size=cap:=by simpa using hcs
   have hst:=run_storeCells_at P g n e news 0 cur w hg (by rw [hnl];omega) hs.one
   simp only [Nat.add_zero,hnl] at hst
   have hr:(Builtin.append_ #[t,tx] ty #[.slice (some ⟨g,0,none⟩) n cap,x]).run P w=.ok (.slice (some ⟨g,0,none⟩) (n+m) cap) (w.setRow g (cur.toList.take n ++ news ++ cur.toList.drop (n+m)).toArray):=by
    have hf:=hs.cells
    have hl:=hs.len
    rcases hs.kind with ⟨e',hk⟩ | hk <;> simp [Builtin.append_,run_underlying ht,run_underlying hk,sizeOf,typeInfo,hi,hsize,hl,hroom,hf,Addr.add_lit,hst]
   refine⟨_,_,hr,⟨hlen,.inr ⟨g,cap,_,rfl,hbg,setRow_heap w g cur _ e _ hg,hroom,hcm, ?_, ?_⟩⟩,⟨rfl,rfl,rfl,by simp,fun k _ hk=>setRow_other w g k _ (fun e=>hk (by simp [Value.ownBlock,e]))⟩,.inl rfl⟩
   ·simp only [List.size_toArray,List.length_append,List.length_take,List.length_drop,Array.length_toList,hnl]
    omega
   ·have ht':cur.toList.take n=xs:=by simpa using htake
    rw [ht',<- hlen]
    exact List.take_left
  ·have holds:∀ j u,xs[j]?=some u->w.cell? ((⟨g,0,none⟩:Addr).add j)=some u:=hown.cells (g:=g) rfl
   have hr:=run_append_grow_src (P:=P) w t tx ty e i z ht hi hz (some ⟨g,0,none⟩) n cap xs
    (run_firstCells_some (P:=P) w.drew i.size n ⟨g,0,none⟩ n cap xs (by rw [hsize,Nat.mul_one];exact hxl) (by simpa using holds)) x m news hs' (by omega) (by omega) (by rw [hby];exact growslice_fits (by omega) (by first | exact hbytes | simpa using hbytes))
   have hgr:=grown cap (by omega) (Value.ownBlock (.slice (some ⟨g,0,none⟩) n cap))
   exact⟨_,_,hr,hgr.1,hgr.2,.inr rfl⟩
theorem step_append_src6 {P:Program} {ops:Array Oper} {o:Oper} {a:Act} {w:World} {K:Act->World->Prop} {Q:Exit->Act->World->Prop} {E:Prop} (hgd:o.guard=none) (sl x:Operand) (t tx:TypeId)
  (hop:o.op=.call { callee:=.builtin .append,args:=#[sl,x],argTypes:=#[t,tx] })
  (base:Nat) (e:TypeId) (i:TypeInfo) (ht:P.underlying t=some (.slice e)) (hi:P.info? e=some i) (z:Value) (B:Nat) (hz:i.zero=some z) (hzs:z.cells.size=6) (hsize:i.size=6) (hby:i.bytes=B)
  (v:Value) (n:Nat) (xs:List Value) (hs:a.eval sl=v) (hown:w.ownsRow base e 6 v n xs) (xv:Value) (m:Nat) (news:List Value) (hx:a.eval x=xv) (hsrc:Src P 6 tx xv m news w)
  (h63:n+m<=maxLen) (hbytes:(n+m) * B<=140737488355328) (hbase:base<=w.heap.size)
  (h:∀ v' w',w'.ownsRow base e 6 v' (n+m) (xs ++ news)->w.grownBy w' v.ownBlock->(v'.ownBlock=v.ownBlock ∨ v'.ownBlock=some w.heap.size)->K (a.put o.dst v') w') :
  if Region.wanted o (yielded ops a.tmps)=true then Oper.wp P o a w K Q else E:=by
 have hw:Region.wanted o (yielded ops a.tmps)=true:=by simp [Region.wanted,hgd]
 rw [if_pos hw]
 obtain⟨v',w',hr,h2,h3,h4⟩:=run_append_own_src6 (P:=P) w base t tx o.type e i ht hi z B hz hzs hsize hby v n xs hown xv m news hsrc h63 hbytes hbase
 unfold Oper.wp execOp
 simp only [hop,resolve,invoke,builtin,Sem.run_bind,Sem.run_pure,Result.andThen_ok,List.map_toArray,List.map_cons,List.map_nil,hs,hx,hr]
 exact h v' w' h2 h3 h4
theorem step_append_srcV {P:Program} {ops:Array Oper} {o:Oper} {a:Act} {w:World} {K:Act->World->Prop} {Q:Exit->Act->World->Prop} {E:Prop} (hgd:o.guard=none) (sl x:Operand) (t tx:TypeId)
  (hop:o.op=.call { callee:=.builtin .append,args:=#[sl,x],argTypes:=#[t,tx] })
  (base:Nat) (e:TypeId) (i:TypeInfo) (ht:P.underlying t=some (.slice e)) (hi:P.info? e=some i) (z:Value) (B:Nat) (hz:i.zero=some z) (hzs:z.cells.size=1) (hsize:i.size=1) (hby:i.bytes=B)
  (v:Value) (n:Nat) (xs:List Value) (hs:a.eval sl=v) (hown:w.ownsRow base e 1 v n xs) (xv:Value) (m:Nat) (news:List Value) (hx:a.eval x=xv) (hsrc:Src P 1 tx xv m news w)
  (h63:n+m<=maxLen) (hbytes:(n+m) * B<=140737488355328) (hbase:base<=w.heap.size)
  (h:∀ v' w',w'.ownsRow base e 1 v' (n+m) (xs ++ news)->w.grownBy w' v.ownBlock->(v'.ownBlock=v.ownBlock ∨ v'.ownBlock=some w.heap.size)->K (a.put o.dst v') w') :
  if Region.wanted o (yielded ops a.tmps)=true then Oper.wp P o a w K Q else E:=by
 have hw:Region.wanted o (yielded ops a.tmps)=true:=by simp [Region.wanted,hgd]
 rw [if_pos hw]
 obtain⟨v',w',hr,h2,h3,h4⟩:=run_append_own_srcV (P:=P) w base t tx o.type e i ht hi z B hz hzs hsize hby v n xs hown xv m news hsrc h63 hbytes hbase
 unfold Oper.wp execOp
 simp only [hop,resolve,invoke,builtin,Sem.run_bind,Sem.run_pure,Result.andThen_ok,List.map_toArray,List.map_cons,List.map_nil,hs,hx,hr]
 exact h v' w' h2 h3 h4
structure Sp where
 id:Int
 sv:Sv
 wk:List Bool
 rn:List Bool
abbrev Spv:=Sp × (Option Addr × Nat) × (Option Addr × Nat)
abbrev wkV (p:Spv):Value:=.slice p.2.1.1 p.1.wk.length p.2.1.2
abbrev rnV (p:Spv):Value:=.slice p.2.2.1 p.1.rn.length p.2.2.2
def c6s (p:Spv):List Value:=[.int .i64 p.1.id,.int .i64 p.1.sv.1,.int .i64 p.1.sv.2.1,.int .i64 p.1.sv.2.2,wkV p,rnV p]
theorem c6s_len (p:Spv):(c6s p).length=6:=rfl
theorem one6s (p:Spv):∀ u ∈ c6s p,u.oneCell'=true:=by
 intro u hx
 simp only [c6s,List.mem_cons,List.not_mem_nil,or_false] at hx
 rcases hx with rfl | rfl | rfl | rfl | rfl | rfl <;> rfl
theorem info_span:(Tryz.prog.info? 84).map (fun i=>(i.zero,i.size,i.bytes))=some (some (.agg #[.int .i64 0,.int .i64 0,.int .i64 0,.int .i64 0,.slice none 0 0,.slice none 0 0]),6,80):=by kernel_rfl
theorem info_bool:(Tryz.prog.info? 4).map (fun i=>(i.zero,i.size,i.bytes))=some (some (.bool false),1,1):=by kernel_rfl
structure SpW (w:World) (base:Nat) (tg:Nat->Int × Int) (v:Value) (ps:List Spv):Prop where
 row:w.ownsRow base 84 6 v ps.length (ps.flatMap c6s)
 wk:∀ p ∈ ps,w.ownsRow base 4 1 (wkV p) p.1.wk.length (p.1.wk.map Value.bool)
 rn:∀ p ∈ ps,w.ownsRow base 4 1 (rnV p) p.1.rn.length (p.1.rn.map Value.bool)
 tr:∀ k,v.ownBlock=some k->tg k=(1,0)
 tw:∀ p ∈ ps,∀ k,(wkV p).ownBlock=some k->tg k=(2,p.1.id)
 tn:∀ p ∈ ps,∀ k,(rnV p).ownBlock=some k->tg k=(3,p.1.id)
 un:ps.Pairwise (fun a b=>a.1.id ≠ b.1.id)
 sz:∀ k,tg k ≠ (0,0)->base<=k/\k < w.heap.size
theorem SpW.kept {G:Nat->Prop} {w w':World} {base:Nat} {tg:Nat->Int × Int} {v:Value} {ps:List Spv} (h:SpW w base tg v ps) (hk:Kept G w w') (hn:∀ k,tg k ≠ (0,0)->¬ G k):SpW w' base tg v ps:=
 ⟨oNk h.row hk (fun k e=>hn k (by rw [h.tr k e];simp)),fun p hp=>oNk (h.wk p hp) hk (fun k e=>hn k (by rw [h.tw p hp k e];simp)),fun p hp=>oNk (h.rn p hp) hk (fun k e=>hn k (by rw [h.tn p hp k e];simp)),h.tr,h.tw,h.tn,h.un,fun k e=>⟨(h.sz k e).1,Nat.lt_of_lt_of_le (h.sz k e).2 hk.size⟩⟩
theorem SpW.below {w w':World} {base:Nat} {tg:Nat->Int × Int} {v:Value} {ps:List Spv} (h:SpW w base tg v ps) (hb:Below w.heap.size w w'):SpW w' base tg v ps:=
 h.kept (kept_new (F:=fun _=>False) hb) (fun _ _ f=>f)
theorem SpW.uniq {w:World} {base:Nat} {tg:Nat->Int × Int} {v:Value} {ps:List Spv} (h:SpW w base tg v ps) {i j:Nat} {p q:Spv} (hp:ps[i]?=some p) (hq:ps[j]?=some q) (e:p.1.id=q.1.id):i=j:=by
 obtain⟨h1,e1⟩:=List.getElem?_eq_some_iff.mp hp
 obtain⟨h2,e2⟩:=List.getElem?_eq_some_iff.mp hq
 rcases Nat.lt_trichotomy i j with q1 | q1 | q1
 ·exact absurd (by rw [e1,e2];exact e) (List.pairwise_iff_getElem.mp h.un i j h1 h2 q1)
 ·exact q1
 ·exact absurd (by rw [e1,e2];exact e.symm) (List.pairwise_iff_getElem.mp h.un j i h2 h1 q1)
theorem SpW.rowIn {w:World} {base:Nat} {tg:Nat->Int × Int} {v:Value} {ps:List Spv} (h:SpW w base tg v ps) (hl:ps.length<=1000000):RowIn 6 c6s w v ps:=RowIn.of_owns (fun _=>rfl) (by omega) h.row
theorem six_at {w:World} {b o:Nat} {t:Spv} (h:∀ r u,r < 6->(c6s t)[r]?=some u->w.cell? ⟨b,o+r,none⟩=some u):w.cell? ⟨b,o,none⟩=some (.int .i64 t.1.id)/\w.cell? ⟨b,o+1,none⟩=some (.int .i64 t.1.sv.1)/\w.cell? ⟨b,o+2,none⟩=some (.int .i64 t.1.sv.2.1)/\w.cell? ⟨b,o+3,none⟩=some (.int .i64 t.1.sv.2.2)/\w.cell? ⟨b,o+4,none⟩=some (wkV t)/\w.cell? ⟨b,o+5,none⟩=some (rnV t):=
 ⟨h 0 _ (by omega) rfl,h 1 _ (by omega) rfl,h 2 _ (by omega) rfl,h 3 _ (by omega) rfl,h 4 _ (by omega) rfl,h 5 _ (by omega) rfl⟩
theorem SpW.filter {w w':World} {base S0:Nat} {tg:Nat->Int × Int} {v v':Value} {ps qs:List Spv} (h:SpW w base tg v ps) (hb:Below w.heap.size w w') (hB:base<=w.heap.size) (hS:w.heap.size<=S0) (hq:qs.Sublist ps) (hr:w'.ownsRow S0 84 6 v' qs.length (qs.flatMap c6s)) :
  SpW w' base (fun k=>if v'.ownBlock=some k then (1,0) else if tg k=(1,0) then (0,0) else tg k) v' qs:=by
 have h':=h.below hb
 have hlt:∀ k,v'.ownBlock=some k->S0<=k/\k < w'.heap.size:=fun k e=>hr.lt k e
 have old:∀ k,tg k ≠ (0,0)->tg k ≠ (1,0)->(if v'.ownBlock=some k then (1,0) else if tg k=(1,0) then (0,0) else tg k)=tg k:=fun k h1 h2=>by
  rw [if_neg (fun e=>by have:=(hlt k e).1;have:=(h.sz k h1).2;omega),if_neg h2]
 refine⟨own_lower hr (by omega),fun p hp=>h'.wk p (hq.subset hp),fun p hp=>h'.rn p (hq.subset hp),fun k e=>if_pos e,fun p hp k e=>?_,fun p hp k e=>?_,h.un.sublist hq,fun k e=>?_⟩
 ·have q:=h.tw p (hq.subset hp) k e
  rw [old k (by rw [q];simp) (by rw [q];simp)];exact q
 ·have q:=h.tn p (hq.subset hp) k e
  rw [old k (by rw [q];simp) (by rw [q];simp)];exact q
 ·by_cases c:v'.ownBlock=some k
  ·have:=hlt k c
   exact⟨by omega,this.2⟩
  ·rw [if_neg c] at e
   split at e
   ·exact absurd rfl e
   ·exact h'.sz k e
theorem grown_kept {w W0 w1:World} {row:Option Nat} (hb:Below w.heap.size w W0) (hg:W0.grownBy w1 row):Kept (fun k=>row=some k) w w1:=
 (kept_new (F:=fun k=>row=some k) hb).trans (Kept.grown hg (fun _ e=>e)) (fun _ e=>.inl e)
theorem pw_set {α:Type} {R:α->α->Prop} {xs:List α} {i:Nat} {x y:α} (h:xs.Pairwise R) (hx:xs[i]?=some x) (h1:∀ z,R x z->R y z) (h2:∀ z,R z x->R z y):(xs.set i y).Pairwise R:=by
 rw [List.pairwise_iff_getElem] at h ⊢
 obtain⟨hi,hxe⟩:=List.getElem?_eq_some_iff.mp hx
 intro a b ha hb hab
 rw [List.length_set] at ha hb
 rw [List.getElem_set,List.getElem_set]
 by_cases ea:i=a
 ·subst ea
  rw [if_pos rfl,if_neg (by omega)]
  exact h1 _ (hxe ▸ h i b ha hb hab)
 ·rw [if_neg ea]
  by_cases eb:i=b
  ·subst eb
   rw [if_pos rfl]
   exact h2 _ (hxe ▸ h a i ha hb hab)
  ·rw [if_neg eb]
   exact h a b ha hb hab
theorem mem_set_cases {α:Type} {xs:List α} {i:Nat} {y z:α} (h:z ∈ xs.set i y):z=y ∨ ∃ j,¬ j=i/\xs[j]?=some z:=by
 obtain⟨j,hj,e⟩:=List.getElem_of_mem h
 rw [List.length_set] at hj
 rw [List.getElem_set] at e
 by_cases c:i=j
 ·rw [if_pos c] at e;exact .inl e.symm
 ·rw [if_neg c] at e
  exact .inr ⟨j,fun q=>c q.symm,List.getElem?_eq_some_iff.mpr ⟨hj,e⟩⟩
def wkS (p:Spv) (x:Bool) (a:Option Addr) (c:Nat):Spv:=(⟨p.1.id,p.1.sv,p.1.wk ++ [x],p.1.rn⟩,(a,c),p.2.2)
def rnS (p:Spv) (x:Bool) (a:Option Addr) (c:Nat):Spv:=(⟨p.1.id,p.1.sv,p.1.wk,p.1.rn ++ [x]⟩,p.2.1,(a,c))
theorem SpW.putW {w W0 w1:World} {base g n cap:Nat} {tg:Nat->Int × Int} {ps:List Spv} {i:Nat} {p:Spv} {x:Bool} {a:Option Addr} {c:Nat} (h:SpW w base tg (.slice (some ⟨g,0,none⟩) n cap) ps) (hp:ps[i]?=some p) (hn:n=ps.length) (hb:Below w.heap.size w W0)
  (ho:w1.ownsRow base 4 1 (.slice a (p.1.wk.length+1) c) (p.1.wk.length+1) (p.1.wk.map Value.bool ++ [Value.bool x])) (hg:W0.grownBy w1 (wkV p).ownBlock) (hat:(Value.slice a (p.1.wk.length+1) c).ownBlock=(wkV p).ownBlock ∨ (Value.slice a (p.1.wk.length+1) c).ownBlock=some W0.heap.size) :
  (∃ tg',SpW (w1.setCell ⟨g,i * 6+4,none⟩ (.slice a (p.1.wk.length+1) c)) base tg' (.slice (some ⟨g,0,none⟩) n cap) (ps.set i (wkS p x a c))/\∀ k,k < w.heap.size->tg' k=tg k)/\Kept (fun k=>tg k ≠ (0,0)) w (w1.setCell ⟨g,i * 6+4,none⟩ (.slice a (p.1.wk.length+1) c)):=by
 subst hn
 have hmem:=List.mem_of_getElem? hp
 have hk1:=grown_kept hb hg
 have hk2:=Kept.setCell (F:=fun k=>k=g) w1 (p:=⟨g,i * 6+4,none⟩) rfl (.slice a (p.1.wk.length+1) c)
 have htg:tg g=(1,0):=h.tr g rfl
 have hgl:=(h.sz g (by rw [htg];simp)).2
 have hs0:=hb.size
 have nwk:∀ k,(wkV p).ownBlock=some k->tg k=(2,p.1.id):=h.tw p hmem
 refine⟨⟨fun k=>if k < w.heap.size then tg k else if (Value.slice a (p.1.wk.length+1) c).ownBlock=some k then (2,p.1.id) else (0,0),⟨?_,fun q hq=>?_,fun q hq=>?_,fun k e=>?_,fun q hq k e=>?_,fun q hq k e=>?_, ?_,fun k e=>?_⟩,fun k hk=>if_pos hk⟩, ?_⟩
 ·have h1:=oNk h.row hk1 (fun k e f=>by have:=nwk k f;have h2:=h.tr k e;rw [h2] at this;simp at this)
  have h2:=own_put h1 (i * 6+4) (.slice a (p.1.wk.length+1) c)
  rw [fl_set c6s 6 (fun _=>rfl) ps i 4 p (wkS p x a c) _ hp (by omega) (by simp [c6s,wkS,wkV,rnV])] at h2
  rw [List.length_set]
  exact h2
 ·rcases mem_set_cases hq with rfl | ⟨j,hj,hq2⟩
  ·have h1:=oNk ho hk2 (fun k e f=>by
    subst f
    rcases hat with q | q
    ·rw [q] at e;have:=nwk _ e;rw [htg] at this;simp at this
    ·rw [q] at e;simp at e;omega)
   simpa [wkS,wkV] using h1
  ·have hm2:=List.mem_of_getElem? hq2
   have h1:=oNk (h.wk q hm2) hk1 (fun k e f=>by have:=nwk k f;have h2:=h.tw q hm2 k e;rw [h2] at this;simp at this;exact hj (h.uniq hq2 hp this))
   exact oNk h1 hk2 (fun k e f=>by subst f;have h2:=h.tw q hm2 _ e;rw [htg] at h2;simp at h2)
 ·have hrn:∀ q ∈ ps,(w1.setCell ⟨g,i * 6+4,none⟩ (.slice a (p.1.wk.length+1) c)).ownsRow base 4 1 (rnV q) q.1.rn.length (q.1.rn.map Value.bool):=fun q hm2=>by
   have h1:=oNk (h.rn q hm2) hk1 (fun k e f=>by have:=nwk k f;have h2:=h.tn q hm2 k e;rw [h2] at this;simp at this)
   exact oNk h1 hk2 (fun k e f=>by subst f;have h2:=h.tn q hm2 _ e;rw [htg] at h2;simp at h2)
  rcases mem_set_cases hq with rfl | ⟨j,hj,hq2⟩
  ·exact hrn p hmem
  ·exact hrn q (List.mem_of_getElem? hq2)
 ·have h2:=h.tr k e
  rw [if_pos (h.sz k (by rw [h2];simp)).2];exact h2
 ·rcases mem_set_cases hq with rfl | ⟨j,hj,hq2⟩
  ·have e':(Value.slice a (p.1.wk.length+1) c).ownBlock=some k:=by simpa [wkS,wkV] using e
   show (if _ then _ else _)=_
   rcases hat with q | q
   ·have h2:=nwk k (q ▸ e')
    rw [if_pos (h.sz k (by rw [h2];simp)).2];exact h2
   ·have:k=W0.heap.size:=by rw [q] at e';simp at e';exact e'.symm
    rw [if_neg (by omega),if_pos e'];rfl
  ·have h2:=h.tw q (List.mem_of_getElem? hq2) k e
   rw [if_pos (h.sz k (by rw [h2];simp)).2];exact h2
 ·have hq3:∃ q' ∈ ps,(rnV q').ownBlock=some k/\q'.1.id=q.1.id:=by
   rcases mem_set_cases hq with rfl | ⟨j,hj,hq2⟩
   ·exact⟨p,hmem,e,rfl⟩
   ·exact⟨q,List.mem_of_getElem? hq2,e,rfl⟩
  obtain⟨q',hq',e',hid⟩:=hq3
  have h2:=h.tn q' hq' k e'
  rw [if_pos (h.sz k (by rw [h2];simp)).2,<- hid];exact h2
 ·exact pw_set h.un hp (fun z hz=>hz) (fun z hz=>hz)
 ·have hs2:=hk2.size
  have hs1:=hk1.size
  by_cases hk:k < w.heap.size
  ·rw [if_pos hk] at e
   exact⟨(h.sz k e).1,by omega⟩
  ·rw [if_neg hk] at e
   split at e
   ·rename_i e2
    have:=ho.lt k e2
    exact⟨this.1,by omega⟩
   ·exact absurd rfl e
 ·exact(hk1.mono (fun k e=>by rw [nwk k e];simp)).trans hk2 (fun k e=>.inl (by rw [e,htg];simp))
theorem SpW.putR {w W0 w1:World} {base g n cap:Nat} {tg:Nat->Int × Int} {ps:List Spv} {i:Nat} {p:Spv} {x:Bool} {a:Option Addr} {c:Nat} (h:SpW w base tg (.slice (some ⟨g,0,none⟩) n cap) ps) (hp:ps[i]?=some p) (hn:n=ps.length) (hb:Below w.heap.size w W0)
  (ho:w1.ownsRow base 4 1 (.slice a (p.1.rn.length+1) c) (p.1.rn.length+1) (p.1.rn.map Value.bool ++ [Value.bool x])) (hg:W0.grownBy w1 (rnV p).ownBlock) (hat:(Value.slice a (p.1.rn.length+1) c).ownBlock=(rnV p).ownBlock ∨ (Value.slice a (p.1.rn.length+1) c).ownBlock=some W0.heap.size) :
  (∃ tg',SpW (w1.setCell ⟨g,i * 6+5,none⟩ (.slice a (p.1.rn.length+1) c)) base tg' (.slice (some ⟨g,0,none⟩) n cap) (ps.set i (rnS p x a c))/\∀ k,k < w.heap.size->tg' k=tg k)/\Kept (fun k=>tg k ≠ (0,0)) w (w1.setCell ⟨g,i * 6+5,none⟩ (.slice a (p.1.rn.length+1) c)):=by
 subst hn
 have hmem:=List.mem_of_getElem? hp
 have hk1:=grown_kept hb hg
 have hk2:=Kept.setCell (F:=fun k=>k=g) w1 (p:=⟨g,i * 6+5,none⟩) rfl (.slice a (p.1.rn.length+1) c)
 have htg:tg g=(1,0):=h.tr g rfl
 have hgl:=(h.sz g (by rw [htg];simp)).2
 have hs0:=hb.size
 have nrn:∀ k,(rnV p).ownBlock=some k->tg k=(3,p.1.id):=h.tn p hmem
 refine⟨⟨fun k=>if k < w.heap.size then tg k else if (Value.slice a (p.1.rn.length+1) c).ownBlock=some k then (3,p.1.id) else (0,0),⟨?_,fun q hq=>?_,fun q hq=>?_,fun k e=>?_,fun q hq k e=>?_,fun q hq k e=>?_, ?_,fun k e=>?_⟩,fun k hk=>if_pos hk⟩, ?_⟩
 ·have h1:=oNk h.row hk1 (fun k e f=>by have:=nrn k f;have h2:=h.tr k e;rw [h2] at this;simp at this)
  have h2:=own_put h1 (i * 6+5) (.slice a (p.1.rn.length+1) c)
  rw [fl_set c6s 6 (fun _=>rfl) ps i 5 p (rnS p x a c) _ hp (by omega) (by simp [c6s,rnS,wkV,rnV])] at h2
  rw [List.length_set]
  exact h2
 ·have hrn:∀ q ∈ ps,(w1.setCell ⟨g,i * 6+5,none⟩ (.slice a (p.1.rn.length+1) c)).ownsRow base 4 1 (wkV q) q.1.wk.length (q.1.wk.map Value.bool):=fun q hm2=>by
   have h1:=oNk (h.wk q hm2) hk1 (fun k e f=>by have:=nrn k f;have h2:=h.tw q hm2 k e;rw [h2] at this;simp at this)
   exact oNk h1 hk2 (fun k e f=>by subst f;have h2:=h.tw q hm2 _ e;rw [htg] at h2;simp at h2)
  rcases mem_set_cases hq with rfl | ⟨j,hj,hq2⟩
  ·exact hrn p hmem
  ·exact hrn q (List.mem_of_getElem? hq2)
 ·rcases mem_set_cases hq with rfl | ⟨j,hj,hq2⟩
  ·have h1:=oNk ho hk2 (fun k e f=>by
    subst f
    rcases hat with q | q
    ·rw [q] at e;have:=nrn _ e;rw [htg] at this;simp at this
    ·rw [q] at e;simp at e;omega)
   simpa [rnS,rnV] using h1
  ·have hm2:=List.mem_of_getElem? hq2
   have h1:=oNk (h.rn q hm2) hk1 (fun k e f=>by have:=nrn k f;have h2:=h.tn q hm2 k e;rw [h2] at this;simp at this;exact hj (h.uniq hq2 hp this))
   exact oNk h1 hk2 (fun k e f=>by subst f;have h2:=h.tn q hm2 _ e;rw [htg] at h2;simp at h2)
 ·have h2:=h.tr k e
  rw [if_pos (h.sz k (by rw [h2];simp)).2];exact h2
 ·have hq3:∃ q' ∈ ps,(wkV q').ownBlock=some k/\q'.1.id=q.1.id:=by
   rcases mem_set_cases hq with rfl | ⟨j,hj,hq2⟩
   ·exact⟨p,hmem,e,rfl⟩
   ·exact⟨q,List.mem_of_getElem? hq2,e,rfl⟩
  obtain⟨q',hq',e',hid⟩:=hq3
  have h2:=h.tw q' hq' k e'
  rw [if_pos (h.sz k (by rw [h2];simp)).2,<- hid];exact h2
 ·rcases mem_set_cases hq with rfl | ⟨j,hj,hq2⟩
  ·have e':(Value.slice a (p.1.rn.length+1) c).ownBlock=some k:=by simpa [rnS,rnV] using e
   show (if _ then _ else _)=_
   rcases hat with q | q
   ·have h2:=nrn k (q ▸ e')
    rw [if_pos (h.sz k (by rw [h2];simp)).2];exact h2
   ·have:k=W0.heap.size:=by rw [q] at e';simp at e';exact e'.symm
    rw [if_neg (by omega),if_pos e'];rfl
  ·have h2:=h.tn q (List.mem_of_getElem? hq2) k e
   rw [if_pos (h.sz k (by rw [h2];simp)).2];exact h2
 ·exact pw_set h.un hp (fun z hz=>hz) (fun z hz=>hz)
 ·have hs2:=hk2.size
  have hs1:=hk1.size
  by_cases hk:k < w.heap.size
  ·rw [if_pos hk] at e
   exact⟨(h.sz k e).1,by omega⟩
  ·rw [if_neg hk] at e
   split at e
   ·rename_i e2
    have:=ho.lt k e2
    exact⟨this.1,by omega⟩
   ·exact absurd rfl e
 ·exact(hk1.mono (fun k e=>by rw [nrn k e];simp)).trans hk2 (fun k e=>.inl (by rw [e,htg];simp))
def newS (i:Int) (s:Sv):Spv:=(⟨i,s,[],[]⟩,(none,0),(none,0))
theorem SpW.snoc {w W0 w1:World} {base:Nat} {tg:Nat->Int × Int} {v v':Value} {ps:List Spv} {id:Int} {s:Sv} (h:SpW w base tg v ps) (hb:Below w.heap.size w W0) (hne:∀ p ∈ ps,p.1.id ≠ id)
  (ho:w1.ownsRow base 84 6 v' (ps.length+1) (ps.flatMap c6s ++ c6s (newS id s))) (hg:W0.grownBy w1 v.ownBlock) (hat:v'.ownBlock=v.ownBlock ∨ v'.ownBlock=some W0.heap.size) :
  (∃ tg',SpW w1 base tg' v' (ps ++ [newS id s])/\∀ k,k < w.heap.size->tg' k=tg k)/\Kept (fun k=>tg k ≠ (0,0)) w w1:=by
 have hk1:=grown_kept hb hg
 have hs0:=hb.size
 have nov:∀ k,v.ownBlock=some k->tg k=(1,0):=h.tr
 refine⟨⟨fun k=>if k < w.heap.size then tg k else if v'.ownBlock=some k then (1,0) else (0,0),⟨?_,fun q hq=>?_,fun q hq=>?_,fun k e=>?_,fun q hq k e=>?_,fun q hq k e=>?_, ?_,fun k e=>?_⟩,fun k hk=>if_pos hk⟩,hk1.mono (fun k e=>by rw [nov k e];simp)⟩
 ·rw [List.length_append,List.flatMap_append]
  simpa using ho
 ·rcases List.mem_append.mp hq with m | m
  ·exact oNk (h.wk q m) hk1 (fun k e f=>by have:=nov k f;have h2:=h.tw q m k e;rw [h2] at this;simp at this)
  ·simp at m;subst m
   exact World.ownsRow_nil _ _ _ _
 ·rcases List.mem_append.mp hq with m | m
  ·exact oNk (h.rn q m) hk1 (fun k e f=>by have:=nov k f;have h2:=h.tn q m k e;rw [h2] at this;simp at this)
  ·simp at m;subst m
   exact World.ownsRow_nil _ _ _ _
 ·rcases hat with q | q
  ·have h2:=nov k (q ▸ e)
   rw [if_pos (h.sz k (by rw [h2];simp)).2];exact h2
  ·have:k=W0.heap.size:=by rw [q] at e;simp at e;exact e.symm
   rw [if_neg (by omega),if_pos e]
 ·rcases List.mem_append.mp hq with m | m
  ·have h2:=h.tw q m k e
   rw [if_pos (h.sz k (by rw [h2];simp)).2];exact h2
  ·simp at m;subst m
   simp [newS,wkV,Value.ownBlock] at e
 ·rcases List.mem_append.mp hq with m | m
  ·have h2:=h.tn q m k e
   rw [if_pos (h.sz k (by rw [h2];simp)).2];exact h2
  ·simp at m;subst m
   simp [newS,rnV,Value.ownBlock] at e
 ·rw [List.pairwise_append]
  exact⟨h.un,by simp,fun a ha b hb=>by simp at hb;subst hb;exact hne a ha⟩
 ·by_cases hk:k < w.heap.size
  ·rw [if_pos hk] at e
   have:=hk1.size
   exact⟨(h.sz k e).1,by omega⟩
  ·rw [if_neg hk] at e
   split at e
   ·rename_i e2
    exact ho.lt k e2
   ·exact absurd rfl e
abbrev oFo (b:Nat) (asks:Int) (v:Value) (tk:Nat):Obj:=.cells #[pB b,.int .i64 asks,v,.int .i64 (tk:Int)] 80
structure FX (B:Nat) (W:World) (own:Nat->Int) (tg:Nat->Int × Int) (w:World) (fb b mb:Nat) (h:Hs) (asks:Int) (tk:Nat) (v:Value) (ps:List Spv):Prop where
 hx:HX B W own w b mb h
 fbk:w.heap[fb]?=some (.cells #[pB b,.int .i64 asks,v,.int .i64 (tk:Int)] 80 (0,0))
 sp:SpW w B tg v ps
 tf:tg fb=(0,0)/\own fb=0/\B<=fb
 ap:∀ k,own k ≠ 0->tg k=(0,0)
def FBk (own:Nat->Int) (tg:Nat->Int × Int) (fb k:Nat):Prop:=own k ≠ 0 ∨ tg k ≠ (0,0) ∨ k=fb
theorem HX.kept {B:Nat} {W:World} {own:Nat->Int} {w w':World} {b mb:Nat} {h:Hs} {G:Nat->Prop} (X:HX B W own w b mb h) (hk:Kept G w w') (hG:∀ k,G k->own k=0) (hB:∀ k,G k->B<=k):HX B W own w' b mb h:=by
 have hl:=X.le
 obtain⟨_,_,_,_,_,_,h0⟩:=X.hb
 exact⟨⟨_,_,_,_,_,_,h0.kept hk (fun k e=>.inl (hG k e))⟩,X.bl.trans (hk.below hB hl)⟩
theorem FX.lt {B:Nat} {W:World} {own:Nat->Int} {tg:Nat->Int × Int} {w:World} {fb b mb:Nat} {h:Hs} {asks:Int} {tk:Nat} {v:Value} {ps:List Spv} (X:FX B W own tg w fb b mb h asks tk v ps) {k:Nat} (hk:FBk own tg fb k):B<=k/\k < w.heap.size:=by
 rcases hk with e | e | rfl
 ·exact X.hx.sz k e
 ·exact X.sp.sz k e
 ·exact⟨X.tf.2.2,lOh X.fbk⟩
theorem FX.kept {B:Nat} {W:World} {own:Nat->Int} {tg:Nat->Int × Int} {w w':World} {fb b mb:Nat} {h:Hs} {asks:Int} {tk:Nat} {v:Value} {ps:List Spv} {G:Nat->Prop} (X:FX B W own tg w fb b mb h asks tk v ps) (hk:Kept G w w') (hG:∀ k,G k->¬ FBk own tg fb k) (hB:∀ k,G k->B<=k):FX B W own tg w' fb b mb h asks tk v ps:=
 ⟨X.hx.kept hk (fun k e=>Decidable.byContradiction fun f=>hG k e (.inl f)) hB,(hk.block fb (lOh X.fbk) (fun e=>hG fb e (.inr (.inr rfl)))).trans X.fbk,X.sp.kept hk (fun k e f=>hG k f (.inr (.inl e))),X.tf,X.ap⟩
theorem FX.late {B:Nat} {W:World} {own:Nat->Int} {tg:Nat->Int × Int} {w w':World} {fb b mb:Nat} {h:Hs} {asks:Int} {tk:Nat} {v:Value} {ps:List Spv} (X:FX B W own tg w fb b mb h asks tk v ps) (hb:Below w.heap.size w w'):FX B W own tg w' fb b mb h asks tk v ps:=
 X.kept (kept_new (F:=fun _=>False) hb) (fun _ f=>f.elim) (fun _ f=>f.elim)
theorem FX.le {B:Nat} {W:World} {own:Nat->Int} {tg:Nat->Int × Int} {w:World} {fb b mb:Nat} {h:Hs} {asks:Int} {tk:Nat} {v:Value} {ps:List Spv} (X:FX B W own tg w fb b mb h asks tk v ps):B<=w.heap.size:=X.hx.le
theorem FX.host {B:Nat} {W:World} {own own':Nat->Int} {tg:Nat->Int × Int} {w w':World} {fb b mb:Nat} {h h':Hs} {asks:Int} {tk:Nat} {v:Value} {ps:List Spv} (X:FX B W own tg w fb b mb h asks tk v ps) (hx:HX B W own' w' b mb h') (ho:∀ k,k < w.heap.size->own' k=own k) (hk:Kept (fun k=>own k ≠ 0) w w'):FX B W own' tg w' fb b mb h' asks tk v ps:=by
 have hfl:=lOh X.fbk
 refine⟨hx,(hk.block fb hfl (fun e=>e X.tf.2.1)).trans X.fbk,X.sp.kept hk (fun k e f=>e (X.ap k f)),⟨X.tf.1,by rw [ho fb hfl];exact X.tf.2.1,X.tf.2.2⟩,fun k e=>?_⟩
 by_cases c:k < w.heap.size
 ·exact X.ap k (by rw [<- ho k c];exact e)
 ·exact Decidable.byContradiction fun f=>by have:=(X.sp.sz k f).2;omega
theorem FX.count {B:Nat} {W:World} {own:Nat->Int} {tg:Nat->Int × Int} {w:World} {fb b mb:Nat} {h:Hs} {asks:Int} {tk:Nat} {v:Value} {ps:List Spv} (X:FX B W own tg w fb b mb h asks tk v ps) (tk':Nat):FX B W own tg (w.setCell ⟨fb,3,none⟩ (.int .i64 (tk':Int))) fb b mb h asks tk' v ps:=by
 have hk:=Kept.setCell (F:=fun k=>k=fb) w (p:=⟨fb,3,none⟩) rfl (.int .i64 (tk':Int))
 refine⟨X.hx.kept hk (fun k e=>by rw [e];exact X.tf.2.1) (fun k e=>by rw [e];exact X.tf.2.2), ?_,X.sp.kept hk (fun k e f=>e (by rw [f];exact X.tf.1)),X.tf,X.ap⟩
 rw [hSt X.fbk]
 rfl
theorem FX.spans {B:Nat} {W:World} {own:Nat->Int} {tg tg':Nat->Int × Int} {w w':World} {fb b mb:Nat} {h:Hs} {asks:Int} {tk:Nat} {v v':Value} {ps ps':List Spv} (X:FX B W own tg w fb b mb h asks tk v ps) (hs:SpW w' B tg' v' ps') (ht:∀ k,k < w.heap.size->tg k=(0,0)->tg' k=(0,0)) (hk:Kept (fun k=>tg k ≠ (0,0)) w w'):FX B W own tg' (w'.setCell ⟨fb,2,none⟩ v') fb b mb h asks tk v' ps'/\Kept (fun k=>tg k ≠ (0,0) ∨ k=fb) w (w'.setCell ⟨fb,2,none⟩ v'):=by
 have hfl:=lOh X.fbk
 have hf1:=(hk.block fb hfl (fun e=>e X.tf.1)).trans X.fbk
 have hk2:=Kept.setCell (F:=fun k=>k=fb) w' (p:=⟨fb,2,none⟩) rfl v'
 have htf:=ht fb hfl X.tf.1
 have x1:=X.hx.kept hk (fun k e=>Decidable.byContradiction fun f=>e (X.ap k f)) (fun k e=>(X.sp.sz k e).1)
 refine⟨⟨x1.kept hk2 (fun k e=>by rw [e];exact X.tf.2.1) (fun k e=>by rw [e];exact X.tf.2.2), ?_,hs.kept hk2 (fun k e f=>e (by rw [f];exact htf)),⟨htf,X.tf.2.1,X.tf.2.2⟩,fun k e=>ht k (X.hx.sz k e).2 (X.ap k e)⟩,(hk.mono (fun k e=>.inl e)).trans hk2 (fun k e=>.inl (.inr e))⟩
 rw [hSt hf1]
 rfl
theorem FX.put {B:Nat} {W:World} {own:Nat->Int} {tg tg':Nat->Int × Int} {w w':World} {fb b mb:Nat} {h:Hs} {asks:Int} {tk:Nat} {v:Value} {ps ps':List Spv} (X:FX B W own tg w fb b mb h asks tk v ps) (hs:SpW w' B tg' v ps') (ht:∀ k,k < w.heap.size->tg' k=tg k) (hk:Kept (fun k=>tg k ≠ (0,0)) w w'):FX B W own tg' w' fb b mb h asks tk v ps':=by
 have hfl:=lOh X.fbk
 exact⟨X.hx.kept hk (fun k e=>Decidable.byContradiction fun f=>e (X.ap k f)) (fun k e=>(X.sp.sz k e).1),(hk.block fb hfl (fun e=>e X.tf.1)).trans X.fbk,hs,⟨by rw [ht fb hfl];exact X.tf.1,X.tf.2.1,X.tf.2.2⟩,fun k e=>by rw [ht k (X.hx.sz k e).2];exact X.ap k e⟩
theorem FX.cells {B:Nat} {W:World} {own:Nat->Int} {tg:Nat->Int × Int} {w:World} {fb b mb:Nat} {h:Hs} {asks:Int} {tk:Nat} {v:Value} {ps:List Spv} (X:FX B W own tg w fb b mb h asks tk v ps):w.cell? ⟨fb,0,none⟩=some (pB b)/\w.cell? ⟨fb,1,none⟩=some (.int .i64 asks)/\w.cell? ⟨fb,2,none⟩=some v/\w.cell? ⟨fb,3,none⟩=some (.int .i64 (tk:Int))/\w.frozen? ⟨fb,2,none⟩=false/\w.frozen? ⟨fb,3,none⟩=false:=
 ⟨cOb (i:=0) X.fbk rfl,cOb (i:=1) X.fbk rfl,cOb (i:=2) X.fbk rfl,cOb (i:=3) X.fbk rfl,fOb X.fbk,fOb X.fbk⟩
def Bd (K:Nat) (ps:List Spv):Prop:=ps.length<=K/\∀ p ∈ ps,p.1.wk.length<=K/\p.1.rn.length<=K
theorem Bd.mono {K K':Nat} {ps:List Spv} (h:Bd K ps) (hK:K<=K'):Bd K' ps:=⟨Nat.le_trans h.1 hK,fun p hp=>⟨Nat.le_trans (h.2 p hp).1 hK,Nat.le_trans (h.2 p hp).2 hK⟩⟩
theorem Bd.sub {K:Nat} {ps qs:List Spv} (h:Bd K ps) (hs:qs.Sublist ps):Bd K qs:=⟨Nat.le_trans hs.length_le h.1,fun p hp=>h.2 p (hs.subset hp)⟩
def fndN (ns:List Nd) (i:Int):Option Nd:=ns.find? (fun n=>decide (n.id=i))
theorem fndP_N {ps:List Np} {i:Int}:(fndP ps i).map (·.1)=fndN (nds ps) i:=by
 unfold fndP fndN nds
 rw [List.find?_map]
 rfl
def keepB (ns:List Nd) (rs:List Rs) (s:Sp):Bool:=match fndN ns s.id with
 |some n=>decide (n.sv=s.sv) && !(rs.any (isRz s.id))
 |none=>false
def admS (ns:List Nd) (i:Int) (ss:List Sp):List Sp:=if ss.any (fun s=>decide (s.id=i)) then ss else ss ++ [⟨i,(match fndN ns i with | some n=>n.sv | none=>(0,0,0)),[],[]⟩]
def telS (m:Mk) (ss:List Sp):List Sp:=ss.map (fun s=>if s.id=m.1 then ⟨s.id,s.sv,s.wk ++ [m.2.1],s.rn ++ [m.2.2]⟩ else s)
def noteS (ns:List Nd) (ms:List Mk) (ss:List Sp):List Sp:=ms.foldl (fun ss m=>telS m (admS ns m.1 ss)) ss
def tickS (ns:List Nd) (rs:List Rs) (ms:List Mk) (ss:List Sp):List Sp:=noteS ns ms (ss.filter (keepB ns rs))
theorem noteS_step (ns:List Nd) {ms:List Mk} {j:Nat} {m:Mk} (h:ms[j]?=some m) (ss:List Sp):noteS ns (ms.take (j+1)) ss=telS m (admS ns m.1 (noteS ns (ms.take j) ss)):=by
 unfold noteS
 rw [List.take_add_one,h,List.foldl_append]
 rfl
theorem tel_set {ps:List Spv} (hu:ps.Pairwise (fun a b=>a.1.id ≠ b.1.id)) {i:Nat} {p p':Spv} {m:Mk} (hp:ps[i]?=some p) (hm:p.1.id=m.1) (h1:p'.1=⟨p.1.id,p.1.sv,p.1.wk ++ [m.2.1],p.1.rn ++ [m.2.2]⟩):(ps.set i p').map (·.1)=telS m (ps.map (·.1)):=by
 unfold telS
 rw [List.map_map]
 apply List.ext_getElem?
 intro k
 rw [List.getElem?_map,List.getElem?_map,List.getElem?_set]
 obtain⟨hi,hpe⟩:=List.getElem?_eq_some_iff.mp hp
 by_cases c:i=k
 ·subst c
  rw [if_pos rfl,if_pos hi,hp]
  simp [h1,hm]
 ·rw [if_neg c]
  cases hk:ps[k]? with
  |none=>rfl
  |some q=>
   obtain⟨hkl,hqe⟩:=List.getElem?_eq_some_iff.mp hk
   have hne:q.1.id ≠ p.1.id:=by
    rcases Nat.lt_trichotomy i k with q1 | q1 | q1
    ·have:=List.pairwise_iff_getElem.mp hu i k hi hkl q1
     rw [hpe,hqe] at this
     exact fun e=>this e.symm
    ·omega
    ·have:=List.pairwise_iff_getElem.mp hu k i hkl hi q1
     rw [hpe,hqe] at this
     exact this
   simp [<- hm,hne]
theorem rfind_yes (w:World) (t:Tr) (al:Option Addr) (cl:Nat) (gv:Value) (ps:List Np) (i:Int) (h:RowIn 7 c7 w (.slice al ps.length cl) ps) {p:Np} (hp:fndP ps i=some p):Calls Tryz.prog 67 #[vTr (.slice al ps.length cl) gv t,.int .i64 i] w fun e w'=>e=.returned (.tuple #[vNp p,.bool true])/\Below w.heap.size w w':=by
 refine(rfind_is w t al cl gv ps i h).mono ?_
 rintro e w' ⟨⟨q,hq,rfl⟩ | ⟨hno,rfl⟩,hb⟩
 ·rw [hp] at hq
  obtain rfl:=Option.some.inj hq
  exact⟨rfl,hb⟩
 ·rw [hp] at hno;cases hno
theorem rfind_no (w:World) (t:Tr) (al:Option Addr) (cl:Nat) (gv:Value) (ps:List Np) (i:Int) (h:RowIn 7 c7 w (.slice al ps.length cl) ps) (hp:fndP ps i=none):Calls Tryz.prog 67 #[vTr (.slice al ps.length cl) gv t,.int .i64 i] w fun e w'=>e=.returned (.tuple #[vNd zNd (.slice none 0 0),.bool false])/\Below w.heap.size w w':=by
 refine(rfind_is w t al cl gv ps i h).mono ?_
 rintro e w' ⟨⟨q,hq,rfl⟩ | ⟨hno,rfl⟩,hb⟩
 ·rw [hp] at hq;cases hq
 ·exact⟨rfl,hb⟩
theorem filt_step {α:Type} {f:α->Bool} {ps:List α} {j:Nat} {x:α} (h:ps[j]?=some x):(ps.take (j+1)).filter f=if f x then (ps.take j).filter f ++ [x] else (ps.take j).filter f:=by
 rw [List.take_add_one,h,List.filter_append]
 cases hx:f x <;> simp [hx]
theorem keep_none {qs:List Np} {rs:List Rs} {s:Sp} (h:fndP qs s.id=none):keepB (nds qs) rs s=false:=by
 unfold keepB
 rw [<- fndP_N,h]
 rfl
theorem keep_some {qs:List Np} {rs:List Rs} {s:Sp} {n:Np} (h:fndP qs s.id=some n):keepB (nds qs) rs s=(decide (n.1.sv=s.sv) && !(rs.any (isRz s.id))):=by
 unfold keepB
 rw [<- fndP_N,h]
 rfl
theorem rp_cells' {w:World} {p:Nat} {a0 a1 a2 a3 a4 a5 a6 a7 a8 a9:Value} {T:TypeId} (h:w.heap[p]?=some (.cells #[a0,a1,a2,a3,a4,a5,a6,a7,a8,a9] T (0,0))):w.cell? ⟨p,0,none⟩=some a0/\w.cell? ⟨p,1,none⟩=some a1/\w.cell? ⟨p,2,none⟩=some a2/\w.cell? ⟨p,3,none⟩=some a3/\w.cell? ⟨p,4,none⟩=some a4/\w.cell? ⟨p,5,none⟩=some a5/\w.cell? ⟨p,6,none⟩=some a6/\w.cell? ⟨p,7,none⟩=some a7/\w.cell? ⟨p,8,none⟩=some a8/\w.cell? ⟨p,9,none⟩=some a9:=
 ⟨cOb (i:=0) h rfl,cOb (i:=1) h rfl,cOb (i:=2) h rfl,cOb (i:=3) h rfl,cOb (i:=4) h rfl,cOb (i:=5) h rfl,cOb (i:=6) h rfl,cOb (i:=7) h rfl,cOb (i:=8) h rfl,cOb (i:=9) h rfl⟩
theorem six_cells {w:World} {p:Nat} {a0 a1 a2 a3 a4 a5:Value} {T:TypeId} (h:w.heap[p]?=some (.cells #[a0,a1,a2,a3,a4,a5] T (0,0))):w.cell? ⟨p,0,none⟩=some a0/\w.cell? ⟨p,1,none⟩=some a1/\w.cell? ⟨p,2,none⟩=some a2/\w.cell? ⟨p,3,none⟩=some a3/\w.cell? ⟨p,4,none⟩=some a4/\w.cell? ⟨p,5,none⟩=some a5:=
 ⟨cOb (i:=0) h rfl,cOb (i:=1) h rfl,cOb (i:=2) h rfl,cOb (i:=3) h rfl,cOb (i:=4) h rfl,cOb (i:=5) h rfl⟩
theorem src_span (w:World) (p:Spv) (k:Nat) (hk:k=w.heap.size):Src Tryz.prog 6 78 (.slice (some ⟨k,0,none⟩) 1 1) 1 (c6s p) (w.alloc (.cells (c6s p).toArray 84)):=src_one Tryz.underlying78 p rfl (one6s p) w k hk
theorem src_bool (w:World) (x:Bool) (k:Nat) (hk:k=w.heap.size):Src Tryz.prog 1 82 (.slice (some ⟨k,0,none⟩) 1 1) 1 [.bool x] (w.alloc (.cells #[.bool x] 4)):=by
 have:=src_one (n:=1) (f:=fun x:Bool=>[Value.bool x]) (e2:=4) Tryz.underlying82 x rfl (fun u hu=>by simp at hu;subst hu;rfl) w k hk
 simpa using this
theorem SpW.at6 {w:World} {base n cap:Nat} {tg:Nat->Int × Int} {a:Option Addr} {ps:List Spv} (h:SpW w base tg (.slice a n cap) ps) {i:Nat} {p:Spv} (hp:ps[i]?=some p):∃ g,a=some ⟨g,0,none⟩/\n=ps.length/\w.cell? ⟨g,i * 6+4,none⟩=some (wkV p)/\w.cell? ⟨g,i * 6+5,none⟩=some (rnV p)/\∀ k,w.frozen? ⟨g,k,none⟩=false:=by
 obtain⟨g,c,e,hg,hl⟩:=own_addr h.row (List.getElem?_eq_some_iff.mp hp).1
 simp only [Value.slice.injEq] at e
 obtain⟨rfl,rfl,rfl⟩:=e
 have hc:∀ r u,r < 6->(c6s p)[r]?=some u->w.cell? ⟨g,i * 6+r,none⟩=some u:=fun r u hr hu=>(own_cell h.row ((fl_get c6s 6 c6s_len ps i r p hp hr).trans hu)).1
 refine⟨g,rfl,rfl,hc 4 _ (by omega) rfl,hc 5 _ (by omega) rfl,fun k=>?_⟩
 rcases h.row.2 with ⟨e,_⟩ | ⟨g',cap',cur,e1,hb,hg,_⟩
 ·simp at e
 ·simp only [Value.slice.injEq,Option.some.injEq,Addr.mk.injEq] at e1
  obtain⟨⟨rfl,_⟩,_⟩:=e1
  exact fOb hg
theorem three_atm {w:World} {b o:Nat} {t:Mk} (h:∀ r u,r < 3->(c3m t)[r]?=some u->w.cell? ⟨b,o+r,none⟩=some u):w.cell? ⟨b,o,none⟩=some (.int .i64 t.1)/\w.cell? ⟨b,o+1,none⟩=some (.bool t.2.1)/\w.cell? ⟨b,o+2,none⟩=some (.bool t.2.2):=
 ⟨h 0 _ (by omega) rfl,h 1 _ (by omega) rfl,h 2 _ (by omega) rfl⟩
theorem take_no {ps:List Spv} {i:Nat} {p:Spv} {m:Int} (h:∀ x ∈ ps.take i,¬ x.1.id=m) (hp:ps[i]?=some p) (hn:¬ p.1.id=m):∀ x ∈ ps.take (i+1),¬ x.1.id=m:=by
 intro x hx
 rw [List.take_add_one,hp] at hx
 rcases List.mem_append.mp hx with q | q
 ·exact h x q
 ·simp at q;subst q;exact hn
theorem rfind_any (w:World) (t:Tr) (al:Option Addr) (cl:Nat) (gv:Value) (ps:List Np) (i:Int) (h:RowIn 7 c7 w (.slice al ps.length cl) ps):Calls Tryz.prog 67 #[vTr (.slice al ps.length cl) gv t,.int .i64 i] w fun e w'=>∃ (ni npa nk nq nt npo:Int) (nta:Option Addr) (ntl ntc:Nat) (ok:Bool),e=.returned (.tuple #[.agg #[.int .i64 ni,.int .i64 npa,.int .i64 nk,.int .i64 nq,.int .i64 nt,.int .i64 npo,.slice nta ntl ntc],.bool ok])/\(nk,nq,nt)=(match fndN (nds ps) i with | some n=>n.sv | none=>(0,0,0))/\Below w.heap.size w w':=by
 refine(rfind_is w t al cl gv ps i h).mono ?_
 rintro e w' ⟨⟨q,hq,rfl⟩ | ⟨hno,rfl⟩,hb⟩
 ·refine⟨_,_,_,_,_,_,_,_,_,_,rfl, ?_,hb⟩
  rw [<- fndP_N,hq];rfl
 ·refine⟨_,_,_,_,_,_,_,_,_,_,rfl, ?_,hb⟩
  rw [<- fndP_N,hno];rfl
theorem kfz {w A w5:World} {base size n n' cap g:Nat} {e:TypeId} {xs:List Value} {G:Nat->Prop} (h:w.ownsRow base e size (.slice (some ⟨g,0,none⟩) n cap) n' xs) (hb:Below w.heap.size w A) (k5:Kept G A w5) (hg:¬ G g) (i:Nat):w5.frozen? ⟨g,i,none⟩=false:=by
 rcases h.2 with ⟨e,_⟩ | ⟨g',cap',cur,e1,_,hq,_⟩
 ·simp at e
 ·simp only [Value.slice.injEq,Option.some.injEq,Addr.mk.injEq] at e1
  obtain⟨⟨rfl,_⟩,_⟩:=e1
  have hl:=lOh hq
  exact fOb ((k5.block g (Nat.lt_of_lt_of_le hl hb.size) hg).trans ((hb.block g hl).trans hq))
structure FQ (B:Nat) (W:World) (own:Nat->Int) (tg:Nat->Int × Int) (w:World) (fb b mb:Nat) (h:Hs) (asks:Int) (tk:Nat) (v:Value) (ps:List Spv) (W4:World) (F:Nat->Prop) (bx:Nat) (o:Obj):Prop where
 x:FX B W own tg w fb b mb h asks tk v ps
 k:Kept F W4 w
 old:∀ k,k < W4.heap.size->FBk own tg fb k->F k
 hb:w.heap[bx]?=some o
 nb:¬ FBk own tg fb bx/\W4.heap.size<=bx
theorem FQ.late {B:Nat} {W:World} {own:Nat->Int} {tg:Nat->Int × Int} {w w':World} {fb b mb:Nat} {h:Hs} {asks:Int} {tk:Nat} {v:Value} {ps:List Spv} {W4:World} {F:Nat->Prop} {bx:Nat} {o:Obj} (X:FQ B W own tg w fb b mb h asks tk v ps W4 F bx o) (hb:Below w.heap.size w w'):FQ B W own tg w' fb b mb h asks tk v ps W4 F bx o:=
 ⟨X.x.late hb,X.k.trans (kept_new (F:=fun _=>False) hb) (fun _ f=>f.elim),X.old,(hb.block _ (lOh X.hb)).trans X.hb,X.nb⟩
theorem FQ.put {B:Nat} {W:World} {own:Nat->Int} {tg tg':Nat->Int × Int} {w w':World} {fb b mb:Nat} {h:Hs} {asks:Int} {tk:Nat} {v:Value} {ps ps':List Spv} {W4:World} {F:Nat->Prop} {bx:Nat} {o:Obj} (X:FQ B W own tg w fb b mb h asks tk v ps W4 F bx o) (hs:SpW w' B tg' v ps') (ht:∀ k,k < w.heap.size->tg' k=tg k) (hk:Kept (fun k=>tg k ≠ (0,0)) w w'):FQ B W own tg' w' fb b mb h asks tk v ps' W4 F bx o:=by
 have hs4:=X.k.size
 refine⟨X.x.put hs ht hk,X.k.trans hk (fun k e=>?_),fun k hk e=>X.old k hk ?_,(hk.block bx (lOh X.hb) (fun e=>X.nb.1 (.inr (.inl e)))).trans X.hb,fun e=>X.nb.1 ?_,X.nb.2⟩
 ·by_cases c:k < W4.heap.size
  ·exact .inl (X.old k c (.inr (.inl e)))
  ·exact .inr (by omega)
 ·rcases e with e | e | e
  ·exact .inl e
  ·exact .inr (.inl (by rw [<- ht k (by omega)];exact e))
  ·exact .inr (.inr e)
 ·rcases e with e | e | e
  ·exact .inl e
  ·exact .inr (.inl (by rw [<- ht bx (lOh X.hb)];exact e))
  ·exact .inr (.inr e)
theorem FQ.spans {B:Nat} {W:World} {own:Nat->Int} {tg tg':Nat->Int × Int} {w w':World} {fb b mb:Nat} {h:Hs} {asks:Int} {tk:Nat} {v v':Value} {ps ps':List Spv} {W4:World} {F:Nat->Prop} {bx:Nat} {o:Obj} (X:FQ B W own tg w fb b mb h asks tk v ps W4 F bx o) (hs:SpW w' B tg' v' ps') (ht:∀ k,k < w.heap.size->tg' k=tg k) (hk:Kept (fun k=>tg k ≠ (0,0)) w w'):FQ B W own tg' (w'.setCell ⟨fb,2,none⟩ v') fb b mb h asks tk v' ps' W4 F bx o:=by
 have hs4:=X.k.size
 obtain⟨x1,k1⟩:=X.x.spans hs (fun k hk e=>by rw [ht k hk];exact e) hk
 refine⟨x1,X.k.trans k1 (fun k e=>?_),fun k hk e=>X.old k hk ?_,(k1.block bx (lOh X.hb) (fun e=>X.nb.1 (.inr e))).trans X.hb,fun e=>X.nb.1 ?_,X.nb.2⟩
 ·by_cases c:k < W4.heap.size
  ·exact .inl (X.old k c (.inr e))
  ·exact .inr (by omega)
 ·rcases e with e | e | e
  ·exact .inl e
  ·exact .inr (.inl (by rw [<- ht k (by omega)];exact e))
  ·exact .inr (.inr e)
 ·rcases e with e | e | e
  ·exact .inl e
  ·exact .inr (.inl (by rw [<- ht bx (lOh X.hb)];exact e))
  ·exact .inr (.inr e)
theorem FQ.make {B:Nat} {W:World} {own:Nat->Int} {tg:Nat->Int × Int} {w:World} {fb b mb:Nat} {h:Hs} {asks:Int} {tk:Nat} {v:Value} {ps:List Spv} {W4:World} {F:Nat->Prop} (X:FX B W own tg w fb b mb h asks tk v ps) (K:Kept F W4 w) (O:∀ k,k < W4.heap.size->FBk own tg fb k->F k) (o:Obj):FQ B W own tg (w.alloc o) fb b mb h asks tk v ps W4 F w.heap.size o:=by
 have hb:=ba (Below.refl _ w) o
 exact⟨X.late hb,K.trans (kept_new (F:=fun _=>False) hb) (fun _ f=>f.elim),O,heap_alloc_new w o,fun e=>by have:=(X.lt e).2;omega,K.size⟩
end Go.Proofs.YtpdehdomilnmeaaGreatDoor
