import Derived.Test.YtpdehdomilnmeaaGreatDoorHfA
namespace Go.Proofs.YtpdehdomilnmeaaGreatDoor
open Go.ChangeShapes Go.WideShapes Go.ChangeAt Go.RowKit
set_option maxRecDepth 100000
set_option maxRecDepth 100000
attribute [local go_sem] World.cell?_alloc_some fAs
abbrev oZR:Obj:=.cells #[.int .i64 0,.slice none 0 0,.slice none 0 0,.int .i64 0,.int .i64 0,.int .i64 0,.int .i64 0,.int .i64 0,.int .i64 0,.bool false] 57
def FtP (A:Ops) (B:Nat) (W:World) (own:Nat->Int) (tg:Nat->Int × Int) (w:World) (fb b mb:Nat) (h:Hs) (asks:Int) (tk:Nat) (ps:List Spv) (e:Ending) (w':World):Prop:=
 ∃ h' rs ms out ra rc ma mc own' tg' v' ps',TickR A h h' rs ms out/\e=.returned (.agg (rpC (.int .i64 h.now) (.slice ra rs.length rc) (.slice ma ms.length mc) out))/\RowIn 2 c2r w' (.slice ra rs.length rc) rs/\RowIn 3 c3m w' (.slice ma ms.length mc) ms/\FX B W own' tg' w' fb b mb h' asks (tk+1) v' ps'/\ps'.map (·.1)=tickS h'.t.ns rs ms (ps.map (·.1))/\Bd (1000 * (tk+1)) ps'/\Kept (FBk own tg fb) w w'/\∀ k,k < w.heap.size->FBk own' tg' fb k->FBk own tg fb k
set_option maxHeartbeats 51200000 in
theorem ftick_is (A:Ops) (a:Nat->Addr) (K0:Nat) {B:Nat} {W:World} {own:Nat->Int} {tg:Nat->Int × Int} {w:World} {fb b mb:Nat} {h:Hs} {asks:Int} {tk:Nat} {v:Value} {ps:List Spv} (X:FX B W own tg w fb b mb h asks tk v ps) (E:Er6 W a) (hB:16<=B) (hok:TOk K0 h.now h.t h.rv) (hk0:K0+h.ws.length<=700) (n0:0<=h.now) (n1:h.now<=1099511627776) (hwl:h.ws.length<=64) (hbd:Bd (1000 * tk) ps) (htk:tk < 900) :
  Calls Tryz.prog 48 #[pB fb] w (FtP A B W own tg w fb b mb h asks tk ps):=by
 obtain⟨va,vc,rfl,hvc⟩:=own_sh X.sp.row
 have HX0:=mH X
 have HE:=mH E
 have HOK:=mH hok
 have HBD:=mH hbd
 have hpl:(ps.length:Int)<=900000:=by have:=hbd.1;omega
 have X1:=mH (X.late (ba (Below.refl _ w) oZR))
 obtain⟨x0,x1,x2,x3,f2,f3⟩:=X1.out.cells
 clear X E hok hbd
 obtain⟨ie,hi,hz0,hz1,hz2⟩:=info_parts info_span
 have hie:=mH (And.intro hi (And.intro hz0 (And.intro hz1 hz2)))
 clear hi hz0 hz1 hz2
 obtain⟨je,hi,hz0,hz1,hz2⟩:=info_parts info_bool
 have hje:=mH (And.intro hi (And.intro hz0 (And.intro hz1 hz2)))
 clear hi hz0 hz1 hz2
 go_enter Tryz.func48,Tryz.ntmps48
 go_wp2_with (first
  |(go_at_call 16;have HN:=HX.tick (A:=A) X1.out.hx a K0 HE.out hB HOK.out hk0 n0 n1 hwl;(with_reducible refine HN.mono ?_);clear HN;rintro e w2 ⟨h',rs,ms,out,ra,rc,ma,mc,own',htr,rfl,hr1,hr2,ho1,ho2,hx2,hold,hk2⟩;obtain⟨n3,n4,n5,n6,n7,n8,e9,hrp⟩:=rpC_ex out;simp only [hrp];have X2:=mH ((X1.out.host hx2 hold hk2).late (ba (Below.refl _ w2) (.cells #[.int .i64 h.now,.slice ra rs.length rc,.slice ma ms.length mc,.int .i64 n3,.int .i64 n4,.int .i64 n5,.int .i64 n6,.int .i64 n7,.int .i64 n8,.bool e9] 57)));have hok':=htr.ok HOK.out n0;have HSM:Hid (h'.t.Sm 1000):=mH ⟨by have:=hok'.1.sm.n;omega,by have:=hok'.1.sm.g;omega,by have:=hok'.1.sm.l;omega,hok'.1.sm.s⟩;have HZ2:=mH (fun k (hk:w2.heap.size<=k)=>hx2.zero hk);have HTR:=mH (And.intro htr hrp);have HR:=mH (And.intro hr1 (And.intro hr2 (And.intro ho1 (And.intro ho2 (And.intro hold hk2)))));clear x0 x1 x2 x3 f2 f3 htr hrp hr1 hr2 ho1 ho2 hx2 hold hk2 hok';obtain⟨x0,x1,x2,x3,f2,f3⟩:=X2.out.cells)
  |(go_at_call 18;have HN:=HX.tree X2.out.hx HSM.out;(with_reducible refine HN.mono ?_);clear HN;rintro e w3 ⟨nv,gv,qs,rfl,hto,hnd,hx3,b3⟩;obtain⟨na,nc,rfl,hnc⟩:=own_sh hto.nown;obtain⟨ga,gc,rfl,_⟩:=own_sh hto.gown;have X3:=mH ((X2.out.late b3).late (ba (Below.refl _ w3) (oTr (.slice na qs.length nc) (.slice ga h'.t.gs.length gc) h'.t)));have HTO:=mH (And.intro hto (And.intro hnd b3));clear x0 x1 x2 x3 f2 f3 hto hnd hx3 b3;obtain⟨x0,x1,x2,x3,f2,f3⟩:=X3.out.cells;have ewt:IntKind.i64.wrap ((tk:Int)+1)=(tk:Int)+1:=wfit (by omega) (by omega);have X4:Hid (FX B W own' tg ((w3.alloc (oTr (.slice na qs.length nc) (.slice ga h'.t.gs.length gc) h'.t)).setCell ⟨fb,3,none⟩ (.int .i64 ((tk:Int)+1))) fb b mb h' asks (tk+1) (.slice va ps.length vc) ps):=mH (by have:=X3.out.count (tk+1);simpa using this);have X5:=mH (X4.out.late (ba (Below.refl _ ((w3.alloc (oTr (.slice na qs.length nc) (.slice ga h'.t.gs.length gc) h'.t)).setCell ⟨fb,3,none⟩ (.int .i64 ((tk:Int)+1)))) (.cells #[] 84)));obtain⟨z0,z1,z2,z3,_,_⟩:=X4.out.cells;obtain⟨y0,y1,y2,y3,_,_⟩:=X5.out.cells))
 have hs2:w.heap.size+1<=w2.heap.size:=by have:=HR.out.2.2.2.2.2.size;simpa using this
 have hs3:w2.heap.size+1<=w3.heap.size:=by have:=HTO.out.2.2.size;simpa using this
 have hk34:=Kept.setCell (F:=fun k=>k=fb) (w3.alloc (oTr (.slice na qs.length nc) (.slice ga h'.t.gs.length gc) h'.t)) (p:=⟨fb,3,none⟩) rfl (.int .i64 ((tk:Int)+1))
 have hfb:fb < w.heap.size:=lOh HX0.out.fbk
 have hs4:((w3.alloc (oTr (.slice na qs.length nc) (.slice ga h'.t.gs.length gc) h'.t)).setCell ⟨fb,3,none⟩ (.int .i64 ((tk:Int)+1))).heap.size=w3.heap.size+1:=by simp
 have hb23:Below w2.heap.size w2 w3:=(ba (Below.refl _ w2) (.cells #[.int .i64 h.now,.slice ra rs.length rc,.slice ma ms.length mc,.int .i64 n3,.int .i64 n4,.int .i64 n5,.int .i64 n6,.int .i64 n7,.int .i64 n8,.bool e9] 57)).trans (HTO.out.2.2.mono (by simp))
 have hb24:Kept (fun k=>k=fb) w2 ((w3.alloc (oTr (.slice na qs.length nc) (.slice ga h'.t.gs.length gc) h'.t)).setCell ⟨fb,3,none⟩ (.int .i64 ((tk:Int)+1))):=(kept_new (F:=fun k=>k=fb) (bt hb23 (ba (Below.refl _ w3) (oTr (.slice na qs.length nc) (.slice ga h'.t.gs.length gc) h'.t)))).trans hk34 (fun k e=>.inl e)
 have HBX:Hid (((w3.alloc (oTr (.slice na qs.length nc) (.slice ga h'.t.gs.length gc) h'.t)).setCell ⟨fb,3,none⟩ (.int .i64 ((tk:Int)+1))).heap[w.heap.size]?=some oZR/\((w3.alloc (oTr (.slice na qs.length nc) (.slice ga h'.t.gs.length gc) h'.t)).setCell ⟨fb,3,none⟩ (.int .i64 ((tk:Int)+1))).heap[w2.heap.size]?=some (.cells #[.int .i64 h.now,.slice ra rs.length rc,.slice ma ms.length mc,.int .i64 n3,.int .i64 n4,.int .i64 n5,.int .i64 n6,.int .i64 n7,.int .i64 n8,.bool e9] 57)/\((w3.alloc (oTr (.slice na qs.length nc) (.slice ga h'.t.gs.length gc) h'.t)).setCell ⟨fb,3,none⟩ (.int .i64 ((tk:Int)+1))).heap[w3.heap.size]?=some (oTr (.slice na qs.length nc) (.slice ga h'.t.gs.length gc) h'.t)):=mH (by
  refine⟨?_, ?_, ?_⟩
  ·exact(hb24.block _ (by omega) (by omega)).trans ((HR.out.2.2.2.2.2.block w.heap.size (by simp) (fun e=>e (HX0.out.hx.zero (Nat.le_refl _)))).trans (heap_alloc_new w _))
  ·exact(hk34.block _ (by simp;omega) (by omega)).trans ((heap_alloc_old _ _ (by omega)).trans ((HTO.out.2.2.block w2.heap.size (by simp)).trans (heap_alloc_new w2 _)))
  ·exact(hk34.block _ (by simp) (by omega)).trans (heap_alloc_new w3 _))
 have HK4:Hid (Kept (FBk own tg fb) w ((w3.alloc (oTr (.slice na qs.length nc) (.slice ga h'.t.gs.length gc) h'.t)).setCell ⟨fb,3,none⟩ (.int .i64 ((tk:Int)+1)))):=mH (((kept_new (F:=FBk own tg fb) (ba (Below.refl _ w) oZR)).trans (HR.out.2.2.2.2.2) (fun k e=>.inl (.inl e))).trans hb24 (fun k e=>.inl (.inr (.inr e))))
 have HRW:Hid (RowIn 2 c2r ((w3.alloc (oTr (.slice na qs.length nc) (.slice ga h'.t.gs.length gc) h'.t)).setCell ⟨fb,3,none⟩ (.int .i64 ((tk:Int)+1))) (.slice ra rs.length rc) rs/\RowIn 3 c3m ((w3.alloc (oTr (.slice na qs.length nc) (.slice ga h'.t.gs.length gc) h'.t)).setCell ⟨fb,3,none⟩ (.int .i64 ((tk:Int)+1))) (.slice ma ms.length mc) ms/\RowIn 7 c7 ((w3.alloc (oTr (.slice na qs.length nc) (.slice ga h'.t.gs.length gc) h'.t)).setCell ⟨fb,3,none⟩ (.int .i64 ((tk:Int)+1))) (.slice na qs.length nc) qs):=mH (by
  have hwl2:=HTR.out.1.ok HOK.out n0
  have hn:=hwl2.1.sm.n
  have hl2:=hwl2.2
  have hm:ms.length=h'.t.ns.length:=by rw [HTR.out.1.me,List.length_map]
  have hq:qs.length=h'.t.ns.length:=by rw [<- HTO.out.2.1,List.length_map]
  refine⟨(RowIn.of_owns (n:=2) (f:=c2r) (fun _=>rfl) (by omega) HR.out.1).kept hb24 (fun k e f=>?_),(RowIn.of_owns (n:=3) (f:=c3m) (fun _=>rfl) (by omega) HR.out.2.1).kept hb24 (fun k e f=>?_),((RowIn.of_owns (n:=7) (f:=c7) (fun _=>rfl) (by omega) HTO.out.1.nown).below (ba (Below.refl _ w3) (oTr (.slice na qs.length nc) (.slice ga h'.t.gs.length gc) h'.t))).kept hk34 (fun k e f=>?_)⟩
  ·have:=(HR.out.1.lt k e).1;simp at this;omega
  ·have:=(HR.out.2.1.lt k e).1;simp at this;omega
  ·have:=(HTO.out.1.nown.lt k e).1;simp at this;omega)
 have HBLK:Hid ((∀ k,(Value.slice ra rs.length rc).ownBlock=some k->w.heap.size < k/\k < w3.heap.size+1)/\(∀ k,(Value.slice ma ms.length mc).ownBlock=some k->w.heap.size < k/\k < w3.heap.size+1)/\(∀ k,(Value.slice na qs.length nc).ownBlock=some k->w.heap.size < k/\k < w3.heap.size+1)):=mH ⟨fun k e=>by have h1:=HR.out.1.lt k e;simp at h1;omega,fun k e=>by have h1:=HR.out.2.1.lt k e;simp at h1;omega,fun k e=>by have h1:=HTO.out.1.nown.lt k e;simp at h1;omega⟩
 have HOW:=mH HR.out.2.2
 have HND:=mH HTO.out.2.1
 have HNA:Hid (∀ k,(Value.slice na qs.length nc).ownBlock=some k->w2.heap.size<=k):=mH (fun k e=>by have h1:=HTO.out.1.nown.lt k e;simp at h1;omega)
 have HLF:Hid ((((w3.alloc (oTr (.slice na qs.length nc) (.slice ga h'.t.gs.length gc) h'.t)).setCell ⟨fb,3,none⟩ (.int .i64 ((tk:Int)+1))).alloc (.cells #[] 84)).ownsRow (w3.heap.size+1) 84 6 (.slice (some ⟨w3.heap.size+1,0,none⟩) 0 0) 0 []):=mH (by
  have:=World.ownsRow_made (base:=w3.heap.size+1) (e:=84) (size:=6) ((w3.alloc (oTr (.slice na qs.length nc) (.slice ga h'.t.gs.length gc) h'.t)).setCell ⟨fb,3,none⟩ (.int .i64 ((tk:Int)+1))) #[] 0 (by rw [hs4];exact Nat.le_refl _) (by unfold maxLen;omega) rfl
  rw [hs4] at this
  exact this)
 have HB5:Hid (Below ((w3.alloc (oTr (.slice na qs.length nc) (.slice ga h'.t.gs.length gc) h'.t)).setCell ⟨fb,3,none⟩ (.int .i64 ((tk:Int)+1))).heap.size ((w3.alloc (oTr (.slice na qs.length nc) (.slice ga h'.t.gs.length gc) h'.t)).setCell ⟨fb,3,none⟩ (.int .i64 ((tk:Int)+1))) (((w3.alloc (oTr (.slice na qs.length nc) (.slice ga h'.t.gs.length gc) h'.t)).setCell ⟨fb,3,none⟩ (.int .i64 ((tk:Int)+1))).alloc (.cells #[] 84))):=mH (ba (Below.refl _ _) _)
 have HW3:=mH hs4
 clear X1 X2 X3 X5 HR HTO hk34 hb23 hb24 hs4 x0 x1 x2 x3 f2 f3 y0 y1 y3 z0 z1 z2 z3
 generalize ((w3.alloc (oTr (.slice na qs.length nc) (.slice ga h'.t.gs.length gc) h'.t)).setCell ⟨fb,3,none⟩ (.int .i64 ((tk:Int)+1)))=W4 at X4 HBX HK4 HRW HLF HB5 HW3 y2 ⊢
 clear ewt
 go_loopw [5,40] (fun lv iv wr=>∃ (j:Nat) (ls:List Spv),iv=.int .i64 (j:Int)/\j<=ps.length/\ls=(ps.take j).filter (fun p=>keepB (nds qs) rs p.1)/\Hid (wr.ownsRow (w3.heap.size+1) 84 6 lv ls.length (ls.flatMap c6s))/\Hid (Below W4.heap.size W4 wr)) (fun _ iv _=>ps.length - (intOf iv).toNat)
 case atStart=>exact⟨0,[],rfl,Nat.zero_le _,rfl,HLF,HB5⟩
 case round=>
  clear HLF HB5 y2
  obtain⟨j,ls,rfl,hj,hls,HL,HB⟩:=hrel
  have HXW:=mH (X4.out.late HB.out)
  obtain⟨la,lc,rfl,_⟩:=own_sh HL.out
  have hlsl:ls.length<=900000:=by rw [hls];exact Nat.le_trans (List.length_filter_le _ _) (by rw [List.length_take];omega)
  have HLS:=mH hls
  clear hls
  by_cases hlt:j < ps.length
  ·obtain⟨b7,o7,p,rfl,hpj,hat⟩:=(HXW.out.sp.rowIn (by omega)).at (Below.refl _ _) j hlt
   have hst:=filt_step (f:=fun p:Spv=>keepB (nds qs) rs p.1) hpj
   have HPJ:=mH hpj
   have hji:(j:Int) < ps.length:=by omega
   obtain⟨p0,p1,p2,p3,p4,p5⟩:=six_at hat
   clear hat hpj
   obtain⟨⟨id,⟨sk,sq,st⟩,wk,rn⟩,⟨wa,wc⟩,⟨na2,nc2⟩⟩:=p
   simp only [wkV,rnV] at p0 p1 p2 p3 p4 p5
   have HB7:Hid (Below W4.heap.size W4 (wr.alloc (.cells #[.int .i64 id,.int .i64 sk,.int .i64 sq,.int .i64 st,.slice wa wk.length wc,.slice na2 rn.length nc2] 84))):=mH (ba HB.out _)
   have HQ7:=mH (HRW.out.2.2.below HB7.out)
   obtain⟨t0,t1,t2,t3⟩:=four ((HB7.out.block _ (lOh HBX.out.2.2)).trans HBX.out.2.2)
   have HS7:=mH (heap_alloc_new wr (.cells #[.int .i64 id,.int .i64 sk,.int .i64 sq,.int .i64 st,.slice wa wk.length wc,.slice na2 rn.length nc2] 84))
   have HL7:=mH (own_new HL.out (.cells #[.int .i64 id,.int .i64 sk,.int .i64 sq,.int .i64 st,.slice wa wk.length wc,.slice na2 rn.length nc2] 84))
   cases hfp:fndP qs id with
   |none=>
    have HFP:=mH hfp
    have HST:Hid ((ps.take (j+1)).filter (fun p=>keepB (nds qs) rs p.1)=ls):=mH (by have hkn:=keep_none (rs:=rs) (s:=⟨id,(sk,sq,st),wk,rn⟩) HFP.out;rw [hst,HLS.out];simp [hkn])
    go_wp2_with (go_at_call 67;have HN:=rfind_no (wr.alloc (.cells #[.int .i64 id,.int .i64 sk,.int .i64 sq,.int .i64 st,.slice wa wk.length wc,.slice na2 rn.length nc2] 84)) h'.t na nc (.slice ga h'.t.gs.length gc) qs id HQ7.out HFP.out;(with_reducible refine HN.mono ?_);clear HN;rintro e w8 ⟨rfl,b8⟩;have HL8:=mH (own_new (oNk HL7.out (kept_of_below b8) (fun k e hge=>(by have:=(HL7.out.lt k e).2;omega:False))) (.cells #[.int .i64 0,.int .i64 0,.int .i64 0,.int .i64 0,.int .i64 0,.int .i64 0,.slice none 0 0] 69));have HB8:=mH (ba (bt HB7.out b8) (.cells #[.int .i64 0,.int .i64 0,.int .i64 0,.int .i64 0,.int .i64 0,.int .i64 0,.slice none 0 0] 69));clear b8)
    go_roundw
    case rel=>exact⟨j+1,ls,by go_num,by omega,HST.out.symm,HL8,HB8⟩
    case measure=>simp [intOf];omega
   |some n=>
    have HFP:=mH hfp
    obtain⟨⟨ni,npa,⟨nk,nq,nt⟩,npo,nts⟩,nta,ntc⟩:=n
    by_cases hsv:nk=sk/\nq=sq/\nt=st
    case neg=>
     have HST:Hid ((ps.take (j+1)).filter (fun p=>keepB (nds qs) rs p.1)=ls):=mH (by have hkn:=keep_some (rs:=rs) (s:=⟨id,(sk,sq,st),wk,rn⟩) HFP.out;rw [decide_eq_false (by simpa using hsv)] at hkn;rw [hst,HLS.out];simp [hkn])
     have hc:((nk == sk)=true/\(nq == sq)=true/\(nt == st)=false) ∨ ((nk == sk)=true/\(nq == sq)=false/\True) ∨ ((nk == sk)=false/\True/\True):=by simp;omega
     rcases hc with ⟨e1,e2,e3⟩ | ⟨e1,e2,e3⟩ | ⟨e1,e2,e3⟩
     all_goals
      go_wp2_with (go_at_call 67;have HN:=rfind_yes (wr.alloc (.cells #[.int .i64 id,.int .i64 sk,.int .i64 sq,.int .i64 st,.slice wa wk.length wc,.slice na2 rn.length nc2] 84)) h'.t na nc (.slice ga h'.t.gs.length gc) qs id HQ7.out HFP.out;(with_reducible refine HN.mono ?_);clear HN;rintro e w8 ⟨rfl,b8⟩;have HL8:=mH (own_new (oNk HL7.out (kept_of_below b8) (fun k e hge=>(by have:=(HL7.out.lt k e).2;omega:False))) (.cells #[.int .i64 ni,.int .i64 npa,.int .i64 nk,.int .i64 nq,.int .i64 nt,.int .i64 npo,.slice nta nts.length ntc] 69));have HB8:=mH (ba (bt HB7.out b8) (.cells #[.int .i64 ni,.int .i64 npa,.int .i64 nk,.int .i64 nq,.int .i64 nt,.int .i64 npo,.slice nta nts.length ntc] 69));have hz8:=((ba b8 (.cells #[.int .i64 ni,.int .i64 npa,.int .i64 nk,.int .i64 nq,.int .i64 nt,.int .i64 npo,.slice nta nts.length ntc] 69)).block _ (lOh HS7.out)).trans HS7.out;obtain⟨s0,s1,s2,s3,s4,s5⟩:=six_cells hz8;clear b8 s0 s4 s5 hz8)
      go_roundw
      case rel=>exact⟨j+1,ls,by go_num,by omega,HST.out.symm,HL8,HB8⟩
      case measure=>simp [intOf];omega
    case pos=>
     obtain⟨e1,e2,e3⟩:=hsv
     have q1:=e1.symm
     have q2:=e2.symm
     have q3:=e3.symm
     clear e1 e2 e3
     subst q1 q2 q3
     cases hrz:rs.any (isRz id) with
     |true=>
      have HST:Hid ((ps.take (j+1)).filter (fun p=>keepB (nds qs) rs p.1)=ls):=mH (by have hkn:=keep_some (rs:=rs) (s:=⟨id,(sk,sq,st),wk,rn⟩) HFP.out;rw [hrz] at hkn;rw [hst,HLS.out];simp [hkn])
      go_wp2_with (first
       |(go_at_call 67;have HN:=rfind_yes (wr.alloc (.cells #[.int .i64 id,.int .i64 sk,.int .i64 sq,.int .i64 st,.slice wa wk.length wc,.slice na2 rn.length nc2] 84)) h'.t na nc (.slice ga h'.t.gs.length gc) qs id HQ7.out HFP.out;(with_reducible refine HN.mono ?_);clear HN;rintro e w8 ⟨rfl,b8⟩;have HL8:=mH (own_new (oNk HL7.out (kept_of_below b8) (fun k e hge=>(by have:=(HL7.out.lt k e).2;omega:False))) (.cells #[.int .i64 ni,.int .i64 npa,.int .i64 sk,.int .i64 sq,.int .i64 st,.int .i64 npo,.slice nta nts.length ntc] 69));have HB8:=mH (ba (bt HB7.out b8) (.cells #[.int .i64 ni,.int .i64 npa,.int .i64 sk,.int .i64 sq,.int .i64 st,.int .i64 npo,.slice nta nts.length ntc] 69));have HS8:=mH (((ba b8 (.cells #[.int .i64 ni,.int .i64 npa,.int .i64 sk,.int .i64 sq,.int .i64 st,.int .i64 npo,.slice nta nts.length ntc] 69)).block _ (lOh HS7.out)).trans HS7.out);obtain⟨s0,s1,s2,s3,s4,s5⟩:=six_cells HS8.out;obtain⟨r0,r1,r2,r3,r4,r5,r6,r7,r8,r9⟩:=rp_cells' ((HB8.out.block _ (lOh HBX.out.2.1)).trans HBX.out.2.1);clear b8 s4 s5)
       |(go_at_call 68;have HN:=resized_is (w8.alloc (.cells #[.int .i64 ni,.int .i64 npa,.int .i64 sk,.int .i64 sq,.int .i64 st,.int .i64 npo,.slice nta nts.length ntc] 69)) id h.now ra rc rs (.slice ma ms.length mc) (.int .i64 n3) (.int .i64 n4) (.int .i64 n5) (.int .i64 n6) (.int .i64 n7) (.int .i64 n8) (.bool e9) (HRW.out.1.below HB8.out);rw [hrz] at HN;(with_reducible refine HN.mono ?_);clear HN;rintro e w9 ⟨rfl,b9⟩;have HL9:=mH (oNk HL8.out (kept_of_below b9) (fun k e hge=>(by have:=(HL8.out.lt k e).2;omega:False)));have HB9:=mH (bt HB8.out b9);have HS9:=mH ((b9.block _ (lOh HS8.out)).trans HS8.out);clear b9 s0 s1 s2 s3 r0 r1 r2 r3 r4 r5 r6 r7 r8 r9;obtain⟨s0,s1,s2,s3,s4,s5⟩:=six_cells HS9.out))
      go_roundw
      case rel=>exact⟨j+1,ls,by go_num,by omega,HST.out.symm,HL9,HB9⟩
      case measure=>simp [intOf];omega
     |false=>
      have HST:Hid ((ps.take (j+1)).filter (fun p=>keepB (nds qs) rs p.1)=ls ++ [(⟨⟨id,(sk,sq,st),wk,rn⟩,(wa,wc),(na2,nc2)⟩:Spv)]):=mH (by have hkn:=keep_some (rs:=rs) (s:=⟨id,(sk,sq,st),wk,rn⟩) HFP.out;rw [hrz] at hkn;rw [hst,HLS.out];simp [hkn])
      go_wp2_with (first
       |(go_at_call 67;have HN:=rfind_yes (wr.alloc (.cells #[.int .i64 id,.int .i64 sk,.int .i64 sq,.int .i64 st,.slice wa wk.length wc,.slice na2 rn.length nc2] 84)) h'.t na nc (.slice ga h'.t.gs.length gc) qs id HQ7.out HFP.out;(with_reducible refine HN.mono ?_);clear HN;rintro e w8 ⟨rfl,b8⟩;have HL8:=mH (own_new (oNk HL7.out (kept_of_below b8) (fun k e hge=>(by have:=(HL7.out.lt k e).2;omega:False))) (.cells #[.int .i64 ni,.int .i64 npa,.int .i64 sk,.int .i64 sq,.int .i64 st,.int .i64 npo,.slice nta nts.length ntc] 69));have HB8:=mH (ba (bt HB7.out b8) (.cells #[.int .i64 ni,.int .i64 npa,.int .i64 sk,.int .i64 sq,.int .i64 st,.int .i64 npo,.slice nta nts.length ntc] 69));have HS8:=mH (((ba b8 (.cells #[.int .i64 ni,.int .i64 npa,.int .i64 sk,.int .i64 sq,.int .i64 st,.int .i64 npo,.slice nta nts.length ntc] 69)).block _ (lOh HS7.out)).trans HS7.out);obtain⟨s0,s1,s2,s3,s4,s5⟩:=six_cells HS8.out;obtain⟨r0,r1,r2,r3,r4,r5,r6,r7,r8,r9⟩:=rp_cells' ((HB8.out.block _ (lOh HBX.out.2.1)).trans HBX.out.2.1);clear b8 s4 s5)
       |(go_at_call 68;have HN:=resized_is (w8.alloc (.cells #[.int .i64 ni,.int .i64 npa,.int .i64 sk,.int .i64 sq,.int .i64 st,.int .i64 npo,.slice nta nts.length ntc] 69)) id h.now ra rc rs (.slice ma ms.length mc) (.int .i64 n3) (.int .i64 n4) (.int .i64 n5) (.int .i64 n6) (.int .i64 n7) (.int .i64 n8) (.bool e9) (HRW.out.1.below HB8.out);rw [hrz] at HN;(with_reducible refine HN.mono ?_);clear HN;rintro e w9 ⟨rfl,b9⟩;have HL9:=mH (oNk HL8.out (kept_of_below b9) (fun k e hge=>(by have:=(HL8.out.lt k e).2;omega:False)));have HB9:=mH (bt HB8.out b9);have HS9:=mH ((b9.block _ (lOh HS8.out)).trans HS8.out);clear b9 s0 s1 s2 s3 r0 r1 r2 r3 r4 r5 r6 r7 r8 r9;obtain⟨s0,s1,s2,s3,s4,s5⟩:=six_cells HS9.out)
       |(at_builtin;refine wpList_append_src6 _ rfl (.tmp 66) (.tmp 68) 78 78 rfl (w3.heap.size+1) 84 ie Tryz.underlying78 hie.out.1 (.agg #[.int .i64 0,.int .i64 0,.int .i64 0,.int .i64 0,.slice none 0 0,.slice none 0 0]) 80 hie.out.2.1 rfl hie.out.2.2.1 hie.out.2.2.2 _ ls.length (ls.flatMap c6s) rfl (own_new HL9.out (.cells #[.int .i64 id,.int .i64 sk,.int .i64 sq,.int .i64 st,.slice wa wk.length wc,.slice na2 rn.length nc2] 84)) (.slice (some ⟨w9.heap.size,0,none⟩) 1 1) 1 (c6s (⟨⟨id,(sk,sq,st),wk,rn⟩,(wa,wc),(na2,nc2)⟩:Spv)) rfl (src_span w9 (⟨⟨id,(sk,sq,st),wk,rn⟩,(wa,wc),(na2,nc2)⟩:Spv) _ rfl) (by unfold maxLen;omega) (by omega) (by have:=HB9.out.size;have:=HW3.out;simp;omega) ?_;intro v4 w4 ho4 hg4 hat4;have HL4:Hid (w4.ownsRow (w3.heap.size+1) 84 6 v4 (ls ++ [(⟨⟨id,(sk,sq,st),wk,rn⟩,(wa,wc),(na2,nc2)⟩:Spv)]).length ((ls ++ [(⟨⟨id,(sk,sq,st),wk,rn⟩,(wa,wc),(na2,nc2)⟩:Spv)]).flatMap c6s)):=mH (by rw [List.length_append,List.flatMap_append];simpa using ho4);have HB4:Hid (Below W4.heap.size W4 w4):=mH ((ba HB9.out (.cells #[.int .i64 id,.int .i64 sk,.int .i64 sq,.int .i64 st,.slice wa wk.length wc,.slice na2 rn.length nc2] 84)).grown hg4 (ba HB9.out (.cells #[.int .i64 id,.int .i64 sk,.int .i64 sq,.int .i64 st,.slice wa wk.length wc,.slice na2 rn.length nc2] 84)).size (fun k hk=>(by have:=(HL9.out.lt k hk).1;have:=HW3.out;omega)));clear ho4 hg4 hat4))
      go_roundw
      case rel=>exact⟨j+1,ls ++ [(⟨⟨id,(sk,sq,st),wk,rn⟩,(wa,wc),(na2,nc2)⟩:Spv)],by go_num,by omega,HST.out.symm,HL4,HB4⟩
      case measure=>simp [intOf];omega
  ·obtain rfl:j=ps.length:=by omega
   have HLS2:Hid (ls=ps.filter (fun p=>keepB (nds qs) rs p.1)):=mH (by have:=HLS.out;rwa [List.take_length] at this)
   have HBW:Hid (B<=w.heap.size):=mH HX0.out.le
   have hX6:∃ tg6,FX B W own' tg6 (wr.setCell ⟨fb,2,none⟩ (.slice la ls.length lc)) fb b mb h' asks (tk+1) (.slice la ls.length lc) ls/\Kept (FBk own' tg fb) W4 (wr.setCell ⟨fb,2,none⟩ (.slice la ls.length lc))/\∀ k,k < W4.heap.size->FBk own' tg6 fb k->FBk own' tg fb k:=by
    have hl:=HL.out.lt
    have h3:=HW3.out
    obtain⟨q1,q2⟩:=X4.out.spans (SpW.filter X4.out.sp HB.out (by have:=HBW.out;omega) (by omega) (by rw [HLS2.out];exact List.filter_sublist) HL.out) (fun k hk h0=>by
     show (if _ then _ else _)=_
     rw [if_neg (fun e=>by have:=(hl k e).1;omega),h0];rfl) (kept_new HB.out)
    refine⟨_,q1,q2.mono (fun k e=>by rcases e with e | e;exact .inr (.inl e);exact .inr (.inr e)),fun k hk e=>?_⟩
    rcases e with e | e | e
    ·exact .inl e
    ·refine .inr (.inl (fun h0=>e ?_))
     show (if _ then _ else _)=_
     rw [if_neg (fun e=>by have:=(hl k e).1;omega),h0];rfl
    ·exact .inr (.inr e)
   obtain⟨tg6,x6,k6,o6⟩:=hX6
   have X6:=mH x6
   have K6:=mH k6
   have O6:=mH o6
   have HBD6:Hid (Bd (1000 * tk) ls):=mH (HBD.out.sub (by rw [HLS2.out];exact List.filter_sublist))
   have HNF:Hid (¬ FBk own' tg fb w.heap.size/\¬ FBk own' tg fb w2.heap.size/\¬ FBk own' tg fb w3.heap.size/\(∀ k,(Value.slice ra rs.length rc).ownBlock=some k->¬ FBk own' tg fb k)/\(∀ k,(Value.slice ma ms.length mc).ownBlock=some k->¬ FBk own' tg fb k)/\∀ k,(Value.slice na qs.length nc).ownBlock=some k->¬ FBk own' tg fb k):=mH (by
    have nt:∀ k,w.heap.size<=k->own' k=0->¬ FBk own' tg fb k:=fun k hk h0 e=>by
     rcases e with e | e | e
     ·exact e h0
     ·have:=(HX0.out.sp.sz k e).2;omega
     ·omega
    refine⟨nt _ (Nat.le_refl _) ?_,nt _ (by omega) (HZ2.out _ (Nat.le_refl _)),nt _ (by omega) (HZ2.out _ (by omega)),fun k e=>nt k (by have:=(HBLK.out.1 k e).1;omega) (HOW.out.1 k e),fun k e=>nt k (by have:=(HBLK.out.2.1 k e).1;omega) (HOW.out.2.1 k e),fun k e=>nt k (by have:=(HBLK.out.2.2 k e).1;omega) (HZ2.out k (HNA.out k e))⟩
    rw [HOW.out.2.2.1 w.heap.size (by simp)]
    exact HX0.out.hx.zero (Nat.le_refl _))
   obtain⟨y0,y1,y2,y3,f2,f3⟩:=HXW.out.cells
   obtain⟨r0,r1,r2,r3,r4,r5,r6,r7,r8,r9⟩:=rp_cells' ((K6.out.block _ (lOh HBX.out.2.1) HNF.out.2.1).trans HBX.out.2.1)
   clear r0 r1 r3 r4 r5 r6 r7 r8 r9 x6 k6 o6 HXW HL HB HLS hlt hlsl hj
   go_wp2
   clear y0 y1 y2 y3 f2 f3 r2
   generalize wr.setCell ⟨fb,2,none⟩ (.slice la ls.length lc)=w6 at X6 K6 ⊢
   have hml:(ms.length:Int)<=1000:=by have h1:=HTR.out.1.me;have h2:=HSM.out.n;rw [h1,List.length_map];omega
   go_loopw [78] (fun iv wr=>∃ (j:Nat) (tg7:Nat->Int × Int) (va7:Option Addr) (vc7:Nat) (ps7:List Spv),iv=.int .i64 (j:Int)/\j<=ms.length/\Hid (FX B W own' tg7 wr fb b mb h' asks (tk+1) (.slice va7 ps7.length vc7) ps7)/\Hid (Kept (FBk own' tg fb) W4 wr)/\Hid (∀ k,k < W4.heap.size->FBk own' tg7 fb k->FBk own' tg fb k)/\Hid (ps7.map (·.1)=noteS h'.t.ns (ms.take j) (ls.map (·.1)))/\Hid (Bd (1000 * tk+j) ps7)) (fun iv _=>ms.length - (intOf iv).toNat)
   case atStart=>exact⟨0,tg6,la,lc,ls,rfl,Nat.zero_le _,X6,K6,O6,mH rfl,mH (HBD6.out.mono (by omega))⟩
   case round=>
    clear K6 X6 O6
    obtain⟨j,tg7,va7,vc7,ps7,rfl,hj,X7,K7,O7,N7,D7⟩:=hrel
    by_cases hlt:j < ms.length
    ·have HM7:=HRW.out.2.1.kept K7.out (fun k e=>HNF.out.2.2.2.2.1 k e)
     obtain⟨b8,o8,m,hma,hmj,hat⟩:=HM7.at (Below.refl _ _) j hlt
     subst hma
     obtain⟨a0,a1,a2⟩:=three_atm hat
     have HMJ:=mH hmj
     clear hat hmj HM7
     obtain⟨mi,mw,mr⟩:=m
     simp only at a0 a1 a2
     have hji:(j:Int) < ms.length:=by omega
     obtain⟨y0,y1,y2,y3,f2,f3⟩:=X7.out.cells
     have hl7:ps7.length<=1000000:=by have:=D7.out.1;omega
     have hl7i:(ps7.length:Int)<=1000000:=by omega
     go_wp2
     have X8:=mH (FQ.make X7.out K7.out O7.out (.cells #[.int .i64 mi,.bool mw,.bool mr] 96))
     generalize wr.alloc (.cells #[.int .i64 mi,.bool mw,.bool mr] 96)=w8 at X8 ⊢
     generalize wr.heap.size=bx at X8 ⊢
     clear a0 a1 a2 y0 y1 y2 y3 f2 f3 X7 K7 O7
     go_loopw [12,87] (fun av iv w9=>∃ i:Nat,iv=.int .i64 (i:Int)/\i<=ps7.length/\((av=.int .i64 (-1)/\Hid (∀ p ∈ ps7.take i,¬ p.1.id=mi)) ∨ ∃ (K:Nat) (p:Spv),av=.int .i64 (K:Int)/\Hid (ps7[K]?=some p/\p.1.id=mi))/\Hid (Below w8.heap.size w8 w9)) (fun _ iv _=>ps7.length - (intOf iv).toNat)
     case atStart=>exact⟨0,rfl,Nat.zero_le _,.inl ⟨rfl,mH (fun x hx=>by simp at hx)⟩,mH (Below.refl _ _)⟩
     case round=>
      rename World=>w9
      obtain⟨i,rfl,hi,hav,HB9⟩:=hrel
      have X9:=mH (X8.out.late HB9.out)
      by_cases hlt2:i < ps7.length
      ·obtain⟨b7,o7,p,hva,hpi,hat⟩:=(X9.out.x.sp.rowIn (by omega)).at (Below.refl _ _) i hlt2
       obtain⟨p0,p1,p2,p3,p4,p5⟩:=six_at hat
       have HPI:=mH hpi
       clear hat hpi
       obtain⟨⟨id,⟨sk,sq,st⟩,wk,rn⟩,⟨wa,wc⟩,⟨na2,nc2⟩⟩:=p
       simp only [wkV,rnV] at p0 p1 p2 p3 p4 p5
       subst hva
       have hii:(i:Int) < ps7.length:=by omega
       have m0:w9.cell? ⟨bx,0,none⟩=some (.int .i64 mi):=cOb X9.out.hb rfl
       have HB10:=mH (ba HB9.out (.cells #[.int .i64 id,.int .i64 sk,.int .i64 sq,.int .i64 st,.slice wa wk.length wc,.slice na2 rn.length nc2] 84))
       have HAV:=mH hav
       clear hav
       by_cases he:id=mi
       ·obtain rfl:=he.symm
        go_wp2
        go_roundw
        case rel=>exact⟨i+1,by go_num,by omega,.inr ⟨i,_,rfl,mH ⟨HPI.out,rfl⟩⟩,HB10⟩
        case measure=>simp [intOf];omega
       ·have HHE:=mH he
        go_wp2
        go_roundw
        case rel=>exact⟨i+1,by go_num,by omega,HAV.out.imp (fun q=>⟨q.1,mH (take_no q.2.out HPI.out HHE.out)⟩) (fun q=>q),HB10⟩
        case measure=>simp [intOf];omega
      ·obtain rfl:i=ps7.length:=by omega
       clear HB9 hlt2 hi
       rcases hav with ⟨rfl,hno⟩ | ⟨K,p,rfl,hKp⟩
       ·have HNO:Hid (∀ p ∈ ps7,p.1.id ≠ mi):=mH (by have:=hno.out;rwa [List.take_length] at this)
        clear hno
        obtain⟨y0,y1,y2,y3,f2,f3⟩:=X9.out.x.cells
        have m0:w9.cell? ⟨bx,0,none⟩=some (.int .i64 mi):=cOb X9.out.hb rfl
        obtain⟨t0,t1,t2,t3⟩:=four ((X9.out.k.block _ (lOh HBX.out.2.2) HNF.out.2.2.1).trans HBX.out.2.2)
        have HQ9:=mH (HRW.out.2.2.kept X9.out.k (fun k e=>HNF.out.2.2.2.2.2 k e))
        clear X8
        go_wp2_with (go_at_call 67;have HN:=rfind_any w9 h'.t na nc (.slice ga h'.t.gs.length gc) qs mi HQ9.out;(with_reducible refine HN.mono ?_);clear HN;rintro e w10 ⟨ni,npa,nk,nq,nt,npo,nta,ntl,ntc,okb,rfl,hsv,b10⟩;have HSV:=mH hsv;have XN:=mH (X9.out.late (ba b10 (.cells #[.int .i64 ni,.int .i64 npa,.int .i64 nk,.int .i64 nq,.int .i64 nt,.int .i64 npo,.slice nta ntl ntc] 69)));have HBN:=mH (heap_alloc_new w10 (.cells #[.int .i64 ni,.int .i64 npa,.int .i64 nk,.int .i64 nq,.int .i64 nt,.int .i64 npo,.slice nta ntl ntc] 69));have HNB:Hid (tg7 w10.heap.size=(0,0)):=mH (Decidable.byContradiction fun f=>(by have h1:=(X9.out.x.sp.sz _ f).2;have h2:=b10.size;omega:False));clear hsv b10 y0 y1 y2 y3 f2 f3 m0 t0 t1 t2 t3)
        generalize w10.alloc (.cells #[.int .i64 ni,.int .i64 npa,.int .i64 nk,.int .i64 nq,.int .i64 nt,.int .i64 npo,.slice nta ntl ntc] 69)=wn at XN HBN ⊢
        generalize w10.heap.size=bn at HBN HNB ⊢
        have HLEN7:=mH hl7
        have d0:=XN.out.x.cells.2.2.1
        have d1:wn.cell? ⟨bx,0,none⟩=some (.int .i64 mi):=cOb XN.out.hb rfl
        have d2:wn.cell? ⟨bn,2,none⟩=some (.int .i64 nk):=cOb HBN.out rfl
        have d3:wn.cell? ⟨bn,3,none⟩=some (.int .i64 nq):=cOb HBN.out rfl
        have d4:wn.cell? ⟨bn,4,none⟩=some (.int .i64 nt):=cOb HBN.out rfl
        have hT:wn.drew.cell? ⟨fb,2,none⟩=some (.slice va7 ps7.length vc7)/\wn.drew.cell? ⟨bx,0,none⟩=some (.int .i64 mi)/\wn.drew.cell? ⟨bn,2,none⟩=some (.int .i64 nk)/\wn.drew.cell? ⟨bn,3,none⟩=some (.int .i64 nq)/\wn.drew.cell? ⟨bn,4,none⟩=some (.int .i64 nt):=⟨d0,d1,d2,d3,d4⟩
        refine wp_region_till (fun w'=>w'.cell? ⟨fb,2,none⟩=some (.slice va7 ps7.length vc7)/\w'.cell? ⟨bx,0,none⟩=some (.int .i64 mi)/\w'.cell? ⟨bn,2,none⟩=some (.int .i64 nk)/\w'.cell? ⟨bn,3,none⟩=some (.int .i64 nq)/\w'.cell? ⟨bn,4,none⟩=some (.int .i64 nt)) 14 (by kernel_rfl) ?_
        refine frE 0 108 (.pointer (some ⟨fb,0,none⟩)) rfl rfl (fun _=>hT) ?_
        (try simp only [sZ,sS])
        refine frE 1 109 (.pointer (some ⟨fb,0,none⟩)) rfl rfl (fun _=>hT) ?_
        (try simp only [sZ,sS])
        refine frE 2 110 (.pointer (some ⟨fb,0,none⟩)) rfl rfl (fun _=>hT) ?_
        (try simp only [sZ,sS])
        refine frE 3 111 (.pointer (some ⟨fb,2,none⟩)) rfl rfl (fun _=>hT) ?_
        (try simp only [sZ,sS])
        refine fiE 4 112 (.slice va7 ps7.length vc7) rfl rfl hT ?_
        (try simp only [sZ,sS])
        refine frE 5 113 (.pointer (some ⟨bx,0,none⟩)) rfl rfl (fun _=>hT) ?_
        (try simp only [sZ,sS])
        refine fiE 6 114 (.int .i64 mi) rfl rfl hT ?_
        (try simp only [sZ,sS])
        refine frE 7 115 (.pointer (some ⟨bn,2,none⟩)) rfl rfl (fun _=>hT) ?_
        (try simp only [sZ,sS])
        refine fiE 8 116 (.agg #[.int .i64 nk,.int .i64 nq,.int .i64 nt]) rfl rfl hT ?_
        (try simp only [sZ,sS])
        refine frE 9 117 (.agg #[.int .i64 mi,.int .i64 nk,.int .i64 nq,.int .i64 nt,.slice none 0 0,.slice none 0 0]) rfl rfl (fun _=>hT) ?_
        (try simp only [sZ,sS])
        refine wpT_ready (rs:=[10]) (by kernel_rfl) (by simp) (AllT.cons rfl (fun K2 hK2=>?_) AllT.nil)
        go_simp
        have e0:=kl hT.1 (.cells #[.int .i64 mi,.int .i64 nk,.int .i64 nq,.int .i64 nt,.slice none 0 0,.slice none 0 0] 84)
        have e1:=kl hT.2.1 (.cells #[.int .i64 mi,.int .i64 nk,.int .i64 nq,.int .i64 nt,.slice none 0 0,.slice none 0 0] 84)
        have e2:=kl hT.2.2.1 (.cells #[.int .i64 mi,.int .i64 nk,.int .i64 nq,.int .i64 nt,.slice none 0 0,.slice none 0 0] 84)
        have e3:=kl hT.2.2.2.1 (.cells #[.int .i64 mi,.int .i64 nk,.int .i64 nq,.int .i64 nt,.slice none 0 0,.slice none 0 0] 84)
        have e4:=kl hT.2.2.2.2 (.cells #[.int .i64 mi,.int .i64 nk,.int .i64 nq,.int .i64 nt,.slice none 0 0,.slice none 0 0] 84)
        clear hT d0 d1 d2 d3 d4
        refine hK2.out _ _ (fun _=>⟨e0,e1,e2,e3,e4⟩) ?_
        clear hK2 K2
        (try simp only [Act.put])
        refine wpT_ready (rs:=[11]) (by kernel_rfl) (by simp) (AllT.cons rfl (fun K2 hK2=>?_) AllT.nil)
        have HBA:Hid (Below wn.heap.size wn (wn.drew.alloc (.cells #[.int .i64 mi,.int .i64 nk,.int .i64 nq,.int .i64 nt,.slice none 0 0,.slice none 0 0] 84))):=mH ((Below.refl _ wn).drew.trans (by simpa using ba (Below.refl _ wn.drew) (.cells #[.int .i64 mi,.int .i64 nk,.int .i64 nq,.int .i64 nt,.slice none 0 0,.slice none 0 0] 84)))
        have HOA:Hid ((wn.drew.alloc (.cells #[.int .i64 mi,.int .i64 nk,.int .i64 nq,.int .i64 nt,.slice none 0 0,.slice none 0 0] 84)).ownsRow B 84 6 (.slice va7 ps7.length vc7) ps7.length (ps7.flatMap c6s)):=mH (oNk XN.out.x.sp.row (kept_of_below HBA.out) (fun k e hge=>by have:=(XN.out.x.sp.row.lt k e).2;omega))
        refine step_append_src6 (w:=(wn.drew.alloc (.cells #[.int .i64 mi,.int .i64 nk,.int .i64 nq,.int .i64 nt,.slice none 0 0,.slice none 0 0] 84))) rfl (.tmp 112) (.tmp 118) 78 78 rfl B 84 ie Tryz.underlying78 hie.out.1 (.agg #[.int .i64 0,.int .i64 0,.int .i64 0,.int .i64 0,.slice none 0 0,.slice none 0 0]) 80 hie.out.2.1 rfl hie.out.2.2.1 hie.out.2.2.2 (.slice va7 ps7.length vc7) ps7.length (ps7.flatMap c6s) (by simp [Act.eval]) HOA.out (.slice (some ⟨wn.heap.size,0,none⟩) 1 1) 1 (c6s (newS mi (nk,nq,nt))) (by simp [Act.eval]) (src_span wn.drew (newS mi (nk,nq,nt)) _ (by simp)) (by have:=HLEN7.out;unfold maxLen;omega) (by have:=HLEN7.out;omega) (by have:=XN.out.x.le;have:=HBA.out.size;omega) ?_
        intro v5 w5 ho5 hg5 hat5
        obtain⟨xa4,ca4,rfl⟩:=own_shape ho5
        have k5:=Kept.grown hg5 (F:=fun k=>(Value.slice va7 ps7.length vc7).ownBlock=some k) (fun k e=>e)
        have hnfb:∀ k,(Value.slice va7 ps7.length vc7).ownBlock=some k->¬ k=fb:=fun k e f=>by have h1:=XN.out.x.sp.tr k e;rw [f,XN.out.x.tf.1] at h1;simp at h1
        have hf5:=(k5.block fb (Nat.lt_of_lt_of_le (lOh XN.out.x.fbk) HBA.out.size) (fun e=>hnfb _ e rfl)).trans ((HBA.out.block _ (lOh XN.out.x.fbk)).trans XN.out.x.fbk)
        have f5:w5.frozen? ⟨fb,2,none⟩=false:=fOb hf5
        have HPW:Hid (∃ tg8,FQ B W own' tg8 (w5.setCell ⟨fb,2,none⟩ (.slice xa4 (ps7.length+1) ca4)) fb b mb h' asks (tk+1) ((.slice xa4 (ps7.length+1) ca4)) (ps7 ++ [(newS mi (nk,nq,nt))]) W4 (FBk own' tg fb) bx (.cells #[.int .i64 mi,.bool mw,.bool mr] 96 (0,0))):=mH (by
         obtain⟨⟨tg8,hs8,ht8⟩,hk8⟩:=SpW.snoc (id:=mi) (s:=(nk,nq,nt)) XN.out.x.sp HBA.out HNO.out ho5 hg5 hat5
         exact⟨tg8,XN.out.spans hs8 ht8 hk8⟩)
        have hnk:∀ k,(Value.slice va7 ps7.length vc7).ownBlock=some k->¬ k=bx/\¬ k=bn:=fun k e=>⟨fun f=>XN.out.nb.1 (.inr (.inl (by rw [<- f,XN.out.x.sp.tr k e];simp))),fun f=>by have h1:=XN.out.x.sp.tr k e;rw [f,HNB.out] at h1;simp at h1⟩
        have z0:=k5.cell e0 (fun e=>hnfb _ e rfl)
        have z1:=k5.cell e1 (fun e=>(hnk _ e).1 rfl)
        have z2:=k5.cell e2 (fun e=>(hnk _ e).2 rfl)
        have z3:=k5.cell e3 (fun e=>(hnk _ e).2 rfl)
        have z4:=k5.cell e4 (fun e=>(hnk _ e).2 rfl)
        clear ho5 hg5 hat5 k5 e0 e1 e2 e3 e4 hf5 hnfb hnk
        refine hK2.out _ _ (fun _=>⟨z0,z1,z2,z3,z4⟩) ?_
        clear hK2 K2
        (try simp only [Act.put])
        refine freeD 12 120 (.pointer (some ⟨fb,0,none⟩)) rfl rfl (by kernel_rfl) (by kernel_rfl) (by kernel_rfl) (by decide) (fun _ _ _ h=>h) (fun _=>⟨z0,z1,z2,z3,z4⟩) (Or.inl ⟨by kernel_rfl,by intro w _;go_simp⟩) ?_
        (try simp only [sZ,sS])
        refine freeD 13 121 (.pointer (some ⟨fb,2,none⟩)) rfl rfl (by kernel_rfl) (by kernel_rfl) (by kernel_rfl) (by decide) (fun _ _ _ h=>h) (fun _=>⟨z0,z1,z2,z3,z4⟩) (Or.inl ⟨by kernel_rfl,by intro w _;go_simp⟩) ?_
        (try simp only [sZ,sS])
        refine wpT_ready (rs:=[14]) (by kernel_rfl) (by simp) (AllT.cons rfl (fun K2 hK2=>?_) AllT.nil)
        go_simp
        refine hK2.out _ _ (bool_no (by kernel_rfl)) ?_
        clear hK2 K2 z0 z1 z2 z3 z4 f5
        refine wpT_done (by kernel_rfl) ?_ _
        obtain⟨tg8,x8⟩:=HPW.out
        have X8q:=mH x8
        clear x8 HPW HBA HOA
        generalize w5.setCell ⟨fb,2,none⟩ (.slice xa4 (ps7.length+1) ca4)=w8q at X8q ⊢
        have HP:Hid ((ps7 ++ [newS mi (nk,nq,nt)])[ps7.length]?=some (newS mi (nk,nq,nt))):=mH (by simp)
        have HID:Hid ((newS mi (nk,nq,nt)).1.id=mi):=mH rfl
        have HMQ:Hid ((ps7 ++ [newS mi (nk,nq,nt)]).map (·.1)=admS h'.t.ns mi (noteS h'.t.ns (ms.take j) (ls.map (·.1)))):=mH (by
         rw [<- N7.out]
         unfold admS
         rw [if_neg,List.map_append]
         ·have hsv:=HSV.out
          rw [HND.out] at hsv
          simp only [List.map_cons,List.map_nil,newS,hsv]
          (try rfl)
         ·rw [List.any_map,List.any_eq_true]
          rintro ⟨q,hq,e⟩
          exact HNO.out q hq (by simpa using e))
        have HBQ:Hid ((ps7 ++ [newS mi (nk,nq,nt)]).length<=1000 * tk+j+1/\∀ q ∈ ps7 ++ [newS mi (nk,nq,nt)],q.1.wk.length<=1000 * tk+j/\q.1.rn.length<=1000 * tk+j):=mH ⟨by rw [List.length_append];have:=D7.out.1;simp;omega,fun q hq=>by
         rcases List.mem_append.mp hq with m | m
         ·exact D7.out.2 q m
         ·simp at m;subst m;simp [newS]⟩
        obtain⟨y0,y1,y2,y3,f2,f3⟩:=X8q.out.x.cells
        have ewt:IntKind.i64.wrap (((ps7.length+1:Nat):Int) - 1)=(ps7.length:Int):=(wfit (by omega) (by omega)).trans (by omega)
        have ewu:IntKind.i64.wrap ((ps7.length:Int)+1 - 1)=(ps7.length:Int):=(wfit (by omega) (by omega)).trans (by omega)
        have ewx:((ps7.length:Int)+1 - 1)=(ps7.length:Int):=by omega
        have HID7:Hid (ps7.length<=1000000):=mH hl7
        clear hl7
        go_wp2
        clear y0 y1 y2 y3 f2 f3
        obtain⟨psq,hpsq⟩:∃ psq,psq=ps7 ++ [newS mi (nk,nq,nt)]:=⟨_,rfl⟩
        have XQ:Hid (FQ B W own' tg8 w8q fb b mb h' asks (tk+1) (.slice xa4 psq.length ca4) psq W4 (FBk own' tg fb) bx (.cells #[.int .i64 mi,.bool mw,.bool mr] 96 (0,0))):=mH (by rw [hpsq,List.length_append];exact X8q.out)
        rw [<- hpsq] at HP HMQ HBQ
        clear hpsq X8q
        obtain⟨p,hp⟩:∃ p,p=newS mi (nk,nq,nt):=⟨_,rfl⟩
        rw [<- hp] at HP HID
        clear hp
        clear ewt ewu ewx
        generalize ps7.length=K at HP HID7 ⊢
        obtain⟨g,hg,hn0,_,_,_⟩:=XQ.out.x.sp.at6 HP.out
        subst hg
        clear hn0
        obtain⟨⟨pid,psv,wk2,rn2⟩,⟨wka,wkc⟩,⟨rna,rnc⟩⟩:=p
        have HLEN:Hid (wk2.length<=1000000/\rn2.length<=1000000):=mH (by have h1:=HBQ.out.2 _ (List.mem_of_getElem? HP.out);have h2:=htk;have h3:=hml;simp only at h1;omega)
        obtain⟨gx,hgx,hn0,q4,q5,hfz⟩:=XQ.out.x.sp.at6 HP.out
        obtain rfl:g=gx:=by simpa using hgx
        have d0:=XQ.out.x.cells.2.2.1
        have d1:w8q.cell? ⟨g,K * 6+4,none⟩=some (.slice wka wk2.length wkc):=q4
        have d2:w8q.cell? ⟨bx,1,none⟩=some (.bool mw):=cOb XQ.out.hb rfl
        have HROW:Hid (w8q.ownsRow B 4 1 (.slice wka wk2.length wkc) wk2.length (wk2.map Value.bool)):=mH (XQ.out.x.sp.wk (⟨⟨pid,psv,wk2,rn2⟩,(wka,wkc),(rna,rnc)⟩:Spv) (List.mem_of_getElem? HP.out))
        have HNE:Hid (∀ k,(Value.slice wka wk2.length wkc).ownBlock=some k->k ≠ fb/\k ≠ g/\k ≠ bx):=mH (fun k e=>by
         have h1:tg8 k=_:=XQ.out.x.sp.tw (⟨⟨pid,psv,wk2,rn2⟩,(wka,wkc),(rna,rnc)⟩:Spv) (List.mem_of_getElem? HP.out) k e
         refine⟨fun f=>?_,fun f=>?_,fun f=>?_⟩
         ·subst f;rw [XQ.out.x.tf.1] at h1;simp at h1
         ·subst f;rw [XQ.out.x.sp.tr _ rfl] at h1;simp at h1
         ·subst f;exact XQ.out.nb.1 (.inr (.inl (by rw [h1];simp))))
        have HFZ:=mH hfz
        clear hgx hn0 q4 q5 hfz
        have hKi:(K:Int) < psq.length:=by have:=(List.getElem?_eq_some_iff.mp HP.out).1;(try rw [List.length_set] at this);omega
        have hKn:K < psq.length:=by omega
        have hT:w8q.drew.cell? ⟨fb,2,none⟩=some (.slice (some ⟨g,0,none⟩) psq.length ca4)/\w8q.drew.cell? ⟨g,K * 6+4,none⟩=some (.slice wka wk2.length wkc)/\w8q.drew.cell? ⟨bx,1,none⟩=some (.bool mw):=⟨d0,d1,d2⟩
        refine wp_region_till (fun w'=>w'.cell? ⟨fb,2,none⟩=some (.slice (some ⟨g,0,none⟩) psq.length ca4)/\w'.cell? ⟨g,K * 6+4,none⟩=some (.slice wka wk2.length wkc)/\w'.cell? ⟨bx,1,none⟩=some (.bool mw)) 19 (by kernel_rfl) ?_
        refine frE 0 128 (.pointer (some ⟨fb,0,none⟩)) rfl rfl (fun _=>hT) ?_
        (try simp only [sZ,sS])
        refine frE 1 129 (.pointer (some ⟨fb,0,none⟩)) rfl rfl (fun _=>hT) ?_
        (try simp only [sZ,sS])
        refine frE 2 130 (.pointer (some ⟨fb,2,none⟩)) rfl rfl (fun _=>hT) ?_
        (try simp only [sZ,sS])
        refine fiE 3 131 (.slice (some ⟨g,0,none⟩) psq.length ca4) rfl rfl hT ?_
        (try simp only [sZ,sS])
        refine frE 4 132 (.int .i64 (K:Int)) rfl rfl (fun _=>hT) ?_
        (try simp only [sZ,sS])
        refine frE 5 133 (.pointer (some ⟨fb,0,none⟩)) rfl rfl (fun _=>hT) ?_
        (try simp only [sZ,sS])
        refine frE 6 134 (.pointer (some ⟨fb,0,none⟩)) rfl rfl (fun _=>hT) ?_
        (try simp only [sZ,sS])
        refine frE 7 135 (.pointer (some ⟨fb,2,none⟩)) rfl rfl (fun _=>hT) ?_
        (try simp only [sZ,sS])
        refine fiE 8 136 (.slice (some ⟨g,0,none⟩) psq.length ca4) rfl rfl hT ?_
        (try simp only [sZ,sS])
        refine frE 9 137 (.int .i64 (K:Int)) rfl rfl (fun _=>hT) ?_
        (try simp only [sZ,sS])
        refine frE 10 138 (.pointer (some ⟨g,K * 6,none⟩)) rfl rfl (fun _=>hT) ?_
        (try simp only [sZ,sS])
        refine frE 11 139 (.pointer (some ⟨g,K * 6+4,none⟩)) rfl rfl (fun _=>hT) ?_
        (try simp only [sZ,sS])
        refine fiE 12 140 (.slice wka wk2.length wkc) rfl rfl hT ?_
        (try simp only [sZ,sS])
        refine frE 13 141 (.pointer (some ⟨bx,1,none⟩)) rfl rfl (fun _=>hT) ?_
        (try simp only [sZ,sS])
        refine fiE 14 142 (.bool mw) rfl rfl hT ?_
        (try simp only [sZ,sS])
        refine wpT_ready (rs:=[15]) (by kernel_rfl) (by simp) (AllT.cons rfl (fun K2 hK2=>?_) AllT.nil)
        go_simp
        have e0:=kl hT.1 (.cells #[.bool mw] 4)
        have e1:=kl hT.2.1 (.cells #[.bool mw] 4)
        have e2:=kl hT.2.2 (.cells #[.bool mw] 4)
        clear hT d0 d1 d2
        refine hK2.out _ _ (fun _=>⟨e0,e1,e2⟩) ?_
        clear hK2 K2
        (try simp only [Act.put])
        refine wpT_ready (rs:=[16]) (by kernel_rfl) (by simp) (AllT.cons rfl (fun K2 hK2=>?_) AllT.nil)
        have HBA:Hid (Below w8q.heap.size w8q (w8q.drew.alloc (.cells #[.bool mw] 4))):=mH ((Below.refl _ w8q).drew.trans (by simpa using ba (Below.refl _ w8q.drew) (.cells #[.bool mw] 4)))
        have HOA:Hid ((w8q.drew.alloc (.cells #[.bool mw] 4)).ownsRow B 4 1 (.slice wka wk2.length wkc) wk2.length (wk2.map Value.bool)):=mH (oNk HROW.out (kept_of_below HBA.out) (fun k e hge=>by have:=(HROW.out.lt k e).2;omega))
        refine step_append_srcV (w:=(w8q.drew.alloc (.cells #[.bool mw] 4))) rfl (.tmp 140) (.tmp 143) 82 82 rfl B 4 je Tryz.underlying82 hje.out.1 (.bool false) 1 hje.out.2.1 rfl hje.out.2.2.1 hje.out.2.2.2 (.slice wka wk2.length wkc) wk2.length (wk2.map Value.bool) (by simp [Act.eval]) HOA.out (.slice (some ⟨w8q.heap.size,0,none⟩) 1 1) 1 [.bool mw] (by simp [Act.eval]) (src_bool w8q.drew mw _ (by simp)) (by have:=HLEN.out;unfold maxLen;omega) (by have:=HLEN.out;omega) (by have:=XQ.out.x.le;have:=HBA.out.size;omega) ?_
        intro v5 w5 ho5 hg5 hat5
        obtain⟨x5,c5,rfl⟩:=own_shape ho5
        have k5:=Kept.grown hg5 (F:=fun k=>(Value.slice wka wk2.length wkc).ownBlock=some k) (fun k e=>e)
        have z0:=k5.cell e0 (fun e=>(HNE.out _ e).1 rfl)
        have z1:=k5.cell e1 (fun e=>(HNE.out _ e).2.1 rfl)
        have z2:=k5.cell e2 (fun e=>(HNE.out _ e).2.2 rfl)
        have hfz:w5.frozen? ⟨g,K * 6+4,none⟩=false:=by
         exact kfz XQ.out.x.sp.row HBA.out k5 (fun e=>(HNE.out _ e).2.1 rfl) _
        have HPW:Hid (∃ tg8,FQ B W own' tg8 (w5.setCell ⟨g,K * 6+4,none⟩ (.slice x5 (wk2.length+1) c5)) fb b mb h' asks (tk+1) (.slice (some ⟨g,0,none⟩) psq.length ca4) (psq.set K (wkS (⟨⟨pid,psv,wk2,rn2⟩,(wka,wkc),(rna,rnc)⟩:Spv) mw x5 c5)) W4 (FBk own' tg fb) bx (.cells #[.int .i64 mi,.bool mw,.bool mr] 96 (0,0))):=mH (by
         obtain⟨⟨tg8,hs8,ht8⟩,hk8⟩:=SpW.putW (i:=K) (p:=(⟨⟨pid,psv,wk2,rn2⟩,(wka,wkc),(rna,rnc)⟩:Spv)) (x:=mw) (a:=x5) (c:=c5) XQ.out.x.sp HP.out (by simp) HBA.out ho5 hg5 hat5
         exact⟨tg8,XQ.out.put hs8 ht8 hk8⟩)
        clear ho5 hg5 hat5 k5 e0 e1 e2
        refine hK2.out _ _ (fun _=>⟨z0,z1,z2⟩) ?_
        clear hK2 K2
        (try simp only [Act.put])
        refine freeD 17 145 (.pointer (some ⟨g,K * 6,none⟩)) rfl rfl (by kernel_rfl) (by kernel_rfl) (by kernel_rfl) (by decide) (fun _ _ _ h=>h) (fun _=>⟨z0,z1,z2⟩) (Or.inl ⟨by kernel_rfl,by intro w _;go_simp⟩) ?_
        (try simp only [sZ,sS])
        refine freeD 18 146 (.pointer (some ⟨g,K * 6+4,none⟩)) rfl rfl (by kernel_rfl) (by kernel_rfl) (by kernel_rfl) (by decide) (fun _ _ _ h=>h) (fun _=>⟨z0,z1,z2⟩) (Or.inl ⟨by kernel_rfl,by intro w _;go_simp⟩) ?_
        (try simp only [sZ,sS])
        refine wpT_ready (rs:=[19]) (by kernel_rfl) (by simp) (AllT.cons rfl (fun K2 hK2=>?_) AllT.nil)
        go_simp
        refine hK2.out _ _ (bool_no (by kernel_rfl)) ?_
        clear hK2 K2 z0 z1 z2 hfz
        refine wpT_done (by kernel_rfl) ?_ _
        obtain⟨tgr,x8⟩:=HPW.out
        have XR:=mH x8
        clear x8 HPW HBA HOA HROW HNE HFZ hKi hKn
        generalize w5.setCell ⟨g,K * 6+4,none⟩ (.slice x5 (wk2.length+1) c5)=wr8 at XR ⊢
        have HP2:Hid ((psq.set K (wkS (⟨⟨pid,psv,wk2,rn2⟩,(wka,wkc),(rna,rnc)⟩:Spv) mw x5 c5))[K]?=some (⟨⟨pid,psv,wk2 ++ [mw],rn2⟩,(x5,c5),(rna,rnc)⟩:Spv)):=mH (by
         rw [List.getElem?_set_self (List.getElem?_eq_some_iff.mp HP.out).1];rfl)
        go_wp2
        obtain⟨gx,hgx,hn0,q4,q5,hfz⟩:=XR.out.x.sp.at6 HP2.out
        obtain rfl:g=gx:=by simpa using hgx
        have d0:=XR.out.x.cells.2.2.1
        have d1:wr8.cell? ⟨g,K * 6+5,none⟩=some (.slice rna rn2.length rnc):=q5
        have d2:wr8.cell? ⟨bx,2,none⟩=some (.bool mr):=cOb XR.out.hb rfl
        have HROW:Hid (wr8.ownsRow B 4 1 (.slice rna rn2.length rnc) rn2.length (rn2.map Value.bool)):=mH (XR.out.x.sp.rn (⟨⟨pid,psv,wk2 ++ [mw],rn2⟩,(x5,c5),(rna,rnc)⟩:Spv) (List.mem_of_getElem? HP2.out))
        have HNE:Hid (∀ k,(Value.slice rna rn2.length rnc).ownBlock=some k->k ≠ fb/\k ≠ g/\k ≠ bx):=mH (fun k e=>by
         have h1:tgr k=_:=XR.out.x.sp.tn (⟨⟨pid,psv,wk2 ++ [mw],rn2⟩,(x5,c5),(rna,rnc)⟩:Spv) (List.mem_of_getElem? HP2.out) k e
         refine⟨fun f=>?_,fun f=>?_,fun f=>?_⟩
         ·subst f;rw [XR.out.x.tf.1] at h1;simp at h1
         ·subst f;rw [XR.out.x.sp.tr _ rfl] at h1;simp at h1
         ·subst f;exact XR.out.nb.1 (.inr (.inl (by rw [h1];simp))))
        have HFZ:=mH hfz
        clear hgx hn0 q4 q5 hfz
        have hKi:(K:Int) < psq.length:=by have:=(List.getElem?_eq_some_iff.mp HP2.out).1;(try rw [List.length_set] at this);omega
        have hKn:K < psq.length:=by omega
        have hT:wr8.drew.cell? ⟨fb,2,none⟩=some (.slice (some ⟨g,0,none⟩) psq.length ca4)/\wr8.drew.cell? ⟨g,K * 6+5,none⟩=some (.slice rna rn2.length rnc)/\wr8.drew.cell? ⟨bx,2,none⟩=some (.bool mr):=⟨d0,d1,d2⟩
        refine wp_region_till (fun w'=>w'.cell? ⟨fb,2,none⟩=some (.slice (some ⟨g,0,none⟩) psq.length ca4)/\w'.cell? ⟨g,K * 6+5,none⟩=some (.slice rna rn2.length rnc)/\w'.cell? ⟨bx,2,none⟩=some (.bool mr)) 19 (by kernel_rfl) ?_
        refine frE 0 147 (.pointer (some ⟨fb,0,none⟩)) rfl rfl (fun _=>hT) ?_
        (try simp only [sZ,sS])
        refine frE 1 148 (.pointer (some ⟨fb,0,none⟩)) rfl rfl (fun _=>hT) ?_
        (try simp only [sZ,sS])
        refine frE 2 149 (.pointer (some ⟨fb,2,none⟩)) rfl rfl (fun _=>hT) ?_
        (try simp only [sZ,sS])
        refine fiE 3 150 (.slice (some ⟨g,0,none⟩) psq.length ca4) rfl rfl hT ?_
        (try simp only [sZ,sS])
        refine frE 4 151 (.int .i64 (K:Int)) rfl rfl (fun _=>hT) ?_
        (try simp only [sZ,sS])
        refine frE 5 152 (.pointer (some ⟨fb,0,none⟩)) rfl rfl (fun _=>hT) ?_
        (try simp only [sZ,sS])
        refine frE 6 153 (.pointer (some ⟨fb,0,none⟩)) rfl rfl (fun _=>hT) ?_
        (try simp only [sZ,sS])
        refine frE 7 154 (.pointer (some ⟨fb,2,none⟩)) rfl rfl (fun _=>hT) ?_
        (try simp only [sZ,sS])
        refine fiE 8 155 (.slice (some ⟨g,0,none⟩) psq.length ca4) rfl rfl hT ?_
        (try simp only [sZ,sS])
        refine frE 9 156 (.int .i64 (K:Int)) rfl rfl (fun _=>hT) ?_
        (try simp only [sZ,sS])
        refine frE 10 157 (.pointer (some ⟨g,K * 6,none⟩)) rfl rfl (fun _=>hT) ?_
        (try simp only [sZ,sS])
        refine frE 11 158 (.pointer (some ⟨g,K * 6+5,none⟩)) rfl rfl (fun _=>hT) ?_
        (try simp only [sZ,sS])
        refine fiE 12 159 (.slice rna rn2.length rnc) rfl rfl hT ?_
        (try simp only [sZ,sS])
        refine frE 13 160 (.pointer (some ⟨bx,2,none⟩)) rfl rfl (fun _=>hT) ?_
        (try simp only [sZ,sS])
        refine fiE 14 161 (.bool mr) rfl rfl hT ?_
        (try simp only [sZ,sS])
        refine wpT_ready (rs:=[15]) (by kernel_rfl) (by simp) (AllT.cons rfl (fun K2 hK2=>?_) AllT.nil)
        go_simp
        have e0:=kl hT.1 (.cells #[.bool mr] 4)
        have e1:=kl hT.2.1 (.cells #[.bool mr] 4)
        have e2:=kl hT.2.2 (.cells #[.bool mr] 4)
        clear hT d0 d1 d2
        refine hK2.out _ _ (fun _=>⟨e0,e1,e2⟩) ?_
        clear hK2 K2
        (try simp only [Act.put])
        refine wpT_ready (rs:=[16]) (by kernel_rfl) (by simp) (AllT.cons rfl (fun K2 hK2=>?_) AllT.nil)
        have HBA:Hid (Below wr8.heap.size wr8 (wr8.drew.alloc (.cells #[.bool mr] 4))):=mH ((Below.refl _ wr8).drew.trans (by simpa using ba (Below.refl _ wr8.drew) (.cells #[.bool mr] 4)))
        have HOA:Hid ((wr8.drew.alloc (.cells #[.bool mr] 4)).ownsRow B 4 1 (.slice rna rn2.length rnc) rn2.length (rn2.map Value.bool)):=mH (oNk HROW.out (kept_of_below HBA.out) (fun k e hge=>by have:=(HROW.out.lt k e).2;omega))
        refine step_append_srcV (w:=(wr8.drew.alloc (.cells #[.bool mr] 4))) rfl (.tmp 159) (.tmp 162) 82 82 rfl B 4 je Tryz.underlying82 hje.out.1 (.bool false) 1 hje.out.2.1 rfl hje.out.2.2.1 hje.out.2.2.2 (.slice rna rn2.length rnc) rn2.length (rn2.map Value.bool) (by simp [Act.eval]) HOA.out (.slice (some ⟨wr8.heap.size,0,none⟩) 1 1) 1 [.bool mr] (by simp [Act.eval]) (src_bool wr8.drew mr _ (by simp)) (by have:=HLEN.out;unfold maxLen;omega) (by have:=HLEN.out;omega) (by have:=XR.out.x.le;have:=HBA.out.size;omega) ?_
        intro v5 w5 ho5 hg5 hat5
        obtain⟨x6,c6,rfl⟩:=own_shape ho5
        have k5:=Kept.grown hg5 (F:=fun k=>(Value.slice rna rn2.length rnc).ownBlock=some k) (fun k e=>e)
        have z0:=k5.cell e0 (fun e=>(HNE.out _ e).1 rfl)
        have z1:=k5.cell e1 (fun e=>(HNE.out _ e).2.1 rfl)
        have z2:=k5.cell e2 (fun e=>(HNE.out _ e).2.2 rfl)
        have hfz:w5.frozen? ⟨g,K * 6+5,none⟩=false:=by
         exact kfz XR.out.x.sp.row HBA.out k5 (fun e=>(HNE.out _ e).2.1 rfl) _
        have HPW:Hid (∃ tg8,FQ B W own' tg8 (w5.setCell ⟨g,K * 6+5,none⟩ (.slice x6 (rn2.length+1) c6)) fb b mb h' asks (tk+1) (.slice (some ⟨g,0,none⟩) psq.length ca4) ((psq.set K (wkS (⟨⟨pid,psv,wk2,rn2⟩,(wka,wkc),(rna,rnc)⟩:Spv) mw x5 c5)).set K (rnS (⟨⟨pid,psv,wk2 ++ [mw],rn2⟩,(x5,c5),(rna,rnc)⟩:Spv) mr x6 c6)) W4 (FBk own' tg fb) bx (.cells #[.int .i64 mi,.bool mw,.bool mr] 96 (0,0))):=mH (by
         obtain⟨⟨tg8,hs8,ht8⟩,hk8⟩:=SpW.putR (i:=K) (p:=(⟨⟨pid,psv,wk2 ++ [mw],rn2⟩,(x5,c5),(rna,rnc)⟩:Spv)) (x:=mr) (a:=x6) (c:=c6) XR.out.x.sp HP2.out (by simp) HBA.out ho5 hg5 hat5
         exact⟨tg8,XR.out.put hs8 ht8 hk8⟩)
        clear ho5 hg5 hat5 k5 e0 e1 e2
        refine hK2.out _ _ (fun _=>⟨z0,z1,z2⟩) ?_
        clear hK2 K2
        (try simp only [Act.put])
        refine freeD 17 164 (.pointer (some ⟨g,K * 6,none⟩)) rfl rfl (by kernel_rfl) (by kernel_rfl) (by kernel_rfl) (by decide) (fun _ _ _ h=>h) (fun _=>⟨z0,z1,z2⟩) (Or.inl ⟨by kernel_rfl,by intro w _;go_simp⟩) ?_
        (try simp only [sZ,sS])
        refine freeD 18 165 (.pointer (some ⟨g,K * 6+5,none⟩)) rfl rfl (by kernel_rfl) (by kernel_rfl) (by kernel_rfl) (by decide) (fun _ _ _ h=>h) (fun _=>⟨z0,z1,z2⟩) (Or.inl ⟨by kernel_rfl,by intro w _;go_simp⟩) ?_
        (try simp only [sZ,sS])
        refine wpT_ready (rs:=[19]) (by kernel_rfl) (by simp) (AllT.cons rfl (fun K2 hK2=>?_) AllT.nil)
        go_simp
        refine hK2.out _ _ (bool_no (by kernel_rfl)) ?_
        clear hK2 K2 z0 z1 z2 hfz
        refine wpT_done (by kernel_rfl) ?_ _
        obtain⟨tgs,x8⟩:=HPW.out
        have XS:=mH x8
        clear x8 HPW HBA HOA HROW HNE HFZ hKi hKn
        generalize w5.setCell ⟨g,K * 6+5,none⟩ (.slice x6 (rn2.length+1) c6)=ws at XS ⊢
        go_wp2
        go_roundw
        case rel=>
         have hset:(psq.set K (wkS (⟨⟨pid,psv,wk2,rn2⟩,(wka,wkc),(rna,rnc)⟩:Spv) mw x5 c5)).set K (rnS (⟨⟨pid,psv,wk2 ++ [mw],rn2⟩,(x5,c5),(rna,rnc)⟩:Spv) mr x6 c6)=psq.set K (⟨⟨pid,psv,wk2 ++ [mw],rn2 ++ [mr]⟩,(x5,c5),(x6,c6)⟩:Spv):=by rw [List.set_set];rfl
         have xs:=XS.out
         rw [hset] at xs
         refine⟨j+1,tgs,some ⟨g,0,none⟩,ca4,psq.set K (⟨⟨pid,psv,wk2 ++ [mw],rn2 ++ [mr]⟩,(x5,c5),(x6,c6)⟩:Spv),by go_num,by omega,mH (by rw [List.length_set];exact xs.x),mH xs.k,mH xs.old,mH ?_,mH ⟨?_,fun q hq=>?_⟩⟩
         ·rw [noteS_step _ HMJ.out,<- HMQ.out]
          exact tel_set XQ.out.x.sp.un HP.out HID.out rfl
         ·rw [List.length_set];have:=HBQ.out.1;omega
         ·rcases mem_set_cases hq with rfl | ⟨j2,_,hq2⟩
          ·have:=HBQ.out.2 _ (List.mem_of_getElem? HP.out)
           simp only [List.length_append,List.length_cons,List.length_nil] at this ⊢
           omega
          ·have:=HBQ.out.2 _ (List.mem_of_getElem? hq2)
           omega
        case measure=>simp [intOf];omega
       ·have hK0:¬ ((K:Int) < 0):=by omega
        have HP:Hid (ps7[K]?=some p):=mH hKp.out.1
        have HID:Hid (p.1.id=mi):=mH hKp.out.2
        obtain⟨g,hg,hn0,_,_,_⟩:=X9.out.x.sp.at6 HP.out
        subst hg
        have HMQ:Hid (ps7.map (·.1)=admS h'.t.ns mi (noteS h'.t.ns (ms.take j) (ls.map (·.1)))):=mH (by
         rw [<- N7.out]
         unfold admS
         rw [if_pos]
         rw [List.any_map,List.any_eq_true]
         exact⟨p,List.mem_of_getElem? HP.out,by simp [HID.out]⟩)
        have HBQ:Hid (ps7.length<=1000 * tk+j+1/\∀ q ∈ ps7,q.1.wk.length<=1000 * tk+j/\q.1.rn.length<=1000 * tk+j):=mH ⟨by have:=D7.out.1;omega,D7.out.2⟩
        clear hn0 hKp hl7i hl7 N7 D7 X8
        obtain⟨y0,y1,y2,y3,f2,f3⟩:=X9.out.x.cells
        go_wp2
        clear y0 y1 y2 y3 f2 f3
        obtain⟨⟨pid,psv,wk2,rn2⟩,⟨wka,wkc⟩,⟨rna,rnc⟩⟩:=p
        have HLEN:Hid (wk2.length<=1000000/\rn2.length<=1000000):=mH (by have h1:=HBQ.out.2 _ (List.mem_of_getElem? HP.out);have h2:=htk;have h3:=hml;simp only at h1;omega)
        obtain⟨gx,hgx,hn0,q4,q5,hfz⟩:=X9.out.x.sp.at6 HP.out
        obtain rfl:g=gx:=by simpa using hgx
        have d0:=X9.out.x.cells.2.2.1
        have d1:w9.cell? ⟨g,K * 6+4,none⟩=some (.slice wka wk2.length wkc):=q4
        have d2:w9.cell? ⟨bx,1,none⟩=some (.bool mw):=cOb X9.out.hb rfl
        have HROW:Hid (w9.ownsRow B 4 1 (.slice wka wk2.length wkc) wk2.length (wk2.map Value.bool)):=mH (X9.out.x.sp.wk (⟨⟨pid,psv,wk2,rn2⟩,(wka,wkc),(rna,rnc)⟩:Spv) (List.mem_of_getElem? HP.out))
        have HNE:Hid (∀ k,(Value.slice wka wk2.length wkc).ownBlock=some k->k ≠ fb/\k ≠ g/\k ≠ bx):=mH (fun k e=>by
         have h1:tg7 k=_:=X9.out.x.sp.tw (⟨⟨pid,psv,wk2,rn2⟩,(wka,wkc),(rna,rnc)⟩:Spv) (List.mem_of_getElem? HP.out) k e
         refine⟨fun f=>?_,fun f=>?_,fun f=>?_⟩
         ·subst f;rw [X9.out.x.tf.1] at h1;simp at h1
         ·subst f;rw [X9.out.x.sp.tr _ rfl] at h1;simp at h1
         ·subst f;exact X9.out.nb.1 (.inr (.inl (by rw [h1];simp))))
        have HFZ:=mH hfz
        clear hgx hn0 q4 q5 hfz
        have hKi:(K:Int) < ps7.length:=by have:=(List.getElem?_eq_some_iff.mp HP.out).1;(try rw [List.length_set] at this);omega
        have hKn:K < ps7.length:=by omega
        have hT:w9.drew.cell? ⟨fb,2,none⟩=some (.slice (some ⟨g,0,none⟩) ps7.length vc7)/\w9.drew.cell? ⟨g,K * 6+4,none⟩=some (.slice wka wk2.length wkc)/\w9.drew.cell? ⟨bx,1,none⟩=some (.bool mw):=⟨d0,d1,d2⟩
        refine wp_region_till (fun w'=>w'.cell? ⟨fb,2,none⟩=some (.slice (some ⟨g,0,none⟩) ps7.length vc7)/\w'.cell? ⟨g,K * 6+4,none⟩=some (.slice wka wk2.length wkc)/\w'.cell? ⟨bx,1,none⟩=some (.bool mw)) 19 (by kernel_rfl) ?_
        refine frE 0 128 (.pointer (some ⟨fb,0,none⟩)) rfl rfl (fun _=>hT) ?_
        (try simp only [sZ,sS])
        refine frE 1 129 (.pointer (some ⟨fb,0,none⟩)) rfl rfl (fun _=>hT) ?_
        (try simp only [sZ,sS])
        refine frE 2 130 (.pointer (some ⟨fb,2,none⟩)) rfl rfl (fun _=>hT) ?_
        (try simp only [sZ,sS])
        refine fiE 3 131 (.slice (some ⟨g,0,none⟩) ps7.length vc7) rfl rfl hT ?_
        (try simp only [sZ,sS])
        refine frE 4 132 (.int .i64 (K:Int)) rfl rfl (fun _=>hT) ?_
        (try simp only [sZ,sS])
        refine frE 5 133 (.pointer (some ⟨fb,0,none⟩)) rfl rfl (fun _=>hT) ?_
        (try simp only [sZ,sS])
        refine frE 6 134 (.pointer (some ⟨fb,0,none⟩)) rfl rfl (fun _=>hT) ?_
        (try simp only [sZ,sS])
        refine frE 7 135 (.pointer (some ⟨fb,2,none⟩)) rfl rfl (fun _=>hT) ?_
        (try simp only [sZ,sS])
        refine fiE 8 136 (.slice (some ⟨g,0,none⟩) ps7.length vc7) rfl rfl hT ?_
        (try simp only [sZ,sS])
        refine frE 9 137 (.int .i64 (K:Int)) rfl rfl (fun _=>hT) ?_
        (try simp only [sZ,sS])
        refine frE 10 138 (.pointer (some ⟨g,K * 6,none⟩)) rfl rfl (fun _=>hT) ?_
        (try simp only [sZ,sS])
        refine frE 11 139 (.pointer (some ⟨g,K * 6+4,none⟩)) rfl rfl (fun _=>hT) ?_
        (try simp only [sZ,sS])
        refine fiE 12 140 (.slice wka wk2.length wkc) rfl rfl hT ?_
        (try simp only [sZ,sS])
        refine frE 13 141 (.pointer (some ⟨bx,1,none⟩)) rfl rfl (fun _=>hT) ?_
        (try simp only [sZ,sS])
        refine fiE 14 142 (.bool mw) rfl rfl hT ?_
        (try simp only [sZ,sS])
        refine wpT_ready (rs:=[15]) (by kernel_rfl) (by simp) (AllT.cons rfl (fun K2 hK2=>?_) AllT.nil)
        go_simp
        have e0:=kl hT.1 (.cells #[.bool mw] 4)
        have e1:=kl hT.2.1 (.cells #[.bool mw] 4)
        have e2:=kl hT.2.2 (.cells #[.bool mw] 4)
        clear hT d0 d1 d2
        refine hK2.out _ _ (fun _=>⟨e0,e1,e2⟩) ?_
        clear hK2 K2
        (try simp only [Act.put])
        refine wpT_ready (rs:=[16]) (by kernel_rfl) (by simp) (AllT.cons rfl (fun K2 hK2=>?_) AllT.nil)
        have HBA:Hid (Below w9.heap.size w9 (w9.drew.alloc (.cells #[.bool mw] 4))):=mH ((Below.refl _ w9).drew.trans (by simpa using ba (Below.refl _ w9.drew) (.cells #[.bool mw] 4)))
        have HOA:Hid ((w9.drew.alloc (.cells #[.bool mw] 4)).ownsRow B 4 1 (.slice wka wk2.length wkc) wk2.length (wk2.map Value.bool)):=mH (oNk HROW.out (kept_of_below HBA.out) (fun k e hge=>by have:=(HROW.out.lt k e).2;omega))
        refine step_append_srcV (w:=(w9.drew.alloc (.cells #[.bool mw] 4))) rfl (.tmp 140) (.tmp 143) 82 82 rfl B 4 je Tryz.underlying82 hje.out.1 (.bool false) 1 hje.out.2.1 rfl hje.out.2.2.1 hje.out.2.2.2 (.slice wka wk2.length wkc) wk2.length (wk2.map Value.bool) (by simp [Act.eval]) HOA.out (.slice (some ⟨w9.heap.size,0,none⟩) 1 1) 1 [.bool mw] (by simp [Act.eval]) (src_bool w9.drew mw _ (by simp)) (by have:=HLEN.out;unfold maxLen;omega) (by have:=HLEN.out;omega) (by have:=X9.out.x.le;have:=HBA.out.size;omega) ?_
        intro v5 w5 ho5 hg5 hat5
        obtain⟨x5,c5,rfl⟩:=own_shape ho5
        have k5:=Kept.grown hg5 (F:=fun k=>(Value.slice wka wk2.length wkc).ownBlock=some k) (fun k e=>e)
        have z0:=k5.cell e0 (fun e=>(HNE.out _ e).1 rfl)
        have z1:=k5.cell e1 (fun e=>(HNE.out _ e).2.1 rfl)
        have z2:=k5.cell e2 (fun e=>(HNE.out _ e).2.2 rfl)
        have hfz:w5.frozen? ⟨g,K * 6+4,none⟩=false:=by
         exact kfz X9.out.x.sp.row HBA.out k5 (fun e=>(HNE.out _ e).2.1 rfl) _
        have HPW:Hid (∃ tg8,FQ B W own' tg8 (w5.setCell ⟨g,K * 6+4,none⟩ (.slice x5 (wk2.length+1) c5)) fb b mb h' asks (tk+1) (.slice (some ⟨g,0,none⟩) ps7.length vc7) (ps7.set K (wkS (⟨⟨pid,psv,wk2,rn2⟩,(wka,wkc),(rna,rnc)⟩:Spv) mw x5 c5)) W4 (FBk own' tg fb) bx (.cells #[.int .i64 mi,.bool mw,.bool mr] 96 (0,0))):=mH (by
         obtain⟨⟨tg8,hs8,ht8⟩,hk8⟩:=SpW.putW (i:=K) (p:=(⟨⟨pid,psv,wk2,rn2⟩,(wka,wkc),(rna,rnc)⟩:Spv)) (x:=mw) (a:=x5) (c:=c5) X9.out.x.sp HP.out (by simp) HBA.out ho5 hg5 hat5
         exact⟨tg8,X9.out.put hs8 ht8 hk8⟩)
        clear ho5 hg5 hat5 k5 e0 e1 e2
        refine hK2.out _ _ (fun _=>⟨z0,z1,z2⟩) ?_
        clear hK2 K2
        (try simp only [Act.put])
        refine freeD 17 145 (.pointer (some ⟨g,K * 6,none⟩)) rfl rfl (by kernel_rfl) (by kernel_rfl) (by kernel_rfl) (by decide) (fun _ _ _ h=>h) (fun _=>⟨z0,z1,z2⟩) (Or.inl ⟨by kernel_rfl,by intro w _;go_simp⟩) ?_
        (try simp only [sZ,sS])
        refine freeD 18 146 (.pointer (some ⟨g,K * 6+4,none⟩)) rfl rfl (by kernel_rfl) (by kernel_rfl) (by kernel_rfl) (by decide) (fun _ _ _ h=>h) (fun _=>⟨z0,z1,z2⟩) (Or.inl ⟨by kernel_rfl,by intro w _;go_simp⟩) ?_
        (try simp only [sZ,sS])
        refine wpT_ready (rs:=[19]) (by kernel_rfl) (by simp) (AllT.cons rfl (fun K2 hK2=>?_) AllT.nil)
        go_simp
        refine hK2.out _ _ (bool_no (by kernel_rfl)) ?_
        clear hK2 K2 z0 z1 z2 hfz
        refine wpT_done (by kernel_rfl) ?_ _
        obtain⟨tgr,x8⟩:=HPW.out
        have XR:=mH x8
        clear x8 HPW HBA HOA HROW HNE HFZ hKi hKn
        generalize w5.setCell ⟨g,K * 6+4,none⟩ (.slice x5 (wk2.length+1) c5)=wr8 at XR ⊢
        have HP2:Hid ((ps7.set K (wkS (⟨⟨pid,psv,wk2,rn2⟩,(wka,wkc),(rna,rnc)⟩:Spv) mw x5 c5))[K]?=some (⟨⟨pid,psv,wk2 ++ [mw],rn2⟩,(x5,c5),(rna,rnc)⟩:Spv)):=mH (by
         rw [List.getElem?_set_self (List.getElem?_eq_some_iff.mp HP.out).1];rfl)
        go_wp2
        obtain⟨gx,hgx,hn0,q4,q5,hfz⟩:=XR.out.x.sp.at6 HP2.out
        obtain rfl:g=gx:=by simpa using hgx
        have d0:=XR.out.x.cells.2.2.1
        have d1:wr8.cell? ⟨g,K * 6+5,none⟩=some (.slice rna rn2.length rnc):=q5
        have d2:wr8.cell? ⟨bx,2,none⟩=some (.bool mr):=cOb XR.out.hb rfl
        have HROW:Hid (wr8.ownsRow B 4 1 (.slice rna rn2.length rnc) rn2.length (rn2.map Value.bool)):=mH (XR.out.x.sp.rn (⟨⟨pid,psv,wk2 ++ [mw],rn2⟩,(x5,c5),(rna,rnc)⟩:Spv) (List.mem_of_getElem? HP2.out))
        have HNE:Hid (∀ k,(Value.slice rna rn2.length rnc).ownBlock=some k->k ≠ fb/\k ≠ g/\k ≠ bx):=mH (fun k e=>by
         have h1:tgr k=_:=XR.out.x.sp.tn (⟨⟨pid,psv,wk2 ++ [mw],rn2⟩,(x5,c5),(rna,rnc)⟩:Spv) (List.mem_of_getElem? HP2.out) k e
         refine⟨fun f=>?_,fun f=>?_,fun f=>?_⟩
         ·subst f;rw [XR.out.x.tf.1] at h1;simp at h1
         ·subst f;rw [XR.out.x.sp.tr _ rfl] at h1;simp at h1
         ·subst f;exact XR.out.nb.1 (.inr (.inl (by rw [h1];simp))))
        have HFZ:=mH hfz
        clear hgx hn0 q4 q5 hfz
        have hKi:(K:Int) < ps7.length:=by have:=(List.getElem?_eq_some_iff.mp HP2.out).1;(try rw [List.length_set] at this);omega
        have hKn:K < ps7.length:=by omega
        have hT:wr8.drew.cell? ⟨fb,2,none⟩=some (.slice (some ⟨g,0,none⟩) ps7.length vc7)/\wr8.drew.cell? ⟨g,K * 6+5,none⟩=some (.slice rna rn2.length rnc)/\wr8.drew.cell? ⟨bx,2,none⟩=some (.bool mr):=⟨d0,d1,d2⟩
        refine wp_region_till (fun w'=>w'.cell? ⟨fb,2,none⟩=some (.slice (some ⟨g,0,none⟩) ps7.length vc7)/\w'.cell? ⟨g,K * 6+5,none⟩=some (.slice rna rn2.length rnc)/\w'.cell? ⟨bx,2,none⟩=some (.bool mr)) 19 (by kernel_rfl) ?_
        refine frE 0 147 (.pointer (some ⟨fb,0,none⟩)) rfl rfl (fun _=>hT) ?_
        (try simp only [sZ,sS])
        refine frE 1 148 (.pointer (some ⟨fb,0,none⟩)) rfl rfl (fun _=>hT) ?_
        (try simp only [sZ,sS])
        refine frE 2 149 (.pointer (some ⟨fb,2,none⟩)) rfl rfl (fun _=>hT) ?_
        (try simp only [sZ,sS])
        refine fiE 3 150 (.slice (some ⟨g,0,none⟩) ps7.length vc7) rfl rfl hT ?_
        (try simp only [sZ,sS])
        refine frE 4 151 (.int .i64 (K:Int)) rfl rfl (fun _=>hT) ?_
        (try simp only [sZ,sS])
        refine frE 5 152 (.pointer (some ⟨fb,0,none⟩)) rfl rfl (fun _=>hT) ?_
        (try simp only [sZ,sS])
        refine frE 6 153 (.pointer (some ⟨fb,0,none⟩)) rfl rfl (fun _=>hT) ?_
        (try simp only [sZ,sS])
        refine frE 7 154 (.pointer (some ⟨fb,2,none⟩)) rfl rfl (fun _=>hT) ?_
        (try simp only [sZ,sS])
        refine fiE 8 155 (.slice (some ⟨g,0,none⟩) ps7.length vc7) rfl rfl hT ?_
        (try simp only [sZ,sS])
        refine frE 9 156 (.int .i64 (K:Int)) rfl rfl (fun _=>hT) ?_
        (try simp only [sZ,sS])
        refine frE 10 157 (.pointer (some ⟨g,K * 6,none⟩)) rfl rfl (fun _=>hT) ?_
        (try simp only [sZ,sS])
        refine frE 11 158 (.pointer (some ⟨g,K * 6+5,none⟩)) rfl rfl (fun _=>hT) ?_
        (try simp only [sZ,sS])
        refine fiE 12 159 (.slice rna rn2.length rnc) rfl rfl hT ?_
        (try simp only [sZ,sS])
        refine frE 13 160 (.pointer (some ⟨bx,2,none⟩)) rfl rfl (fun _=>hT) ?_
        (try simp only [sZ,sS])
        refine fiE 14 161 (.bool mr) rfl rfl hT ?_
        (try simp only [sZ,sS])
        refine wpT_ready (rs:=[15]) (by kernel_rfl) (by simp) (AllT.cons rfl (fun K2 hK2=>?_) AllT.nil)
        go_simp
        have e0:=kl hT.1 (.cells #[.bool mr] 4)
        have e1:=kl hT.2.1 (.cells #[.bool mr] 4)
        have e2:=kl hT.2.2 (.cells #[.bool mr] 4)
        clear hT d0 d1 d2
        refine hK2.out _ _ (fun _=>⟨e0,e1,e2⟩) ?_
        clear hK2 K2
        (try simp only [Act.put])
        refine wpT_ready (rs:=[16]) (by kernel_rfl) (by simp) (AllT.cons rfl (fun K2 hK2=>?_) AllT.nil)
        have HBA:Hid (Below wr8.heap.size wr8 (wr8.drew.alloc (.cells #[.bool mr] 4))):=mH ((Below.refl _ wr8).drew.trans (by simpa using ba (Below.refl _ wr8.drew) (.cells #[.bool mr] 4)))
        have HOA:Hid ((wr8.drew.alloc (.cells #[.bool mr] 4)).ownsRow B 4 1 (.slice rna rn2.length rnc) rn2.length (rn2.map Value.bool)):=mH (oNk HROW.out (kept_of_below HBA.out) (fun k e hge=>by have:=(HROW.out.lt k e).2;omega))
        refine step_append_srcV (w:=(wr8.drew.alloc (.cells #[.bool mr] 4))) rfl (.tmp 159) (.tmp 162) 82 82 rfl B 4 je Tryz.underlying82 hje.out.1 (.bool false) 1 hje.out.2.1 rfl hje.out.2.2.1 hje.out.2.2.2 (.slice rna rn2.length rnc) rn2.length (rn2.map Value.bool) (by simp [Act.eval]) HOA.out (.slice (some ⟨wr8.heap.size,0,none⟩) 1 1) 1 [.bool mr] (by simp [Act.eval]) (src_bool wr8.drew mr _ (by simp)) (by have:=HLEN.out;unfold maxLen;omega) (by have:=HLEN.out;omega) (by have:=XR.out.x.le;have:=HBA.out.size;omega) ?_
        intro v5 w5 ho5 hg5 hat5
        obtain⟨x6,c6,rfl⟩:=own_shape ho5
        have k5:=Kept.grown hg5 (F:=fun k=>(Value.slice rna rn2.length rnc).ownBlock=some k) (fun k e=>e)
        have z0:=k5.cell e0 (fun e=>(HNE.out _ e).1 rfl)
        have z1:=k5.cell e1 (fun e=>(HNE.out _ e).2.1 rfl)
        have z2:=k5.cell e2 (fun e=>(HNE.out _ e).2.2 rfl)
        have hfz:w5.frozen? ⟨g,K * 6+5,none⟩=false:=by
         exact kfz XR.out.x.sp.row HBA.out k5 (fun e=>(HNE.out _ e).2.1 rfl) _
        have HPW:Hid (∃ tg8,FQ B W own' tg8 (w5.setCell ⟨g,K * 6+5,none⟩ (.slice x6 (rn2.length+1) c6)) fb b mb h' asks (tk+1) (.slice (some ⟨g,0,none⟩) ps7.length vc7) ((ps7.set K (wkS (⟨⟨pid,psv,wk2,rn2⟩,(wka,wkc),(rna,rnc)⟩:Spv) mw x5 c5)).set K (rnS (⟨⟨pid,psv,wk2 ++ [mw],rn2⟩,(x5,c5),(rna,rnc)⟩:Spv) mr x6 c6)) W4 (FBk own' tg fb) bx (.cells #[.int .i64 mi,.bool mw,.bool mr] 96 (0,0))):=mH (by
         obtain⟨⟨tg8,hs8,ht8⟩,hk8⟩:=SpW.putR (i:=K) (p:=(⟨⟨pid,psv,wk2 ++ [mw],rn2⟩,(x5,c5),(rna,rnc)⟩:Spv)) (x:=mr) (a:=x6) (c:=c6) XR.out.x.sp HP2.out (by simp) HBA.out ho5 hg5 hat5
         exact⟨tg8,XR.out.put hs8 ht8 hk8⟩)
        clear ho5 hg5 hat5 k5 e0 e1 e2
        refine hK2.out _ _ (fun _=>⟨z0,z1,z2⟩) ?_
        clear hK2 K2
        (try simp only [Act.put])
        refine freeD 17 164 (.pointer (some ⟨g,K * 6,none⟩)) rfl rfl (by kernel_rfl) (by kernel_rfl) (by kernel_rfl) (by decide) (fun _ _ _ h=>h) (fun _=>⟨z0,z1,z2⟩) (Or.inl ⟨by kernel_rfl,by intro w _;go_simp⟩) ?_
        (try simp only [sZ,sS])
        refine freeD 18 165 (.pointer (some ⟨g,K * 6+5,none⟩)) rfl rfl (by kernel_rfl) (by kernel_rfl) (by kernel_rfl) (by decide) (fun _ _ _ h=>h) (fun _=>⟨z0,z1,z2⟩) (Or.inl ⟨by kernel_rfl,by intro w _;go_simp⟩) ?_
        (try simp only [sZ,sS])
        refine wpT_ready (rs:=[19]) (by kernel_rfl) (by simp) (AllT.cons rfl (fun K2 hK2=>?_) AllT.nil)
        go_simp
        refine hK2.out _ _ (bool_no (by kernel_rfl)) ?_
        clear hK2 K2 z0 z1 z2 hfz
        refine wpT_done (by kernel_rfl) ?_ _
        obtain⟨tgs,x8⟩:=HPW.out
        have XS:=mH x8
        clear x8 HPW HBA HOA HROW HNE HFZ hKi hKn
        generalize w5.setCell ⟨g,K * 6+5,none⟩ (.slice x6 (rn2.length+1) c6)=ws at XS ⊢
        go_wp2
        go_roundw
        case rel=>
         have hset:(ps7.set K (wkS (⟨⟨pid,psv,wk2,rn2⟩,(wka,wkc),(rna,rnc)⟩:Spv) mw x5 c5)).set K (rnS (⟨⟨pid,psv,wk2 ++ [mw],rn2⟩,(x5,c5),(rna,rnc)⟩:Spv) mr x6 c6)=ps7.set K (⟨⟨pid,psv,wk2 ++ [mw],rn2 ++ [mr]⟩,(x5,c5),(x6,c6)⟩:Spv):=by rw [List.set_set];rfl
         have xs:=XS.out
         rw [hset] at xs
         refine⟨j+1,tgs,some ⟨g,0,none⟩,vc7,ps7.set K (⟨⟨pid,psv,wk2 ++ [mw],rn2 ++ [mr]⟩,(x5,c5),(x6,c6)⟩:Spv),by go_num,by omega,mH (by rw [List.length_set];exact xs.x),mH xs.k,mH xs.old,mH ?_,mH ⟨?_,fun q hq=>?_⟩⟩
         ·rw [noteS_step _ HMJ.out,<- HMQ.out]
          exact tel_set X9.out.x.sp.un HP.out HID.out rfl
         ·rw [List.length_set];have:=HBQ.out.1;omega
         ·rcases mem_set_cases hq with rfl | ⟨j2,_,hq2⟩
          ·have:=HBQ.out.2 _ (List.mem_of_getElem? HP.out)
           simp only [List.length_append,List.length_cons,List.length_nil] at this ⊢
           omega
          ·have:=HBQ.out.2 _ (List.mem_of_getElem? hq2)
           omega
        case measure=>simp [intOf];omega
    ·obtain rfl:j=ms.length:=by omega
     have hq:=(K7.out.block _ (lOh HBX.out.1) HNF.out.1).trans HBX.out.1
     obtain⟨r0,r1,r2,r3,r4,r5,r6,r7,r8,r9⟩:=rp_cells' ((K7.out.block _ (lOh HBX.out.2.1) HNF.out.2.1).trans HBX.out.2.1)
     obtain⟨z0,z1,z2,z3,z4,z5,z6,z7,z8,z9⟩:=rp_cells' hq
     have zf:∀ i,wr.frozen? ⟨w.heap.size,i,none⟩=false:=fun i=>fOb hq
     have zf0:=zf 0
     have zf1:=zf 1
     have zf2:=zf 2
     have zf3:=zf 3
     have zf4:=zf 4
     have zf5:=zf 5
     have zf6:=zf 6
     have zf7:=zf 7
     have zf8:=zf 8
     have zf9:=zf 9
     have HRQ:=mH hq
     clear hq zf hlt hj
     go_wp2
     clear z0 z1 z2 z3 z4 z5 z6 z7 z8 z9 zf0 zf1 zf2 zf3 zf4 zf5 zf6 zf7 zf8 zf9 r0 r1 r2 r3 r4 r5 r6 r7 r8 r9
     have hq11:=set10_heap HRQ.out (.int .i64 h.now) (.slice ra rs.length rc) (.slice ma ms.length mc) (.int .i64 n3) (.int .i64 n4) (.int .i64 n5) (.int .i64 n6) (.int .i64 n7) (.int .i64 n8) (.bool e9)
     have k11:=set10_kept wr w.heap.size (.int .i64 h.now) (.slice ra rs.length rc) (.slice ma ms.length mc) (.int .i64 n3) (.int .i64 n4) (.int .i64 n5) (.int .i64 n6) (.int .i64 n7) (.int .i64 n8) (.bool e9)
     obtain⟨W11,hW11⟩:∃ W11,W11=set10 wr w.heap.size (.int .i64 h.now) (.slice ra rs.length rc) (.slice ma ms.length mc) (.int .i64 n3) (.int .i64 n4) (.int .i64 n5) (.int .i64 n6) (.int .i64 n7) (.int .i64 n8) (.bool e9):=⟨_,rfl⟩
     rw [<- hW11] at hq11 k11
     unfold set10 at hW11
     rw [<- hW11]
     clear hW11
     refine bodyPost_ret (leaves1 (cs:=#[.int .i64 h.now,.slice ra rs.length rc,.slice ma ms.length mc,.int .i64 n3,.int .i64 n4,.int .i64 n5,.int .i64 n6,.int .i64 n7,.int .i64 n8,.bool e9]) rfl hq11 Tryz.underlying57 size_report _ rfl) rfl ?_
     have hsz:w.heap.size < W4.heap.size:=lOh HBX.out.1
     have how:∀ k,k < w.heap.size->FBk own' tg fb k->FBk own tg fb k:=fun k hk e=>by
      rcases e with e | e
      ·exact .inl (by rw [<- HOW.out.2.2.1 k (by simp;omega)];exact e)
      ·exact .inr e
     refine⟨h',rs,ms,out,ra,rc,ma,mc,own',tg7,_,ps7,HTR.out.1,by rw [HTR.out.2], ?_, ?_,X7.out.kept k11 (fun k e f=>?_) (fun k e=>by rw [e];exact HBW.out), ?_,D7.out.mono (by omega), ?_,fun k hk e=>how k hk (O7.out k (by omega) e)⟩
     ·exact(HRW.out.1.kept K7.out (fun k e=>HNF.out.2.2.2.1 k e)).kept k11 (fun k e f=>by have:=(HBLK.out.1 k e).1;omega)
     ·exact(HRW.out.2.1.kept K7.out (fun k e=>HNF.out.2.2.2.2.1 k e)).kept k11 (fun k e f=>by have:=(HBLK.out.2.1 k e).1;omega)
     ·subst e
      exact HNF.out.1 (O7.out _ hsz f)
     ·have hn:=N7.out
      rw [List.take_length,HLS2.out,HND.out] at hn
      rw [hn]
      unfold tickS
      rw [List.filter_map]
      rfl
     ·refine(HK4.out.trans K7.out (fun k e=>?_)).trans k11 (fun k e=>.inr (by omega))
      by_cases c:k < w.heap.size
      ·exact .inl (how k c e)
      ·exact .inr (by omega)
end Go.Proofs.YtpdehdomilnmeaaGreatDoor
