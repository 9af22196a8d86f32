import Derived.Test.YtihdkgekickohaaGreatDoorVgX
namespace Go.Proofs.YtihdkgekickohaaGreatDoor
open Go.ChangeShapes Go.WideShapes Go.ChangeAt Go.RowKit
set_option maxRecDepth 100000
attribute [local go_sem] World.cell?_alloc_some frozen_alloc_some
theorem runs_at:∀ {s:Vs} {rs:List Vr} {j:Nat} {r:Vr},runs s rs → rs[j]? = some r → r.ok ∧ r.fits (behinds s (rs.take j)) ∧ behinds s (rs.take (j + 1)) = (behinds s (rs.take j)).does r
 |s,[],j,r,_,h=>by simp at h
 |s,x :: rs,0,r,⟨h0,h1,_⟩,h=>by
  simp at h;subst h
  exact ⟨h0,h1,rfl⟩
 |s,x :: rs,j + 1,r,⟨h0,h1,h2⟩,h=>by
  have:=runs_at (s:=s.does x) (rs:=rs) (j:=j) h2 (by simpa using h)
  exact this
theorem runs_take:∀ {s:Vs} {rs:List Vr} (j:Nat),runs s rs → runs s (rs.take j)
 |s,[],j,_=>by simp [runs]
 |s,x :: rs,0,_=>by simp [runs]
 |s,x :: rs,j + 1,⟨h0,h1,h2⟩=>⟨h0,h1,runs_take (s:=s.does x) j h2⟩
def BehAll (w1:World) (st:Vs) (r:Vr) (k0 k1 k2 k3:Int) (rl:Value):Prop:=∀ W,Below w1.heap.size w1 W → ∀ a c ps,Ens W (.slice a ps.length c) ps → fs1 ps = st.l → ps.length ≤ c → Calls Tryz.prog 73 #[vS st (.slice a ps.length c),vR k0 k1 k2 k3 rl] W (BehP W st r a c ps)
def RecP (w:World) (st:Vs) (r:Vr) (e:Ending) (w':World):Prop:=∃ k0 k1 k2 k3 ra rn rc,e = .returned (.tuple #[vR k0 k1 k2 k3 (.slice ra rn rc),.nilIface]) ∧ BehAll w' st r k0 k1 k2 k3 (.slice ra rn rc) ∧ Below w.heap.size w w'
theorem recordOf_v (w:World) (v:Value) (eb es:Addr) (st:Vs) (r:Vr) (h:Rd w v (bytesR r)) (hr:r.ok) (hf:r.fits st) (hst:st.ok) (he:w.cell? ⟨4,0,none⟩ = some (vErr eb)) (hes:w.cell? ⟨15,0,none⟩ = some (vErr es)) :
  Calls Tryz.prog 82 #[v] w (RecP w st r):=by
 cases r with
 |pr b=>
  obtain ⟨b1,b2⟩:=b
  refine (recordOf_pr w v eb es b1 b2 h hr he hes).mono ?_
  rintro e w' ⟨rfl,hb⟩
  exact ⟨_,_,_,_,_,_,_,rfl,fun W hW a c ps hps hpl hpc=>(behind_pr W st a ps.length c b1 b2 0 (.slice none 0 0)).mono (fun e w' hp=>⟨a,c,ps,hp.1,hpl,.inl ⟨rfl,rfl,rfl⟩,hp.2⟩),hb⟩
 |cl b=>
  refine (recordOf_cl w v eb es b h hr he hes).mono ?_
  rintro e w' ⟨rfl,hb⟩
  exact ⟨_,_,_,_,_,_,_,rfl,fun W hW a c ps hps hpl hpc=>(behind_cl W st a ps.length c b 0 0 (.slice none 0 0)).mono (fun e w' hp=>⟨a,c,ps,hp.1,hpl,.inl ⟨rfl,rfl,rfl⟩,hp.2⟩),hb⟩
 |ac b k l=>
  obtain ⟨b1,b2⟩:=b
  refine (recordOf_ac w v eb es b1 b2 k l h hr he hes).mono ?_
  rintro e w' ⟨ra,rc,qs,rfl,hql,hqd,hb⟩
  refine ⟨_,_,_,_,_,_,_,rfl,fun W hW a c ps hps hpl hpc=>?_,hb⟩
  have hlq:qs.length = l.length:=by rw [← hql];simp [fs1]
  have hpk:ps.length = st.l.length:=by rw [← hpl];simp [fs1]
  have h64:=hst.l.1
  have hqi:∀ t ∈ qs,inF t.1:=fs1_inF.mpr (by rw [hql];exact hr.2.2.2)
  have hq64:qs.length ≤ 64:=by rw [hlq];exact hr.2.2.1
  have hqe:Ens w' (.slice ra qs.length rc) qs:=hqd.ens (by omega) (fun t ht=>by have:=(hqi t ht).2.1.1;omega)
  have hpin:∀ t ∈ ps,inF t.1:=fs1_inF.mpr (by rw [hpl];exact hst.l.2)
  have h2:=hf.1
  have h3:=hf.2
  have hbh:=behind_ac W st (.slice a ps.length c) (.slice ra qs.length rc) ps qs b1 b2 k hps (hqe.below hW) hpl (by omega) (by omega) (fun _ _ _ e=>by simp only [Value.slice.injEq] at e;omega) (by omega) (mem_take_drop hpin hqi)
  rw [hql] at hbh
  exact hbh.mono (fun e w' ⟨a3,c3,ts,he,hts,hld,hbl⟩=>⟨a3,c3,ts,he,hts,.inr hld,hbl⟩)
theorem rd_belowV {w w':World} {v:Value} {bs:List Int} (h:Rd w v bs) (hb:Below w.heap.size w w'):Rd w' v bs:=by
 obtain ⟨h1,a,cap,e,h2,h3,h4⟩:=h
 refine ⟨h1,a,cap,e,h2,h3,fun hp=>?_⟩
 obtain ⟨b,off,e1,hlt,hc⟩:=h4 hp
 exact ⟨b,off,e1,Nat.lt_of_lt_of_le hlt hb.size,fun k hk=>kc (hc k hk) hb⟩
structure RpI (w wr:World) (X:Nat) (st:Vs) (a:Option Addr) (c:Nat) (qs:List Ep):Prop where
 bel:Below w.heap.size w wr
 res:wr.heap[w.heap.size]? = some oZ6
 gt:w.heap.size < X
 box:wr.heap[X]? = some (oS st (.slice a qs.length c))
 fs:fs1 qs = st.l
 led:Led (w.heap.size + 1) wr (.slice a qs.length c) qs
 ne:∀ k,LBk (.slice a qs.length c) qs k → k ≠ X
theorem RpI.start {w w2:World} {st:Vs} {a:Option Addr} {c:Nat} {qs:List Ep} (h:Led (w.alloc oZ6).heap.size w2 (.slice a qs.length c) qs) (hf:fs1 qs = st.l) (hb:Below (w.alloc oZ6).heap.size (w.alloc oZ6) w2):RpI w (w2.alloc (oS st (.slice a qs.length c))) w2.heap.size st a c qs:=by
 have hs:=hb.size
 simp at hs
 exact ⟨ba (bt (ba (Below.refl _ w) oZ6) hb) _,(heap_alloc_old _ _ (by omega)).trans (box_late hb),by omega,heap_alloc_new _ _,hf,(h.below (ba (Below.refl _ w2) _)).up (by simp),fun k hk e=>by have:=(h.lbk k hk).2;omega⟩
theorem RpI.ens {w wr:World} {X:Nat} {st:Vs} {a:Option Addr} {c:Nat} {qs:List Ep} (h:RpI w wr X st a c qs) (hst:st.ok):Ens wr (.slice a qs.length c) qs ∧ qs.length ≤ c:=by
 have hi:∀ t ∈ qs,inF t.1:=fs1_inF.mpr (by rw [h.fs];exact hst.l.2)
 have hl:qs.length = st.l.length:=by rw [← h.fs];simp [fs1]
 have h64:=hst.l.1
 refine ⟨h.led.ens (by omega) (fun t ht=>by have:=(hi t ht).2.1.1;omega),?_⟩
 obtain ⟨_,_,e,hc⟩:=own_sh h.led.own
 simp only [Value.slice.injEq] at e
 omega
theorem RpI.step {w wr W w3 w4:World} {X:Nat} {st st':Vs} {a a':Option Addr} {c c':Nat} {qs ts:List Ep} (h:RpI w wr X st a c qs) (hb:Below wr.heap.size wr W) (hf:fs1 ts = st'.l) (hn:Nxt W w3 a c qs a' c' ts) (h3:Below W.heap.size W w3) (k4:Kept (fun j=>j = X) w3 w4) (h4:w4.heap[X]? = some (oS st' (.slice a' ts.length c'))):RpI w w4 X st' a' c' ts:=by
 have hX:=lt_of_heap h.box
 have s1:=hb.size
 have s2:=h.bel.size
 have b13:=bt hb h3
 have hgt:=h.gt
 refine ⟨(bt h.bel b13).trans (k4.below (fun j e=>by omega) (bt h.bel b13).size),?_,h.gt,h4,hf,?_,?_⟩
 ·have:=lt_of_heap h.res
  exact (k4.block _ (by have:=b13.size;omega) (by omega)).trans ((b13.block _ (by omega)).trans h.res)
 ·rcases hn with ⟨rfl,rfl,rfl⟩ | hl
  ·exact (h.led.below b13).kept' k4 (fun j hj e=>h.ne j hj e)
  ·exact (hl.up (by omega)).kept' k4 (fun j hj e=>by have:=(hl.lbk j hj).1;omega)
 ·intro k hk e
  rcases hn with ⟨rfl,rfl,rfl⟩ | hl
  ·exact h.ne k hk e
  ·have:=(hl.lbk k hk).1;omega
def RepP (w:World) (st:Vs) (e:Ending) (w':World):Prop:=∃ a c qs,e = .returned (.tuple #[vS st (.slice a qs.length c),.nilIface]) ∧ Led (w.heap.size + 1) w' (.slice a qs.length c) qs ∧ fs1 qs = st.l ∧ Below w.heap.size w w'
theorem RpI.fin {w wr w9:World} {X:Nat} {st:Vs} {a:Option Addr} {c:Nat} {qs:List Ep} (h:RpI w wr X st a c qs) (k9:Kept (fun j=>j = w.heap.size) wr w9):Led (w.heap.size + 1) w9 (.slice a qs.length c) qs ∧ fs1 qs = st.l ∧ Below w.heap.size w w9:=
 ⟨h.led.kept' k9 (fun j hj e=>by have:=(h.led.lbk j hj).1;omega),h.fs,h.bel.trans (k9.below (fun j e=>by omega) h.bel.size)⟩
set_option maxHeartbeats 6400000 in
theorem replayed_v (w:World) (v lv:Value) (s0:Vs) (rs:List Vr) (GO:Nat → Prop) (base:Nat) (eb es:Addr) (h:Rd w v (bytesS s0)) (hl:Lst GO base w lv (rs.map bytesR)) (hok:s0.ok) (hr:runs s0 rs) (he:w.cell? ⟨4,0,none⟩ = some (vErr eb)) (hes:w.cell? ⟨15,0,none⟩ = some (vErr es)) :
  Calls Tryz.prog 46 #[v,lv] w (RepP w (behinds s0 rs)):=by
 obtain ⟨vs,hown,hrd,hdis⟩:=hl
 obtain ⟨la,lc,rfl⟩:=own_shape hown
 rw [List.length_map] at hown ⊢
 have hlen:(rs.length:Int) ≤ 9223372036854775807:=by
  rcases hown.2 with ⟨_,e0⟩ | ⟨g,cap,cur,e1,_,_,h1,h2,_⟩
  ·omega
  ·have:maxLen ≤ 9223372036854775807:=by decide
   omega
 have HOWN:=mkHid hown
 have HRD:=mkHid hrd
 have HSO:=mkHid (stateOf_ok (w.alloc oZ6) v s0 eb es (rd_belowV h (ba (Below.refl _ w) oZ6)) hok (kc he (ba (Below.refl _ w) oZ6)) (kc hes (ba (Below.refl _ w) oZ6)))
 have HE:=mkHid (And.intro he hes)
 have HOK:=mkHid hok
 have HR:=mkHid hr
 clear h hown hrd hdis hok hr he hes
 go_enter Tryz.func46,Tryz.ntmps46
 go_wp2_with (go_at_call 81;(with_reducible refine HSO.out.mono ?_);rintro e w2 ⟨a0,c0,q0,rfl,f0,l0,b0⟩;have HI0:Hid (RpI w (w2.alloc (oS s0 (.slice a0 q0.length c0))) w2.heap.size s0 a0 c0 q0):=mkHid (RpI.start l0 f0 b0);clear l0 f0 b0)
 go_loopw [23] (fun iv wr=>∃ (j:Nat) (a:Option Addr) (c:Nat) (qs:List Ep),iv = .int .i64 (j:Int) ∧ j ≤ rs.length ∧ Hid (RpI w wr w2.heap.size (behinds s0 (rs.take j)) a c qs)) (fun iv _=>rs.length - (intOf iv).toNat)
 case atStart=>exact ⟨0,a0,c0,q0,rfl,Nat.zero_le _,HI0⟩
 case round=>
  clear HI0 HSO
  obtain ⟨j,a,c,qs,rfl,hj,HI⟩:=hrel
  have hsto:(behinds s0 (rs.take j)).ok:=HOK.out.behinds (runs_take j HR.out)
  obtain ⟨st,hst⟩:∃ st,st = behinds s0 (rs.take j):=⟨_,rfl⟩
  rw [← hst] at HI hsto
  have HST:=mkHid hst
  have HSO:=mkHid hsto
  clear hst hsto
  by_cases hlt:j < rs.length
  ·obtain ⟨r,hrj⟩:∃ r,rs[j]? = some r:=⟨_,List.getElem?_eq_getElem hlt⟩
   obtain ⟨hro,hrf,hrn⟩:=runs_at HR.out hrj
   rw [← HST.out] at hrf hrn
   obtain ⟨u,huv,hru,_⟩:=HRD.out.at j (by simpa using hlt)
   rw [show (rs.map bytesR).getD j [] = bytesR r by rw [List.getD_eq_getElem?_getD,List.getElem?_map,hrj];rfl] at hru
   obtain ⟨g,rfl⟩:∃ g,la = some ⟨g,0,none⟩:=by
    rcases HOWN.out.2 with ⟨_,e0⟩ | ⟨g,cap,cur,e1,_⟩
    ·omega
    ·simp only [Value.slice.injEq] at e1;exact ⟨g,e1.1⟩
   have hji:(j:Int) < rs.length:=by omega
   have d0:=(own_cell (ownN_below HOWN.out HI.out.bel) huv).1
   have HRU:=mkHid (rd_belowV hru HI.out.bel)
   have HRO:=mkHid (And.intro hro (And.intro hrf hrn))
   clear hro hrf hrn hrj huv hru
   go_wp2_with (first
    |(go_at_call 82;have HN:=recordOf_v wr u eb es st r HRU.out HRO.out.1 HRO.out.2.1 HSO.out (kc HE.out.1 HI.out.bel) (kc HE.out.2 HI.out.bel);(with_reducible refine HN.mono ?_);clear HN;rintro e w3 ⟨k0,k1,k2,k3,ra,rn,rc,rfl,hbh,hb3⟩;have HBH:=mkHid hbh;have HB3:=mkHid hb3;obtain ⟨z0,z1,z2,z3,z4,z5⟩:=st_cells ((hb3.block _ (lt_of_heap HI.out.box)).trans HI.out.box);clear hbh hb3 d0)
    |(go_at_call 73;have HN:=HBH.out (w3.alloc (oRc k0 k1 k2 k3 (.slice ra rn rc))) (ba (Below.refl _ w3) _) a c qs ((HI.out.ens HSO.out).1.below (ba HB3.out _)) HI.out.fs (HI.out.ens HSO.out).2;(with_reducible refine HN.mono ?_);clear HN;rintro e w4 ⟨a',c',ts,rfl,hts,hnx,hb4⟩;have HB4:=mkHid (And.intro hts (And.intro hnx hb4));have HZ4:=mkHid (((bt (ba HB3.out (oRc k0 k1 k2 k3 (.slice ra rn rc))) hb4).block _ (lt_of_heap HI.out.box)).trans HI.out.box);clear hts hnx hb4 z0 z1 z2 z3 z4 z5)
    |(refine wpList_store_box rfl 96 (.tmp 6) (.tmp 40) rfl w2.heap.size #[.int .i64 (st.does r).p.1,.int .i64 (st.does r).p.2,.int .i64 (st.does r).a.1,.int .i64 (st.does r).a.2,.int .i64 (st.does r).c,.slice a' ts.length c'] rfl rfl 96 _ HZ4.out size6 rfl (one6 _ _ _ _ _ _ _ _) ?_;intro w5 h5 k5;have H5:=mkHid (And.intro h5 k5);clear h5 k5))
   go_roundw
   case rel=>exact ⟨j + 1,a',c',ts,by go_num,by omega,mkHid (by rw [HRO.out.2.2];exact HI.out.step (ba HB3.out _) HB4.out.1 HB4.out.2.1 HB4.out.2.2 H5.out.2 H5.out.1)⟩
   case measure=>simp [intOf];omega
  ·obtain rfl:j = rs.length:=by omega
   obtain ⟨z0,z1,z2,z3,z4,z5⟩:=st_cells HI.out.box
   go_wp2_with (refine wpList_store_box rfl 96 (.tmp 4) (.tmp 47) rfl w.heap.size #[.int .i64 st.p.1,.int .i64 st.p.2,.int .i64 st.a.1,.int .i64 st.a.2,.int .i64 st.c,.slice a qs.length c] rfl rfl 96 _ HI.out.res size6 rfl (one6 _ _ _ _ _ _ _ _) ?_;intro w5 h5 k5)
   have hst':behinds s0 rs = st:=by rw [HST.out,List.take_length]
   refine bodyPost_ret (six_leaves rfl h5 _ rfl) rfl ?_
   show RepP w (behinds s0 rs) _ _
   rw [hst']
   exact ⟨a,c,qs,rfl,HI.out.fin k5⟩
theorem VS.begin {BL:Nat → Prop} {w w2 W:World} {p v l n s E G I k U c N:Nat} {num:Int} {ds:List (List Int)} {st:Vs} {a:Option Addr} {qs:List Ep} (hsl:SL BL w w2 p l n s E G I k U true ds) (hb:Below w2.heap.size w2 W) (hv:W.heap[v]? = some (oV num l st (.slice a qs.length c))) (hvge:w2.heap.size ≤ v) (hled:Led N W (.slice a qs.length c) qs) (hN:w2.heap.size ≤ N) (hNv:∀ j,LBk (.slice a qs.length c) qs j → j ≠ v) (hfs:fs1 qs = st.l) (hlg:LG ds st):VS (fun j=>BL j ∨ j = v ∨ LBk (.slice a qs.length c) qs j) w W p v num n s E G I k U ds st:=by
 have h1:=hsl.low.size
 exact ⟨BL,l,a,c,qs,hsl.below hb,⟨hv,hled.up (by omega),hfs,hlg.ok,fun e=>by have:=(hsl.blk v e).2;omega,by omega,fun j hj=>⟨fun e=>by have:=(hsl.blk j e).2;have:=(hled.lbk j hj).1;omega,hNv j hj⟩⟩,hlg,fun j=>Iff.rfl⟩
def OpnP (B:Nat → Prop) (w wr:World) (p:Nat) (num:Int) (n s E G I k U:Nat) (ds:List (List Int)) (st:Vs) (e:Ending) (w':World):Prop:=∃ v B',e = .returned (.tuple #[.pointer (some ⟨v,0,none⟩),.nilIface]) ∧ VS B' w w' p v num n s E G I k U ds st ∧ (∀ j,B' j → B j ∨ wr.heap.size ≤ j) ∧ Kept B wr w'
theorem OpnP.mk {B BL BL':Nat → Prop} {w wr w2 W:World} {p v l n s E G I k U c N:Nat} {num:Int} {ds:List (List Int)} {st:Vs} {a:Option Addr} {qs:List Ep} (hBL:∀ j,BL j → B j) (hK:Kept BL wr w2) (hB':∀ j,BL' j → BL j ∨ wr.heap.size ≤ j) (hsl:SL BL' w w2 p l n s E G I k U true ds) (hb:Below w2.heap.size w2 W) (hv:W.heap[v]? = some (oV num l st (.slice a qs.length c))) (hvge:w2.heap.size ≤ v) (hled:Led N W (.slice a qs.length c) qs) (hN:w2.heap.size ≤ N) (hNv:∀ j,LBk (.slice a qs.length c) qs j → j ≠ v) (hfs:fs1 qs = st.l) (hlg:LG ds st):OpnP B w wr p num n s E G I k U ds st (.returned (.tuple #[.pointer (some ⟨v,0,none⟩),.nilIface])) W:=by
 have hs:=hK.size
 refine ⟨v,_,rfl,VS.begin hsl hb hv hvge hled hN hNv hfs hlg,fun j hj=>?_,(hK.mono (fun j e=>hBL j e)).trans (keptB B hb) (fun j e=>.inl e)⟩
 rcases hj with e | rfl | e
 ·exact (hB' j e).imp (hBL j) id
 ·exact .inr (by omega)
 ·exact .inr (by have:=(hled.lbk j e).1;omega)
set_option maxHeartbeats 6400000 in
theorem open_v {B:Nat → Prop} {w wr:World} {p v n s E G I k U:Nat} {num:Int} {ds:List (List Int)} {st:Vs} (h:VS B w wr p v num n s E G I k U ds st) (num':Int) (hnum:nodeF num') (hn:(n:Int) ≤ 1024) (hk:k ≤ 2000) (hE:E + 1 ≤ 1000000) (eM eL eB eF eS:Addr) (heM:w.cell? ⟨5,0,none⟩ = some (vEr eM)) (heL:w.cell? ⟨8,0,none⟩ = some (vEr eL)) (heB:w.cell? ⟨4,0,none⟩ = some (vEr eB)) (heF:w.cell? ⟨2,0,none⟩ = some (vEr eF)) (heS:w.cell? ⟨15,0,none⟩ = some (vErr eS)) :
  Calls Tryz.prog 21 #[.pointer (some ⟨p,0,none⟩),.int .i64 num'] wr (OpnP B w wr p num' n s (E + 1) G I (k + 1) U ds st):=by
 obtain ⟨BL,l,a,c,ps,hsl,hx,hlg,hB⟩:=h
 have HLG:=mkHid hlg
 have HBL:Hid (∀ j,BL j → B j):=mkHid (fun j e=>(hB j).mpr (.inl e))
 obtain ⟨s0,rs,hds,hs0,hruns,hbeh⟩:=hlg
 have HSO:=mkHid (sl_open hsl hn hk hE eM eL eB eF heM heL heB heF)
 have HNB:=mkHid (isNumber_any wr num')
 rw [nodeB_iff.mpr hnum] at HNB
 have HE:=mkHid (And.intro heB heS)
 have HDS:=mkHid (And.intro hds (And.intro hs0 (And.intro hruns hbeh)))
 clear hsl hx hB hds hs0 hruns hbeh heM heL heB heF heS hnum
 go_enter Tryz.func21,Tryz.ntmps21
 go_wp2_with (first
  |(go_at_call 37;(with_reducible refine HNB.out.mono ?_);rintro e w1 ⟨rfl,hw⟩;obtain rfl:=hw.symm)
  |(go_at_call 45;(with_reducible refine HSO.out.mono ?_);rintro e w2 ⟨l2,base2,sa,lv,GO,d0,rest,B2,rfl,hds2,s2,r2,t2,b2,k2⟩;have H2:=mkHid (And.intro s2 (And.intro b2 k2));have HD2:Hid (d0 = bytesS s0 ∧ rest = rs.map bytesR):=mkHid (by have:=HDS.out.1.symm.trans hds2;simp only [List.cons.injEq] at this;exact ⟨this.1.symm,this.2.symm⟩);have HR2:=mkHid (And.intro r2 t2);clear hds2 s2 r2 t2 b2 k2)
  |(go_at_call 46;have HN:=replayed_v w2 (.slice sa d0.length d0.length) lv s0 rs GO base2 eB eS (HD2.out.1 ▸ HR2.out.1) (HD2.out.2 ▸ HR2.out.2) HDS.out.2.1 HDS.out.2.2.1 (kc HE.out.1 H2.out.1.low) (kc HE.out.2 H2.out.1.low);rw [HDS.out.2.2.2] at HN;(with_reducible refine HN.mono ?_);clear HN;rintro e w3 ⟨a3,c3,q3,rfl,l3,f3,b3⟩;have H3:=mkHid (And.intro l3 (And.intro f3 b3));clear l3 f3 b3))
 go_ret2
 exact OpnP.mk HBL.out H2.out.2.2 H2.out.2.1 H2.out.1 (ba (ba H3.out.2.2 _) _) (two_of_two w3 _ _) (by have:=H3.out.2.2.size;omega) (H3.out.1.below (ba (ba (Below.refl _ w3) _) _)) (by omega) (fun j hj e=>by have:=(H3.out.1.lbk j hj).2;omega) H3.out.2.1 HLG.out
def st0:Vs:=⟨(0,0),(0,0),0,[]⟩
theorem st0_ok:st0.ok:=⟨.inl rfl,.inl rfl,by unfold amt;simp [st0],ledF_nil,fun _=>rfl⟩
theorem np6_st0:np6 1 1 0 (bytesS st0) = 1:=by
 unfold np6 frm npc
 rw [frame_len]
 have:(wpay ⟨1,1,0,bytesS st0⟩).length = 11:=by decide
 rw [this]
theorem led_nil (base:Nat) (w:World):Led base w (.slice none 0 0) []:=⟨World.ownsRow_nil _ _ _ _,by simp,by simp⟩
theorem ens_none (w:World):Ens w (.slice none 0 0) []:=⟨none,0,rfl,by simp,by simp,by simp⟩
set_option maxHeartbeats 6400000 in
theorem format_v {w wr:World} {p n s:Nat} {F:Nat → Prop} (hD:Dk F wr p n (fun _=>zeros) [] 0 false) (hbl:Below w.heap.size w wr) (hge:∀ j,F j → w.heap.size ≤ j) (hn2:2 * s + 2 = n) (hs1:1 ≤ s) (hn:(n:Int) ≤ 1024) (hfit:np6 1 1 0 (bytesS st0) ≤ s) (num:Int) (hnum:nodeF num) (eM eL eB eF eS:Addr) (heM:w.cell? ⟨5,0,none⟩ = some (vEr eM)) (heL:w.cell? ⟨8,0,none⟩ = some (vEr eL)) (heB:w.cell? ⟨4,0,none⟩ = some (vEr eB)) (heF:w.cell? ⟨2,0,none⟩ = some (vEr eF)) (heS:w.cell? ⟨15,0,none⟩ = some (vErr eS)) :
  Calls Tryz.prog 16 #[.pointer (some ⟨p,0,none⟩),.int .i64 num] wr (OpnP F w wr p num n s 1 1 0 1 (np6 1 1 0 (bytesS st0)) [bytesS st0] st0):=by
 have HD:=mkHid hD
 have HBL:=mkHid (And.intro hbl hge)
 have HNB:=mkHid (isNumber_any wr num)
 rw [nodeB_iff.mpr hnum] at HNB
 have HE:=mkHid (And.intro heM (And.intro heL (And.intro heB (And.intro heF heS))))
 have HSB:=mkHid (sbytes_ok (wr.alloc oZ6) st0 (.slice none 0 0) [] eS (ens_none _) rfl (kc heS (bt hbl (ba (Below.refl _ wr) _))) st0_ok)
 clear hD hbl hge hnum heM heL heB heF heS
 go_enter Tryz.func16,Tryz.ntmps16
 go_wp2_with (first
  |(go_at_call 37;(with_reducible refine HNB.out.mono ?_);rintro e w1 ⟨rfl,hw⟩;obtain rfl:=hw.symm)
  |(go_at_call 38;(refine HSB.out.mono ?_);rintro e w1 ⟨v1,rfl,ho1,b1⟩;obtain ⟨a1,c1,rfl⟩:=own_shape ho1;have H1:=mkHid (And.intro (Rd.of_owns (bytesS_byts st0) ho1) (And.intro b1 (bt (ba (Below.refl _ wr) oZ6) b1)));clear ho1 b1)
  |(go_at_call 39;have HN:=sl_format (HD.out.below H1.out.2.2) (bt HBL.out.1 H1.out.2.2) HBL.out.2 hn2 hs1 hn a1 c1 (bytesS st0) H1.out.1 (by have:=bytesS_len st0_ok;omega) hfit eM eL eB eF HE.out.1 HE.out.2.1 HE.out.2.2.1 HE.out.2.2.2.1;(with_reducible refine HN.mono ?_);clear HN;rintro e w2 ⟨l2,B2,rfl,s2,b2,k2⟩;have H2:=mkHid (And.intro s2 (And.intro b2 k2));have hz:=(k2.block wr.heap.size (by have:=H1.out.2.1.size;simp at this;omega) (fun e=>by have:=HD.out.1 _ e;omega)).trans (box_late H1.out.2.1);obtain ⟨z0,z1,z2,z3,z4,z5⟩:=st_cells hz;clear s2 b2 k2 hz))
 go_ret2
 exact OpnP.mk (qs:=[]) (N:=w2.heap.size) (fun j e=>e) ((keptB F H1.out.2.2).trans H2.out.2.2 (fun j e=>.inl e)) (fun j e=>(H2.out.2.1 j e).imp id (fun e=>Nat.le_trans H1.out.2.2.size e)) H2.out.1 (ba (Below.refl _ w2) _) (heap_alloc_new w2 _) (Nat.le_refl _) (led_nil _ _) (Nat.le_refl _) (fun j hj=>by rcases hj with e | ⟨t,ht,_⟩ <;> simp [Value.ownBlock] at *) rfl (LG.new st0_ok)
theorem vs_crash {B:Nat → Prop} {w wr:World} {p v n s E G I k U:Nat} {num:Int} {ds:List (List Int)} {st:Vs} (h:VS B w wr p v num n s E G I k U ds st) (keep torn:Int) :
  Calls Tryz.prog 20 #[.pointer (some ⟨p,0,none⟩),.int .u64 keep,.int .i64 torn] wr fun e w'=>e = .returned (.tuple #[]) ∧ VS B w w' p v num n s E G I k U ds st ∧ Kept B wr w':=by
 obtain ⟨BL,l,a,c,ps,hsl,hx,hlg,hB⟩:=h
 refine (sl_crash hsl keep torn).mono ?_
 rintro e w' ⟨rfl,h1,h2⟩
 exact ⟨rfl,⟨BL,l,a,c,ps,h1,hx.log h2 (fun j e=>.inl e),hlg,hB⟩,h2.mono (fun j e=>(hB j).mpr (.inl e))⟩
theorem opR_fit {s E G U:Nat} {ds:List (List Int)} {st:Vs} {r:Vr} (hf:U + np6 E G ds.length (bytesR r) ≤ s):opR s E G U ds st (some r) = (true,G,U + np6 E G ds.length (bytesR r),ds ++ [bytesR r],st.does r):=by
 have ha:apd s E G U ds (bytesS st) (bytesR r) = (true,G,U + np6 E G ds.length (bytesR r),ds ++ [bytesR r]):=by unfold apd;rw [if_pos hf]
 unfold opR
 dsimp only
 rw [ha]
 rfl
theorem np6_len (E G N:Nat) (b:List Int):np6 E G N b = ((wpay ⟨G,E,N,b⟩).length + 8 + 62) / 63:=by
 unfold np6 frm npc
 rw [frame_len]
structure VErrs (w:World) (eN eB eL eS eF eM eY:Addr):Prop where
 nu:w.cell? ⟨1,0,none⟩ = some (vErr eN)
 ba:w.cell? ⟨14,0,none⟩ = some (vErr eB)
 la:w.cell? ⟨8,0,none⟩ = some (vErr eL)
 st:w.cell? ⟨15,0,none⟩ = some (vErr eS)
 fu:w.cell? ⟨2,0,none⟩ = some (vEr eF)
 su:w.cell? ⟨5,0,none⟩ = some (vEr eM)
 by':w.cell? ⟨4,0,none⟩ = some (vEr eY)
theorem VErrs.below {w w':World} {eN eB eL eS eF eM eY:Addr} (h:VErrs w eN eB eL eS eF eM eY) (hb:Below w.heap.size w w'):VErrs w' eN eB eL eS eF eM eY:=
 ⟨kc h.nu hb,kc h.ba hb,kc h.la hb,kc h.st hb,kc h.fu hb,kc h.su hb,kc h.by' hb⟩
theorem OpP.fit {B:Nat → Prop} {w wr w':World} {p v n s E G I k U U':Nat} {num:Int} {ds:List (List Int)} {st:Vs} {r:Vr} (h:OpP B w wr p v num n s E G I k U ds st (some r) w') (hU:U + np6 E G ds.length (bytesR r) = U') (hf:U' ≤ s):∃ B',VS B' w w' p v num n s E G (I + 2) (k + 3) U' (ds ++ [bytesR r]) (st.does r) ∧ (∀ j,B' j → B j ∨ wr.heap.size ≤ j) ∧ Kept B wr w':=by
 obtain ⟨B',h1,h2,h3⟩:=h
 rw [opR_fit (by omega)] at h1
 subst hU
 exact ⟨B',h1,h2,h3⟩
theorem PreP.first {B:Nat → Prop} {w wr w':World} {p v n s E G I k U U':Nat} {num:Int} {ds:List (List Int)} {st:Vs} {b:Bl} {eN eB eF:Addr} {e:Ending} (h:PreP B w wr p v num n s E G I k U ds st b eN eB eF e w') (hm:mayB st b = true) (hne:b ≠ st.p) (hU:U + np6 E G ds.length (bytesR (.pr b)) = U') (hf:U' ≤ s):∃ z y B',e = .returned (.tuple #[vB z,y,.nilIface]) ∧ VS B' w w' p v num n s E G (I + 2) (k + 3) U' (ds ++ [bytesR (.pr b)]) (st.does (.pr b)):=by
 rcases h with ⟨h1,_⟩ | ⟨_,⟨z,y,h2⟩,h3⟩
 ·rw [show mayB st b = (balB b && !aboveB st.p b) from rfl,h1] at hm;simp at hm
 ·rw [if_neg hne] at h2 h3
  obtain ⟨B',h4,_⟩:=h3.fit hU hf
  rw [opR_fit (by omega)] at h2
  exact ⟨z,y,B',h2,h4⟩
theorem AcpP.first {B:Nat → Prop} {w wr w':World} {p v n s E G I k U U':Nat} {num:Int} {ds:List (List Int)} {st:Vs} {b:Bl} {ls:List En} {eN eB eL eS eF:Addr} {e:Ending} (h:AcpP B w wr p v num n s E G I k U ds st b ls eN eB eL eS eF e w') (hm:mayB st b = true) (hl:ledF ls) (hU:U + np6 E G ds.length (bytesR (acR st b ls)) = U') (hf:U' ≤ s):∃ B',e = .returned .nilIface ∧ VS B' w w' p v num n s E G (I + 2) (k + 3) U' (ds ++ [bytesR (acR st b ls)]) ⟨b,b,st.c,ls⟩:=by
 rcases h with ⟨h1,_⟩ | ⟨_,h1,_⟩ | ⟨_,_,h1,_⟩ | ⟨_,_,h2,h3⟩
 ·rw [h1] at hm;simp at hm
 ·have:=hl.1;omega
 ·exact absurd hl.2 h1
 ·obtain ⟨B',h4,_⟩:=h3.fit hU hf
  rw [opR_fit (by omega)] at h2
  rw [acR_does] at h4
  exact ⟨B',h2,h4⟩
theorem ClmP.first {B:Nat → Prop} {w wr w':World} {p v n s E G I k U U':Nat} {num m:Int} {ds:List (List Int)} {st:Vs} {b:Bl} {eF:Addr} {e:Ending} (h:ClmP B w wr p v num n s E G I k U ds st b eF e w') (hm:clM st b + 1 = m) (hlt:m ≤ 1099511627776) (hU:U + np6 E G ds.length (bytesR (.cl m)) = U') (hf:U' ≤ s):∃ B',e = .returned (.tuple #[vB (m,num),.nilIface]) ∧ VS B' w w' p v num n s E G (I + 2) (k + 3) U' (ds ++ [bytesR (.cl m)]) (st.does (.cl m)) ∧ Kept B wr w':=by
 subst hm
 rcases h with ⟨h1,_⟩ | ⟨_,h2,h3⟩
 ·omega
 ·obtain ⟨B',h4,_,h5⟩:=h3.fit hU hf
  rw [opR_fit (by omega)] at h2
  exact ⟨B',h2,h4,h5⟩
def enA:En:=⟨0,1,3,0,0,0,0,0,[],0⟩
def rA1:Vr:=.pr (1,0)
def rA2:Vr:=.ac (1,0) 0 [enA]
theorem uA1:1 + np6 1 1 [bytesS st0].length (bytesR rA1) = 2:=by rw [np6_len];decide
theorem uA2:2 + np6 1 1 ([bytesS st0] ++ [bytesR rA1]).length (bytesR rA2) = 3:=by rw [np6_len];decide
theorem uA3:3 + np6 2 1 (([bytesS st0] ++ [bytesR rA1]) ++ [bytesR rA2]).length (bytesR (.cl 2)) = 4:=by rw [np6_len];decide
theorem ledA:ledF (fs1 [(enA,none,0)]):=by
 refine ⟨by simp [fs1],fun e he=>?_⟩
 simp [fs1] at he;subst he
 refine ⟨⟨by decide,by decide⟩,⟨by decide,?_,by simp [enA]⟩,?_⟩
 ·intro n hn
  simp [hnum,enA] at hn
  unfold amt
  omega
 ·simp [kindF,enA]
theorem vens_one (w:World) (X:Nat) (h:w.heap[X]? = some (.cells #[.int .i64 0,.int .i64 1,.int .i64 3,.int .i64 0,.int .i64 0,.int .i64 0,.int .i64 0,.int .i64 0,.slice none 0 0,.int .i64 0] 69 (0,0))):Ens w (.slice (some ⟨X,0,none⟩) 1 1) [(enA,none,0)]:=
 ens_own (base:=0) (a:=some ⟨X,0,none⟩) (c:=1) (ps:=[(enA,none,0)]) ⟨rfl,.inr ⟨X,1,_,rfl,by omega,h,by simp,by decide,rfl,rfl⟩⟩ (by simp) (fun t ht=>by
  simp at ht;subst ht
  exact ⟨none,0,rfl,by simp [enA],fun hp=>by simp [enA] at hp⟩)
set_option maxHeartbeats 6400000 in
theorem valive (w:World) (eN eB eL eS eF eM eY:Addr) (h:VErrs w eN eB eL eS eF eM eY) :
  Calls Tryz.prog 8 #[] w fun e w'=>e = .returned (.bool true) ∧ Below w.heap.size w w':=by
 have HG:=mkHid h
 clear h
 go_enter Tryz.func8,Tryz.ntmps8
 go_wp2_with (first
  |(go_at_call 9;refine (dnew_ok _ 40 (by omega) (by omega)).mono ?_;rintro e w1 ⟨p,F,rfl,hD1,hF1,hb1⟩;have HD1:=mkHid (And.intro hD1 (And.intro hF1 hb1));clear hD1 hF1 hb1)
  |(go_at_call 16;have HN:=format_v HD1.out.1 HD1.out.2.2 HD1.out.2.1 (n:=40) (s:=19) (by omega) (by omega) (by omega) (by rw [np6_st0];omega) 2 ⟨by omega,by omega⟩ eM eL eY eF eS HG.out.su HG.out.la HG.out.by' HG.out.fu HG.out.st;rw [np6_st0] at HN;(with_reducible refine HN.mono ?_);clear HN;rintro e w2 ⟨v,B2,rfl,s2,b2,k2⟩;have H2:=mkHid s2;clear s2 b2 k2)
  |(go_at_call 17;have HN:=prepare_v H2.out (1,0) (by omega) (by omega) (by omega) (by omega) eN eB eS eF HG.out.nu HG.out.ba HG.out.st HG.out.fu;(with_reducible refine HN.mono ?_);clear HN;intro e w3 hp;obtain ⟨z3,y3,B3,rfl,s3⟩:=hp.first (by decide) (by decide) uA1 (by omega);have H3:=mkHid s3;clear hp s3)
  |(go_at_call 18;have HN:=accept_v (H3.out.below (ba (ba (Below.refl _ w3) (oB z3)) (.cells #[.int .i64 0,.int .i64 1,.int .i64 3,.int .i64 0,.int .i64 0,.int .i64 0,.int .i64 0,.int .i64 0,.slice none 0 0,.int .i64 0] 69))) (1,0) (some ⟨w3.heap.size + 1,0,none⟩) 1 [(enA,none,0)] (vens_one _ _ (two_of_two w3 _ _)) (by simp) (by omega) (by omega) (by omega) (by omega) eN eB eL eS eF HG.out.nu HG.out.ba HG.out.la HG.out.st HG.out.fu;(refine HN.mono ?_);clear HN;intro e w4 hp;obtain ⟨B4,rfl,s4⟩:=hp.first (by decide) ledA uA2 (by omega);have H4:=mkHid s4;clear hp s4)
  |(go_at_call 20;have HN:=vs_crash H4.out 0 (-1);(with_reducible refine HN.mono ?_);clear HN;rintro e w5 ⟨rfl,s5,k5⟩;have H5:=mkHid s5;clear s5 k5)
  |(go_at_call 21;have HN:=open_v H5.out 2 ⟨by omega,by omega⟩ (by omega) (by omega) (by omega) eM eL eY eF eS HG.out.su HG.out.la HG.out.by' HG.out.fu HG.out.st;(with_reducible refine HN.mono ?_);clear HN;rintro e w6 ⟨v6,B6,rfl,s6,b6,k6⟩;have H6:=mkHid s6;clear s6 b6 k6)
  |(go_at_call 22;have HN:=VS.acc H6.out;(with_reducible refine HN.mono ?_);clear HN;rintro e w7 ⟨a7,c7,q7,rfl,l7,f7,b7⟩;have H7:=mkHid (And.intro l7 (And.intro f7 b7));have hq7:q7.length = 1:=(by have:=congrArg List.length f7;simpa [fs1] using this);have HQ7:=mkHid hq7;clear l7 f7 b7)
  |(go_at_call 19;have HN:=claim_v (H6.out.below (bt H7.out.2.2 (ba (Below.refl _ w7) (oB (1,0))))) (0,0) (by omega) (by omega) (by omega) (by omega) eS eF HG.out.st HG.out.fu;(refine HN.mono ?_);clear HN;intro e w8 hp;obtain ⟨B8,rfl,s8,k8⟩:=hp.first (m:=2) (by decide) (by omega) uA3 (by omega);have H8:=mkHid s8;have hz:=(k8.block w7.heap.size (by simp) (fun e=>(by have:=(H6.out.lt _ e).2;have:=H7.out.2.2.size;omega))).trans (heap_alloc_new w7 (oB (1,0)));obtain ⟨z0,z1⟩:=two_cells hz;clear hp s8 k8 hz))
 go_ret
 exact ⟨rfl,bt H8.out.low (ba (Below.refl _ w8) _)⟩
end Go.Proofs.YtihdkgekickohaaGreatDoor
