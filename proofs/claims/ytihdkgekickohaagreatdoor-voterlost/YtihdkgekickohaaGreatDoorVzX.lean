import Derived.Test.YtihdkgekickohaaGreatDoorVkX
import Derived.Test.YtihdkgekickohaaGreatDoorOpenV
namespace Go.Proofs.YtihdkgekickohaaGreatDoor
open Go.ChangeMaps Go.ChangeShapes Go.WideShapes Go.ChangeAt Go.RowKit
set_option maxRecDepth 100000
attribute [local go_sem] World.cell?_alloc_some frozen_alloc_some
theorem Ms.clear {w:World} {b:Nat} {f:Int → List Int} (h:Ms w b f) (ty:TypeId):∃ w',(Builtin.clear_ #[70] ty #[.map (some b)]).run Tryz.prog w = .ok (.tuple #[]) w' ∧ Ms w' b (fun _=>zeros) ∧ Kept (fun j=>j = b) w w':=by
 obtain ⟨_,es,clock,hb,_⟩:=h
 refine ⟨setBlock w b (.map #[] clock),?_,⟨fun _=>zeros_sec,#[],clock,heap_setBlock_same hb _,fun e he=>by simp at he,fun _=>rfl⟩,?_⟩
 ·simp [Builtin.clear_,run_underlying Tryz.underlying70,MapKept.run_getObj_map hb,MapKept.run_setObj_map _ hb,Result.andThen,setBlock]
 ·exact ⟨rfl,rfl,rfl,by simp [setBlock],fun k _ hk=>heap_setBlock_other hb _ hk⟩
set_option maxHeartbeats 3200000 in
theorem dlose_any (F:Nat → Prop) (w:World) (p:Nat) (n:Int) (f:Int → List Int) (c:List (Int × List Int)) (nw:Int) (lost:Bool) (h:Dk F w p n f c nw lost) :
  Calls Tryz.prog 25 #[.pointer (some ⟨p,0,none⟩)] w fun e w'=>e = .returned (.tuple #[]) ∧ Dk F w' p n (fun _=>zeros) [] nw true ∧ Kept F w w':=by
 obtain ⟨hF,hp,hc,mb,cv,hmb,hpm,hd,hM,hcv,ho⟩:=h
 have c1:w.cell? ⟨p,1,none⟩ = some (.map (some mb)):=cell_of_block hd rfl
 have c2:w.cell? ⟨p,2,none⟩ = some cv:=cell_of_block hd rfl
 have c4:w.cell? ⟨p,4,none⟩ = some (.bool lost):=cell_of_block hd rfl
 have g2:w.frozen? ⟨p,2,none⟩ = false:=frozen_of_block hd
 have g4:w.frozen? ⟨p,4,none⟩ = false:=frozen_of_block hd
 obtain ⟨W1,hW1⟩:∃ W1,W1 = (w.setCell ⟨p,4,none⟩ (.bool true)).setCell ⟨p,2,none⟩ (.slice none 0 0):=⟨_,rfl⟩
 have k1:Kept (fun k=>k = p) w W1:=by
  rw [hW1]
  exact (Kept.setCell (F:=fun k=>k = p) w (p:=⟨p,4,none⟩) rfl _).trans (Kept.setCell (F:=fun k=>k = p) _ (p:=⟨p,2,none⟩) rfl _) (fun _ e=>.inl e)
 have hd1:W1.heap[p]? = some (.cells #[.int .i64 n,.map (some mb),.slice none 0 0,.int .i64 nw,.bool true] 73 (0,0)):=by
  rw [hW1,heap_set (heap_set hd)]
  simp
 have hM1:Ms W1 mb f:=hM.kept k1 (fun e=>hpm e.symm)
 obtain ⟨W2,hrun,hM2,hk2⟩:=hM1.clear 0
 have d1:W1.cell? ⟨p,1,none⟩ = some (.map (some mb)):=cell_of_block hd1 rfl
 have hd2:W2.heap[p]? = _:=(hk2.block p (Array.getElem?_eq_some_iff.1 hd1).1 hpm).trans hd1
 have hk:Kept F w W2:=(k1.mono (G:=F) (fun k e=>by rw [e];exact hp)).trans hk2 (fun k e=>.inl (by rw [e];exact hmb))
 have HRes:Hid (Dk F W2 p n (fun _=>zeros) [] nw true ∧ Kept F w W2):=mkHid ⟨⟨fun k e=>Nat.lt_of_lt_of_le (hF k e) hk.size,hp,by simp,mb,.slice none 0 0,hmb,hpm,hd2,hM2,fun k e=>by simp [Value.ownBlock] at e,World.ownsRow_nil _ _ _ _⟩,hk⟩
 rw [hW1] at hrun d1
 clear hF hp hc hd hM hcv ho hd1 hM1 hM2 hk2 hd2 hk hW1 k1
 go_enter Tryz.func25,Tryz.ntmps25
 go_wp2
 go_end0
 exact ⟨rfl,HRes.out.1,HRes.out.2⟩
def VZ (w wr:World) (p v:Nat) (num:Int) (n:Nat) (st:Vs):Prop:=
 ∃ BL l a c ps F fr en nx ep rv nw,VX BL w wr v l num st a c ps ∧ Lg wr l p fr en rv nx ep ∧ Dk F wr p (n:Int) (fun _=>zeros) [] nw true ∧ Below w.heap.size w wr
theorem VZ.below {w wr w':World} {p v n:Nat} {num:Int} {st:Vs} (h:VZ w wr p v num n st) (hb:Below wr.heap.size wr w'):VZ w w' p v num n st:=by
 obtain ⟨BL,l,a,c,ps,F,fr,en,nx,ep,rv,nw,h1,h2,h3,h4⟩:=h
 exact ⟨BL,l,a,c,ps,F,fr,en,nx,ep,rv,nw,h1.below hb,(hb.block l (lt_of_heap h2)).trans h2,h3.below hb,bt h4 hb⟩
theorem VZ.low {w wr:World} {p v n:Nat} {num:Int} {st:Vs} (h:VZ w wr p v num n st):Below w.heap.size w wr:=by
 obtain ⟨BL,l,a,c,ps,F,fr,en,nx,ep,rv,nw,h1,h2,h3,h4⟩:=h
 exact h4
theorem VZ.ok {w wr:World} {p v n:Nat} {num:Int} {st:Vs} (h:VZ w wr p v num n st):st.ok:=by
 obtain ⟨BL,l,a,c,ps,F,fr,en,nx,ep,rv,nw,h1,h2,h3,h4⟩:=h
 exact h1.ok
theorem VZ.led {w wr:World} {p v n:Nat} {num:Int} {st:Vs} (h:VZ w wr p v num n st):∃ l a c ps,(∀ W,Below wr.heap.size wr W → W.heap[v]? = some (oV num l st (.slice a ps.length c)) ∧ Ens W (.slice a ps.length c) ps) ∧ fs1 ps = st.l:=by
 obtain ⟨BL,l,a,c,ps,F,fr,en,nx,ep,rv,nw,hx,h2,h3,h4⟩:=h
 exact ⟨l,a,c,ps,fun W hW=>⟨(hx.below hW).vb,hx.ens.below hW⟩,hx.eq⟩
theorem VZ.acc {w wr:World} {p v n:Nat} {num:Int} {st:Vs} (h:VZ w wr p v num n st):Calls Tryz.prog 22 #[.pointer (some ⟨v,0,none⟩)] wr (AccP wr st):=by
 obtain ⟨BL,l,a,c,ps,F,fr,en,nx,ep,rv,nw,hx,h2,h3,h4⟩:=h
 exact accepted_v hx
theorem VZ.pro {w wr:World} {p v n:Nat} {num:Int} {st:Vs} (h:VZ w wr p v num n st):Calls Tryz.prog 23 #[.pointer (some ⟨v,0,none⟩)] wr fun e w'=>e = .returned (vB st.p) ∧ Below wr.heap.size wr w':=by
 obtain ⟨l,a,c,ps,hv,_⟩:=h.led
 exact promised_v wr v l num st _ (hv wr (Below.refl _ _)).1
theorem lose_v {B:Nat → Prop} {w wr:World} {p v n s j:Nat} {num:Int} {st:Vs} (h:VE B w wr p v num n s st j) :
  Calls Tryz.prog 25 #[.pointer (some ⟨p,0,none⟩)] wr fun e w'=>e = .returned (.tuple #[]) ∧ VZ w w' p v num n st ∧ Kept B wr w':=by
 obtain ⟨E,G,I,k,U,ds,h,r⟩:=h
 obtain ⟨BL,l,a,c,ps,hsl,hx,hlg,hB⟩:=h
 have hbk:=fun j hj=>hsl.blk j hj
 obtain ⟨F,FR,fr,nx,f,cc,nw,vv,ts,hs⟩:=hsl
 obtain ⟨hL,hri⟩:=hs.lr
 have hFB:∀ j,F j → BL j:=fun j hj=>(hs.bs j).mpr (.inl hj)
 refine (dlose_any F wr p n f cc nw false hL.dk).mono ?_
 rintro e w' ⟨rfl,hD,hk⟩
 refine ⟨rfl,⟨BL,l,a,c,ps,F,fr,fr + s,nx,E,vv,nw,hx.kept hk (fun e=>hx.nv (hFB _ e)) (fun j hj e=>(hx.lb j hj).1 (hFB _ e)),(hk.block l (lt_of_heap hL.lg) hL.lF).trans hL.lg,hD,?_⟩,hk.mono (fun j e=>(hB j).mpr (.inl (hFB j e)))⟩
 have hb:=hL.bl
 exact ⟨hk.os.trans hb.os,hk.tape.trans hb.tape,hk.output.trans hb.output,Nat.le_trans hb.size hk.size,fun j hj=>(hk.block j (Nat.lt_of_lt_of_le hj hb.size) (fun e=>by have:=(hbk j (hFB j e)).1;omega)).trans (hb.block j hj)⟩
structure ZErr (w:World) (eX eF:Addr):Prop where
 lo:w.cell? ⟨0,0,none⟩ = some (vErr eX)
 fu:w.cell? ⟨2,0,none⟩ = some (vErr eF)
 ne:eX ≠ eF
 bx:∃ c t,w.heap[eX.block]? = some (.cells c t (0,0))
 bf:∃ c t,w.heap[eF.block]? = some (.cells c t (0,0))
theorem ZErr.below {w w':World} {eX eF:Addr} (h:ZErr w eX eF) (hb:Below w.heap.size w w'):ZErr w' eX eF:=by
 obtain ⟨lo,fu,ne,⟨c,t,bx⟩,⟨c',t',bf⟩⟩:=h
 exact ⟨kc lo hb,kc fu hb,ne,⟨c,t,(hb.block _ (lt_of_heap bx)).trans bx⟩,⟨c',t',(hb.block _ (lt_of_heap bf)).trans bf⟩⟩
theorem wap_lost {F:Nat → Prop} {w:World} {l p fr en nx ep:Nat} {n:Int} {rv:Value} {nw:Int} (h:Lg w l p fr en rv nx ep) (hD:Dk F w p n (fun _=>zeros) [] nw true) (v:Value) (ev:Addr) (he:w.cell? ⟨0,0,none⟩ = some (vErr ev)) :
  Calls Tryz.prog 114 #[.pointer (some ⟨l,0,none⟩),v] w fun e w'=>e = .returned (vErr ev) ∧ Below w.heap.size w w':=by
 obtain ⟨l0,l1,l2,l3,l4,l5,_,_,_,_⟩:=h.facts
 have HW:=mkHid (wref_lost F w p n _ _ nw v _ hD he)
 clear h hD he
 go_enter Tryz.func114,Tryz.ntmps114
 go_wp2_with (go_at_call 65;refine HW.out.mono ?_;rintro e w2 ⟨rfl,hw2⟩;have HB2:=mkHid hw2;clear hw2)
 go_ret
 first | exact ⟨rfl,HB2.out⟩ | exact ⟨rfl,by rw [HB2.out];exact Below.refl _ _⟩ | (have hh:=HB2.out;subst hh;exact ⟨rfl,Below.refl _ _⟩)
theorem append_z {w wr:World} {p v n:Nat} {num:Int} {st:Vs} (h:VZ w wr p v num n st) (z:Value) {eX eF:Addr} (hZ:ZErr w eX eF) :
  Calls Tryz.prog 75 #[.pointer (some ⟨v,0,none⟩),z] wr fun e w'=>e = .returned (vErr eX) ∧ Below wr.heap.size wr w':=by
 have hz:=hZ.below h.low
 obtain ⟨BL,l,a,c,ps,F,fr,en,nx,ep,rv,nw,hx,hl,hd,_⟩:=h
 have HA:=mkHid (wap_lost hl hd z eX hz.lo)
 have HZ:=mkHid hz
 have g2:=hz.fu
 obtain ⟨x0,x1,x2,x3,x4,x5,x6,x7⟩:=vt_cells hx.vb
 clear hz hx hl hd x0 x2 x3 x4 x5 x6 x7
 go_enter Tryz.func75,Tryz.ntmps75
 go_wp2_with (first
  |(go_at_call 114;(with_reducible refine HA.out.mono ?_);rintro r w1 ⟨rfl,b1⟩;have HZ1:=mkHid (HZ.out.below b1);have HB1:=mkHid b1;have g3:=HZ1.out.fu;clear b1 x1)
  |(go_at_call 115;obtain ⟨hlo,hfu,hne,⟨cx,tx,hbx⟩,⟨cf,tf,hbf⟩⟩:=HZ1.out;(with_reducible refine (is_other eX eF cx cf tx tf _ hne hbx hbf).mono ?_);rintro r w9 ⟨rfl,hw⟩;obtain rfl:=hw.symm))
 go_ret
 exact ⟨rfl,HB1.out⟩
set_option maxHeartbeats 12800000 in
theorem writeDown_z {w wr:World} {p v n:Nat} {num:Int} {st:Vs} (h:VZ w wr p v num n st) (r:Vr) (k0 k1 k2 k3:Int) (rl:Value) (hro:r.ok) (hrf:r.fits st)
  (hbh:∀ W a c ps,Below wr.heap.size wr W → Ens W (.slice a ps.length c) ps → fs1 ps = st.l → ps.length ≤ c → Calls Tryz.prog 73 #[vS st (.slice a ps.length c),vR k0 k1 k2 k3 rl] W (BehP W st r a c ps))
  (hby:∀ W,Below wr.heap.size wr W → Calls Tryz.prog 74 #[vR k0 k1 k2 k3 rl] W (BytesP W (bytesR r)))
  {eX eF:Addr} (hZ:ZErr w eX eF) :
  Calls Tryz.prog 41 #[.pointer (some ⟨v,0,none⟩),vR k0 k1 k2 k3 rl] wr fun e w'=>e = .returned (vErr eX) ∧ Below wr.heap.size wr w':=by
 have HVZ:=mkHid h
 have HE:=mkHid hZ
 obtain ⟨BL,l,a,c,ps,F,fr,en,nx,ep,rv,nw,hx,_,_,_⟩:=h
 have HX:=mkHid hx
 have W0b:Below wr.heap.size wr (wr.alloc (oRc k0 k1 k2 k3 rl)):=ba (Below.refl _ wr) _
 have HBH:=mkHid (fun W (hW:Below wr.heap.size wr W)=>hbh W a c ps hW (hx.ens.below hW) hx.eq hx.small.2.1)
 have HBY:=mkHid hby
 have HNX:Hid ((st.does r).ok):=mkHid (hx.ok.does hro hrf)
 obtain ⟨st',hst'⟩:∃ st',st' = st.does r:=⟨_,rfl⟩
 have HST:=mkHid hst'
 have hx0:=hx.below W0b
 obtain ⟨_,_,x2,x3,x4,x5,x6,x7⟩:=vt_cells hx0.vb
 obtain ⟨y0,y1,y2,y3,y4⟩:=rc_cells (heap_alloc_new wr (oRc k0 k1 k2 k3 rl))
 unfold BehP at HBH
 rw [← hst'] at HBH
 obtain ⟨⟨p1,p2⟩,⟨a1,a2⟩,c',l'⟩:=st
 obtain ⟨⟨p1',p2'⟩,⟨a1',a2'⟩,cc',l''⟩:=st'
 simp only [vS] at HBH
 simp only [vR] at HBH HBY ⊢
 clear hx hro hrf hZ hbh hby hst' hx0 W0b
 go_enter Tryz.func41,Tryz.ntmps41
 go_wp2
 have HC:=mkHid (fun W (hb:Below (wr.alloc (oRc k0 k1 k2 k3 rl)).heap.size (wr.alloc (oRc k0 k1 k2 k3 rl)) W)=>(C11 HX.out hb:W.cell? ⟨v,2,none⟩ = some (.int .i64 p1) ∧ W.cell? ⟨v,3,none⟩ = some (.int .i64 p2) ∧ W.cell? ⟨v,4,none⟩ = some (.int .i64 a1) ∧ W.cell? ⟨v,5,none⟩ = some (.int .i64 a2) ∧ W.cell? ⟨v,6,none⟩ = some (.int .i64 c') ∧ W.cell? ⟨v,7,none⟩ = some (.slice a ps.length c) ∧ W.cell? ⟨wr.heap.size,0,none⟩ = some (.int .i64 k0) ∧ W.cell? ⟨wr.heap.size,1,none⟩ = some (.int .i64 k1) ∧ W.cell? ⟨wr.heap.size,2,none⟩ = some (.int .i64 k2) ∧ W.cell? ⟨wr.heap.size,3,none⟩ = some (.int .i64 k3) ∧ W.cell? ⟨wr.heap.size,4,none⟩ = some (rl)))
 refine wp_region_held_drew (S:=fun w'=>w'.cell? ⟨v,2,none⟩ = some (.int .i64 p1) ∧ w'.cell? ⟨v,3,none⟩ = some (.int .i64 p2) ∧ w'.cell? ⟨v,4,none⟩ = some (.int .i64 a1) ∧ w'.cell? ⟨v,5,none⟩ = some (.int .i64 a2) ∧ w'.cell? ⟨v,6,none⟩ = some (.int .i64 c') ∧ w'.cell? ⟨v,7,none⟩ = some (.slice a ps.length c) ∧ w'.cell? ⟨wr.heap.size,0,none⟩ = some (.int .i64 k0) ∧ w'.cell? ⟨wr.heap.size,1,none⟩ = some (.int .i64 k1) ∧ w'.cell? ⟨wr.heap.size,2,none⟩ = some (.int .i64 k2) ∧ w'.cell? ⟨wr.heap.size,3,none⟩ = some (.int .i64 k3) ∧ w'.cell? ⟨wr.heap.size,4,none⟩ = some (rl)) (by kernel_rfl) ⟨x2,x3,x4,x5,x6,x7,y0,y1,y2,y3,y4⟩ (fun hHeld=>?_)
 refine tkE 0 11 (.pointer (some ⟨v,0,none⟩)) rfl rfl hHeld ?_
 (try simp only [List.set_cons_zero,List.set_cons_succ])
 refine tkE 1 12 (.pointer (some ⟨v,0,none⟩)) rfl rfl hHeld ?_
 (try simp only [List.set_cons_zero,List.set_cons_succ])
 refine tkE 2 13 (.pointer (some ⟨v,2,none⟩)) rfl rfl hHeld ?_
 (try simp only [List.set_cons_zero,List.set_cons_succ])
 refine tkE 3 14 (.agg #[.int .i64 p1,.int .i64 p2,.int .i64 a1,.int .i64 a2,.int .i64 c',.slice a ps.length c]) rfl rfl hHeld ?_
 (try simp only [List.set_cons_zero,List.set_cons_succ])
 refine tkE 4 15 (.agg #[.int .i64 k0,.int .i64 k1,.int .i64 k2,.int .i64 k3,rl]) rfl rfl hHeld ?_
 (try simp only [List.set_cons_zero,List.set_cons_succ])
 refine wpAnyH_ready (rs:=[5,9]) (by kernel_rfl) (by simp) (AllReadyH.cons rfl (fun K hK=>?_) (AllReadyH.cons rfl (fun K hK=>?_) AllReadyH.nil))
 ·go_simp
  refine (HBH.out _ (ba (Below.refl _ wr) _).drew).mono ?_
  rintro e w2 ⟨A2,C2,ts,rfl,e2,n2,b2⟩
  have hb0:Below (wr.alloc (oRc k0 k1 k2 k3 rl)).heap.size (wr.alloc (oRc k0 k1 k2 k3 rl)) w2:=(Below.refl _ (wr.alloc (oRc k0 k1 k2 k3 rl))).drew.trans b2
  have HB0:=mkHid hb0
  have H2:=mkHid (And.intro e2 (nxt_led HX.out (ba (Below.refl _ wr) (oRc k0 k1 k2 k3 rl)).drew b2 n2))
  clear e2 n2 b2 hHeld hb0
  refine hK.out _ _ (HC.out _ HB0.out) (fun hHeld=>?_)
  clear hK K
  (try simp only [Act.put])
  refine tkE 6 10 (.tuple #[.agg #[.int .i64 p1',.int .i64 p2',.int .i64 a1',.int .i64 a2',.int .i64 cc',.slice A2 ts.length C2],.nilIface]) rfl rfl hHeld ?_
  (try simp only [List.set_cons_zero,List.set_cons_succ])
  refine tkE 7 17 (.agg #[.int .i64 p1',.int .i64 p2',.int .i64 a1',.int .i64 a2',.int .i64 cc',.slice A2 ts.length C2]) rfl rfl hHeld ?_
  (try simp only [List.set_cons_zero,List.set_cons_succ])
  refine tkE 8 18 (.nilIface) rfl rfl hHeld ?_
  (try simp only [List.set_cons_zero,List.set_cons_succ])
  refine wpAnyH_ready (rs:=[9]) (by kernel_rfl) (by simp) (AllReadyH.cons rfl (fun K hK=>?_) AllReadyH.nil)
  go_simp
  refine hK.out _ _ (HC.out _ (bt HB0.out (ba (Below.refl _ w2) oZ6))) (fun hHeld=>?_)
  clear hK K
  (try simp only [Act.put])
  refine wpAnyH_ready (rs:=[10]) (by kernel_rfl) (by simp) (AllReadyH.cons rfl (fun K hK=>?_) AllReadyH.nil)
  refine step_store_box6 rfl 96 (.tmp 5) (.tmp 17) rfl w2.heap.size #[.int .i64 p1',.int .i64 p2',.int .i64 a1',.int .i64 a2',.int .i64 cc',.slice A2 ts.length C2] (by simp [Act.eval]) (by simp [Act.eval]) 96 _ (heap_alloc_new w2 _) size6 rfl (one6 _ _ _ _ _ _ _ _) ?_
  intro w7 h7 k7
  have hb7:Below w2.heap.size w2 w7:=(ba (Below.refl _ w2) oZ6).trans (k7.below (fun j e=>by omega) (by simp))
  have HB7x:=mkHid (bt HB0.out hb7)
  have HB7:=mkHid (bt (ba (Below.refl _ wr) (oRc k0 k1 k2 k3 rl)) HB7x.out)
  have HT7:=mkHid (And.intro h7 (And.intro (show wr.heap.size ≤ w2.heap.size by have:=HB0.out.size;simp at this;omega) (And.intro H2.out.1 (Ldx.below H2.out.2 hb7))))
  have HX7:=mkHid (And.intro (HX.out.below HB7.out) (box_late HB7x.out))
  refine hK.out _ _ (HC.out _ HB7x.out) (fun hHeld=>?_)
  clear hK K h7 k7 hb7
  (try simp only [Act.put])
  refine tkE 11 6 (.nilIface) rfl rfl hHeld ?_
  (try simp only [List.set_cons_zero,List.set_cons_succ])
  refine wpAnyH_done (by kernel_rfl) ?_ _
  obtain ⟨x0,x1,x2,x3,x4,x5,x6,x7⟩:=vt_cells (HX7.out.1.vb)
  obtain ⟨y0,y1,y2,y3,y4⟩:=rc_cells (HX7.out.2)
  clear x0 x1 x2 x3 x4 x5 x6 x7
  go_wp2_with (first
   |(go_at_call 74;(with_reducible refine (HBY.out w7 HB7.out).mono ?_);rintro e w8 ⟨v8,rfl,ho8,b8⟩;have HB8:=mkHid (bt HB7.out b8);clear ho8 b8 y0 y1 y2 y3 y4)
   |(go_at_call 75;have HN:=append_z (HVZ.out.below HB8.out) v8 HE.out;(with_reducible refine HN.mono ?_);clear HN;rintro e w9 ⟨rfl,b9⟩;have H9:=mkHid b9;clear b9))
  go_ret
  exact ⟨rfl,bt HB8.out H9.out⟩
 ·go_simp
  refine hK.out _ _ (HC.out _ (ba (Below.refl _ (wr.alloc (oRc k0 k1 k2 k3 rl))).drew oZ6)) (fun hHeld=>?_)
  clear hK K
  (try simp only [Act.put])
  refine wpAnyH_ready (rs:=[5]) (by kernel_rfl) (by simp) (AllReadyH.cons rfl (fun K hK=>?_) AllReadyH.nil)
  go_simp
  refine (HBH.out _ (bt (ba (Below.refl _ wr) (oRc k0 k1 k2 k3 rl)) (ba (Below.refl _ (wr.alloc (oRc k0 k1 k2 k3 rl))) oZ6)).drew).mono ?_
  rintro e w2 ⟨A2,C2,ts,rfl,e2,n2,b2⟩
  have hz0:w2.heap[(wr.alloc (oRc k0 k1 k2 k3 rl)).heap.size]? = some oZ6:=(b2.block _ (by simp)).trans (heap_alloc_new (wr.alloc (oRc k0 k1 k2 k3 rl)) oZ6)
  have hb0:Below (wr.alloc (oRc k0 k1 k2 k3 rl)).heap.size (wr.alloc (oRc k0 k1 k2 k3 rl)) w2:=bt (ba (Below.refl _ (wr.alloc (oRc k0 k1 k2 k3 rl))) oZ6) ((Below.refl _ ((wr.alloc (oRc k0 k1 k2 k3 rl)).alloc oZ6)).drew.trans b2)
  have HB0:=mkHid hb0
  have HZ0:Hid (w2.heap[wr.heap.size + 1]? = some oZ6):=mkHid (by simpa using hz0)
  have H2:=mkHid (And.intro e2 (And.intro (nxt_led HX.out (bt (ba (Below.refl _ wr) (oRc k0 k1 k2 k3 rl)) (ba (Below.refl _ (wr.alloc (oRc k0 k1 k2 k3 rl))) oZ6)).drew b2 n2) (nxt_far (N:=wr.heap.size + 1) (by simp) n2)))
  clear e2 n2 b2 hHeld hb0 hz0
  refine hK.out _ _ (HC.out _ HB0.out) (fun hHeld=>?_)
  clear hK K
  (try simp only [Act.put])
  refine tkE 6 10 (.tuple #[.agg #[.int .i64 p1',.int .i64 p2',.int .i64 a1',.int .i64 a2',.int .i64 cc',.slice A2 ts.length C2],.nilIface]) rfl rfl hHeld ?_
  (try simp only [List.set_cons_zero,List.set_cons_succ])
  refine tkE 7 17 (.agg #[.int .i64 p1',.int .i64 p2',.int .i64 a1',.int .i64 a2',.int .i64 cc',.slice A2 ts.length C2]) rfl rfl hHeld ?_
  (try simp only [List.set_cons_zero,List.set_cons_succ])
  refine tkE 8 18 (.nilIface) rfl rfl hHeld ?_
  (try simp only [List.set_cons_zero,List.set_cons_succ])
  refine wpAnyH_ready (rs:=[10]) (by kernel_rfl) (by simp) (AllReadyH.cons rfl (fun K hK=>?_) AllReadyH.nil)
  refine step_store_box6 rfl 96 (.tmp 5) (.tmp 17) rfl (wr.heap.size + 1) #[.int .i64 p1',.int .i64 p2',.int .i64 a1',.int .i64 a2',.int .i64 cc',.slice A2 ts.length C2] (by simp [Act.eval]) (by simp [Act.eval]) 96 _ HZ0.out size6 rfl (one6 _ _ _ _ _ _ _ _) ?_
  intro w7 h7 k7
  have HB7x:=mkHid (HB0.out.trans (k7.below (B:=(wr.alloc (oRc k0 k1 k2 k3 rl)).heap.size) (fun j e=>by simp;omega) HB0.out.size))
  have HB7:=mkHid (bt (ba (Below.refl _ wr) (oRc k0 k1 k2 k3 rl)) HB7x.out)
  have HT7:=mkHid (And.intro h7 (And.intro (show wr.heap.size ≤ wr.heap.size + 1 by omega) (And.intro H2.out.1 (show Ldx w wr w7 a c ps A2 C2 ts from ⟨H2.out.2.1.1.kept' k7 (fun j hj e=>by
    rcases H2.out.2.2 j hj with q | q
    ·have:=(HX.out.led.lbk j q).2;omega
    ·omega),H2.out.2.1.2⟩))))
  have HX7:=mkHid (And.intro (HX.out.below HB7.out) (box_late HB7x.out))
  refine hK.out _ _ (HC.out _ HB7x.out) (fun hHeld=>?_)
  clear hK K h7 k7
  (try simp only [Act.put])
  refine tkE 11 6 (.nilIface) rfl rfl hHeld ?_
  (try simp only [List.set_cons_zero,List.set_cons_succ])
  refine wpAnyH_done (by kernel_rfl) ?_ _
  obtain ⟨x0,x1,x2,x3,x4,x5,x6,x7⟩:=vt_cells (HX7.out.1.vb)
  obtain ⟨y0,y1,y2,y3,y4⟩:=rc_cells (HX7.out.2)
  clear x0 x1 x2 x3 x4 x5 x6 x7
  go_wp2_with (first
   |(go_at_call 74;(with_reducible refine (HBY.out w7 HB7.out).mono ?_);rintro e w8 ⟨v8,rfl,ho8,b8⟩;have HB8:=mkHid (bt HB7.out b8);clear ho8 b8 y0 y1 y2 y3 y4)
   |(go_at_call 75;have HN:=append_z (HVZ.out.below HB8.out) v8 HE.out;(with_reducible refine HN.mono ?_);clear HN;rintro e w9 ⟨rfl,b9⟩;have H9:=mkHid b9;clear b9))
  go_ret
  exact ⟨rfl,bt HB8.out H9.out⟩
end Go.Proofs.YtihdkgekickohaaGreatDoor
namespace Go.Proofs.YtihdkgekickohaaGreatDoor
open Go.ChangeShapes Go.WideShapes Go.ChangeAt Go.RowKit
set_option maxRecDepth 100000
attribute [local go_sem] World.cell?_alloc_some frozen_alloc_some
def PreZ (wr:World) (st:Vs) (b:Bl) (e:Ending) (w':World):Prop:=∃ (z:Bl) (y ev:Value),e = .returned (.tuple #[vB z,y,ev]) ∧ ((ev = .nilIface ∧ b = st.p) ∨ ∃ x,ev = vErr x) ∧ Below wr.heap.size wr w'
theorem PreZ.no {wr w1 w9:World} {st:Vs} {b:Bl} {eN eB:Addr} {q r:Bool} {ev y:Value} {z:Bl} (hev:ev = if q then (if r then vErr eB else .nilIface) else vErr eN) (h1:Below wr.heap.size wr w1) (hk:Kept (fun j=>j = wr.heap.size + 1) w1 w9) (hf:(q && !r) = false:=by rfl):PreZ wr st b (.returned (.tuple #[vB z,y,ev])) w9:=by
 refine ⟨z,y,ev,rfl,.inr ?_,h1.trans (hk.below (fun j e=>by omega) h1.size)⟩
 subst hev
 cases q
 ·exact ⟨eN,rfl⟩
 ·cases r
  ·simp at hf
  ·exact ⟨eB,rfl⟩
set_option maxHeartbeats 6400000 in
theorem prepare_z {w wr:World} {p v n:Nat} {num:Int} {st:Vs} (h:VZ w wr p v num n st) (b:Bl) (eN eB:Addr) {eX eF:Addr} (heN:w.cell? ⟨1,0,none⟩ = some (vErr eN)) (heB:w.cell? ⟨14,0,none⟩ = some (vErr eB)) (hZ:ZErr w eX eF) :
  Calls Tryz.prog 17 #[.pointer (some ⟨v,0,none⟩),vB b] wr (PreZ wr st b):=by
 have HVS:=mkHid h
 have hlow:=h.low
 have hL0:=hlow.size
 obtain ⟨l,a,c,ps,hvb0,_⟩:=h.led
 have hvb:=(hvb0 wr (Below.refl _ _)).1
 obtain ⟨lv,hlv⟩:∃ lv,lv = Value.slice a ps.length c:=⟨_,rfl⟩
 rw [← hlv] at hvb
 have HVB:=mkHid hvb
 have hb0:Below wr.heap.size wr ((wr.alloc (oB b)).alloc oZB):=ba (ba (Below.refl _ wr) _) _
 have HRF:=mkHid (refused_v ((wr.alloc (oB b)).alloc oZB) v l num st lv b eN eB ((hb0.block v (lt_of_heap hvb)).trans hvb) (kc heN (bt hlow hb0)) (kc heB (bt hlow hb0)))
 have HE:=mkHid hZ
 have HL0:=mkHid hL0
 unfold refE at HRF
 obtain ⟨q,hq⟩:∃ q,q = balB b:=⟨_,rfl⟩
 obtain ⟨r,hr⟩:∃ r,r = aboveB st.p b:=⟨_,rfl⟩
 rw [← hq,← hr] at HRF
 have HQ:=mkHid (And.intro hq hr)
 have HNE:=fun W=>neq_bal W b.1 b.2 st.p.1 st.p.2
 obtain ⟨z0,z1,z2,z3,z4,z5,z6,z7⟩:=vt_cells hvb
 clear h hlow hvb hvb0 hlv hb0 heN heB hZ hq hr z0 z1 z2 z3 z4 z5 z6 z7
 obtain ⟨b1,b2⟩:=b
 simp only [vB] at HRF ⊢
 cases q
 case false=>
  go_enter Tryz.func17,Tryz.ntmps17
  go_wp2_with (first
   |(go_at_call 40;(with_reducible refine HRF.out.mono ?_);rintro e w1 ⟨rfl,b1x⟩;have HB1:Hid (Below ((wr.alloc (oB (b1,b2))).alloc oZB).heap.size ((wr.alloc (oB (b1,b2))).alloc oZB) w1):=mkHid b1x;have hz1:w1.heap[wr.heap.size + 1]? = some oZB:=(b1x.block (wr.heap.size + 1) (by simp)).trans (two_of_two wr _ _);have HZ1:=mkHid hz1;clear b1x hz1)
   |(refine wpList_store_box rfl 39 (.tmp 4) (.tmp 16) rfl (wr.heap.size + 1) #[.int .i64 0,.int .i64 0] rfl rfl 39 _ HZ1.out size2 rfl (one2 _ _) ?_;intro w9 h9 k9))
  exact bodyPost_ret (three_leaves rfl h9 _ rfl) rfl (PreZ.no (q:=false) (r:=r) (z:=(0,0)) (eN:=eN) (eB:=eB) rfl (bt (ba (ba (Below.refl _ wr) (oB (b1,b2))) oZB) HB1.out) k9)
 cases r
 case true=>
  go_enter Tryz.func17,Tryz.ntmps17
  go_wp2_with (first
   |(go_at_call 40;(with_reducible refine HRF.out.mono ?_);rintro e w1 ⟨rfl,b1x⟩;have HB1:Hid (Below ((wr.alloc (oB (b1,b2))).alloc oZB).heap.size ((wr.alloc (oB (b1,b2))).alloc oZB) w1):=mkHid b1x;have hz1:w1.heap[wr.heap.size + 1]? = some oZB:=(b1x.block (wr.heap.size + 1) (by simp)).trans (two_of_two wr _ _);have HZ1:=mkHid hz1;clear b1x hz1)
   |(refine wpList_store_box rfl 39 (.tmp 4) (.tmp 16) rfl (wr.heap.size + 1) #[.int .i64 0,.int .i64 0] rfl rfl 39 _ HZ1.out size2 rfl (one2 _ _) ?_;intro w9 h9 k9))
  exact bodyPost_ret (three_leaves rfl h9 _ rfl) rfl (PreZ.no (q:=true) (r:=true) (z:=(0,0)) (eN:=eN) (eB:=eB) rfl (bt (ba (ba (Below.refl _ wr) (oB (b1,b2))) oZB) HB1.out) k9)
 have hbal:balF (b1,b2):=balB_iff.mp HQ.out.1.symm
 have HBAL:=mkHid hbal
 clear hbal
 have HBR:Hid (Below wr.heap.size wr ((wr.alloc (oB (b1,b2))).alloc oZB)):=mkHid (ba (ba (Below.refl _ wr) _) _)
 obtain ⟨⟨p1,p2⟩,⟨a1,a2⟩,c',l'⟩:=st
 simp only at HNE
 obtain ⟨ne,hne⟩:∃ ne,ne = !(decide (b1 = p1) && decide (b2 = p2)):=⟨_,rfl⟩
 rw [← hne] at HNE
 have HNN:=mkHid hne
 clear hne
 have FACTS:=mkHid (fun (w1:World) (hb:Below ((wr.alloc (oB (b1,b2))).alloc oZB).heap.size ((wr.alloc (oB (b1,b2))).alloc oZB) w1)=>(⟨((bt HBR.out hb).block v (lt_of_heap HVB.out)).trans HVB.out,box_late ((ba (Below.refl _ (wr.alloc (oB (b1,b2)))) oZB).trans (hb.mono (by simp)))⟩:w1.heap[v]? = some (oV num l ⟨(p1,p2),(a1,a2),c',l'⟩ lv) ∧ w1.heap[wr.heap.size]? = some (oB (b1,b2))))
 cases ne
 ·
  go_enter Tryz.func17,Tryz.ntmps17
  go_wp2_with ((go_at_call 40;(with_reducible refine HRF.out.mono ?_);rintro e w1 ⟨rfl,b1x⟩;have HB1:Hid (Below ((wr.alloc (oB (b1,b2))).alloc oZB).heap.size ((wr.alloc (oB (b1,b2))).alloc oZB) w1):=mkHid b1x;have hz1:w1.heap[wr.heap.size + 1]? = some oZB:=(b1x.block (wr.heap.size + 1) (by simp)).trans (two_of_two wr _ _);have HZ1:=mkHid hz1;clear b1x hz1))
  obtain ⟨z0,z1,z2,z3,z4,z5,z6,z7⟩:=vt_cells (FACTS.out w1 HB1.out).1
  obtain ⟨y0,y1⟩:=two_cells (FACTS.out w1 HB1.out).2
  clear z0 z1 z4 z5 z6 z7
  go_region
  clear z2 z3 y0 y1
  have HBD:Hid (Below ((wr.alloc (oB (b1,b2))).alloc oZB).heap.size ((wr.alloc (oB (b1,b2))).alloc oZB) w1.drew):=mkHid HB1.out.drew
  have HZD:Hid (w1.drew.heap[wr.heap.size + 1]? = some oZB):=mkHid HZ1.out
  generalize w1.drew = w1' at HBD HZD ⊢
  go_wp2_with (first
   |(go_at_call 22;have HN:=VZ.acc (HVS.out.below (bt HBR.out HBD.out));(with_reducible refine HN.mono ?_);clear HN;rintro e w2 ⟨a2x,c2x,qs,rfl,_,_,b2x⟩;have HB2:=mkHid b2x;simp only [vB];have hz2:=(ba b2x (oB (a1,a2))).block (wr.heap.size + 1) (lt_of_heap HZD.out);have HZ2:=mkHid (hz2.trans HZD.out);clear b2x hz2)
   |(refine wpList_store_box rfl 39 (.tmp 4) (.tmp 38) rfl (wr.heap.size + 1) #[.int .i64 a1,.int .i64 a2] rfl rfl 39 _ HZ2.out size2 rfl (one2 _ _) ?_;intro w9 h9 k9))
  have hbf:Below wr.heap.size wr w9:=(bt (bt (bt HBR.out HBD.out) HB2.out) (ba (Below.refl _ w2) (oB (a1,a2)))).trans (k9.below (fun j e=>by omega) (by have:=(bt (bt (bt HBR.out HBD.out) HB2.out) (ba (Below.refl _ w2) (oB (a1,a2)))).size;omega))
  have heq:(b1,b2) = (p1,p2):=by
   have:=HNN.out
   simp at this
   rw [this.1,this.2]
  exact bodyPost_ret (three_leaves rfl h9 _ rfl) rfl ⟨(a1,a2),_,.nilIface,rfl,.inl ⟨rfl,heq⟩,hbf⟩
 ·skip
  go_enter Tryz.func17,Tryz.ntmps17
  go_wp2_with ((go_at_call 40;(with_reducible refine HRF.out.mono ?_);rintro e w1 ⟨rfl,b1x⟩;have HB1:Hid (Below ((wr.alloc (oB (b1,b2))).alloc oZB).heap.size ((wr.alloc (oB (b1,b2))).alloc oZB) w1):=mkHid b1x;have hz1:w1.heap[wr.heap.size + 1]? = some oZB:=(b1x.block (wr.heap.size + 1) (by simp)).trans (two_of_two wr _ _);have HZ1:=mkHid hz1;clear b1x hz1))
  obtain ⟨z0,z1,z2,z3,z4,z5,z6,z7⟩:=vt_cells (FACTS.out w1 HB1.out).1
  obtain ⟨y0,y1⟩:=two_cells (FACTS.out w1 HB1.out).2
  clear z0 z1 z4 z5 z6 z7
  go_region
  clear z2 z3 y0 y1
  have HBD:Hid (Below ((wr.alloc (oB (b1,b2))).alloc oZB).heap.size ((wr.alloc (oB (b1,b2))).alloc oZB) w1.drew):=mkHid HB1.out.drew
  have HZD:Hid (w1.drew.heap[wr.heap.size + 1]? = some oZB):=mkHid HZ1.out
  generalize w1.drew = w1' at HBD HZD ⊢
  obtain ⟨y0,y1⟩:=two_cells (FACTS.out w1' HBD.out).2
  go_wp2_with (first
   |(go_at_call 41;have HN:=writeDown_z (HVS.out.below (bt HBR.out HBD.out)) (.pr (b1,b2)) 1 b1 b2 0 (.slice none 0 0) HBAL.out trivial (fun W a c ps _ _ hps hc=>(behind_pr W ⟨(p1,p2),(a1,a2),c',l'⟩ a ps.length c b1 b2 0 (.slice none 0 0)).mono (fun e w' hp=>⟨a,c,ps,hp.1,hps,.inl ⟨rfl,rfl,rfl⟩,hp.2⟩)) (fun W _=>rbytes_pr W b1 b2 0 (.slice none 0 0) HBAL.out) HE.out;(with_reducible refine HN.mono ?_);clear HN;rintro e w3 ⟨rfl,b3⟩;have HZ3:=mkHid ((b3.block _ (lt_of_heap HZD.out)).trans HZD.out);have HB3:=mkHid (bt (bt HBR.out HBD.out) b3);clear b3)
   |(refine wpList_store_box rfl 39 (.tmp 4) (.tmp 31) rfl (wr.heap.size + 1) #[.int .i64 0,.int .i64 0] rfl rfl 39 _ HZ3.out size2 rfl (one2 _ _) ?_;intro w9 h9 k9))
  exact bodyPost_ret (three_leaves rfl h9 _ rfl) rfl ⟨(0,0),_,_,rfl,.inr ⟨_,rfl⟩,HB3.out.trans (k9.below (fun j e=>by omega) HB3.out.size)⟩
set_option maxHeartbeats 6400000 in
theorem accept_z {w wr:World} {p v n:Nat} {num:Int} {st:Vs} (h:VZ w wr p v num n st) (b:Bl) (qa:Option Addr) (qc:Nat) (qs:List Ep) (hqs:Ens wr (.slice qa qs.length qc) qs) (hqc:qs.length ≤ qc) (eN eB eL eS:Addr) {eX eF:Addr} (heN:w.cell? ⟨1,0,none⟩ = some (vErr eN)) (heB:w.cell? ⟨14,0,none⟩ = some (vErr eB)) (heL:w.cell? ⟨8,0,none⟩ = some (vErr eL)) (heS:w.cell? ⟨15,0,none⟩ = some (vErr eS)) (hZ:ZErr w eX eF) :
  Calls Tryz.prog 18 #[.pointer (some ⟨v,0,none⟩),vB b,.slice qa qs.length qc] wr fun e w'=>∃ x,e = .returned (vErr x) ∧ Below wr.heap.size wr w':=by
 have HVS:=mkHid h
 have hlow:=h.low
 have hL0:=hlow.size
 obtain ⟨l,a,c,ps,hvb,heq⟩:=h.led
 have HVB:=mkHid hvb
 have HEQ:=mkHid heq
 have HOK:=mkHid h.ok
 have HQS:=mkHid hqs
 have HQC:=mkHid hqc
 have hb0:Below wr.heap.size wr (wr.alloc (oB b)):=ba (Below.refl _ wr) _
 have HRF:=mkHid (refused_v (wr.alloc (oB b)) v l num st (.slice a ps.length c) b eN eB (hvb _ hb0).1 (kc heN (bt hlow hb0)) (kc heB (bt hlow hb0)))
 have HE:=mkHid hZ
 have HEL:=mkHid (And.intro (fun W (hW:Below wr.heap.size wr W)=>kc heL (bt hlow hW)) (fun W (hW:Below wr.heap.size wr W)=>kc heS (bt hlow hW)))
 have HL0:=mkHid hL0
 unfold refE at HRF
 obtain ⟨q,hq⟩:∃ q,q = balB b:=⟨_,rfl⟩
 obtain ⟨r,hr⟩:∃ r,r = aboveB st.p b:=⟨_,rfl⟩
 rw [← hq,← hr] at HRF
 have HQ:=mkHid (And.intro hq hr)
 clear h hlow hvb heq hb0 heN heB heL heS hZ hq hr hqs hqc
 obtain ⟨b1,b2⟩:=b
 simp only [vB] at HRF ⊢
 cases q
 case false=>
  go_enter Tryz.func18,Tryz.ntmps18
  go_wp2_with (go_at_call 40;(with_reducible refine HRF.out.mono ?_);rintro e w1 ⟨rfl,b1x⟩;have HB1:Hid (Below (wr.alloc (oB (b1,b2))).heap.size (wr.alloc (oB (b1,b2))) w1):=mkHid b1x;clear b1x)
  go_ret
  exact ⟨eN,rfl,bt (ba (Below.refl _ wr) (oB (b1,b2))) HB1.out⟩
 cases r
 case true=>
  go_enter Tryz.func18,Tryz.ntmps18
  go_wp2_with (go_at_call 40;(with_reducible refine HRF.out.mono ?_);rintro e w1 ⟨rfl,b1x⟩;have HB1:Hid (Below (wr.alloc (oB (b1,b2))).heap.size (wr.alloc (oB (b1,b2))) w1):=mkHid b1x;clear b1x)
  go_ret
  exact ⟨eB,rfl,bt (ba (Below.refl _ wr) (oB (b1,b2))) HB1.out⟩
 have hbal:balF (b1,b2):=balB_iff.mp HQ.out.1.symm
 have HBAL:=mkHid hbal
 clear hbal
 by_cases hlen:64 < qs.length
 case pos=>
  go_enter Tryz.func18,Tryz.ntmps18
  go_wp2_with (first
   |(go_at_call 40;(with_reducible refine HRF.out.mono ?_);rintro e w1 ⟨rfl,b1x⟩;have HB1:Hid (Below (wr.alloc (oB (b1,b2))).heap.size (wr.alloc (oB (b1,b2))) w1):=mkHid b1x;clear b1x)
   |(go_at_call 42;have HN:=write_large w1 (.slice qa qs.length qc) qs eL (HQS.out.below (bt (ba (Below.refl _ wr) (oB (b1,b2))) HB1.out)) hlen (HEL.out.1 w1 (bt (ba (Below.refl _ wr) (oB (b1,b2))) HB1.out));(with_reducible refine HN.mono ?_);clear HN;rintro e w2 ⟨rfl,b2x⟩;have HB2:=mkHid b2x;clear b2x))
  go_ret
  exact ⟨eL,rfl,bt (bt (ba (Below.refl _ wr) (oB (b1,b2))) HB1.out) HB2.out⟩
 by_cases hinF:∀ t ∈ qs,inF t.1
 case neg=>
  go_enter Tryz.func18,Tryz.ntmps18
  go_wp2_with (first
   |(go_at_call 40;(with_reducible refine HRF.out.mono ?_);rintro e w1 ⟨rfl,b1x⟩;have HB1:Hid (Below (wr.alloc (oB (b1,b2))).heap.size (wr.alloc (oB (b1,b2))) w1):=mkHid b1x;clear b1x)
   |(go_at_call 42;have HN:=write_all w1 (.slice qa qs.length qc) qs eS (HQS.out.below (bt (ba (Below.refl _ wr) (oB (b1,b2))) HB1.out)) (by omega) (HEL.out.2 w1 (bt (ba (Below.refl _ wr) (oB (b1,b2))) HB1.out));(with_reducible refine HN.mono ?_);clear HN;rintro e w2 ⟨b2x,(⟨hyes,_⟩ | ⟨_,rfl⟩)⟩ <;> first | exact absurd hyes hinF | skip;have HB2:=mkHid b2x;clear b2x))
  go_ret
  exact ⟨eS,rfl,bt (bt (ba (Below.refl _ wr) (oB (b1,b2))) HB1.out) HB2.out⟩
 have HIN:=mkHid hinF
 have HLE:Hid (ledF (fs1 qs)):=mkHid ⟨by simp [fs1];omega,fs1_inF.mp hinF⟩
 obtain ⟨sk,hsk⟩:∃ sk,sk = firsts st.l (fs1 qs):=⟨_,rfl⟩
 have hskl:=firsts_le st.l (fs1 qs)
 rw [← hsk,show (fs1 qs).length = qs.length by simp [fs1]] at hskl
 obtain ⟨tv',htv,hTE⟩:=HQS.out.tailE HQC.out sk hskl.2 (by omega)
 have hdl:(qs.drop sk).length = qs.length - sk:=List.length_drop
 obtain ⟨ta,tc,rfl⟩:∃ a c,tv' = .slice a (qs.length - sk) c:=by
  obtain ⟨a,c,e,_⟩:=hTE
  exact ⟨a,c,by rw [e,hdl]⟩
 have HSK:=mkHid hsk
 have HTE:=mkHid hTE
 have HTV:=mkHid htv
 have HSKL:=mkHid hskl
 have HDL:=mkHid hdl
 have HOKR:Hid ((acR st (b1,b2) (fs1 qs)).ok ∧ (acR st (b1,b2) (fs1 qs)).fits st):=mkHid (acR_ok HBAL.out HOK.out.l HLE.out)
 have HACR:Hid (acR st (b1,b2) (fs1 qs) = .ac (b1,b2) sk (fs1 (qs.drop sk))):=mkHid (by rw [hsk];unfold acR;simp [fs1,List.map_drop])
 clear hinF hsk hTE htv hdl
 go_enter Tryz.func18,Tryz.ntmps18
 go_wp2_with (first
  |(go_at_call 40;(with_reducible refine HRF.out.mono ?_);rintro e w1 ⟨rfl,b1x⟩;have HB1:Hid (Below (wr.alloc (oB (b1,b2))).heap.size (wr.alloc (oB (b1,b2))) w1):=mkHid b1x;clear b1x)
  |(go_at_call 42;have HN:=write_all w1 (.slice qa qs.length qc) qs eS (HQS.out.below (bt (ba (Below.refl _ wr) (oB (b1,b2))) HB1.out)) (by omega) (HEL.out.2 w1 (bt (ba (Below.refl _ wr) (oB (b1,b2))) HB1.out));(with_reducible refine HN.mono ?_);clear HN;rintro e w2 ⟨b2x,(⟨_,wv,rfl,_⟩ | ⟨hno,_⟩)⟩ <;> first | exact absurd HIN.out hno | skip;have HB2:Hid (Below (wr.alloc (oB (b1,b2))).heap.size (wr.alloc (oB (b1,b2))) w2):=mkHid (bt HB1.out b2x);clear b2x;obtain ⟨x0,x1,x2,x3,x4,x5,x6,x7⟩:=vt_cells (HVB.out w2 (bt (ba (Below.refl _ wr) (oB (b1,b2))) HB2.out)).1;clear x0 x1 x2 x3 x4 x5 x6)
  |(go_at_call 43;have HN:=sameFirst_any w2 (.slice a ps.length c) (.slice qa qs.length qc) ps qs (HVB.out w2 (bt (ba (Below.refl _ wr) (oB (b1,b2))) HB2.out)).2 (HQS.out.below (bt (ba (Below.refl _ wr) (oB (b1,b2))) HB2.out));rw [HEQ.out,← HSK.out] at HN;(with_reducible refine HN.mono ?_);clear HN;rintro e w3 ⟨rfl,b3x⟩;have HB3:Hid (Below (wr.alloc (oB (b1,b2))).heap.size (wr.alloc (oB (b1,b2))) w3):=mkHid (bt HB2.out b3x);clear b3x x7))
 obtain ⟨y0,y1⟩:=two_cells (box_late HB3.out)
 have HBW:Hid (Below wr.heap.size wr w3.drew):=mkHid (bt (ba (Below.refl _ wr) (oB (b1,b2))) HB3.out).drew
 have HBX:Hid (Below (wr.alloc (oB (b1,b2))).heap.size (wr.alloc (oB (b1,b2))) w3.drew):=mkHid HB3.out.drew
 have HHE:Hid (∀ W (a':Option Addr) (c':Nat) (ps':List Ep),Below w3.drew.heap.size w3.drew W → Ens W (.slice a' ps'.length c') ps' → fs1 ps' = st.l → ps'.length ≤ c' → Calls Tryz.prog 73 #[vS st (.slice a' ps'.length c'),vR 2 b1 b2 sk (.slice ta (qs.length - sk) tc)] W (BehP W st (.ac (b1,b2) sk (fs1 (qs.drop sk))) a' c' ps')):=mkHid (fun W a' c' ps' hW hps hpl hpc=>by
  have hpin:∀ t ∈ ps',inF t.1:=fs1_inF.mpr (by rw [hpl];exact HOK.out.l.2)
  have hpk:ps'.length = st.l.length:=by rw [← hpl];simp [fs1]
  have h64:=HOK.out.l.1
  have hs1:=HSKL.out
  have hd1:=HDL.out
  refine (behind_ac W st (.slice a' ps'.length c') (.slice ta (qs.length - sk) tc) ps' (qs.drop sk) b1 b2 sk hps (HTE.out.below (bt HBW.out hW)) hpl (by omega) (by omega) (fun _ _ _ e=>by simp only [Value.slice.injEq] at e;omega) (by omega) (mem_take_drop hpin (fun t ht=>HIN.out t (List.mem_of_mem_drop ht)))).mono (fun e w' hp=>?_)
  obtain ⟨a3,c3,ts,he,hts,hld,hbl⟩:=hp
  exact ⟨a3,c3,ts,he,hts,.inr hld,hbl⟩)
 have HBY:Hid (∀ W,Below w3.drew.heap.size w3.drew W → Calls Tryz.prog 74 #[vR 2 b1 b2 sk (.slice ta (qs.length - sk) tc)] W (BytesP W (bytesR (.ac (b1,b2) sk (fs1 (qs.drop sk)))))):=mkHid (fun W hW=>by
  exact rbytes_ac W b1 b2 sk (.slice ta (qs.length - sk) tc) (qs.drop sk) eS (HTE.out.below (bt HBW.out hW)) (HEL.out.2 W (bt HBW.out hW)) (HACR.out ▸ HOKR.out.1))
 have HWD:=mkHid (writeDown_z (HVS.out.below HBW.out) (.ac (b1,b2) sk (fs1 (qs.drop sk))) 2 b1 b2 sk (.slice ta (qs.length - sk) tc) (HACR.out ▸ HOKR.out.1) (HACR.out ▸ HOKR.out.2) HHE.out HBY.out HE.out)
 refine wp_region_held_drew (S:=fun w'=>w'.cell? ⟨wr.heap.size,0,none⟩ = some (.int .i64 b1) ∧ w'.cell? ⟨wr.heap.size,1,none⟩ = some (.int .i64 b2)) (by kernel_rfl) ⟨y0,y1⟩ (fun hHeld=>?_)
 refine tkE 0 32 (.pointer (some ⟨v,0,none⟩)) rfl rfl hHeld ?_
 (try simp only [List.set_cons_zero,List.set_cons_succ])
 refine tkE 1 33 (.agg #[.int .i64 b1,.int .i64 b2]) rfl rfl hHeld ?_
 (try simp only [List.set_cons_zero,List.set_cons_succ])
 refine tkE 2 34 (.int .i64 (sk:Int)) rfl rfl hHeld ?_
 (try simp only [List.set_cons_zero,List.set_cons_succ])
 refine tkE 3 35 (.slice qa qs.length qc) rfl rfl hHeld ?_
 (try simp only [List.set_cons_zero,List.set_cons_succ])
 refine tkE 4 36 (.int .i64 (sk:Int)) rfl rfl hHeld ?_
 (try simp only [List.set_cons_zero,List.set_cons_succ])
 refine takeD 5 37 (.slice ta (qs.length - sk) tc) rfl rfl (by kernel_rfl) (by kernel_rfl) (by kernel_rfl) (fun _ _ _ h=>h) (Or.inl ⟨by kernel_rfl,by intro w _;exact yields_slice (t:=40) rfl elemEn.1 (by simpa [Act.eval] using HTV.out) w⟩) hHeld ?_
 (try simp only [List.set_cons_zero,List.set_cons_succ])
 refine tkE 6 38 (vR 2 b1 b2 sk (.slice ta (qs.length - sk) tc)) rfl rfl hHeld ?_
 (try simp only [List.set_cons_zero,List.set_cons_succ])
 refine wpAnyH_ready (rs:=[7]) (by kernel_rfl) (by simp) (AllReadyH.cons rfl (fun K hK=>?_) AllReadyH.nil)
 go_simp
 refine HWD.out.mono ?_
 rintro e w9 ⟨rfl,b9⟩
 have HB9:=mkHid b9
 have hbx:=(b9.block _ (lt_of_heap (box_late HBX.out))).trans (box_late HBX.out)
 obtain ⟨u0,u1⟩:=two_cells hbx
 clear hHeld hbx y0 y1 b9
 refine hK.out _ _ ⟨u0,u1⟩ (fun hHeld=>?_)
 clear hK K u0 u1
 (try simp only [Act.put])
 refine tkE 8 6 (vErr eX) rfl rfl hHeld ?_
 (try simp only [List.set_cons_zero,List.set_cons_succ])
 refine wpAnyH_done (by kernel_rfl) ?_ _
 go_wp2
 go_ret
 exact ⟨eX,rfl,bt HBW.out HB9.out⟩
set_option maxHeartbeats 6400000 in
theorem claim_z {w wr:World} {p v n:Nat} {num:Int} {st:Vs} (h:VZ w wr p v num n st) (b:Bl) {eX eF:Addr} (hZ:ZErr w eX eF) :
  Calls Tryz.prog 19 #[.pointer (some ⟨v,0,none⟩),vB b] wr fun e w'=>∃ (z:Bl) (x:Addr),e = .returned (.tuple #[vB z,vErr x]) ∧ Below wr.heap.size wr w':=by
 have HVS:=mkHid h
 have hlow:=h.low
 have hL0:=hlow.size
 obtain ⟨l,a,c,ps,hvb,_⟩:=h.led
 have HVB:=mkHid hvb
 have hcl:=clM_ok h.ok b
 have hcl2:∃ m,m = max st.p.1 st.c ∧ 0 ≤ m ∧ m ≤ 1099511627776 ∧ clM st b = if b.1 ≤ 1099511627776 then max m b.1 else m:=by
  have h1:=h.ok.p.amt.1
  have h2:=h.ok.c
  unfold amt at h1 h2
  exact ⟨_,rfl,by omega,by omega,rfl⟩
 obtain ⟨m,hm,hm0,hm1,hmc⟩:=hcl2
 have HE:=mkHid hZ
 have HEF:=mkHid (fun W (hW:Below wr.heap.size wr W)=>kc hZ.fu (bt hlow hW))
 have HL0:=mkHid hL0
 obtain ⟨⟨p1,p2⟩,⟨a1,a2⟩,c',l'⟩:=st
 obtain ⟨b1,b2⟩:=b
 have HM:=mkHid hm
 have HCL:=mkHid hcl
 simp only at hmc
 have HBD:Hid (Below wr.heap.size wr ((wr.alloc (oB (b1,b2))).alloc oZB).drew):=mkHid (ba (ba (Below.refl _ wr) _) _).drew
 have HZD:Hid (((wr.alloc (oB (b1,b2))).alloc oZB).drew.heap[wr.heap.size + 1]? = some oZB):=mkHid (two_of_two wr _ _)
 have HXD:Hid (((wr.alloc (oB (b1,b2))).alloc oZB).drew.heap[wr.heap.size]? = some (oB (b1,b2))):=mkHid (box_late ((ba (Below.refl _ (wr.alloc (oB (b1,b2)))) oZB).drew))
 have HSZ:Hid (((wr.alloc (oB (b1,b2))).alloc oZB).drew.heap.size = wr.heap.size + 2):=mkHid (by simp)
 obtain ⟨x0,x1,x2,x3,x4,x5,x6,x7⟩:=vt_cells (HVB.out _ (ba (ba (Below.refl _ wr) (oB (b1,b2))) oZB)).1
 clear h hlow hvb hZ x0 x1 x3 x4 x5 x7 hm hcl
 simp only [vB]
 go_enter Tryz.func19,Tryz.ntmps19
 go_wp2
 refine wp_region_held_drew (S:=fun w'=>w'.cell? ⟨v,2,none⟩ = some (.int .i64 p1) ∧ w'.cell? ⟨v,6,none⟩ = some (.int .i64 c')) (by kernel_rfl) ⟨x2,x6⟩ (fun hHeld=>?_)
 refine tkE 0 9 (.pointer (some ⟨v,0,none⟩)) rfl rfl hHeld ?_
 (try simp only [List.set_cons_zero,List.set_cons_succ])
 refine tkE 1 10 (.pointer (some ⟨v,0,none⟩)) rfl rfl hHeld ?_
 (try simp only [List.set_cons_zero,List.set_cons_succ])
 refine tkE 2 11 (.pointer (some ⟨v,2,none⟩)) rfl rfl hHeld ?_
 (try simp only [List.set_cons_zero,List.set_cons_succ])
 refine tkE 3 12 (.pointer (some ⟨v,2,none⟩)) rfl rfl hHeld ?_
 (try simp only [List.set_cons_zero,List.set_cons_succ])
 refine tkE 4 13 (.pointer (some ⟨v,2,none⟩)) rfl rfl hHeld ?_
 (try simp only [List.set_cons_zero,List.set_cons_succ])
 refine tkE 5 14 (.int .i64 p1) rfl rfl hHeld ?_
 (try simp only [List.set_cons_zero,List.set_cons_succ])
 refine tkE 6 15 (.pointer (some ⟨v,0,none⟩)) rfl rfl hHeld ?_
 (try simp only [List.set_cons_zero,List.set_cons_succ])
 refine tkE 7 16 (.pointer (some ⟨v,0,none⟩)) rfl rfl hHeld ?_
 (try simp only [List.set_cons_zero,List.set_cons_succ])
 refine tkE 8 17 (.pointer (some ⟨v,2,none⟩)) rfl rfl hHeld ?_
 (try simp only [List.set_cons_zero,List.set_cons_succ])
 refine tkE 9 18 (.pointer (some ⟨v,6,none⟩)) rfl rfl hHeld ?_
 (try simp only [List.set_cons_zero,List.set_cons_succ])
 refine tkE 10 19 (.int .i64 c') rfl rfl hHeld ?_
 (try simp only [List.set_cons_zero,List.set_cons_succ])
 refine takeD 11 20 (.int .i64 m) rfl rfl (by kernel_rfl) (by kernel_rfl) (by kernel_rfl) (fun _ _ _ h=>h) (Or.inl ⟨by kernel_rfl,by intro w hSw;(try dsimp only at hSw);go_simp;have:=HM.out;omega⟩) hHeld ?_
 (try simp only [List.set_cons_zero,List.set_cons_succ])
 refine tkE 12 6 (.int .i64 m) rfl rfl hHeld ?_
 (try simp only [List.set_cons_zero,List.set_cons_succ])
 refine wpAnyH_done (by kernel_rfl) ?_ _
 clear hHeld x2 x6
 generalize ((wr.alloc (oB (b1,b2))).alloc oZB).drew = W1 at HBD HZD HXD HSZ ⊢
 obtain ⟨y0,y1⟩:=two_cells HXD.out
 obtain ⟨x0,x1,x2,x3,x4,x5,x6,x7⟩:=vt_cells (HVB.out W1 HBD.out).1
 clear y1 x1 x2 x3 x4 x5 x6 x7
 by_cases hA:b1 ≤ 1099511627776
 case neg=>
  rw [if_neg hA] at hmc
  have HB4:Hid (Below wr.heap.size wr (W1.alloc (oB (m + 1,num)))):=mkHid (ba HBD.out (oB (m + 1,num)))
  have HZ4:Hid ((W1.alloc (oB (m + 1,num))).heap[wr.heap.size + 1]? = some oZB):=mkHid ((heap_alloc_old _ _ (by have:=HSZ.out;omega)).trans HZD.out)
  have HO4:Hid ((W1.alloc (oB (m + 1,num))).heap[W1.heap.size]? = some (oB (m + 1,num))):=mkHid (heap_alloc_new _ _)
  by_cases hfull:1099511627776 < m + 1
  ·have hlt:(W1.alloc (oB (m + 1,num))).cell? ⟨2,0,none⟩ = some (vEr eF):=HEF.out _ HB4.out
   have HG2:=mkHid (World.block_lt_of_cell? _ _ (HEF.out wr (Below.refl _ _)))
   go_wp2
   have g2:=hlt
   refine wp_region_held_drew (S:=fun w'=>w'.cell? ⟨2,0,none⟩ = some (vEr eF)) (by kernel_rfl) g2 (fun hHeld=>?_)
   refine tkE 0 38 (.agg #[.int .i64 0,.int .i64 0]) rfl rfl hHeld ?_
   (try simp only [List.set_cons_zero,List.set_cons_succ])
   refine tkE 1 39 (vEr eF) rfl rfl hHeld ?_
   (try simp only [List.set_cons_zero,List.set_cons_succ])
   refine wpAnyH_ready (rs:=[2]) (by kernel_rfl) (by simp) (AllReadyH.cons rfl (fun K hK=>?_) AllReadyH.nil)
   refine step_store_box6 rfl 39 (.tmp 4) (.tmp 38) rfl (wr.heap.size + 1) #[.int .i64 0,.int .i64 0] (by simp [Act.eval]) (by simp [Act.eval]) 39 _ HZ4.out size2 rfl (one2 _ _) ?_
   intro w9 h9 k9
   have g9:=k9.cell g2 (by have:=lt_of_heap HZ4.out;have:=HG2.out;simp;omega)
   refine hK.out _ _ g9 (fun hHeld=>?_)
   clear hK K
   (try simp only [Act.put])
   refine tkE 3 5 (vEr eF) rfl rfl hHeld ?_
   (try simp only [List.set_cons_zero,List.set_cons_succ])
   refine wpAnyH_done (by kernel_rfl) ?_ _
   go_wp2
   exact bodyPost_ret (two_leaves rfl h9 _ rfl) rfl ⟨(0,0),eF,rfl,HB4.out.drew.trans (k9.below (fun j e=>by omega) HB4.out.drew.size)⟩
  ·have HRO:Hid (Vr.ok (.cl (m + 1))):=mkHid (by show 1 ≤ m + 1 ∧ m + 1 ≤ 1099511627776;omega)
   go_wp2_with (first
    |(go_at_call 41;have HN:=writeDown_z (HVS.out.below HB4.out) (.cl (m + 1)) 3 (m + 1) num 0 (.slice none 0 0) HRO.out trivial (fun W a c ps _ _ hps hc=>(behind_cl W ⟨(p1,p2),(a1,a2),c',l'⟩ a ps.length c (m + 1) num 0 (.slice none 0 0)).mono (fun e w' hp=>⟨a,c,ps,hp.1,hps,.inl ⟨rfl,rfl,rfl⟩,hp.2⟩)) (fun W _=>rbytes_cl W (m + 1) num 0 (.slice none 0 0) HRO.out) HE.out;(with_reducible refine HN.mono ?_);clear HN;rintro e w5 ⟨rfl,b5⟩;have HZ5:=mkHid ((b5.block _ (lt_of_heap HZ4.out)).trans HZ4.out);have HB5:=mkHid (bt HB4.out b5);clear b5)
    |(refine wpList_store_box rfl 39 (.tmp 4) (.tmp 46) rfl (wr.heap.size + 1) #[.int .i64 0,.int .i64 0] rfl rfl 39 _ HZ5.out size2 rfl (one2 _ _) ?_;intro w9 h9 k9))
   exact bodyPost_ret (two_leaves rfl h9 _ rfl) rfl ⟨(0,0),eX,rfl,HB5.out.trans (k9.below (fun j e=>by omega) HB5.out.size)⟩
 rw [if_pos hA] at hmc
 obtain ⟨mm,hmax⟩:∃ mm,max m b1 = mm:=⟨_,rfl⟩
 rw [hmax] at hmc
 have hmm:0 ≤ mm ∧ mm ≤ 1099511627776:=by omega
 have HB4:Hid (Below wr.heap.size wr (W1.alloc (oB (mm + 1,num)))):=mkHid (ba HBD.out (oB (mm + 1,num)))
 have HZ4:Hid ((W1.alloc (oB (mm + 1,num))).heap[wr.heap.size + 1]? = some oZB):=mkHid ((heap_alloc_old _ _ (by have:=HSZ.out;omega)).trans HZD.out)
 have HO4:Hid ((W1.alloc (oB (mm + 1,num))).heap[W1.heap.size]? = some (oB (mm + 1,num))):=mkHid (heap_alloc_new _ _)
 by_cases hfull:1099511627776 < mm + 1
 ·have hlt:(W1.alloc (oB (mm + 1,num))).cell? ⟨2,0,none⟩ = some (vEr eF):=HEF.out _ HB4.out
  have HG2:=mkHid (World.block_lt_of_cell? _ _ (HEF.out wr (Below.refl _ _)))
  go_wp2
  have g2:=hlt
  refine wp_region_held_drew (S:=fun w'=>w'.cell? ⟨2,0,none⟩ = some (vEr eF)) (by kernel_rfl) g2 (fun hHeld=>?_)
  refine tkE 0 38 (.agg #[.int .i64 0,.int .i64 0]) rfl rfl hHeld ?_
  (try simp only [List.set_cons_zero,List.set_cons_succ])
  refine tkE 1 39 (vEr eF) rfl rfl hHeld ?_
  (try simp only [List.set_cons_zero,List.set_cons_succ])
  refine wpAnyH_ready (rs:=[2]) (by kernel_rfl) (by simp) (AllReadyH.cons rfl (fun K hK=>?_) AllReadyH.nil)
  refine step_store_box6 rfl 39 (.tmp 4) (.tmp 38) rfl (wr.heap.size + 1) #[.int .i64 0,.int .i64 0] (by simp [Act.eval]) (by simp [Act.eval]) 39 _ HZ4.out size2 rfl (one2 _ _) ?_
  intro w9 h9 k9
  have g9:=k9.cell g2 (by have:=lt_of_heap HZ4.out;have:=HG2.out;simp;omega)
  refine hK.out _ _ g9 (fun hHeld=>?_)
  clear hK K
  (try simp only [Act.put])
  refine tkE 3 5 (vEr eF) rfl rfl hHeld ?_
  (try simp only [List.set_cons_zero,List.set_cons_succ])
  refine wpAnyH_done (by kernel_rfl) ?_ _
  go_wp2
  exact bodyPost_ret (two_leaves rfl h9 _ rfl) rfl ⟨(0,0),eF,rfl,HB4.out.drew.trans (k9.below (fun j e=>by omega) HB4.out.drew.size)⟩
 ·have HRO:Hid (Vr.ok (.cl (mm + 1))):=mkHid (by show 1 ≤ mm + 1 ∧ mm + 1 ≤ 1099511627776;omega)
  go_wp2_with (first
   |(go_at_call 41;have HN:=writeDown_z (HVS.out.below HB4.out) (.cl (mm + 1)) 3 (mm + 1) num 0 (.slice none 0 0) HRO.out trivial (fun W a c ps _ _ hps hc=>(behind_cl W ⟨(p1,p2),(a1,a2),c',l'⟩ a ps.length c (mm + 1) num 0 (.slice none 0 0)).mono (fun e w' hp=>⟨a,c,ps,hp.1,hps,.inl ⟨rfl,rfl,rfl⟩,hp.2⟩)) (fun W _=>rbytes_cl W (mm + 1) num 0 (.slice none 0 0) HRO.out) HE.out;(with_reducible refine HN.mono ?_);clear HN;rintro e w5 ⟨rfl,b5⟩;have HZ5:=mkHid ((b5.block _ (lt_of_heap HZ4.out)).trans HZ4.out);have HB5:=mkHid (bt HB4.out b5);clear b5)
   |(refine wpList_store_box rfl 39 (.tmp 4) (.tmp 46) rfl (wr.heap.size + 1) #[.int .i64 0,.int .i64 0] rfl rfl 39 _ HZ5.out size2 rfl (one2 _ _) ?_;intro w9 h9 k9))
  exact bodyPost_ret (two_leaves rfl h9 _ rfl) rfl ⟨(0,0),eX,rfl,HB5.out.trans (k9.below (fun j e=>by omega) HB5.out.size)⟩
theorem wopen_lost {F:Nat → Prop} {w:World} {p n:Nat} {nw:Int} (hD:Dk F w p (n:Int) (fun _=>zeros) [] nw true) (hn:4 ≤ n) (ev:Addr) (he:w.cell? ⟨0,0,none⟩ = some (vErr ev)) :
  Calls Tryz.prog 45 #[.pointer (some ⟨p,0,none⟩)] w fun e w'=>(∃ a b c,e = .returned (.tuple #[a,b,c,vErr ev])) ∧ Below w.heap.size w w':=by
 have HS:=mkHid (small_is F w p n _ _ nw true hD)
 have HL:=mkHid (lost_is F w p n _ _ nw true hD)
 have hdn:(decide ((n:Int) < 4)) = false:=by simp;omega
 rw [hdn] at HS
 clear hD hdn
 go_enter Tryz.func45,Tryz.ntmps45
 go_wp2_with (first
  |(go_at_call 64;(with_reducible refine HS.out.mono ?_);rintro e w1 ⟨rfl,hw⟩;obtain rfl:=hw.symm)
  |(go_at_call 79;(with_reducible refine HL.out.mono ?_);rintro e w2 ⟨rfl,hw⟩;obtain rfl:=hw.symm))
 go_region
 go_wp2
 refine bodyPost_ret (ret4 Tryz.results45 _ _ _) rfl ⟨⟨_,_,_,rfl⟩,(Below.refl _ _).drew⟩
theorem open_z {w wr:World} {p v n:Nat} {num:Int} {st:Vs} (h:VZ w wr p v num n st) (hn:4 ≤ n) (num':Int) (hnum:nodeF num') {eX eF:Addr} (hZ:ZErr w eX eF) :
  Calls Tryz.prog 21 #[.pointer (some ⟨p,0,none⟩),.int .i64 num'] wr fun e w'=>(∃ a,e = .returned (.tuple #[a,vErr eX])) ∧ Below wr.heap.size wr w':=by
 have hz:=hZ.below h.low
 obtain ⟨BL,l,a,c,ps,F,fr,en,nx,ep,rv,nw,hx,hl,hd,_⟩:=h
 have HO:=mkHid (wopen_lost hd hn eX hz.lo)
 have HNB:=mkHid (isNumber_any wr num')
 rw [nodeB_iff.mpr hnum] at HNB
 clear hx hl hd hz hZ hnum
 go_enter Tryz.func21,Tryz.ntmps21
 go_wp2_with (first
  |(go_at_call 37;(with_reducible refine HNB.out.mono ?_);rintro e w1 ⟨rfl,hw⟩;obtain rfl:=hw.symm)
  |(go_at_call 45;(with_reducible refine HO.out.mono ?_);rintro e w2 ⟨⟨z1,z2,z3,rfl⟩,b2⟩;have HB2:=mkHid b2;clear b2))
 go_ret2
 exact ⟨⟨_,rfl⟩,HB2.out⟩
def LI (w wr:World) (p v j:Nat):Prop:=∃ B st m,VE B w wr p v 0 1024 511 st m ∧ m ≤ j ∧ m ≤ 60
theorem prepare_d {B:Nat → Prop} {w wr:World} {p v n s j:Nat} {num:Int} {st:Vs} (h:VE B w wr p v num n s st j) (b:Bl) (hn:(n:Int) ≤ 1024) (hj:j ≤ 400) {eN eB eL eS eF eM eY:Addr} (hE:VErrs w eN eB eL eS eF eM eY) :
  Calls Tryz.prog 17 #[.pointer (some ⟨v,0,none⟩),vB b] wr fun e w'=>(∃ z y ev,e = .returned (.tuple #[vB z,y,ev])) ∧ ∃ B' st',VE B' w w' p v num n s st' (j + 1) ∧ Lft B B' wr w':=by
 refine (prepare_k h b hn hj hE).mono ?_
 rintro e w' ⟨B',st',h1,h2,⟨z,y,x,rfl,_⟩ | ⟨z,y,rfl,_⟩⟩
 ·exact ⟨⟨z,y,_,rfl⟩,B',st',h1,h2⟩
 ·exact ⟨⟨z,y,_,rfl⟩,B',st',h1,h2⟩
theorem accept_d {B:Nat → Prop} {w wr:World} {p v n s j:Nat} {num:Int} {st:Vs} (h:VE B w wr p v num n s st j) (b:Bl) (qa:Option Addr) (qc:Nat) (qs:List Ep) (hqs:Ens wr (.slice qa qs.length qc) qs) (hqc:qs.length ≤ qc) (hn:(n:Int) ≤ 1024) (hj:j ≤ 400) {eN eB eL eS eF eM eY:Addr} (hE:VErrs w eN eB eL eS eF eM eY) :
  Calls Tryz.prog 18 #[.pointer (some ⟨v,0,none⟩),vB b,.slice qa qs.length qc] wr fun e w'=>(∃ ev,e = .returned ev) ∧ ∃ B' st',VE B' w w' p v num n s st' (j + 1) ∧ Lft B B' wr w':=by
 refine (accept_k h b qa qc qs hqs hqc hn hj hE).mono ?_
 rintro e w' ⟨B',st',h1,h2,⟨x,rfl,_⟩ | ⟨rfl,_⟩⟩
 ·exact ⟨⟨_,rfl⟩,B',st',h1,h2⟩
 ·exact ⟨⟨_,rfl⟩,B',st',h1,h2⟩
structure ZI (w wr:World) (p v x y:Nat) (la:Option Addr) (lc:Nat) (qs:List Ep) (st:Vs):Prop where
 vz:VZ w wr p v 0 1024 st
 bx:wr.heap[x]? = some (oB st.p)
 by':wr.heap[y]? = some (oB st.a)
 en:Ens wr (.slice la qs.length lc) qs
 fs:fs1 qs = st.l
theorem ZI.below {w wr w':World} {p v x y:Nat} {la:Option Addr} {lc:Nat} {qs:List Ep} {st:Vs} (h:ZI w wr p v x y la lc qs st) (hb:Below wr.heap.size wr w'):ZI w w' p v x y la lc qs st:=
 ⟨h.vz.below hb,(hb.block x (lt_of_heap h.bx)).trans h.bx,(hb.block y (lt_of_heap h.by')).trans h.by',h.en.below hb,h.fs⟩
theorem ZI.low {w wr:World} {p v x y:Nat} {la:Option Addr} {lc:Nat} {qs:List Ep} {st:Vs} (h:ZI w wr p v x y la lc qs st):Below w.heap.size w wr:=h.vz.low
set_option maxHeartbeats 25600000 in
theorem lost_walk (w:World) (sa:Option Addr) (sc:Nat) (os:List O18) (hs:Scr w (.slice sa os.length sc) os) (ta:Option Addr) (tc:Nat) (ls:List O18) (hl:Scr w (.slice ta ls.length tc) ls) (eN eB eL eS eF eM eY eX:Addr) (hE:VErrs w eN eB eL eS eF eM eY) (hZ:ZErr w eX eF) (heq:∀ W,(binOp .eql 26 (vErr eX) (vErr eX)).run Tryz.prog W = .ok (.bool true) W) :
  Calls Tryz.prog 6 #[.slice sa os.length sc,.slice ta ls.length tc] w fun e w'=>e = .returned (.bool true) ∧ Below w.heap.size w w':=by
 have HS:=mkHid hs
 have HT:=mkHid hl
 have HG:=mkHid hE
 have HZ:=mkHid hZ
 have hol:(os.length:Int) ≤ 9223372036854775807:=by have:=hs.sz;omega
 have hll:(ls.length:Int) ≤ 9223372036854775807:=by have:=hl.sz;omega
 clear hs hl hE hZ
 go_enter Tryz.func6,Tryz.ntmps6
 go_wp2_with (first
  |(go_at_call 8;(refine (valive _ eN eB eL eS eF eM eY HG.out).mono ?_);rintro e w1 ⟨rfl,b1x⟩;have HB1:=mkHid b1x;clear b1x)
  |(go_at_call 9;refine (dnew_ok _ 1024 (by omega) (by omega)).mono ?_;rintro e w2 ⟨p,F1,rfl,hD1,hF1,hb1⟩;have HD1:=mkHid (And.intro hD1 (And.intro (fun k e=>Nat.le_trans HB1.out.size (hF1 k e)) (bt HB1.out hb1)));clear hD1 hF1 hb1)
  |(go_at_call 16;have HN:=format_k HD1.out.1 HD1.out.2.2 HD1.out.2.1 (n:=1024) (s:=511) (by omega) (by omega) (by omega) 0 ⟨by omega,by omega⟩ HG.out;(with_reducible refine HN.mono ?_);clear HN;rintro e w4 ⟨v,B1,rfl,s4,l4⟩;have HQ0:Hid (LI w w4 p v 0):=mkHid ⟨B1,st0,0,s4,by omega,by omega⟩;clear s4 l4))
 clear HB1 HD1
 go_loopw [48] (fun iv wr=>∃ j:Nat,iv = .int .i64 (j:Int) ∧ j ≤ os.length ∧ Hid (LI w wr p v j)) (fun iv _=>os.length - (intOf iv).toNat)
 case atStart=>exact ⟨0,rfl,Nat.zero_le _,HQ0⟩
 case round=>
  clear HQ0
  obtain ⟨j,rfl,hj,HI⟩:=hrel
  obtain ⟨B,st,m,hq,hm,hm2⟩:=HI.out
  have HQ0:=mkHid hq
  clear hq HI
  by_cases hlt:j < os.length
  ·obtain ⟨g,off,o,rfl,ho,hat⟩:=HS.out.row.at HQ0.out.low j hlt
   have HIN:=mkHid (HS.out.ins o (List.mem_of_getElem? ho))
   obtain ⟨kd,tn,kp,⟨b1,b2⟩,qa,qc,ps⟩:=o
   have y0:=hat 0 _ (by omega) rfl
   have y1:=hat 1 _ (by omega) rfl
   have y2:=hat 2 _ (by omega) rfl
   have y3:=hat 3 _ (by omega) rfl
   have y4:=hat 4 _ (by omega) rfl
   have y5:=hat 5 _ (by omega) rfl
   simp only [Nat.add_zero] at y0 y1 y2 y3 y4 y5
   have hji:(j:Int) < (os.length:Int):=by omega
   clear hat ho
   have HQ:Hid (VE B w (wr.alloc (oOp kd tn kp b1 b2 qa ps.length qc)) p v 0 1024 511 st m):=mkHid (HQ0.out.below (ba (Below.refl _ wr) _))
   have HO:Hid ((wr.alloc (oOp kd tn kp b1 b2 qa ps.length qc)).heap[wr.heap.size]? = some (oOp kd tn kp b1 b2 qa ps.length qc)):=mkHid (heap_alloc_new wr _)
   have HNO:Hid (¬ B wr.heap.size):=mkHid (fun e=>by have:=(HQ0.out.lt _ e).2;omega)
   by_cases h60:(j:Int) < 60
   case neg=>
    clear HQ0
    go_wp2
    go_roundw
    case rel=>exact ⟨j + 1,by go_num,by omega,mkHid ⟨B,st,m,HQ.out,by omega,by omega⟩⟩
    case measure=>simp [intOf];omega
   have hk:kd = 1 ∨ kd = 2 ∨ ((kd == 1) = false ∧ (kd == 2) = false):=by simp;omega
   rcases hk with rfl | rfl | ⟨h1,h2⟩
   ·clear HQ0
    go_wp2_with (go_at_call 17;have HN:=prepare_d HQ.out (b1,b2) (by omega) (by omega) HG.out;(with_reducible refine HN.mono ?_);clear HN;rintro e w1 ⟨⟨z,y,ev,rfl⟩,B',st',v1,l1⟩;have H1:=mkHid v1;obtain ⟨o0,o1,o2,o3,o4,o5⟩:=op_cells ((l1.kp.block _ (lt_of_heap HO.out) HNO.out).trans HO.out);clear o1 o2 o3 o4 o5 v1 l1)
    go_roundw
    case rel=>exact ⟨j + 1,by go_num,by omega,mkHid ⟨B',st',m + 1,H1.out,by omega,by omega⟩⟩
    case measure=>simp [intOf];omega
   ·clear HQ0
    go_wp2_with (go_at_call 18;have HN:=accept_d HQ.out (b1,b2) qa qc ps (HIN.out.en.below HQ.out.low) HIN.out.lc (by omega) (by omega) HG.out;(with_reducible refine HN.mono ?_);clear HN;rintro e w1 ⟨⟨ev,rfl⟩,B',st',v1,l1⟩;have H1:=mkHid v1;clear v1 l1)
    go_roundw
    case rel=>exact ⟨j + 1,by go_num,by omega,mkHid ⟨B',st',m + 1,H1.out,by omega,by omega⟩⟩
    case measure=>simp [intOf];omega
   ·clear HQ0
    go_wp2
    go_roundw
    case rel=>exact ⟨j + 1,by go_num,by omega,mkHid ⟨B,st,m,HQ.out,by omega,by omega⟩⟩
    case measure=>simp [intOf];omega
  ·obtain rfl:j = os.length:=by omega
   clear HS hol
   obtain ⟨⟨p1,p2⟩,⟨a1,a2⟩,c',l'⟩:=st
   go_wp2_with (first
    |(go_at_call 23;have HN:=HQ0.out.pro;(with_reducible refine HN.mono ?_);clear HN;rintro e w1 ⟨rfl,b1⟩;have H1:=mkHid (HQ0.out.below (ba b1 (oB (p1,p2))));have HX1:=mkHid (heap_alloc_new w1 (oB (p1,p2)));have HE1:=mkHid (fun q hq=>Nat.lt_of_lt_of_le (HQ0.out.lt q hq).2 b1.size);clear b1)
    |(go_at_call 22;have HN:=H1.out.acc;(with_reducible refine HN.mono ?_);clear HN;rintro e w2 ⟨qa,qc,qs,rfl,l2,f2,b2⟩;have H2:=mkHid (H1.out.below (ba b2 (oB (a1,a2))));have HX2:Hid ((w2.alloc (oB (a1,a2))).heap[w1.heap.size]? = some (oB (p1,p2))):=mkHid (((ba b2 (oB (a1,a2))).block _ (lt_of_heap HX1.out)).trans HX1.out);have HY2:=mkHid (heap_alloc_new w2 (oB (a1,a2)));have HL2:=mkHid (And.intro (l2.below (ba (Below.refl _ w2) (oB (a1,a2)))) f2);have HS2:=mkHid b2.size;clear l2 f2 b2)
    |(go_at_call 25;have HN:=lose_v H2.out;(with_reducible refine HN.mono ?_);clear HN;rintro e w3 ⟨rfl,z3,k3⟩;have HZ0:Hid (ZI w w3 p v w1.heap.size w2.heap.size qa qc qs ⟨(p1,p2),(a1,a2),c',l'⟩):=mkHid ⟨z3,(k3.block _ (lt_of_heap HX2.out) (fun e=>by have:=HE1.out _ e;omega)).trans HX2.out,(k3.block _ (lt_of_heap HY2.out) (fun e=>by have:=HE1.out _ e;have:=HS2.out;simp at this;omega)).trans HY2.out,(HL2.out.1.kept' k3 (fun q hq e=>(by have h1:=(HL2.out.1.lbk q hq).1;have h2:=HE1.out q e;simp at h1;omega))).ens' HL2.out.2 H2.out.ok,HL2.out.2⟩;clear z3 k3))
   clear H1 H2 HX1 HX2 HY2 HL2 HE1 HS2 HQ0
   generalize w1.heap.size = x at HZ0 ⊢
   generalize w2.heap.size = y at HZ0 ⊢
   go_loopw [89] (fun iv wr=>∃ j:Nat,iv = .int .i64 (j:Int) ∧ j ≤ ls.length ∧ j ≤ 61 ∧ Hid (ZI w wr p v x y qa qc qs ⟨(p1,p2),(a1,a2),c',l'⟩)) (fun iv _=>ls.length - (intOf iv).toNat)
   case atStart=>exact ⟨0,rfl,Nat.zero_le _,by omega,HZ0⟩
   case round=>
    clear HZ0
    obtain ⟨j,rfl,hj,hj61,HI⟩:=hrel
    by_cases hlt:j < ls.length
    ·obtain ⟨g,off,o,rfl,ho,hat⟩:=HT.out.row.at HI.out.low j hlt
     have HIN:=mkHid (HT.out.ins o (List.mem_of_getElem? ho))
     obtain ⟨kd,tn,kp,⟨b1,b2⟩,ra,rc,ps⟩:=o
     have y0:=hat 0 _ (by omega) rfl
     have y1:=hat 1 _ (by omega) rfl
     have y2:=hat 2 _ (by omega) rfl
     have y3:=hat 3 _ (by omega) rfl
     have y4:=hat 4 _ (by omega) rfl
     have y5:=hat 5 _ (by omega) rfl
     simp only [Nat.add_zero] at y0 y1 y2 y3 y4 y5
     have hji:(j:Int) < (ls.length:Int):=by omega
     clear hat ho
     have HW:Hid (ZI w (wr.alloc (oOp kd tn kp b1 b2 ra ps.length rc)) p v x y qa qc qs ⟨(p1,p2),(a1,a2),c',l'⟩):=mkHid (HI.out.below (ba (Below.refl _ wr) _))
     have HO:Hid ((wr.alloc (oOp kd tn kp b1 b2 ra ps.length rc)).heap[wr.heap.size]? = some (oOp kd tn kp b1 b2 ra ps.length rc)):=mkHid (heap_alloc_new wr _)
     clear HI
     by_cases h60:(60:Int) < (j:Int)
     ·go_wp2_with (go_at_call 21;have HN:=open_z HW.out.vz (by omega) 0 ⟨by omega,by omega⟩ HZ.out;(with_reducible refine HN.mono ?_);clear HN;rintro e w9 ⟨⟨a9,rfl⟩,b9⟩;have HB9:=mkHid b9;have g9:=(HZ.out.below (bt HW.out.low b9)).lo;have heq9:=heq;clear b9)
      go_ret
      exact ⟨rfl,bt HW.out.low HB9.out⟩
     go_wp2_with (first
      |(go_at_call 17;have HN:=prepare_z HW.out.vz (b1,b2) eN eB HG.out.nu HG.out.ba HZ.out;(with_reducible refine HN.mono ?_);clear HN;rintro e w1 ⟨z1,yy1,ev,rfl,hev,b1x⟩;have HB1:=mkHid (ba b1x (oB z1));have HEV:=mkHid hev;have hz1:=((ba b1x (oB z1)).block _ (lt_of_heap HO.out)).trans HO.out;obtain ⟨o0,o1,o2,o3,o4,o5⟩:=op_cells hz1;clear o0 o1 o2 hz1 b1x hev)
      |(go_at_call 18;have HN:=accept_z (HW.out.vz.below HB1.out) (b1,b2) ra rc ps (HIN.out.en.below (bt HW.out.low HB1.out)) HIN.out.lc eN eB eL eS HG.out.nu HG.out.ba HG.out.la HG.out.st HZ.out;(with_reducible refine HN.mono ?_);clear HN;rintro e w2 ⟨e2,rfl,b2x⟩;have HB2:=mkHid (bt HB1.out b2x);have hz1:=(HB2.out.block _ (lt_of_heap HO.out)).trans HO.out;clear o3 o4 o5 b2x;obtain ⟨o0,o1,o2,o3,o4,o5⟩:=op_cells hz1;clear o0 o1 o2 o5 hz1)
      |(go_at_call 19;have HN:=claim_z (HW.out.vz.below HB2.out) (b1,b2) HZ.out;(with_reducible refine HN.mono ?_);clear HN;rintro e w3 ⟨z3,e3,rfl,b3x⟩;have HB3:=mkHid (ba (bt HB2.out b3x) (oB z3));clear o3 o4 b3x)
      |(go_at_call 22;have HN:=(HW.out.vz.below HB3.out).acc;(with_reducible refine HN.mono ?_);clear HN;rintro e w4 ⟨ra4,rc4,q4,rfl,l4,f4,b4x⟩;have HB4:=mkHid (ba (bt HB3.out b4x) (oB (a1,a2)));have HV4:=mkHid (heap_alloc_new w4 (oB (a1,a2)));have HL4:=mkHid (And.intro ((l4.below (ba (Below.refl _ w4) (oB (a1,a2)))).ens' f4 HW.out.vz.ok) f4);clear l4 f4 b4x))
     have HPR:=mkHid (fun W (hW:Below (wr.alloc (oOp kd tn kp b1 b2 ra ps.length rc)).heap.size (wr.alloc (oOp kd tn kp b1 b2 ra ps.length rc)) W)=>(HW.out.vz.below hW).pro)
     have HSM:=mkHid (fun W (hW:Below (w4.alloc (oB (a1,a2))).heap.size (w4.alloc (oB (a1,a2))) W)=>sameL_yes W (.slice qa qs.length qc) (.slice ra4 q4.length rc4) qs q4 (HW.out.en.below (bt HB4.out hW)) (HL4.out.1.below hW) (HW.out.fs.trans HL4.out.2.symm))
     have hnp:=fun W=>neq_same W p1 p2
     have hna:=fun W=>neq_same W a1 a2
     obtain ⟨x0,x1⟩:=two_cells ((HB4.out.block _ (lt_of_heap HW.out.bx)).trans HW.out.bx)
     obtain ⟨v0,v1⟩:=two_cells ((HB4.out.block _ (lt_of_heap HW.out.by')).trans HW.out.by')
     obtain ⟨u0,u1⟩:=two_cells HV4.out
     obtain ⟨o0,o1,o2,o3,o4,o5⟩:=op_cells ((HB4.out.block _ (lt_of_heap HO.out)).trans HO.out)
     clear o0 o1 o2 o5 y0 y1 y2 y3 y4 y5
     rcases HEV.out with ⟨rfl,hbp⟩ | ⟨ex,rfl⟩
     ·simp only [Prod.mk.injEq] at hbp
      obtain ⟨rfl,rfl⟩:=hbp
      have HB4d:Hid (Below (w4.alloc (oB (a1,a2))).heap.size (w4.alloc (oB (a1,a2))) (w4.alloc (oB (a1,a2))).drew):=mkHid (Below.refl _ _).drew
      refine wp_region_held_drew (S:=fun w'=>w'.cell? ⟨x,0,none⟩ = some (.int .i64 b1) ∧ w'.cell? ⟨x,1,none⟩ = some (.int .i64 b2) ∧ w'.cell? ⟨y,0,none⟩ = some (.int .i64 a1) ∧ w'.cell? ⟨y,1,none⟩ = some (.int .i64 a2) ∧ w'.cell? ⟨w4.heap.size,0,none⟩ = some (.int .i64 a1) ∧ w'.cell? ⟨w4.heap.size,1,none⟩ = some (.int .i64 a2) ∧ w'.cell? ⟨wr.heap.size,3,none⟩ = some (.int .i64 b1) ∧ w'.cell? ⟨wr.heap.size,4,none⟩ = some (.int .i64 b2)) (by kernel_rfl) ⟨x0,x1,v0,v1,u0,u1,o3,o4⟩ (fun hHeld=>?_)
      refine tkE 0 122 (.nilIface) rfl rfl hHeld ?_
      (try simp only [List.set_cons_zero,List.set_cons_succ])
      refine tkE 1 123 (.bool true) rfl rfl hHeld ?_
      (try simp only [List.set_cons_zero,List.set_cons_succ])
      refine tkE 2 124 (.bool true) rfl rfl hHeld ?_
      (try simp only [List.set_cons_zero,List.set_cons_succ])
      refine tkE 3 125 (.pointer (some ⟨wr.heap.size,3,none⟩)) rfl rfl hHeld ?_
      (try simp only [List.set_cons_zero,List.set_cons_succ])
      refine tkE 4 126 (.agg #[.int .i64 b1,.int .i64 b2]) rfl rfl hHeld ?_
      (try simp only [List.set_cons_zero,List.set_cons_succ])
      refine tkE 5 127 (.agg #[.int .i64 b1,.int .i64 b2]) rfl rfl hHeld ?_
      (try simp only [List.set_cons_zero,List.set_cons_succ])
      refine tkE 6 128 (.bool false) rfl rfl hHeld ?_
      (try simp only [List.set_cons_zero,List.set_cons_succ])
      refine tkE 7 129 (.bool false) rfl rfl hHeld ?_
      (try simp only [List.set_cons_zero,List.set_cons_succ])
      refine tkE 8 130 (.bool false) rfl rfl hHeld ?_
      (try simp only [List.set_cons_zero,List.set_cons_succ])
      refine tkE 9 131 (vErr e2) rfl rfl hHeld ?_
      (try simp only [List.set_cons_zero,List.set_cons_succ])
      refine tkE 10 132 (.bool false) rfl rfl hHeld ?_
      (try simp only [List.set_cons_zero,List.set_cons_succ])
      refine tkE 11 133 (.bool false) rfl rfl hHeld ?_
      (try simp only [List.set_cons_zero,List.set_cons_succ])
      refine tkE 12 134 (.bool false) rfl rfl hHeld ?_
      (try simp only [List.set_cons_zero,List.set_cons_succ])
      refine tkE 13 135 (vErr e3) rfl rfl hHeld ?_
      (try simp only [List.set_cons_zero,List.set_cons_succ])
      refine tkE 14 136 (.bool false) rfl rfl hHeld ?_
      (try simp only [List.set_cons_zero,List.set_cons_succ])
      refine tkE 15 137 (.bool false) rfl rfl hHeld ?_
      (try simp only [List.set_cons_zero,List.set_cons_succ])
      refine tkE 16 138 (.bool false) rfl rfl hHeld ?_
      (try simp only [List.set_cons_zero,List.set_cons_succ])
      refine tkE 17 139 (.pointer (some ⟨v,0,none⟩)) rfl rfl hHeld ?_
      (try simp only [List.set_cons_zero,List.set_cons_succ])
      refine tkE 19 141 (.agg #[.int .i64 b1,.int .i64 b2]) rfl rfl hHeld ?_
      (try simp only [List.set_cons_zero,List.set_cons_succ])
      refine wpAnyH_ready (rs:=[18]) (by kernel_rfl) (by simp) (AllReadyH.cons rfl (fun K hK=>?_) AllReadyH.nil)
      go_simp
      refine (HPR.out _ (bt HB4.out HB4d.out)).mono ?_
      rintro e w5 ⟨rfl,bw5⟩
      have fw5_0:w5.cell? ⟨x,0,none⟩ = some (.int .i64 b1):=kc (show (w4.alloc (oB (a1,a2))).drew.cell? _ = _ from x0) bw5
      have fw5_1:w5.cell? ⟨x,1,none⟩ = some (.int .i64 b2):=kc (show (w4.alloc (oB (a1,a2))).drew.cell? _ = _ from x1) bw5
      have fw5_2:w5.cell? ⟨y,0,none⟩ = some (.int .i64 a1):=kc (show (w4.alloc (oB (a1,a2))).drew.cell? _ = _ from v0) bw5
      have fw5_3:w5.cell? ⟨y,1,none⟩ = some (.int .i64 a2):=kc (show (w4.alloc (oB (a1,a2))).drew.cell? _ = _ from v1) bw5
      have fw5_4:w5.cell? ⟨w4.heap.size,0,none⟩ = some (.int .i64 a1):=kc (show (w4.alloc (oB (a1,a2))).drew.cell? _ = _ from u0) bw5
      have fw5_5:w5.cell? ⟨w4.heap.size,1,none⟩ = some (.int .i64 a2):=kc (show (w4.alloc (oB (a1,a2))).drew.cell? _ = _ from u1) bw5
      have fw5_6:w5.cell? ⟨wr.heap.size,3,none⟩ = some (.int .i64 b1):=kc (show (w4.alloc (oB (a1,a2))).drew.cell? _ = _ from o3) bw5
      have fw5_7:w5.cell? ⟨wr.heap.size,4,none⟩ = some (.int .i64 b2):=kc (show (w4.alloc (oB (a1,a2))).drew.cell? _ = _ from o4) bw5
      have HB5:=mkHid (bt HB4d.out bw5)
      clear bw5 hHeld x0 x1 v0 v1 u0 u1 o3 o4
      refine hK.out _ _ ⟨fw5_0,fw5_1,fw5_2,fw5_3,fw5_4,fw5_5,fw5_6,fw5_7⟩ (fun hHeld=>?_)
      clear hK K
      (try dsimp only)
      refine tkE 20 142 (.bool false) rfl rfl hHeld ?_
      (try simp only [List.set_cons_zero,List.set_cons_succ])
      refine tkE 21 143 (.bool false) rfl rfl hHeld ?_
      (try simp only [List.set_cons_zero,List.set_cons_succ])
      refine tkE 22 144 (.bool false) rfl rfl hHeld ?_
      (try simp only [List.set_cons_zero,List.set_cons_succ])
      refine tkE 23 145 (.agg #[.int .i64 a1,.int .i64 a2]) rfl rfl hHeld ?_
      (try simp only [List.set_cons_zero,List.set_cons_succ])
      refine tkE 24 146 (.agg #[.int .i64 a1,.int .i64 a2]) rfl rfl hHeld ?_
      (try simp only [List.set_cons_zero,List.set_cons_succ])
      refine tkE 25 147 (.bool false) rfl rfl hHeld ?_
      (try simp only [List.set_cons_zero,List.set_cons_succ])
      refine tkE 26 148 (.bool false) rfl rfl hHeld ?_
      (try simp only [List.set_cons_zero,List.set_cons_succ])
      refine tkE 27 149 (.bool false) rfl rfl hHeld ?_
      (try simp only [List.set_cons_zero,List.set_cons_succ])
      refine tkE 28 150 (.slice qa qs.length qc) rfl rfl hHeld ?_
      (try simp only [List.set_cons_zero,List.set_cons_succ])
      refine tkE 29 151 (.slice ra4 q4.length rc4) rfl rfl hHeld ?_
      (try simp only [List.set_cons_zero,List.set_cons_succ])
      refine wpAnyH_ready (rs:=[30]) (by kernel_rfl) (by simp) (AllReadyH.cons rfl (fun K hK=>?_) AllReadyH.nil)
      go_simp
      refine (HSM.out w5 HB5.out).mono ?_
      rintro e w6 ⟨rfl,bw6⟩
      have fw6_0:w6.cell? ⟨x,0,none⟩ = some (.int .i64 b1):=kc fw5_0 bw6
      have fw6_1:w6.cell? ⟨x,1,none⟩ = some (.int .i64 b2):=kc fw5_1 bw6
      have fw6_2:w6.cell? ⟨y,0,none⟩ = some (.int .i64 a1):=kc fw5_2 bw6
      have fw6_3:w6.cell? ⟨y,1,none⟩ = some (.int .i64 a2):=kc fw5_3 bw6
      have fw6_4:w6.cell? ⟨w4.heap.size,0,none⟩ = some (.int .i64 a1):=kc fw5_4 bw6
      have fw6_5:w6.cell? ⟨w4.heap.size,1,none⟩ = some (.int .i64 a2):=kc fw5_5 bw6
      have fw6_6:w6.cell? ⟨wr.heap.size,3,none⟩ = some (.int .i64 b1):=kc fw5_6 bw6
      have fw6_7:w6.cell? ⟨wr.heap.size,4,none⟩ = some (.int .i64 b2):=kc fw5_7 bw6
      have HB6:=mkHid (bt HB5.out bw6)
      clear bw6 hHeld fw5_0 fw5_1 fw5_2 fw5_3 fw5_4 fw5_5 fw5_6 fw5_7
      refine hK.out _ _ ⟨fw6_0,fw6_1,fw6_2,fw6_3,fw6_4,fw6_5,fw6_6,fw6_7⟩ (fun hHeld=>?_)
      clear hK K
      (try simp only [Act.put])
      refine tkE 31 153 (.bool false) rfl rfl hHeld ?_
      (try simp only [List.set_cons_zero,List.set_cons_succ])
      refine tkE 32 154 (.bool false) rfl rfl hHeld ?_
      (try simp only [List.set_cons_zero,List.set_cons_succ])
      refine wpAnyH_done (by kernel_rfl) ?_ _
      go_wp2
      go_roundw
      case rel=>exact ⟨j + 1,by go_num,by omega,by omega,mkHid (HW.out.below (bt HB4.out HB6.out))⟩
      case measure=>simp [intOf];omega
     ·skip
      have HB4d:Hid (Below (w4.alloc (oB (a1,a2))).heap.size (w4.alloc (oB (a1,a2))) (w4.alloc (oB (a1,a2))).drew):=mkHid (Below.refl _ _).drew
      refine wp_region_held_drew (S:=fun w'=>w'.cell? ⟨x,0,none⟩ = some (.int .i64 p1) ∧ w'.cell? ⟨x,1,none⟩ = some (.int .i64 p2) ∧ w'.cell? ⟨y,0,none⟩ = some (.int .i64 a1) ∧ w'.cell? ⟨y,1,none⟩ = some (.int .i64 a2) ∧ w'.cell? ⟨w4.heap.size,0,none⟩ = some (.int .i64 a1) ∧ w'.cell? ⟨w4.heap.size,1,none⟩ = some (.int .i64 a2)) (by kernel_rfl) ⟨x0,x1,v0,v1,u0,u1⟩ (fun hHeld=>?_)
      refine tkE 0 122 (vErr ex) rfl rfl hHeld ?_
      (try simp only [List.set_cons_zero,List.set_cons_succ])
      refine tkE 1 123 (.bool false) rfl rfl hHeld ?_
      (try simp only [List.set_cons_zero,List.set_cons_succ])
      refine tkE 2 124 (.bool false) rfl rfl hHeld ?_
      (try simp only [List.set_cons_zero,List.set_cons_succ])
      refine takeD 3 125 (undef) rfl rfl (by kernel_rfl) (by kernel_rfl) (by kernel_rfl) (fun _ _ _ h=>h) (Or.inr ⟨by kernel_rfl,rfl⟩) hHeld ?_
      (try simp only [List.set_cons_zero,List.set_cons_succ])
      refine takeD 4 126 (undef) rfl rfl (by kernel_rfl) (by kernel_rfl) (by kernel_rfl) (fun _ _ _ h=>h) (Or.inr ⟨by kernel_rfl,rfl⟩) hHeld ?_
      (try simp only [List.set_cons_zero,List.set_cons_succ])
      refine takeD 5 127 (undef) rfl rfl (by kernel_rfl) (by kernel_rfl) (by kernel_rfl) (fun _ _ _ h=>h) (Or.inr ⟨by kernel_rfl,rfl⟩) hHeld ?_
      (try simp only [List.set_cons_zero,List.set_cons_succ])
      refine takeD 6 128 (undef) rfl rfl (by kernel_rfl) (by kernel_rfl) (by kernel_rfl) (fun _ _ _ h=>h) (Or.inr ⟨by kernel_rfl,rfl⟩) hHeld ?_
      (try simp only [List.set_cons_zero,List.set_cons_succ])
      refine tkE 7 129 (.bool false) rfl rfl hHeld ?_
      (try simp only [List.set_cons_zero,List.set_cons_succ])
      refine tkE 8 130 (.bool false) rfl rfl hHeld ?_
      (try simp only [List.set_cons_zero,List.set_cons_succ])
      refine tkE 9 131 (vErr e2) rfl rfl hHeld ?_
      (try simp only [List.set_cons_zero,List.set_cons_succ])
      refine tkE 10 132 (.bool false) rfl rfl hHeld ?_
      (try simp only [List.set_cons_zero,List.set_cons_succ])
      refine tkE 11 133 (.bool false) rfl rfl hHeld ?_
      (try simp only [List.set_cons_zero,List.set_cons_succ])
      refine tkE 12 134 (.bool false) rfl rfl hHeld ?_
      (try simp only [List.set_cons_zero,List.set_cons_succ])
      refine tkE 13 135 (vErr e3) rfl rfl hHeld ?_
      (try simp only [List.set_cons_zero,List.set_cons_succ])
      refine tkE 14 136 (.bool false) rfl rfl hHeld ?_
      (try simp only [List.set_cons_zero,List.set_cons_succ])
      refine tkE 15 137 (.bool false) rfl rfl hHeld ?_
      (try simp only [List.set_cons_zero,List.set_cons_succ])
      refine tkE 16 138 (.bool false) rfl rfl hHeld ?_
      (try simp only [List.set_cons_zero,List.set_cons_succ])
      refine tkE 17 139 (.pointer (some ⟨v,0,none⟩)) rfl rfl hHeld ?_
      (try simp only [List.set_cons_zero,List.set_cons_succ])
      refine tkE 19 141 (.agg #[.int .i64 p1,.int .i64 p2]) rfl rfl hHeld ?_
      (try simp only [List.set_cons_zero,List.set_cons_succ])
      refine wpAnyH_ready (rs:=[18]) (by kernel_rfl) (by simp) (AllReadyH.cons rfl (fun K hK=>?_) AllReadyH.nil)
      go_simp
      refine (HPR.out _ (bt HB4.out HB4d.out)).mono ?_
      rintro e w5 ⟨rfl,bw5⟩
      have fw5_0:w5.cell? ⟨x,0,none⟩ = some (.int .i64 p1):=kc (show (w4.alloc (oB (a1,a2))).drew.cell? _ = _ from x0) bw5
      have fw5_1:w5.cell? ⟨x,1,none⟩ = some (.int .i64 p2):=kc (show (w4.alloc (oB (a1,a2))).drew.cell? _ = _ from x1) bw5
      have fw5_2:w5.cell? ⟨y,0,none⟩ = some (.int .i64 a1):=kc (show (w4.alloc (oB (a1,a2))).drew.cell? _ = _ from v0) bw5
      have fw5_3:w5.cell? ⟨y,1,none⟩ = some (.int .i64 a2):=kc (show (w4.alloc (oB (a1,a2))).drew.cell? _ = _ from v1) bw5
      have fw5_4:w5.cell? ⟨w4.heap.size,0,none⟩ = some (.int .i64 a1):=kc (show (w4.alloc (oB (a1,a2))).drew.cell? _ = _ from u0) bw5
      have fw5_5:w5.cell? ⟨w4.heap.size,1,none⟩ = some (.int .i64 a2):=kc (show (w4.alloc (oB (a1,a2))).drew.cell? _ = _ from u1) bw5
      have HB5:=mkHid (bt HB4d.out bw5)
      clear bw5 hHeld x0 x1 v0 v1 u0 u1
      refine hK.out _ _ ⟨fw5_0,fw5_1,fw5_2,fw5_3,fw5_4,fw5_5⟩ (fun hHeld=>?_)
      clear hK K
      (try dsimp only)
      refine tkE 20 142 (.bool false) rfl rfl hHeld ?_
      (try simp only [List.set_cons_zero,List.set_cons_succ])
      refine tkE 21 143 (.bool false) rfl rfl hHeld ?_
      (try simp only [List.set_cons_zero,List.set_cons_succ])
      refine tkE 22 144 (.bool false) rfl rfl hHeld ?_
      (try simp only [List.set_cons_zero,List.set_cons_succ])
      refine tkE 23 145 (.agg #[.int .i64 a1,.int .i64 a2]) rfl rfl hHeld ?_
      (try simp only [List.set_cons_zero,List.set_cons_succ])
      refine tkE 24 146 (.agg #[.int .i64 a1,.int .i64 a2]) rfl rfl hHeld ?_
      (try simp only [List.set_cons_zero,List.set_cons_succ])
      refine tkE 25 147 (.bool false) rfl rfl hHeld ?_
      (try simp only [List.set_cons_zero,List.set_cons_succ])
      refine tkE 26 148 (.bool false) rfl rfl hHeld ?_
      (try simp only [List.set_cons_zero,List.set_cons_succ])
      refine tkE 27 149 (.bool false) rfl rfl hHeld ?_
      (try simp only [List.set_cons_zero,List.set_cons_succ])
      refine tkE 28 150 (.slice qa qs.length qc) rfl rfl hHeld ?_
      (try simp only [List.set_cons_zero,List.set_cons_succ])
      refine tkE 29 151 (.slice ra4 q4.length rc4) rfl rfl hHeld ?_
      (try simp only [List.set_cons_zero,List.set_cons_succ])
      refine wpAnyH_ready (rs:=[30]) (by kernel_rfl) (by simp) (AllReadyH.cons rfl (fun K hK=>?_) AllReadyH.nil)
      go_simp
      refine (HSM.out w5 HB5.out).mono ?_
      rintro e w6 ⟨rfl,bw6⟩
      have fw6_0:w6.cell? ⟨x,0,none⟩ = some (.int .i64 p1):=kc fw5_0 bw6
      have fw6_1:w6.cell? ⟨x,1,none⟩ = some (.int .i64 p2):=kc fw5_1 bw6
      have fw6_2:w6.cell? ⟨y,0,none⟩ = some (.int .i64 a1):=kc fw5_2 bw6
      have fw6_3:w6.cell? ⟨y,1,none⟩ = some (.int .i64 a2):=kc fw5_3 bw6
      have fw6_4:w6.cell? ⟨w4.heap.size,0,none⟩ = some (.int .i64 a1):=kc fw5_4 bw6
      have fw6_5:w6.cell? ⟨w4.heap.size,1,none⟩ = some (.int .i64 a2):=kc fw5_5 bw6
      have HB6:=mkHid (bt HB5.out bw6)
      clear bw6 hHeld fw5_0 fw5_1 fw5_2 fw5_3 fw5_4 fw5_5
      refine hK.out _ _ ⟨fw6_0,fw6_1,fw6_2,fw6_3,fw6_4,fw6_5⟩ (fun hHeld=>?_)
      clear hK K
      (try simp only [Act.put])
      refine tkE 31 153 (.bool false) rfl rfl hHeld ?_
      (try simp only [List.set_cons_zero,List.set_cons_succ])
      refine tkE 32 154 (.bool false) rfl rfl hHeld ?_
      (try simp only [List.set_cons_zero,List.set_cons_succ])
      refine wpAnyH_done (by kernel_rfl) ?_ _
      go_wp2
      go_roundw
      case rel=>exact ⟨j + 1,by go_num,by omega,by omega,mkHid (HW.out.below (bt HB4.out HB6.out))⟩
      case measure=>simp [intOf];omega
    ·obtain rfl:j = ls.length:=by omega
     have HW:=HI
     clear HI
     go_wp2_with (go_at_call 21;have HN:=open_z HW.out.vz (by omega) 0 ⟨by omega,by omega⟩ HZ.out;(with_reducible refine HN.mono ?_);clear HN;rintro e w9 ⟨⟨a9,rfl⟩,b9⟩;have HB9:=mkHid b9;have g9:=(HZ.out.below (bt HW.out.low b9)).lo;have heq9:=heq;clear b9)
     go_ret
     exact ⟨rfl,bt HW.out.low HB9.out⟩
end Go.Proofs.YtihdkgekickohaaGreatDoor
