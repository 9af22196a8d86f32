import Derived.Test.YtpdehdomilnmeaaGreatDoorHsC
import Derived.WalkMore
namespace Go.Proofs.YtpdehdomilnmeaaGreatDoor
open Go.ChangeShapes Go.WideShapes Go.ChangeAt Go.RowKit
set_option maxRecDepth 100000
attribute [local go_sem] World.cell?_alloc_some fAs
inductive Down (ns:List Nd):(Int->Option Rv)->Int->(Int->Option Rv)->Option (Int × Jb × Bool)->Prop
 |stop {rv p}:bestR rv ns p=none->Down ns rv p rv none
 |leaf {rv p i r pol s j}:bestR rv ns p=some i->rv i=some r->r.g=some (pol,s)->s.js[nx pol s.ts s.js]?=some j->Down ns rv p (upR rv i (some (r.charge.jobs (runL (nx pol s.ts s.js) j s.js)))) (some (i,j.ran,decide (j.lf=1)))
 |step {rv p i r rv' out}:bestR rv ns p=some i->rv i=some r->r.g=none->Down ns (upR rv i (some r.charge)) i rv' out->Down ns rv p rv' out
structure RG (now:Int) (n:Nd) (r:Rv):Prop where
 mi:r.mi=n.id
 sv:r.sv=n.sv
 b0:0<=r.x.bud
 b1:r.x.bud<=256
 ok:∀ p s,r.g=some (p,s)->s.Ok p/\(r.wk=true->0 < s.js.length)
theorem RG.charge {now:Int} {n:Nd} {r:Rv} (h:RG now n r):RG now n r.charge:=by
 have h0:=h.b0
 have h1:=h.b1
 refine⟨h.mi,h.sv, ?_, ?_,h.ok⟩
 ·show 0<=(if rdyR r=true then chS r.x else r.x).bud
  split
  ·rename_i e
   have:=rdy_bud (work:=r.wk) (x:=r.x) (b:=true) (by simpa [rdyR] using e)
   show 0<=r.x.bud - 1
   omega
  ·exact h0
 ·show (if rdyR r=true then chS r.x else r.x).bud<=256
  split
  ·show r.x.bud - 1<=256
   omega
  ·exact h1
theorem run_any (base:Nat) (w:World) (b:Nat) (p:Int) (tv jv:Value) (s:Gt) (j:Jb) (h:GB base w b p tv jv s) (ok:s.Ok p) (hj:s.js[nx p s.ts s.js]?=some j):Calls Tryz.prog 57 #[pB b] w fun e w'=>e=.returned (.tuple #[vJ j.ran,.bool (decide (j.lf=1)),.nilIface])/\GcB base w b p tv jv ⟨s.xs,runL (nx p s.ts s.js) j s.js⟩ w':=by
 by_cases e:j.lf=1
 ·rw [decide_eq_true e];exact run_end base w b p tv jv s j h ok hj e
 ·rw [decide_eq_false e];exact run_on base w b p tv jv s j h ok hj e
def rpC (c0 c1 c2:Value) (out:Option (Int × Jb × Bool)):Array Value:=match out with
 |none=>#[c0,c1,c2,.int .i64 0,.int .i64 0,.int .i64 0,.int .i64 0,.int .i64 0,.int .i64 0,.bool false]
 |some (i,j,e)=>#[c0,c1,c2,.int .i64 i,.int .i64 (j.tk:Int),.int .i64 j.rl,.int .i64 j.dl,.int .i64 j.lf,.int .i64 j.dn,.bool e]
def far (v:Value) (w:World):Nat:=match v with
 |.pointer (some a)=>(match w.cell? ⟨a.block,2,none⟩ with
  |some (.int _ i)=>(1001 - i).toNat
  |_=>0)
 |_=>0
theorem far_at {w:World} {rb:Nat} {i:Int} (h:w.cell? ⟨rb,2,none⟩=some (.int .i64 i)):far (pB rb) w=(1001 - i).toNat:=by
 simp [far,h]
structure DL (B:Nat) (own:Nat->Int) (w:World) (b mb:Nat) (lay:Int->Option Lay) (nv gv wv:Value) (ps:List Np) (qs:List Op) (h:Hs) (RP:Nat) (c0 c1 c2:Value) (wr:World) (p:Int) (rv:Int->Option Rv):Prop where
 hb:HB B own wr b mb lay nv gv wv ps qs ⟨h.now,h.t,rv,h.ws⟩
 rp:wr.heap[RP]?=some (.cells (rpC c0 c1 c2 none) 57 (0,0))
 rg:∀ n ∈ h.t.ns,∃ r,rv n.id=some r/\RG h.now n r
 go:∀ rv' out,Down h.t.ns rv p rv' out->Down h.t.ns h.rv 0 rv' out
 kp:Kept (fun k=>own k ≠ 0) w wr
def DnP (B:Nat) (own:Nat->Int) (w:World) (b mb:Nat) (nv gv wv:Value) (ps:List Np) (qs:List Op) (h:Hs) (RP:Nat) (c0 c1 c2:Value) (e:Ending) (w':World):Prop:=e=.returned (.tuple #[])/\∃ rv' out own' lay',Down h.t.ns h.rv 0 rv' out/\HB B own' w' b mb lay' nv gv wv ps qs ⟨h.now,h.t,rv',h.ws⟩/\(∀ k,k < w.heap.size->own' k=own k)/\w'.heap[RP]?=some (.cells (rpC c0 c1 c2 out) 57 (0,0))/\Kept (fun k=>own k ≠ 0 ∨ k=RP) w w'/\own' RP=0
theorem DL.late {B:Nat} {own:Nat->Int} {w:World} {b mb:Nat} {lay:Int->Option Lay} {nv gv wv:Value} {ps:List Np} {qs:List Op} {h:Hs} {RP:Nat} {c0 c1 c2:Value} {wr w3:World} {p:Int} {rv:Int->Option Rv} (L:DL B own w b mb lay nv gv wv ps qs h RP c0 c1 c2 wr p rv) (hb:Below wr.heap.size wr w3):DL B own w b mb lay nv gv wv ps qs h RP c0 c1 c2 w3 p rv:=
 ⟨L.hb.below hb,bLt L.rp hb,L.rg,L.go,L.kp.trans (kept_new (F:=fun _=>False) hb) (fun _ f=>f.elim)⟩
theorem RvM.below {B:Nat} {w w':World} {l:Lay} {r:Rv} (h:RvM B w l r) (hb:Below w.heap.size w w'):RvM B w' l r:=h.kept (kept_new (F:=fun _=>False) hb) (fun _ _ f=>f)
theorem dl_step {B:Nat} {own:Nat->Int} {w:World} {b mb:Nat} {lay:Int->Option Lay} {nv gv wv:Value} {ps:List Np} {qs:List Op} {h:Hs} {RP:Nat} {c0 c1 c2:Value} {wr w2:World} {p i:Int} {rv:Int->Option Rv} {r:Rv} {l:Lay} {n:Nd} (L:DL B own w b mb lay nv gv wv ps qs h RP c0 c1 c2 wr p rv) (_hn:n ∈ h.t.ns) (_hni:n.id=i) (hr:rv i=some r) (hg:r.g=none) (hbe:bestR rv h.t.ns p=some i) (hFl:∀ k,l.F k->1<=own k) (_hR:RG h.now n r) (hdl:HB B own w2 b mb lay nv gv wv ps qs ⟨h.now,h.t,upR rv i (some r.charge),h.ws⟩/\RvM B w2 l r.charge/\Kept l.F wr w2/\w2.heap[RP]?=some (.cells (rpC c0 c1 c2 none) 57 (0,0))) :
  DL B own w b mb lay nv gv wv ps qs h RP c0 c1 c2 w2 i (upR rv i (some r.charge)):=by
 refine⟨hdl.1,hdl.2.2.2,fun m hm=>?_,fun rv' out hd=>L.go rv' out (.step hbe hr hg hd),L.kp.trans hdl.2.2.1 (fun k f=>.inl (by have:=hFl k f;omega))⟩
 by_cases e:m.id=i
 ·rw [e,upR_same]
  obtain⟨q,hq,hQ⟩:=L.rg m hm
  rw [e,hr] at hq
  cases hq
  exact⟨_,rfl,hQ.charge⟩
 ·rw [upR_other _ _ e]
  exact L.rg m hm
theorem dl_far {B:Nat} {own:Nat->Int} {w:World} {b mb:Nat} {lay:Int->Option Lay} {nv gv wv:Value} {ps:List Np} {qs:List Op} {h:Hs} {RP:Nat} {c0 c1 c2:Value} {wr w3:World} {i:Int} {rv:Int->Option Rv} {l:Lay} (L:DL B own w b mb lay nv gv wv ps qs h RP c0 c1 c2 w3 i rv) (hg:h.t.Good) (hsm:h.t.Sm 1000) (hi:∃ n ∈ h.t.ns,n.id=i) (m2:wr.cell? ⟨l.rb,2,none⟩=some (.int .i64 i)):far (pO (bxO lay (bestR rv h.t.ns i))) w3 < far (pB l.rb) wr:=by
 rw [far_at m2]
 obtain⟨n,hn,hni⟩:=hi
 have h1:=hg.ids n hn
 have h2:=hsm.l
 cases hb:bestR rv h.t.ns i with
 |none=>
  simp only [bxO,Option.bind_none,pO,far]
  omega
 |some j=>
  obtain⟨r2,l2,hr2,_,hl2,hm2,hx⟩:=bxO_some L.hb hb
  have hx:bxO lay (some j)=some l2.rb:=by rw [hb] at hx;exact hx
  obtain⟨n2,hn2,hn2i,hn2p,_⟩:=bestR_some hb
  obtain⟨q,hq,hQ⟩:=L.rg n2 hn2
  rw [hn2i] at hq
  have hr2:rv j=some r2:=hr2
  rw [hr2] at hq
  cases hq
  have c2:=hm2.cells.2.2.1
  rw [hQ.mi] at c2
  rw [hx]
  show far (pB l2.rb) w3 < _
  rw [far_at c2]
  have h3:=hg.lt n2 hn2
  have h4:=hg.ids n2 hn2
  omega
theorem dl_charge {B:Nat} {own:Nat->Int} {w:World} {b mb:Nat} {lay:Int->Option Lay} {nv gv wv:Value} {ps:List Np} {qs:List Op} {h:Hs} {RP:Nat} {c0 c1 c2:Value} {wr w1:World} {p i:Int} {rv:Int->Option Rv} {r:Rv} {l:Lay} (L:DL B own w b mb lay nv gv wv ps qs h RP c0 c1 c2 wr p rv) (hro:own RP=0) (_hr:rv i=some r) (hli:lay i=some l) (hm:RvM B wr l r) (hch:r.charge=⟨r.sv,r.m,r.wk,chS r.x,r.g,r.mi,r.mw,true⟩) (hs1:SB w1 l.sb r.sv r.m r.wk (chS r.x)) (k1:Kb l.sb wr w1) (hb1:RB w1 l r.mi r.mw r.mr) :
  HB B own (w1.setCell ⟨l.rb,4,none⟩ (.bool true)) b mb lay nv gv wv ps qs ⟨h.now,h.t,upR rv i (some r.charge),h.ws⟩/\RvM B (w1.setCell ⟨l.rb,4,none⟩ (.bool true)) l r.charge/\Kept l.F wr (w1.setCell ⟨l.rb,4,none⟩ (.bool true))/\(w1.setCell ⟨l.rb,4,none⟩ (.bool true)).heap[RP]?=some (.cells (rpC c0 c1 c2 none) 57 (0,0)):=by
 have K2:Kept (fun k=>k=l.rb) w1 (w1.setCell ⟨l.rb,4,none⟩ (.bool true)):=Kept.setCell (F:=fun k=>k=l.rb) w1 (p:=⟨l.rb,4,none⟩) rfl _
 have KF:Kept l.F wr (w1.setCell ⟨l.rb,4,none⟩ (.bool true)):=(k1.mono (G:=l.F) (fun k e=>.inr (.inl e))).trans K2 (fun k e=>.inl (.inl e))
 have hm2:RvM B (w1.setCell ⟨l.rb,4,none⟩ (.bool true)) l r.charge:=by
  rw [hch]
  refine⟨?_,hs1.kept K2 (fun e=>hm.ne e.symm),hm.b1,hm.b2,hm.ne,hm.no,fun p s e=>?_⟩
  ·have:=hSt (i:=4) (v:=.bool true) hb1
   exact this
  ·obtain⟨gb,e1,e2,e3,e4⟩:=hm.yes p s e
   exact⟨gb,e1,(e2.kept k1 (fun k e f=>e4 (by rw [<- e];exact f))).kept K2 (fun k e f=>e3 (by rw [<- e];exact f)),e3,e4⟩
 refine⟨L.hb.one0 hli KF hm2,hm2,KF,(KF.block RP (lOh L.rp) (fun f=>?_)).trans L.rp⟩
 have e1:=(L.hb.ol i l hli).2 RP f
 have e2:=(L.hb.ol i l hli).1
 omega
theorem upR_upR (rv:Int->Option Rv) (i:Int) (a b:Option Rv):upR (upR rv i a) i b=upR rv i b:=by
 funext j
 unfold upR
 split <;> rfl
theorem dl_leaf {B:Nat} {own:Nat->Int} {w:World} {b mb:Nat} {lay:Int->Option Lay} {nv gv wv:Value} {ps:List Np} {qs:List Op} {h:Hs} {RP:Nat} {c0 c1 c2:Value} {wr w2 W3 w4 w5:World} {p i pol:Int} {rv:Int->Option Rv} {r:Rv} {l:Lay} {s:Gt} {j:Jb} {gb:Nat} (L:DL B own w b mb lay nv gv wv ps qs h RP c0 c1 c2 wr p rv) (hro:own RP=0) (hrl:RP < w.heap.size) (hr:rv i=some r) (hli:lay i=some l) (hg:r.g=some (pol,s)) (hgb:l.gb=some gb) (hbe:bestR rv h.t.ns p=some i) (hFl:∀ k,l.F k->1<=own k) (hj:s.js[nx pol s.ts s.js]?=some j) (hdl:HB B own w2 b mb lay nv gv wv ps qs ⟨h.now,h.t,upR rv i (some r.charge),h.ws⟩/\RvM B w2 l r.charge/\Kept l.F wr w2/\w2.heap[RP]?=some (.cells (rpC c0 c1 c2 none) 57 (0,0)))
  (K3:Kept (fun k=>k=RP) w2 W3) (hG:GcB B W3 gb pol l.tv l.jv ⟨s.xs,runL (nx pol s.ts s.js) j s.js⟩ w4) (hf1:¬ Ft l.tv l.jv gb l.rb) (hf2:¬ Ft l.tv l.jv gb l.sb) (K5:Kept (fun k=>k=RP) w4 w5) (h5:w5.heap[RP]?=some (.cells (rpC c0 c1 c2 (some (i,j.ran,decide (j.lf=1)))) 57 (0,0))) :
  DnP B own w b mb nv gv wv ps qs h RP c0 c1 c2 (.returned (.tuple #[])) w5:=by
 obtain⟨jv',hg4,k4,hv4⟩:=hG
 have nRP:∀ k,l.F k->¬ k=RP:=fun k f e=>by have:=hFl k f;rw [e,hro] at this;omega
 have hb3:=hdl.1.kept K3 (fun k e=>.inl (by rw [e];exact hro))
 have hm3:=hdl.2.1.kept K3 nRP
 have hFt:∀ k,Ft l.tv l.jv gb k->l.F k:=fun k f=>.inr (.inr ⟨gb,hgb,f⟩)
 have K4:Kept l.F W3 w4:=k4.mono hFt
 have sz3:=K3.size
 have hrb:=hm3.box.lt
 have hsb:=hm3.srv.lt
 have hm4:RvM B w4 ⟨l.rb,l.sb,l.gb,l.tv,jv'⟩ (r.charge.jobs (runL (nx pol s.ts s.js) j s.js)):=by
  refine⟨(k4.block l.rb hrb hf1).trans hm3.box,hm3.srv.kept k4 hf2,hm3.b1,hm3.b2,hm3.ne,fun e=>?_,fun p' s' e=>?_⟩
  ·have e:(r.g.map (fun p=>(p.1,(⟨p.2.xs,runL (nx pol s.ts s.js) j s.js⟩:Gt))))=none:=e
   rw [hg] at e
   cases e
  ·have e:(r.g.map (fun p=>(p.1,(⟨p.2.xs,runL (nx pol s.ts s.js) j s.js⟩:Gt))))=some (p',s'):=e
   rw [hg] at e
   simp only [Option.map_some,Option.some.injEq,Prod.mk.injEq] at e
   obtain⟨rfl,rfl⟩:=e
   refine⟨gb,hgb,hg4,fun f=>?_,fun f=>?_⟩
   ·rcases f with f | f | f
    ·exact hf1 (.inl f)
    ·exact hf1 (.inr (.inl f))
    ·rcases hv4 _ f with e | e
     ·exact hf1 (.inr (.inr e))
     ·have e:W3.heap.size<=l.rb:=e
      omega
   ·rcases f with f | f | f
    ·exact hf2 (.inl f)
    ·exact hf2 (.inr (.inl f))
    ·rcases hv4 _ f with e | e
     ·exact hf2 (.inr (.inr e))
     ·have e:W3.heap.size<=l.sb:=e
      omega
 obtain⟨own',hb4,ag4⟩:=hb3.one hli (l':=⟨l.rb,l.sb,l.gb,l.tv,jv'⟩) rfl K4 hm4 (fun k f=>by
  rcases f with f | f | ⟨x,e,f⟩
  ·exact .inl (.inl f)
  ·exact .inl (.inr (.inl f))
  ·have e:l.gb=some x:=e
   rcases f with f | f | f
   ·exact .inl (.inr (.inr ⟨x,e,.inl f⟩))
   ·exact .inl (.inr (.inr ⟨x,e,.inr (.inl f)⟩))
   ·rcases hv4 k f with e2 | e2
    ·exact .inl (.inr (.inr ⟨x,e,.inr (.inr e2)⟩))
    ·exact .inr e2)
 have szw:=L.kp.size
 have sz2:=hdl.2.2.1.size
 have hRP':own' RP=0:=by rw [ag4 RP (by omega)];exact hro
 have hb5:=hb4.kept K5 (fun k e=>.inl (by rw [e];exact hRP'))
 have e1:(⟨h.now,h.t,upR (upR rv i (some r.charge)) i (some (r.charge.jobs (runL (nx pol s.ts s.js) j s.js))),h.ws⟩:Hs)=⟨h.now,h.t,upR rv i (some (r.charge.jobs (runL (nx pol s.ts s.js) j s.js))),h.ws⟩:=by rw [upR_upR]
 have hb5:HB B own' w5 b mb _ nv gv wv ps qs ⟨h.now,h.t,upR (upR rv i (some r.charge)) i (some (r.charge.jobs (runL (nx pol s.ts s.js) j s.js))),h.ws⟩:=hb5
 rw [e1] at hb5
 refine⟨rfl,_,_,own',_,L.go _ _ (.leaf hbe hr hg hj),hb5,fun k hk=>ag4 k (by omega),h5, ?_,hRP'⟩
 refine(((L.kp.trans hdl.2.2.1 (fun k f=>.inl (by have:=hFl k f;omega))).mono (G:=fun k=>own k ≠ 0 ∨ k=RP) (fun k e=>.inl e)).trans K3 (fun k e=>.inl (.inr e))).trans K4 (fun k f=>.inl (.inl (by have:=hFl k f;omega))) |>.trans K5 (fun k e=>.inl (.inr e))
set_option maxHeartbeats 12800000 in
theorem runDown_is {B:Nat} {own:Nat->Int} {w:World} {b mb:Nat} {lay:Int->Option Lay} {nv gv wv:Value} {ps:List Np} {qs:List Op} {h:Hs} (H:HB B own w b mb lay nv gv wv ps qs h) (RP:Nat) (c0 c1 c2:Value) (hrp:w.heap[RP]?=some (.cells (rpC c0 c1 c2 none) 57 (0,0))) (hro:own RP=0) (hrg:∀ n ∈ h.t.ns,∃ r,h.rv n.id=some r/\RG h.now n r) (hg:h.t.Good) (hsm:h.t.Sm 1000) :
  Calls Tryz.prog 35 #[pB b,pB RP] w (DnP B own w b mb nv gv wv ps qs h RP c0 c1 c2):=by
 have hl:ps.length<=1000:=by have:=hsm.n;rw [<- H.te,List.length_map] at this;exact this
 have HL0:Hid (DL B own w b mb lay nv gv wv ps qs h RP c0 c1 c2 w 0 h.rv):=mH ⟨H,hrp,hrg,fun _ _ h=>h,Kept.refl _ _⟩
 have HDM:Hid (∀ wr p rv,DL B own w b mb lay nv gv wv ps qs h RP c0 c1 c2 wr p rv->∀ n ∈ h.t.ns,∃ r,rv n.id=some r):=mH (fun wr p rv L n hn=>by obtain⟨r,hr,_⟩:=L.rg n hn;exact⟨r,hr⟩)
 have HSO:Hid (∀ wr p rv,DL B own w b mb lay nv gv wv ps qs h RP c0 c1 c2 wr p rv->∀ q,Calls Tryz.prog 55 #[pB b,.int .i64 q] wr fun e w'=>e=.returned (pO (bxO lay (bestR rv h.t.ns q)))/\Below wr.heap.size wr w'):=mH (fun wr p rv L q=>soonest_is q L.hb (HDM.out wr p rv L) hl)
 have HGD:=mH (And.intro hg (And.intro hsm (And.intro hro (lOh hrp))))
 clear H hrp hro hrg hg hsm
 go_enter Tryz.func35,Tryz.ntmps35
 go_wp2
 go_step3
 go_wp2
 go_step3
 go_wp2_with (go_at_call 55;refine(HSO.out w 0 h.rv HL0.out 0).mono ?_;rintro e w1 ⟨rfl,b1⟩;have HB1:=mH b1;clear b1;obtain⟨V0,hV0⟩:∃ V0,V0=pO (bxO lay (bestR h.rv h.t.ns 0)):=⟨_,rfl⟩;rw [<- hV0];have HV0:=mH hV0;clear hV0)
 have HL1:Hid (DL B own w b mb lay nv gv wv ps qs h RP c0 c1 c2 w1 0 h.rv):=mH ⟨HL0.out.hb.below HB1.out,bLt HL0.out.rp HB1.out,HL0.out.rg,HL0.out.go,kept_new HB1.out⟩
 clear HB1 HL0
 go_loopw [4] (fun rr wr=>∃ (p:Int) (rv:Int->Option Rv),rr=pO (bxO lay (bestR rv h.t.ns p))/\Hid (DL B own w b mb lay nv gv wv ps qs h RP c0 c1 c2 wr p rv)) (fun rr wr=>far rr wr)
 case atStart=>exact⟨0,h.rv,HV0.out,HL1⟩
 case round=>
  clear HL1
  obtain⟨p,rv,rfl,HLp⟩:=hrel
  cases hbe:bestR rv h.t.ns p with
  |none=>
   have HDN:=mH (HLp.out.go rv none (.stop hbe))
   simp only [bxO,Option.bind_none,pO]
   go_wp2
   go_end0
   exact⟨rfl,rv,none,own,lay,HDN.out,HLp.out.hb,fun _ _=>rfl,HLp.out.rp,HLp.out.kp.mono (fun _ h=>.inl h),HGD.out.2.2.1⟩
  |some i=>
   obtain⟨n,hn,hni,hnp,r,hr,hrd⟩:=bestR_some hbe
   obtain⟨l,hli,hm⟩:=HLp.out.hb.at hr
   obtain⟨r',hr',hR⟩:=HLp.out.rg n hn
   rw [hni,hr] at hr'
   cases hr'
   have hbx:bxO lay (some i)=some l.rb:=by simp only [bxO,Option.bind_some,hli,Option.map_some]
   rw [hbx]
   simp only [pO]
   obtain⟨m0,m1,m2,m3,m4⟩:=hm.cells
   have hmi:r.mi=i:=hR.mi.trans hni
   rw [hmi] at m2
   have hFl:∀ k,l.F k->1<=own k:=fun k f=>by have e1:=(HLp.out.hb.ol i l hli).2 k f;have e2:=(HLp.out.hb.ol i l hli).1;omega
   have hch:r.charge=⟨r.sv,r.m,r.wk,chS r.x,r.g,r.mi,r.mw,true⟩:=by unfold Rv.charge;rw [hrd];rfl
   have HCH:Hid (Calls Tryz.prog 56 #[pB l.sb] wr fun e w'=>e=.returned .nilIface/\SB w' l.sb r.sv r.m r.wk (chS r.x)/\Kb l.sb wr w'):=mH (charge_yes wr l.sb r.sv r.m r.wk r.x hm.srv hrd hR.b0 hR.b1)
   have M20:=mH m2
   have HN:=mH (And.intro hn (And.intro hni (And.intro hnp (And.intro hr (And.intro hli (And.intro hm (And.intro hR (And.intro hch (And.intro hFl (And.intro hbe (And.intro hmi hrd)))))))))))
   have HNE:Hid (l.rb ≠ l.sb):=mH hm.ne
   have HBX:=mH hm.box
   clear hn hni hnp hR hch hFl hbe hbx hmi hrd
   have hf4:wr.frozen? ⟨l.rb,4,none⟩=false:=fOb hm.box
   cases hg:r.g with
   |none=>
    have HG:=mH hg
    rw [hm.no hg] at m1
    simp only [pO] at m1
    clear hm hg
    have PO:l.gb=none:=HN.out.2.2.2.2.2.1.no HG.out
    go_wp2_with (first | (go_at_call 56;refine HCH.out.mono ?_;rintro e w1 ⟨rfl,hs1,k1⟩;have hb1:=(k1.block l.rb HBX.out.lt (fun e=>HNE.out e)).trans HBX.out;have n0:=cOb (i:=0) hb1 rfl;have n1:=cOb (i:=1) hb1 rfl;have n2:=cOb (i:=2) hb1 rfl;have n4:=cOb (i:=4) hb1 rfl;have nf4:w1.frozen? ⟨l.rb,4,none⟩=false:=fOb hb1;rw [HN.out.2.2.2.2.2.2.2.2.2.2.1] at n2;rw [PO] at n1;simp only [pO] at n1;have HC1:=mH (And.intro hs1 (And.intro k1 hb1));have hdl:=dl_charge HLp.out HGD.out.2.2.1 HN.out.2.2.2.1 HN.out.2.2.2.2.1 HN.out.2.2.2.2.2.1 HN.out.2.2.2.2.2.2.2.1 hs1 k1 hb1;have HM2:=mH hdl.2.1;have HD2:Hid (DL B own w b mb lay nv gv wv ps qs h RP c0 c1 c2 (w1.setCell ⟨l.rb,4,none⟩ (.bool true)) i (upR rv i (some r.charge))):=mH (dl_step HLp.out HN.out.1 HN.out.2.1 HN.out.2.2.2.1 HG.out HN.out.2.2.2.2.2.2.2.2.2.1 HN.out.2.2.2.2.2.2.2.2.1 HN.out.2.2.2.2.2.2.1 hdl);clear hdl;clear hs1 k1 hb1) | (go_at_call 55;refine(HSO.out _ i _ HD2.out i).mono ?_;rintro e w3 ⟨rfl,b3⟩;have HD3:=mH (HD2.out.late b3);have M3:=mH (HM2.out.below b3);clear b3))
    clear n0 n1 n2 n4 nf4 m0 m1 m2 m3 m4 hf4
    go_roundw
    case rel=>exact⟨i,_,rfl,HD3⟩
    case measure=>exact dl_far HD3.out HGD.out.1 HGD.out.2.1 ⟨n,HN.out.1,HN.out.2.1⟩ M20.out
   |some x=>
    obtain⟨pol,s⟩:=x
    obtain⟨gb,hgb,hG,hf1,hf2⟩:=hm.yes pol s hg
    rw [hgb] at m1
    simp only [pO] at m1
    obtain⟨hok,hwk⟩:=HN.out.2.2.2.2.2.2.1.ok pol s hg
    have hjl:0 < s.js.length:=hwk (by have:=HN.out.2.2.2.2.2.2.2.2.2.2.2;unfold rdyR rdyS at this;simp only [Bool.and_eq_true] at this;exact this.1)
    obtain⟨j,hj⟩:∃ j,s.js[nx pol s.ts s.js]?=some j:=⟨_,List.getElem?_eq_getElem (nx_lt pol s.ts s.js hjl)⟩
    have HG:=mH (And.intro hg (And.intro hgb (And.intro hG (And.intro hf1 (And.intro hf2 (And.intro hok hj))))))
    clear hm hg hgb hG hf1 hf2 hok hwk hjl hj
    have hne1:¬ l.rb=RP:=fun e=>by have e1:=HN.out.2.2.2.2.2.2.2.2.1 l.rb (.inl rfl);rw [e,HGD.out.2.2.1] at e1;omega
    have hne2:¬ RP=l.rb:=fun e=>hne1 e.symm
    have PO:l.gb=some gb:=HG.out.2.1
    go_wp2_with (first | (go_at_call 56;refine HCH.out.mono ?_;rintro e w1 ⟨rfl,hs1,k1⟩;have hb1:=(k1.block l.rb HBX.out.lt (fun e=>HNE.out e)).trans HBX.out;have n0:=cOb (i:=0) hb1 rfl;have n1:=cOb (i:=1) hb1 rfl;have n2:=cOb (i:=2) hb1 rfl;have n4:=cOb (i:=4) hb1 rfl;have nf4:w1.frozen? ⟨l.rb,4,none⟩=false:=fOb hb1;rw [HN.out.2.2.2.2.2.2.2.2.2.2.1] at n2;rw [PO] at n1;simp only [pO] at n1;have HC1:=mH (And.intro hs1 (And.intro k1 hb1));have hdl:=dl_charge HLp.out HGD.out.2.2.1 HN.out.2.2.2.1 HN.out.2.2.2.2.1 HN.out.2.2.2.2.2.1 HN.out.2.2.2.2.2.2.2.1 hs1 k1 hb1;have HDL:=mH hdl;have HRW1:=mH ((k1.block RP (lOh HLp.out.rp) (fun e=>(by have e1:=HN.out.2.2.2.2.2.2.2.2.1 l.sb (.inr (.inl rfl));rw [<- e,HGD.out.2.2.1] at e1;omega))).trans HLp.out.rp);have q3:=cOb (i:=3) HRW1.out rfl;have qf3:w1.frozen? ⟨RP,3,none⟩=false:=fOb HRW1.out;have HK3:Hid (Kept (fun k=>k=RP) (w1.setCell ⟨l.rb,4,none⟩ (.bool true)) ((w1.setCell ⟨l.rb,4,none⟩ (.bool true)).setCell ⟨RP,3,none⟩ (.int .i64 i))):=mH (Kept.setCell (F:=fun k=>k=RP) _ (p:=⟨RP,3,none⟩) rfl _);have HRF:Hid (¬ Ft l.tv l.jv gb RP):=mH (fun f=>(by have e1:=HN.out.2.2.2.2.2.2.2.2.1 RP (.inr (.inr ⟨gb,HG.out.2.1,f⟩));rw [HGD.out.2.2.1] at e1;omega));have HR3:Hid (((w1.setCell ⟨l.rb,4,none⟩ (.bool true)).setCell ⟨RP,3,none⟩ (.int .i64 i)).heap[RP]?=some (.cells #[c0,c1,c2,.int .i64 i,.int .i64 0,.int .i64 0,.int .i64 0,.int .i64 0,.int .i64 0,.bool false] 57 (0,0))):=mH (by rw [hSt hdl.2.2.2];rfl);have HG3:Hid (GB B ((w1.setCell ⟨l.rb,4,none⟩ (.bool true)).setCell ⟨RP,3,none⟩ (.int .i64 i)) gb pol l.tv l.jv s):=mH (by obtain⟨g',e1,e2,_⟩:=hdl.2.1.yes pol s (by rw [HN.out.2.2.2.2.2.2.2.1];exact HG.out.1);rw [PO] at e1;cases e1;exact e2.kept HK3.out (fun k e f=>HRF.out (by rw [<- e];exact f)));clear hdl;clear hs1 k1 hb1) | (go_at_call 57;refine(run_any B _ gb pol l.tv l.jv s j HG3.out HG.out.2.2.2.2.2.1 HG.out.2.2.2.2.2.2).mono ?_;rintro e w4 ⟨rfl,hgc⟩;have HGC:=mH hgc;obtain⟨jv4,_,k4,_⟩:=hgc;have hr4:=(k4.block RP (lOh HR3.out) (fun f=>HRF.out f)).trans HR3.out;have t4:=cOb (i:=4) hr4 rfl;have t5:=cOb (i:=5) hr4 rfl;have t6:=cOb (i:=6) hr4 rfl;have t7:=cOb (i:=7) hr4 rfl;have t8:=cOb (i:=8) hr4 rfl;have t9:=cOb (i:=9) hr4 rfl;have tf4:w4.frozen? ⟨RP,4,none⟩=false:=fOb hr4;have tf5:w4.frozen? ⟨RP,5,none⟩=false:=fOb hr4;have tf6:w4.frozen? ⟨RP,6,none⟩=false:=fOb hr4;have tf7:w4.frozen? ⟨RP,7,none⟩=false:=fOb hr4;have tf8:w4.frozen? ⟨RP,8,none⟩=false:=fOb hr4;have tf9:w4.frozen? ⟨RP,9,none⟩=false:=fOb hr4;have HR4:=mH hr4;clear k4 hr4))
    go_end0
    refine dl_leaf HLp.out HGD.out.2.2.1 HGD.out.2.2.2 HN.out.2.2.2.1 HN.out.2.2.2.2.1 HG.out.1 HG.out.2.1 HN.out.2.2.2.2.2.2.2.2.2.1 HN.out.2.2.2.2.2.2.2.2.1 HG.out.2.2.2.2.2.2 HDL.out HK3.out HGC.out HG.out.2.2.2.1 HG.out.2.2.2.2.1 ?_ ?_
    ·exact kset (F:=fun k=>k=RP) (kset (F:=fun k=>k=RP) (kset (F:=fun k=>k=RP) (kset (F:=fun k=>k=RP) (kset (F:=fun k=>k=RP) (kset (F:=fun k=>k=RP) (Kept.refl _ _) (.inl rfl) _ _) (.inl rfl) _ _) (.inl rfl) _ _) (.inl rfl) _ _) (.inl rfl) _ _) (.inl rfl) _ _
    ·rw [hSt (hSt (hSt (hSt (hSt (hSt HR4.out)))))];rfl
abbrev Mk:=Int × Bool × Bool
def c3m (m:Mk):List Value:=[.int .i64 m.1,.bool m.2.1,.bool m.2.2]
theorem c3m_len (m:Mk):(c3m m).length=3:=rfl
theorem one3m (m:Mk):∀ u ∈ c3m m,u.oneCell'=true:=by
 intro u hx
 simp only [c3m,List.mem_cons,List.not_mem_nil,or_false] at hx
 rcases hx with rfl | rfl | rfl <;> rfl
theorem info_mark:(Tryz.prog.info? 96).map (fun i=>(i.zero,i.size,i.bytes))=some (some (.agg #[.int .i64 0,.bool false,.bool false]),3,16):=by kernel_rfl
def mkOf (rv:Int->Option Rv) (n:Nd):Mk:=match rv n.id with
 |some r=>(r.mi,r.mw,r.mr)
 |none=>(0,false,false)
def mks (rv:Int->Option Rv) (ns:List Nd) (j:Nat):List Mk:=(ns.take j).map (mkOf rv)
theorem mks_step {rv:Int->Option Rv} {ns:List Nd} {j:Nat} {n:Nd} {r:Rv} (h:ns[j]?=some n) (hr:rv n.id=some r):mks rv ns (j+1)=mks rv ns j ++ [(r.mi,r.mw,r.mr)]:=by
 unfold mks
 rw [List.take_add_one,h,List.map_append]
 simp [mkOf,hr]
theorem mks_len {rv:Int->Option Rv} {ns:List Nd} {j:Nat}:(mks rv ns j).length<=ns.length:=by
 unfold mks;rw [List.length_map,List.length_take];omega
set_option maxHeartbeats 12800000 in
theorem marks_is {B:Nat} {own:Nat->Int} {w:World} {b mb:Nat} {lay:Int->Option Lay} {nv gv wv:Value} {ps:List Np} {qs:List Op} {h:Hs} (H:HB B own w b mb lay nv gv wv ps qs h) (hdm:∀ n ∈ h.t.ns,∃ r,h.rv n.id=some r) (hl:ps.length<=1000) :
  Calls Tryz.prog 36 #[pB b] w fun e w'=>∃ a c,e=.returned (.slice a h.t.ns.length c)/\w'.ownsRow w.heap.size 96 3 (.slice a h.t.ns.length c) h.t.ns.length ((h.t.ns.map (mkOf h.rv)).flatMap c3m)/\Below w.heap.size w w':=by
 obtain⟨ie,hi,hz0,hz1,hz2⟩:=info_parts info_mark
 have hie:=mH (And.intro hi (And.intro hz0 (And.intro hz1 hz2)))
 clear hi hz0 hz1 hz2
 have HH:=mH H
 have HD:=mH hdm
 have HE:=mH H.te
 have HR:Hid (RowIn 7 c7 w nv ps):=mH (RowIn.of_owns c7_len (by omega) H.tr.nown)
 obtain⟨_,c1,_⟩:=H.c
 obtain⟨a,cap,rfl,_⟩:=own_sh H.tr.nown
 have hll:(ps.length:Int)<=9223372036854775807:=by omega
 have HLM:Hid (∀ j,(mks h.rv (nds ps) j).length<=1000):=mH (fun j=>Nat.le_trans mks_len (by rw [List.length_map];exact hl))
 clear H hdm
 go_enter Tryz.func36,Tryz.ntmps36
 go_wp2
 go_loopw [3,12] (fun lv iv wr=>∃ (j:Nat),iv=.int .i64 (j:Int)/\j<=ps.length/\Hid (wr.ownsRow w.heap.size 96 3 lv (mks h.rv (nds ps) j).length ((mks h.rv (nds ps) j).flatMap c3m))/\Hid (Below w.heap.size w wr)) (fun _ iv _=>ps.length - (intOf iv).toNat)
 case atStart=>exact⟨0,rfl,Nat.zero_le _,mH (World.ownsRow_nil _ _ _ _),mH (Below.refl _ _)⟩
 case round=>
  obtain⟨j,rfl,hj,HO1,HB1⟩:=hrel
  obtain⟨la,lc,rfl,_⟩:=own_sh HO1.out
  clear c1
  by_cases hlt:j < ps.length
  ·obtain⟨nb,off,x,rfl,hxj,hat⟩:=HR.out.at HB1.out j hlt
   obtain⟨q0,q1,q2,q3,q4,q5,q6⟩:=seven hat
   have hxn:=nds_at hxj
   have hxm:=List.mem_of_getElem? hxn
   obtain⟨⟨id,pa,⟨k,q,T⟩,po,ts⟩,ta,tc⟩:=x
   simp only [tvN] at q0 q1 q2 q3 q4 q5 q6
   have hji:(j:Int) < ps.length:=by omega
   obtain⟨r,hr⟩:=HD.out _ (by rw [<- HE.out];exact hxm)
   have HST:=mH (mks_step hxn hr)
   simp only at hr
   obtain⟨W,hW⟩:∃ W,W=wr.alloc (.cells #[.int .i64 id,.int .i64 pa,.int .i64 k,.int .i64 q,.int .i64 T,.int .i64 po,.slice ta ts.length tc] 69):=⟨_,rfl⟩
   have HBW:Hid (Below w.heap.size w W):=mH (by rw [hW];exact ba HB1.out _)
   have HOW:Hid (W.ownsRow w.heap.size 96 3 (.slice la (mks h.rv (nds ps) j).length lc) (mks h.rv (nds ps) j).length ((mks h.rv (nds ps) j).flatMap c3m)):=mH (by rw [hW];exact own_new HO1.out _)
   have hnb:W.heap[wr.heap.size]?=some (.cells #[.int .i64 id,.int .i64 pa,.int .i64 k,.int .i64 q,.int .i64 T,.int .i64 po,.slice ta ts.length tc] 69 (0,0)):=by rw [hW];exact heap_alloc_new wr _
   have e0:W.cell? ⟨wr.heap.size,0,none⟩=some (.int .i64 id):=cOb hnb rfl
   have Hw:=HH.out.below HBW.out
   obtain⟨l,hl2,hm⟩:=Hw.at hr
   obtain⟨_,_,_,_,_,d5,_⟩:=Hw.c
   obtain⟨m0,m1,m2,m3,m4⟩:=hm.cells
   have HLK:Hid (∀ W',Below W.heap.size W W'->(Instr.lookup 85 (.map (some mb)) (.int .i64 id) false).run Tryz.prog W'=.ok (pB l.rb) W'):=mH (fun W' hW'=>by
    have:=(Hw.mp.below hW').get1 id
    rw [hl2] at this
    exact this)
   obtain⟨r1,r2,r3,r4,r5,mi,mw,mr⟩:=r
   simp only at m2 m3 m4 HST
   clear hxj hat hxn hxm hj Hw hm hnb
   go_wp2
   rw [<- hW]
   clear hW
   have hlk0:=HLK.out W.drew (Below.refl _ W).drew
   refine wp_region_held_drew (S:=fun w'=>(w'.cell? ⟨b,5,none⟩=some (.map (some mb))/\w'.cell? ⟨wr.heap.size,0,none⟩=some (.int .i64 id)/\w'.cell? ⟨l.rb,2,none⟩=some (.int .i64 mi)/\w'.cell? ⟨l.rb,3,none⟩=some (.bool mw)/\w'.cell? ⟨l.rb,4,none⟩=some (.bool mr))/\(Instr.lookup 85 (.map (some mb)) (.int .i64 id) false).run Tryz.prog w'=.ok (pB l.rb) w') (by kernel_rfl) ⟨⟨d5,e0,m2,m3,m4⟩,hlk0⟩ (fun hHeld=>?_)
   clear hlk0
   refine tkE 0 16 (.slice la (mks h.rv (nds ps) j).length lc) rfl rfl hHeld ?_
   simp only [sZ,sS]
   refine tkE 1 17 (pB b) rfl rfl hHeld ?_
   simp only [sZ,sS]
   refine tkE 2 18 (pB b) rfl rfl hHeld ?_
   simp only [sZ,sS]
   refine tkE 3 19 (.pointer (some ⟨b,5,none⟩)) rfl rfl hHeld ?_
   simp only [sZ,sS]
   refine tkE 4 20 (.map (some mb)) rfl rfl hHeld ?_
   simp only [sZ,sS]
   refine tkE 5 21 (.pointer (some ⟨wr.heap.size,0,none⟩)) rfl rfl hHeld ?_
   simp only [sZ,sS]
   refine tkE 6 22 (.int .i64 id) rfl rfl hHeld ?_
   simp only [sZ,sS]
   refine tkE 7 23 (pB l.rb) rfl rfl hHeld ?_
   simp only [sZ,sS]
   refine tkE 8 24 (pB l.rb) rfl rfl hHeld ?_
   simp only [sZ,sS]
   refine tkE 9 25 (.pointer (some ⟨l.rb,2,none⟩)) rfl rfl hHeld ?_
   simp only [sZ,sS]
   refine tkE 10 26 (.agg #[.int .i64 mi,.bool mw,.bool mr]) rfl rfl hHeld ?_
   simp only [sZ,sS]
   refine wpAnyH_ready (rs:=[11]) (by kernel_rfl) (by simp) (AllReadyH.cons rfl (fun K hK=>?_) AllReadyH.nil)
   go_simp
   obtain⟨W4,hW4⟩:∃ W4,W4=(W.alloc (.cells #[.int .i64 mi,.bool mw,.bool mr] 96)).drew:=⟨_,rfl⟩
   have HB4:Hid (Below W.heap.size W W4):=mH (by rw [hW4];exact(ba (Below.refl _ _) _).drew)
   have HR4:Hid (RowIn 3 c3m W4 (.slice (some ⟨W.heap.size,0,none⟩) 1 1) [((mi,mw,mr):Mk)]):=mH (by
    rw [hW4]
    exact RowIn.below (rowOne (f:=c3m) ((mi,mw,mr):Mk) W 96) (Below.refl _ _).drew)
   have HO4:=mH (oNk HOW.out (kept_new (F:=fun _=>False) HB4.out) (fun _ _ f=>f))
   rw [<- hW4]
   clear hW4 hHeld
   have f5:=kc d5 HB4.out
   have f0:=kc e0 HB4.out
   have f2:=kc m2 HB4.out
   have f3:=kc m3 HB4.out
   have f4:=kc m4 HB4.out
   refine hK.out _ _ ⟨⟨f5,f0,f2,f3,f4⟩,HLK.out W4 HB4.out⟩ (fun hHeld=>?_)
   clear hK K
   (try simp only [Act.put])
   refine wpAnyH_ready (rs:=[12]) (by kernel_rfl) (by simp) (AllReadyH.cons rfl (fun K hK=>?_) AllReadyH.nil)
   refine step_append_src3 (w:=W4) rfl (.tmp 16) (.tmp 27) 53 53 rfl w.heap.size 96 ie Tryz.underlying53 hie.out.1 (.agg #[.int .i64 0,.bool false,.bool false]) 16 hie.out.2.1 rfl hie.out.2.2.1 hie.out.2.2.2 (.slice la (mks h.rv (nds ps) j).length lc) (mks h.rv (nds ps) j).length ((mks h.rv (nds ps) j).flatMap c3m) (by simp [Act.eval]) HO4.out _ 1 (c3m (mi,mw,mr)) (by simp [Act.eval]) (srcOne (f:=c3m) (x:=((mi,mw,mr):Mk)) Tryz.underlying53 (by omega) c3m_len one3m HR4.out) (by have:=HLM.out j;unfold maxLen;omega) (by have:=HLM.out j;omega) (by have:=HB4.out.size;have:=HBW.out.size;omega) ?_
   intro v6 w6 ho6 hg6 hat6
   have k6:=Kept.grown hg6 (F:=fun k=>(Value.slice la (mks h.rv (nds ps) j).length lc).ownBlock=some k) (fun k hk=>hk)
   have HB6:Hid (Below w.heap.size w w6):=mH ((bt HBW.out HB4.out).trans (k6.below (fun k e=>(HO4.out.lt k e).1) (by have:=HB4.out.size;have:=HBW.out.size;omega)))
   have HO6:Hid (w6.ownsRow w.heap.size 96 3 v6 (mks h.rv (nds ps) (j+1)).length ((mks h.rv (nds ps) (j+1)).flatMap c3m)):=mH (by rw [HST.out,fl_snoc,List.length_append];exact ho6)
   have nG:∀ k,k < w.heap.size->¬ (Value.slice la (mks h.rv (nds ps) j).length lc).ownBlock=some k:=fun k hk e=>by have:=(HO4.out.lt k e).1;omega
   have hbl:b < w.heap.size:=HH.out.lt
   have hmb:mb < w.heap.size:=HH.out.mp.lt
   have hrl:l.rb < w.heap.size:=by obtain⟨l',e1,e2⟩:=HH.out.at hr;rw [hl2] at e1;cases e1;exact e2.box.lt
   have nW:¬ (Value.slice la (mks h.rv (nds ps) j).length lc).ownBlock=some wr.heap.size:=fun e=>by have:=(HO1.out.lt _ e).2;omega
   have g5:=k6.cell f5 (nG _ hbl)
   have g0:=k6.cell f0 nW
   have g2:=k6.cell f2 (nG _ hrl)
   have g3:=k6.cell f3 (nG _ hrl)
   have g4:=k6.cell f4 (nG _ hrl)
   have hl6:(Instr.lookup 85 (.map (some mb)) (.int .i64 id) false).run Tryz.prog w6=.ok (pB l.rb) w6:=by
    have:=((HH.out.mp.below (bt HBW.out HB4.out)).kept k6 (nG _ hmb)).get1 id
    rw [hl2] at this
    exact this
   obtain⟨va6,vc6,hv6,_⟩:=own_sh ho6
   subst hv6
   clear ho6 hg6 hat6 k6 hHeld nG
   refine hK.out _ _ ⟨⟨g5,g0,g2,g3,g4⟩,hl6⟩ (fun hHeld=>?_)
   clear hK K hl6
   (try simp only [Act.put])
   refine tkE 13 3 (.slice va6 ((mks h.rv (nds ps) j).length+1) vc6) rfl rfl hHeld ?_
   simp only [sZ,sS]
   refine wpAnyH_done (by kernel_rfl) ?_ _
   clear hHeld
   go_wp2
   go_roundw
   case rel=>exact⟨j+1,by go_num,hlt,HO6,HB6⟩
   case measure=>simp [intOf];omega
  ·obtain rfl:j=ps.length:=by omega
   have HF:Hid (mks h.rv (nds ps) ps.length=h.t.ns.map (mkOf h.rv)/\(mks h.rv (nds ps) ps.length).length=h.t.ns.length):=mH (by
    have e:mks h.rv (nds ps) ps.length=h.t.ns.map (mkOf h.rv):=by unfold mks;rw [<- HE.out,show ps.length=(nds ps).length by rw [List.length_map],List.take_length]
    exact⟨e,by rw [e,List.length_map]⟩)
   go_wp2
   go_ret
   have ho:=HO1.out
   rw [HF.out.2,HF.out.1] at ho
   exact⟨la,lc,by rw [HF.out.2];rfl,ho,HB1.out⟩
theorem release_none {B:Nat} {own:Nat->Int} {w:World} {b mb:Nat} {lay:Int->Option Lay} {nv gv wv:Value} {ps:List Np} {qs:List Op} {h:Hs} (H:HB B own w b mb lay nv gv wv ps qs h) (i k tc:Int) (ad:Addr) (hg:gbO lay i=none) (he:w.cell? ⟨4,0,none⟩=some (vE ad)):Calls Tryz.prog 13 #[pB b,.int .i64 i,.int .i64 k,.int .i64 tc] w fun e w'=>e=.returned (vE ad)/\w'=w:=by
 have HC:=mH (guestOf_is H i)
 rw [hg] at HC
 clear H hg
 simp only [pO] at HC
 go_enter Tryz.func13,Tryz.ntmps13
 go_wp2_with (go_at_call 29;refine HC.out.mono ?_;rintro e w1 ⟨rfl,hw⟩;rw [hw];clear hw)
 go_ret
 exact⟨rfl,rfl⟩
def Rv.rel (r:Rv) (s:Gt) (pol k now tc:Int):Rv:=⟨r.sv,r.m,r.wk,r.x,some (pol,s.rel k now tc),r.mi,r.mw,r.mr⟩
theorem release_some {B:Nat} {own:Nat->Int} {w:World} {b mb:Nat} {lay:Int->Option Lay} {nv gv wv:Value} {ps:List Np} {qs:List Op} {h:Hs} (H:HB B own w b mb lay nv gv wv ps qs h) (i k tc:Int) (a:Nat->Addr) (r:Rv) (pol:Int) (s:Gt) (hr:h.rv i=some r) (hg:r.g=some (pol,s)) (ok:s.Ok pol) (E:Eg w a):Calls Tryz.prog 13 #[pB b,.int .i64 i,.int .i64 k,.int .i64 tc] w fun e w'=>e=.returned (eg a (relC s k h.now))/\HL B own w b mb nv gv wv ps qs ⟨h.now,h.t,upR h.rv i (some (r.rel s pol k h.now tc)),h.ws⟩ w':=by
 obtain⟨l,hl,hm⟩:=H.at hr
 obtain⟨gb,hgb,hG,hf1,hf2⟩:=hm.yes pol s hg
 have HC:=mH (guestOf_is H i)
 rw [show gbO lay i=some gb by unfold gbO;rw [hl];exact hgb] at HC
 simp only [pO] at HC
 obtain⟨c0,_⟩:=H.c
 have HRl:=mH (release_is B w gb pol l.tv l.jv s k h.now tc a hG ok E)
 have HN:=mH (And.intro H (And.intro hl (And.intro hm (And.intro hgb (And.intro hf1 (And.intro hf2 hg))))))
 clear H hm hG hl hgb hf1 hf2 ok E hg
 go_enter Tryz.func13,Tryz.ntmps13
 go_wp2_with (first | (go_at_call 29;refine HC.out.mono ?_;rintro e w1 ⟨rfl,hw⟩;rw [hw];clear hw) | (go_at_call 30;refine HRl.out.mono ?_;rintro e w4 ⟨rfl,hgc⟩;have HGC:=mH hgc;clear hgc))
 go_ret
 obtain⟨H,hl,hm,hgb,hf1,hf2,hg⟩:=HN.out
 obtain⟨jv',hg4,k4,hv4⟩:=HGC.out
 have hFt:∀ k,Ft l.tv l.jv gb k->l.F k:=fun k f=>.inr (.inr ⟨gb,hgb,f⟩)
 have K4:Kept l.F w w4:=k4.mono hFt
 have hrb:=hm.box.lt
 have hsb:=hm.srv.lt
 have hm4:RvM B w4 ⟨l.rb,l.sb,l.gb,l.tv,jv'⟩ (r.rel s pol k h.now tc):=by
  refine⟨(k4.block l.rb hrb hf1).trans hm.box,hm.srv.kept k4 hf2,hm.b1,hm.b2,hm.ne,fun e=>(by cases e),fun p' s' e=>?_⟩
  simp only [Rv.rel,Option.some.injEq,Prod.mk.injEq] at e
  obtain⟨rfl,rfl⟩:=e
  refine⟨gb,hgb,hg4,fun f=>?_,fun f=>?_⟩
  ·rcases f with f | f | f
   ·exact hf1 (.inl f)
   ·exact hf1 (.inr (.inl f))
   ·rcases hv4 _ f with e | e
    ·exact hf1 (.inr (.inr e))
    ·have e:w.heap.size<=l.rb:=e
     omega
  ·rcases f with f | f | f
   ·exact hf2 (.inl f)
   ·exact hf2 (.inr (.inl f))
   ·rcases hv4 _ f with e | e
    ·exact hf2 (.inr (.inr e))
    ·have e:w.heap.size<=l.sb:=e
     omega
 obtain⟨own',hb4,ag4⟩:=H.one hl (l':=⟨l.rb,l.sb,l.gb,l.tv,jv'⟩) rfl K4 hm4 (fun k f=>by
  rcases f with f | f | ⟨x,e,f⟩
  ·exact .inl (.inl f)
  ·exact .inl (.inr (.inl f))
  ·have e:l.gb=some x:=e
   rcases f with f | f | f
   ·exact .inl (.inr (.inr ⟨x,e,.inl f⟩))
   ·exact .inl (.inr (.inr ⟨x,e,.inr (.inl f)⟩))
   ·rcases hv4 k f with e2 | e2
    ·exact .inl (.inr (.inr ⟨x,e,.inr (.inr e2)⟩))
    ·exact .inr e2)
 refine⟨rfl,own',_,hb4,ag4,K4.mono (fun k f=>?_)⟩
 have e1:=(H.ol i l hl).2 k f
 have e2:=(H.ol i l hl).1
 omega
end Go.Proofs.YtpdehdomilnmeaaGreatDoor
namespace Go.Proofs.YtpdehdomilnmeaaGreatDoor
theorem takeH_ok (A:Ops) {now:Int} (n0:0<=now):∀ (ws:List Od) (k:Nat) (t:Tr) (rv:Int->Option Rv),TOk k now t rv->TOk (k+(takeH A now t rv ws).2.2.length) now (takeH A now t rv ws).1 (takeH A now t rv ws).2.1/\(takeH A now t rv ws).2.2.length<=ws.length
 |[],k,t,rv,h=>⟨h,Nat.le_refl _⟩
 |o :: os,k,t,rv,h=>by
  have hs:=h.step (o:=o) n0 (app_ap A t (o.att now))
  by_cases hw:won (t.app A (o.att now)).1 (t.app A (o.att now)).2.1=true
  ·rw [takeH_stop hw]
   refine⟨?_,Nat.zero_le _⟩
   have h1:=hs.1
   have hc:¬ (t.app A (o.att now)).2.1=0:=by
    intro e
    unfold won wc at hw
    rw [e] at hw
    simp at hw
   rw [if_neg hc] at h1
   exact⟨h1.good,h1.liv,hs.2.1 hc,h1.tn,h1.at_,h1.dom⟩
  ·have hw':won (t.app A (o.att now)).1 (t.app A (o.att now)).2.1=false:=by simpa using hw
   rw [takeH_go hw' rfl]
   have ih:=takeH_ok A n0 os (k+1) _ _ hs.1
   refine⟨?_, ?_⟩
   ·have:=ih.1
    simp only [List.length_cons]
    rw [show k+((takeH A now (t.app A (o.att now)).1 (if (t.app A (o.att now)).2.1=0 then folR now rv o (t.app A (o.att now)).2.2 else rv) os).2.2.length+1)=k+1+(takeH A now (t.app A (o.att now)).1 (if (t.app A (o.att now)).2.1=0 then folR now rv o (t.app A (o.att now)).2.2 else rv) os).2.2.length by omega]
    exact this
   ·have:=ih.2
    simp only [List.length_cons]
    omega
theorem foldr_other (now:Int) (ns:List Nd) (rv:Int->Option Rv) {i:Int}:∀ l:List Nd,(∀ n ∈ l,¬ n.id=i)->(l.foldr (begR now ns) rv) i=rv i
 |[],_=>rfl
 |a :: l,h=>by
  rw [List.foldr_cons]
  show upR _ a.id _ i=_
  rw [upR_other _ _ (fun e=>h a (by simp) e.symm)]
  exact foldr_other now ns rv l (fun n hn=>h n (by simp [hn]))
theorem foldr_at (now:Int) (ns:List Nd) (rv:Int->Option Rv) {n:Nd} {r:Rv} (hr:rv n.id=some r):∀ la lb:List Nd,(∀ m ∈ la,¬ m.id=n.id)->(∀ m ∈ lb,¬ m.id=n.id)->((la ++ n :: lb).foldr (begR now ns) rv) n.id=some (r.beg n.id now (wrkR (lb.foldr (begR now ns) rv) ns n.id r))
 |[],lb,_,hb=>by
  rw [List.nil_append,List.foldr_cons]
  have:=foldr_other now ns rv lb hb
  rw [hr] at this
  rw [begR_at this,upR_same]
 |a :: la,lb,ha,hb=>by
  rw [List.cons_append,List.foldr_cons]
  show upR _ a.id _ n.id=_
  rw [upR_other _ _ (fun e=>ha a (by simp) e.symm)]
  exact foldr_at now ns rv hr la lb (fun m hm=>ha m (by simp [hm])) hb
theorem rise_split {ns:List Nd} (h:ns.Pairwise (fun a b=>a.id < b.id)) {n:Nd} (hn:n ∈ ns):∃ la lb,ns=la ++ n :: lb/\(∀ m ∈ la,m.id < n.id)/\(∀ m ∈ lb,n.id < m.id):=by
 obtain⟨la,lb,e⟩:=List.append_of_mem hn
 rw [e] at h
 obtain⟨_,h2,h3⟩:=List.pairwise_append.mp h
 exact⟨la,lb,e,fun m hm=>h3 m hm n (by simp),fun m hm=>(List.pairwise_cons.mp h2).1 m hm⟩
theorem tell_at {now:Int} {ns:List Nd} (hrise:ns.Pairwise (fun a b=>a.id < b.id)) {rv:Int->Option Rv} {n:Nd} (hn:n ∈ ns) {r:Rv} (hr:rv n.id=some r):∃ rvb,(∀ m ∈ ns,n.id < m.id->rvb m.id=tellR now ns rv m.id)/\tellR now ns rv n.id=some (r.beg n.id now (wrkR rvb ns n.id r)):=by
 obtain⟨la,lb,e,h1,h2⟩:=rise_split hrise hn
 refine⟨lb.foldr (begR now ns) rv,fun m hm hlt=>?_, ?_⟩
 ·have hml:m ∈ lb:=by
   rw [e] at hm
   rcases List.mem_append.mp hm with x | x
   ·have:=h1 m x;omega
   ·rcases List.mem_cons.mp x with rfl | x
    ·omega
    ·exact x
  show _=(ns.foldr (begR now ns) rv) m.id
  have key:∀ l:List Nd,(∀ x ∈ l,x.id < m.id)->((l ++ lb).foldr (begR now ns) rv) m.id=(lb.foldr (begR now ns) rv) m.id:=by
   intro l
   induction l with
   |nil=>intro _;rfl
   |cons a l ih=>
    intro h
    rw [List.cons_append,List.foldr_cons]
    show upR _ a.id _ m.id=_
    rw [upR_other _ _ (by have:=h a (by simp);omega)]
    exact ih (fun x hx=>h x (by simp [hx]))
  have:=key (la ++ [n]) (fun x hx=>by
   rcases List.mem_append.mp hx with y | y
   ·have:=h1 x y;omega
   ·simp at y;subst y;exact hlt)
  rw [List.append_assoc,List.singleton_append,<- e] at this
  exact this.symm
 ·show (ns.foldr (begR now ns) rv) n.id=_
  have:=foldr_at now ns rv hr la lb (fun m hm=>by have:=h1 m hm;omega) (fun m hm=>by have:=h2 m hm;omega)
  rw [<- e] at this
  exact this
theorem RvOk.beg {now:Int} {n:Nd} {r:Rv} (h:RvOk now n r) (wk:Bool) (hw:∀ p s,r.g=some (p,s)->wk=decide (0 < s.js.length)):RG now n (r.beg n.id now wk)/\GM r.sv r.m now wk (begS r.sv r.m now wk r.x):=by
 have g:=h.gi.beg h.ok h.m1 wk
 refine⟨⟨rfl,h.sv,g.b0, ?_,fun p s e=>?_⟩,g⟩
 ·have:=g.b1
  obtain⟨_,_,_,h4,h5⟩:=h.ok
  show (begS r.sv r.m now wk r.x).bud<=256
  omega
 ·have e:r.g=some (p,s):=e
  have hp:¬ n.po=0:=fun e2=>by rw [h.no e2] at e;cases e
  obtain⟨s',e3,_,e5⟩:=h.yes hp
  rw [e3] at e
  cases e
  refine⟨e5,fun hwk=>?_⟩
  have hwk:wk=true:=hwk
  have:=hw _ _ e3
  rw [hwk] at this
  exact of_decide_eq_true this.symm
theorem wrk_guest {rv:Int->Option Rv} {ns:List Nd} {i:Int} {r:Rv} {p:Int} {s:Gt} (h:r.g=some (p,s)):wrkR rv ns i r=decide (0 < s.js.length):=by unfold wrkR;rw [h]
theorem TOk.rvg {k:Nat} {now:Int} {t:Tr} {rv:Int->Option Rv} (h:TOk k now t rv):RvG now rv:=by
 intro i r hr
 obtain⟨n,hn,hi⟩:=h.dom i r hr
 obtain⟨r',hr',hR⟩:=h.at_ n hn
 rw [hi,hr] at hr'
 cases hr'
 exact⟨hR.ok,hR.m0,hR.m1⟩
theorem TOk.rg {k:Nat} {now:Int} {t:Tr} {rv:Int->Option Rv} (h:TOk k now t rv):∀ n ∈ t.ns,∃ r,tellR now t.ns rv n.id=some r/\RG now n r:=by
 intro n hn
 obtain⟨r,hr,hR⟩:=h.at_ n hn
 obtain⟨rvb,_,e⟩:=tell_at (now:=now) h.good.rise hn hr
 exact⟨_,e,(hR.beg _ (fun p s e=>wrk_guest e)).1⟩
def RvE (now:Int) (n:Nd) (r:Rv):Prop:=RvOk (now+1) n r
theorem RvOk.behind {now:Int} {n:Nd} {r:Rv} (h:RvOk now n r) (wk:Bool):RvE now n (r.beg n.id now wk):=by
 have g:=h.gi.beg h.ok h.m1 wk
 exact⟨h.sv,h.ok,h.m0,by show r.m<=now+1;have:=h.m1;omega,g.stay,h.no,h.yes⟩
theorem RvOk.charged {now:Int} {n:Nd} {r0:Rv} {wk:Bool} (h:RvOk now n r0) (hrd:rdyR (r0.beg n.id now wk)=true):RvE now n (r0.beg n.id now wk).charge:=by
 have g:=h.gi.beg h.ok h.m1 wk
 have hb:¬ (begS r0.sv r0.m now wk r0.x).bud=0:=rdy_bud (work:=wk) (x:=begS r0.sv r0.m now wk r0.x) (b:=true) (by have:rdyS wk (begS r0.sv r0.m now wk r0.x)=true:=hrd;simp [this])
 have e:(r0.beg n.id now wk).charge=⟨r0.sv,r0.m,wk,chS (begS r0.sv r0.m now wk r0.x),r0.g,n.id,wk,true⟩:=by unfold Rv.charge;rw [hrd];rfl
 rw [e]
 exact⟨h.sv,h.ok,h.m0,by show r0.m<=now+1;have:=h.m1;omega,g.charge hb,h.no,h.yes⟩
theorem Down.ok {ns:List Nd} {now:Int} (hlt:∀ n ∈ ns,n.pa < n.id) (hid:∀ n ∈ ns,∀ m ∈ ns,n.id=m.id->n=m) {rv rv':Int->Option Rv} {p:Int} {out:Option (Int × Jb × Bool)} (h:Down ns rv p rv' out):(∀ n ∈ ns,p < n.id->∃ r0 wk,RvOk now n r0/\rv n.id=some (r0.beg n.id now wk))->(∀ n ∈ ns,∃ r,rv n.id=some r/\RvE now n r)->(∀ i r,rv i=some r->∃ n ∈ ns,n.id=i)->(∀ n ∈ ns,∃ r,rv' n.id=some r/\RvE now n r)/\(∀ i r,rv' i=some r->∃ n ∈ ns,n.id=i):=by
 induction h with
 |stop _=>exact fun _ h2 h3=>⟨h2,h3⟩
 |@leaf rv p i r pol s j hb hr hg hj=>
  intro h1 h2 h3
  obtain⟨n,hn,hni,hnp,r',hr',hrd⟩:=bestR_some hb
  have hlt':=hlt n hn
  obtain⟨r0,wk,hR0,e0⟩:=h1 n hn (by omega)
  rw [hni] at e0
  rw [hr] at hr'
  cases hr'
  rw [hr] at e0
  cases e0
  refine⟨fun m hm=>?_,fun k q hq=>?_⟩
  ·by_cases e:m.id=i
   ·have:m=n:=hid m hm n hn (by omega)
    subst this
    rw [e,upR_same]
    refine⟨_,rfl, ?_⟩
    rw [<- hni] at hrd ⊢
    have hc:=hR0.charged hrd
    have hpo:¬ m.po=0:=fun e2=>by have:=hR0.no e2;have hg:r0.g=some (pol,s):=hg;rw [this] at hg;cases hg
    obtain⟨s',e3,e4,e5⟩:=hR0.yes hpo
    have hg:r0.g=some (pol,s):=hg
    rw [hg] at e3
    simp only [Option.some.injEq,Prod.mk.injEq] at e3
    obtain⟨e6,e7⟩:=e3
    subst e6 e7
    refine⟨hc.sv,hc.ok,hc.m0,hc.m1,hc.gi,fun e2=>absurd e2 hpo,fun _=>⟨⟨s.xs,runL (nx m.po s.ts s.js) j s.js⟩, ?_,e4,e5.run hj⟩⟩
    show (r0.g.map _)=_
    rw [hg];rfl
   ·rw [upR_other _ _ e]
    exact h2 m hm
  ·by_cases e:k=i
   ·exact⟨n,hn,by omega⟩
   ·rw [upR_other _ _ e] at hq
    exact h3 k q hq
 |@step rv p i r rv' out hb hr hg _ ih=>
  intro h1 h2 h3
  obtain⟨n,hn,hni,hnp,r',hr',hrd⟩:=bestR_some hb
  have hlt':=hlt n hn
  obtain⟨r0,wk,hR0,e0⟩:=h1 n hn (by omega)
  rw [hni] at e0
  rw [hr] at hr'
  cases hr'
  rw [hr] at e0
  cases e0
  refine ih (fun m hm hlt2=>?_) (fun m hm=>?_) (fun k q hq=>?_)
  ·rw [upR_other _ _ (by omega)]
   exact h1 m hm (by omega)
  ·by_cases e:m.id=i
   ·have:m=n:=hid m hm n hn (by omega)
    subst this
    rw [e,upR_same]
    refine⟨_,rfl, ?_⟩
    rw [<- hni] at hrd ⊢
    exact hR0.charged hrd
   ·rw [upR_other _ _ e]
    exact h2 m hm
  ·by_cases e:k=i
   ·exact⟨n,hn,by omega⟩
   ·rw [upR_other _ _ e] at hq
    exact h3 k q hq
theorem rise_inj {ns:List Nd} (h:ns.Pairwise (fun a b=>a.id < b.id)):∀ n ∈ ns,∀ m ∈ ns,n.id=m.id->n=m:=by
 intro n hn m hm e
 obtain⟨la,lb,e1,h1,h2⟩:=rise_split h hn
 rw [e1] at hm
 rcases List.mem_append.mp hm with x | x
 ·have:=h1 m x;omega
 ·rcases List.mem_cons.mp x with rfl | x
  ·rfl
  ·have:=h2 m x;omega
theorem tell_dom {now:Int} {ns:List Nd} {rv:Int->Option Rv} {i:Int} {r:Rv}:∀ l:List Nd,(l.foldr (begR now ns) rv) i=some r->∃ q,rv i=some q
 |[],h=>⟨r,h⟩
 |a :: l,h=>by
  rw [List.foldr_cons] at h
  have h:upR (l.foldr (begR now ns) rv) a.id (((l.foldr (begR now ns) rv) a.id).map _) i=some r:=h
  by_cases e:i=a.id
  ·rw [e,upR_same] at h
   cases hx:(l.foldr (begR now ns) rv) a.id with
   |none=>rw [hx] at h;cases h
   |some y=>rw [e];exact tell_dom l hx
  ·rw [upR_other _ _ e] at h
   exact tell_dom l h
theorem TOk.tick {k:Nat} {now:Int} {t:Tr} {rv rv':Int->Option Rv} {out:Option (Int × Jb × Bool)} (h:TOk k now t rv) (hd:Down t.ns (tellR now t.ns rv) 0 rv' out):TOk k (now+1) t rv':=by
 have hinj:=rise_inj h.good.rise
 have h1:∀ n ∈ t.ns,∃ r0 wk,RvOk now n r0/\tellR now t.ns rv n.id=some (r0.beg n.id now wk):=fun n hn=>by
  obtain⟨r,hr,hR⟩:=h.at_ n hn
  obtain⟨rvb,_,e⟩:=tell_at (now:=now) h.good.rise hn hr
  exact⟨r,_,hR,e⟩
 have:=hd.ok (now:=now) h.good.lt hinj (fun n hn _=>h1 n hn) (fun n hn=>by
  obtain⟨r0,wk,hR,e⟩:=h1 n hn
  exact⟨_,e,hR.behind wk⟩) (fun i r hr=>by
  obtain⟨q,hq⟩:=tell_dom t.ns hr
  exact h.dom i q hq)
 exact⟨h.good,h.liv,h.sm,by have:=h.tn;omega,this.1,this.2⟩
end Go.Proofs.YtpdehdomilnmeaaGreatDoor
namespace Go.Proofs.YtpdehdomilnmeaaGreatDoor
open Go.ChangeShapes Go.WideShapes Go.ChangeAt Go.RowKit
set_option maxRecDepth 100000
attribute [local go_sem] World.cell?_alloc_some fAs
abbrev oRp (cs:Array Value):Obj:=.cells cs 57
theorem size_report:(Tryz.prog.info? 57).map (·.size)=some 10:=by kernel_rfl
theorem rp_cells {w:World} {p:Nat} {a0 a1 a2 a3 a4 a5 a6 a7 a8 a9:Value} (h:w.heap[p]?=some (.cells #[a0,a1,a2,a3,a4,a5,a6,a7,a8,a9] 57 (0,0))):w.cell? ⟨p,0,none⟩=some a0/\w.cell? ⟨p,1,none⟩=some a1/\w.cell? ⟨p,2,none⟩=some a2/\w.cell? ⟨p,3,none⟩=some a3/\w.cell? ⟨p,4,none⟩=some a4/\w.cell? ⟨p,5,none⟩=some a5/\w.cell? ⟨p,6,none⟩=some a6/\w.cell? ⟨p,7,none⟩=some a7/\w.cell? ⟨p,8,none⟩=some a8/\w.cell? ⟨p,9,none⟩=some a9:=
 ⟨cOb (i:=0) h rfl,cOb (i:=1) h rfl,cOb (i:=2) h rfl,cOb (i:=3) h rfl,cOb (i:=4) h rfl,cOb (i:=5) h rfl,cOb (i:=6) h rfl,cOb (i:=7) h rfl,cOb (i:=8) h rfl,cOb (i:=9) h rfl⟩
structure TickR (A:Ops) (h h':Hs) (rs:List Rs) (ms:List Mk) (out:Option (Int × Jb × Bool)):Prop where
 nw:h'.now=h.now+1
 te:h'.t=(takeH A h.now h.t h.rv h.ws).1
 re:rs=(takeH A h.now h.t h.rv h.ws).2.2
 we:h'.ws=h.ws.drop rs.length
 dn:Down h'.t.ns (tellR h.now h'.t.ns (takeH A h.now h.t h.rv h.ws).2.1) 0 h'.rv out
 me:ms=h'.t.ns.map (mkOf h'.rv)
def TiP (A:Ops) (B:Nat) (own:Nat->Int) (w:World) (b mb:Nat) (h:Hs) (e:Ending) (w':World):Prop:=∃ h' rs ms out rv mv own',TickR A h h' rs ms out/\e=.returned (.agg (rpC (.int .i64 h.now) rv mv out))/\w'.ownsRow w.heap.size 94 2 rv rs.length (rs.flatMap c2r)/\w'.ownsRow w.heap.size 96 3 mv ms.length (ms.flatMap c3m)/\(∀ k,rv.ownBlock=some k->own' k=0)/\(∀ k,mv.ownBlock=some k->own' k=0)/\(∃ lay nv gv wv ps qs,HB B own' w' b mb lay nv gv wv ps qs h')/\(∀ k,k < w.heap.size->own' k=own k)/\Kept (fun k=>own k ≠ 0) w w'
structure TM (B:Nat) (own:Nat->Int) (w:World) (b mb:Nat) (h:Hs) (T:Tr × (Int->Option Rv) × List Rs) (w5:World) (RP:Nat) (rv:Value) (own':Nat->Int):Prop where
 hb:∃ lay nv gv wv ps qs,HB B own' w5 b mb lay nv gv wv ps qs ⟨h.now,T.1,T.2.1,h.ws.drop T.2.2.length⟩
 row:w5.ownsRow w.heap.size 94 2 rv T.2.2.length (T.2.2.flatMap c2r)
 ro:∀ k,rv.ownBlock=some k->own' k=0
 ag:∀ k,k < w.heap.size->own' k=own k
 kp:Kept (fun k=>own k ≠ 0) w w5
 rp:w5.heap[RP]?=some (.cells (rpC (.int .i64 h.now) rv (.slice none 0 0) none) 57 (0,0))
 rq:w5.heap[w.heap.size]?=some (oRp #[.int .i64 0,.slice none 0 0,.slice none 0 0,.int .i64 0,.int .i64 0,.int .i64 0,.int .i64 0,.int .i64 0,.int .i64 0,.bool false])
 rn:RP ≠ w.heap.size
 rw:w.heap.size<=RP
 r0:own' RP=0
 q0:own' w.heap.size=0
 rr:∀ k,rv.ownBlock=some k->k ≠ RP/\k ≠ w.heap.size
theorem step_store_box {P:Program} {ops:Array Oper} {o:Oper} {a:Act} {w:World} {K:Act->World->Prop} {Q:Exit->Act->World->Prop} {E:Prop} (hgd:o.guard=none) (ty:TypeId) (x y:Operand) (ho:o.op=.store ty x y)
  (g:Nat) (cells:Array Value) (hx:a.eval x=.pointer (some ⟨g,0,none⟩)) (hy:a.eval y=.agg cells)
  (t:TypeId) (old:Array Value) (hg:w.heap[g]?=some (.cells old t (0,0))) (hi:(P.info? ty).map (·.size)=some cells.size) (hold:old.size=cells.size) (h1:cells.all (·.oneCell')=true)
  (h:∀ w',w'.heap[g]?=some (.cells cells t (0,0))->Kept (fun k=>k=g) w w'->K (a.put o.dst undef) w'):if Region.wanted o (yielded ops a.tmps)=true then Oper.wp P o a w K Q else E:=by
 have hw:Region.wanted o (yielded ops a.tmps)=true:=by simp [Region.wanted,hgd]
 rw [if_pos hw]
 exact wp_store_row ty x y ho g cells hx hy t old hg hi hold h1 (h _ (setRow_heap w g old cells t (0,0) hg) (setRow_kept w g cells))
theorem ksetR {R:Nat} {w w':World} (h:Kept (fun k=>k=R) w w') (i:Nat) (v:Value):Kept (fun k=>k=R) w (w'.setCell ⟨R,i,none⟩ v):=kset (F:=fun k=>k=R) h (.inl rfl) i v
abbrev set10 (w:World) (p:Nat) (v0 v1 v2 v3 v4 v5 v6 v7 v8 v9:Value):World:=((((((((((w.setCell ⟨p,0,none⟩ v0).setCell ⟨p,1,none⟩ v1).setCell ⟨p,2,none⟩ v2).setCell ⟨p,3,none⟩ v3).setCell ⟨p,4,none⟩ v4).setCell ⟨p,5,none⟩ v5).setCell ⟨p,6,none⟩ v6).setCell ⟨p,7,none⟩ v7).setCell ⟨p,8,none⟩ v8).setCell ⟨p,9,none⟩ v9)
theorem set10_heap {w:World} {p:Nat} {c0 c1 c2 c3 c4 c5 c6 c7 c8 c9:Value} {ty:TypeId} (h:w.heap[p]?=some (.cells #[c0,c1,c2,c3,c4,c5,c6,c7,c8,c9] ty (0,0))) (v0 v1 v2 v3 v4 v5 v6 v7 v8 v9:Value):(set10 w p v0 v1 v2 v3 v4 v5 v6 v7 v8 v9).heap[p]?=some (.cells #[v0,v1,v2,v3,v4,v5,v6,v7,v8,v9] ty (0,0)):=by
 unfold set10
 rw [hSt (hSt (hSt (hSt (hSt (hSt (hSt (hSt (hSt (hSt h)))))))))]
 kernel_rfl
theorem set10_kept (w:World) (p:Nat) (v0 v1 v2 v3 v4 v5 v6 v7 v8 v9:Value):Kept (fun k=>k=p) w (set10 w p v0 v1 v2 v3 v4 v5 v6 v7 v8 v9):=ksetR (ksetR (ksetR (ksetR (ksetR (ksetR (ksetR (ksetR (ksetR (ksetR (Kept.refl _ _) _ _) _ _) _ _) _ _) _ _) _ _) _ _) _ _) _ _) _ _
theorem rpC_ex (out:Option (Int × Jb × Bool)):∃ (n3 n4 n5 n6 n7 n8:Int) (e:Bool),∀ c0 c1 c2,rpC c0 c1 c2 out=#[c0,c1,c2,.int .i64 n3,.int .i64 n4,.int .i64 n5,.int .i64 n6,.int .i64 n7,.int .i64 n8,.bool e]:=by
 cases out with
 |none=>exact⟨0,0,0,0,0,0,false,fun _ _ _=>rfl⟩
 |some x=>exact⟨_,_,_,_,_,_,_,fun _ _ _=>rfl⟩
structure TE (A:Ops) (B:Nat) (own:Nat->Int) (w:World) (b mb:Nat) (h:Hs) (T:Tr × (Int->Option Rv) × List Rs) (w8:World) (RP:Nat) (rv mv:Value) (rv3:Int->Option Rv) (out:Option (Int × Jb × Bool)) (own':Nat->Int):Prop where
 dn:Down T.1.ns (tellR h.now T.1.ns T.2.1) 0 rv3 out
 hb:∃ lay nv gv wv ps qs,HB B own' w8 b mb lay nv gv wv ps qs ⟨h.now,T.1,rv3,h.ws.drop T.2.2.length⟩
 row:w8.ownsRow w.heap.size 94 2 rv T.2.2.length (T.2.2.flatMap c2r)
 ro:∀ k,rv.ownBlock=some k->own' k=0
 mrow:w8.ownsRow w.heap.size 96 3 mv T.1.ns.length ((T.1.ns.map (mkOf rv3)).flatMap c3m)
 mo:∀ k,mv.ownBlock=some k->own' k=0
 ag:∀ k,k < w.heap.size->own' k=own k
 kp:Kept (fun k=>own k ≠ 0) w w8
 rp:w8.heap[RP]?=some (.cells (rpC (.int .i64 h.now) rv (.slice none 0 0) out) 57 (0,0))
 rq:w8.heap[w.heap.size]?=some (oRp #[.int .i64 0,.slice none 0 0,.slice none 0 0,.int .i64 0,.int .i64 0,.int .i64 0,.int .i64 0,.int .i64 0,.int .i64 0,.bool false])
 rn:RP ≠ w.heap.size
 rw:w.heap.size<=RP
 r0:own' RP=0
 q0:own' w.heap.size=0
 rr:∀ k,rv.ownBlock=some k->k ≠ RP/\k ≠ w.heap.size
 mr:∀ k,mv.ownBlock=some k->k ≠ RP/\k ≠ w.heap.size
theorem TM.run {A:Ops} {B:Nat} {own:Nat->Int} {w:World} {b mb:Nat} {h:Hs} {T:Tr × (Int->Option Rv) × List Rs} {w5 w6 w7 w8:World} {RP:Nat} {rv:Value} {own' own7:Nat->Int} {lay7:Int->Option Lay} {nv gv wv:Value} {ps:List Np} {qs:List Op} {rv3:Int->Option Rv} {out:Option (Int × Jb × Bool)} {ma:Option Addr} {mc:Nat} (M:TM B own w b mb h T w5 RP rv own') (_hsz:∀ k,own k ≠ 0->k < w.heap.size) (k6:Kept (fun k=>own' k ≠ 0) w5 w6) (hd:Down T.1.ns (tellR h.now T.1.ns T.2.1) 0 rv3 out) (hb7:HB B own7 w7 b mb lay7 nv gv wv ps qs ⟨h.now,T.1,rv3,h.ws.drop T.2.2.length⟩) (ag7:∀ k,k < w6.heap.size->own7 k=own' k) (hrp7:w7.heap[RP]?=some (.cells (rpC (.int .i64 h.now) rv (.slice none 0 0) out) 57 (0,0))) (k7:Kept (fun k=>own' k ≠ 0 ∨ k=RP) w6 w7) (hr7:own7 RP=0) (hmo:w8.ownsRow w7.heap.size 96 3 (.slice ma T.1.ns.length mc) T.1.ns.length ((T.1.ns.map (mkOf rv3)).flatMap c3m)) (b8:Below w7.heap.size w7 w8) :
  TE A B own w b mb h T w8 RP rv (.slice ma T.1.ns.length mc) rv3 out own7:=by
 have s5:=M.kp.size
 have s6:=k6.size
 have s7:=k7.size
 have hrl:=lOh M.rp
 have hql:=lOh M.rq
 have row6:=oNk M.row k6 (fun k e g=>g (M.ro k e))
 have row7:=oNk row6 k7 (fun k e g=>by
  rcases g with g | g
  ·exact g (M.ro k e)
  ·exact(M.rr k e).1 g)
 have hw7:Kept (fun k=>own k ≠ 0) w w7:=by
  refine(M.kp.trans k6 (fun k e=>?_)).trans k7 (fun k e=>?_)
  ·by_cases hk:k < w.heap.size
   ·exact .inl (by rw [<- M.ag k hk];exact e)
   ·exact .inr (by omega)
  ·rcases e with e | e
   ·by_cases hk:k < w.heap.size
    ·exact .inl (by rw [<- M.ag k hk];exact e)
    ·exact .inr (by omega)
   ·exact .inr (by rw [e];exact M.rw)
 refine⟨hd,⟨_,_,_,_,_,_,hb7.below b8⟩,oNk row7 (kept_new (F:=fun _=>False) b8) (fun _ _ f=>f),fun k e=>?_,own_lower hmo (by omega),fun k e=>?_,fun k hk=>?_,hw7.trans (kept_new (F:=fun _=>False) b8) (fun _ f=>f.elim),bLt hrp7 b8,bLt ((k7.block _ (by omega) (fun g=>?_)).trans ((k6.block _ hql (fun g=>g M.q0)).trans M.rq)) b8,M.rn,M.rw,hr7, ?_,M.rr,fun k e=>?_⟩
 ·rw [ag7 k (by have:=(row6.lt k e).2;omega)];exact M.ro k e
 ·exact Decidable.byContradiction fun hn=>by have:=(hb7.sz k hn).2;have:=(hmo.lt k e).1;omega
 ·rw [ag7 k (by omega)];exact M.ag k hk
 ·rcases g with g | g
  ·exact g M.q0
  ·exact M.rn g.symm
 ·rw [ag7 _ (by omega)];exact M.q0
 ·have:=(hmo.lt k e).1
  omega
theorem TE.end {A:Ops} {B:Nat} {own:Nat->Int} {w:World} {b mb:Nat} {h:Hs} {T:Tr × (Int->Option Rv) × List Rs} {w8 w9 w10 w11:World} {RP:Nat} {rv mv:Value} {rv3:Int->Option Rv} {out:Option (Int × Jb × Bool)} {own':Nat->Int} (M:TE A B own w b mb h T w8 RP rv mv rv3 out own') (hT:T=takeH A h.now h.t h.rv h.ws) (hob:own b = -1) (hbl:b < w.heap.size) (k9:Kept (fun k=>k=RP) w8 w9) (k10:Kept (fun k=>k=b) w9 w10) (h10:∀ lay nv gv wv ps qs,HB B own' w9 b mb lay nv gv wv ps qs ⟨h.now,T.1,rv3,h.ws.drop T.2.2.length⟩->w10.heap[b]?=some (.cells #[.int .i64 (h.now+1),nv,gv,.int .i64 T.1.last,.int .i64 T.1.now,.map (some mb),wv] 87 (0,0))) (k11:Kept (fun k=>k=w.heap.size) w10 w11) :
  TiP A B own w b mb h (.returned (.agg (rpC (.int .i64 h.now) rv mv out))) w11:=by
 obtain⟨lay,nv,gv,wv,ps,qs,hb8⟩:=M.hb
 have hb9:=hb8.kept k9 (fun k e=>.inl (by rw [e];exact M.r0))
 have hb10:=hb9.box k10 (h10 _ _ _ _ _ _ hb9)
 have hb11:=hb10.kept k11 (fun k e=>.inl (by rw [e];exact M.q0))
 have eb:own' b = -1:=by rw [M.ag b hbl];exact hob
 have nb:∀ k,own' k=0->¬ k=b:=fun k e f=>by rw [f,eb] at e;omega
 have hr:∀ {e:TypeId} {n0 n:Nat} {v:Value} {xs:List Value},w8.ownsRow w.heap.size e n0 v n xs->(∀ k,v.ownBlock=some k->own' k=0)->(∀ k,v.ownBlock=some k->k ≠ RP/\k ≠ w.heap.size)->w11.ownsRow w.heap.size e n0 v n xs:=fun hv h1 h2=>
  oNk (oNk (oNk hv k9 (fun k e=>(h2 k e).1)) k10 (fun k e=>nb k (h1 k e))) k11 (fun k e=>(h2 k e).2)
 have hlen:(T.1.ns.map (mkOf rv3)).length=T.1.ns.length:=List.length_map _
 refine⟨⟨h.now+1,T.1,rv3,h.ws.drop T.2.2.length⟩,T.2.2,T.1.ns.map (mkOf rv3),out,rv,mv,own',⟨rfl,by rw [hT],by rw [hT],rfl, ?_,rfl⟩,rfl,hr M.row M.ro M.rr,by rw [hlen];exact hr M.mrow M.mo M.mr,M.ro,M.mo,⟨lay,nv,gv,wv,ps,qs,hb11⟩,M.ag, ?_⟩
 ·have:=M.dn
  show Down T.1.ns (tellR h.now T.1.ns (takeH A h.now h.t h.rv h.ws).2.1) 0 rv3 out
  rw [<- hT];exact this
 ·refine((M.kp.trans k9 (fun k e=>.inr (by rw [e];exact M.rw))).trans k10 (fun k e=>.inl (by rw [e,hob];decide))).trans k11 (fun k e=>.inr (by omega))
set_option maxHeartbeats 25600000 in
theorem tick_is (A:Ops) (a:Nat->Addr) (K0:Nat) {B:Nat} {own:Nat->Int} {w:World} {b mb:Nat} {lay:Int->Option Lay} {nv gv wv:Value} {ps:List Np} {qs:List Op} {h:Hs} (H:HB B own w b mb lay nv gv wv ps qs h) (E:Er6 w a) (hB:16<=B) (hok:TOk K0 h.now h.t h.rv) (hk0:K0+h.ws.length<=700) (n0:0<=h.now) (n1:h.now<=1099511627776) (hwl:h.ws.length<=64) :
  Calls Tryz.prog 16 #[pB b] w (TiP A B own w b mb h):=by
 obtain⟨T,hT⟩:∃ T,T=takeH A h.now h.t h.rv h.ws:=⟨_,rfl⟩
 have HTK:Hid (∀ W,Below w.heap.size w W->Calls Tryz.prog 33 #[pB b] W (TkP B own W b mb h T)):=mH (fun W hW=>by rw [hT];exact takeOrders_is A a K0 (H.below hW) (E.late hW) hB hok hk0 n0 n1 hwl)
 have hTO:=takeH_ok A n0 h.ws K0 h.t h.rv hok
 rw [<- hT] at hTO
 have HTO:=mH hTO
 have HSZ:Hid ((∀ k,own k ≠ 0->k < w.heap.size)/\b < w.heap.size/\B<=w.heap.size/\K0+h.ws.length<=700/\h.now<=1099511627776/\0<=h.now/\own b = -1):=mH ⟨fun k hk=>(H.sz k hk).2,H.lt,by have:=H.sz b (by rw [H.ob];decide);omega,hk0,n1,n0,H.ob⟩
 obtain⟨c0,_⟩:=H.c
 have HT:=mH hT
 have hnw:IntKind.i64.wrap (h.now+1)=h.now+1:=wfit (by omega) (by omega)
 clear H E hB hok hk0 n0 n1 hwl hTO hT
 obtain⟨W0,hW0⟩:∃ W0,W0=w.alloc (oRp #[.int .i64 0,.slice none 0 0,.slice none 0 0,.int .i64 0,.int .i64 0,.int .i64 0,.int .i64 0,.int .i64 0,.int .i64 0,.bool false]):=⟨_,rfl⟩
 have HB0:Hid (Below w.heap.size w W0):=mH (by rw [hW0];exact ba (Below.refl _ w) _)
 have HR0:Hid (W0.heap[w.heap.size]?=some (oRp #[.int .i64 0,.slice none 0 0,.slice none 0 0,.int .i64 0,.int .i64 0,.int .i64 0,.int .i64 0,.int .i64 0,.int .i64 0,.bool false])):=mH (by rw [hW0];exact heap_alloc_new w _)
 have HS0:Hid (W0.heap.size=w.heap.size+1):=mH (by rw [hW0];simp)
 have d0:=kc c0 HB0.out
 go_enter Tryz.func16,Tryz.ntmps16
 go_wp2
 rw [<- hW0]
 clear hW0
 refine wp_region_held_drew (S:=fun w'=>w'.cell? ⟨b,0,none⟩=some (.int .i64 h.now)) (by kernel_rfl) d0 (fun hHeld=>?_)
 refine tkE 0 4 (pB b) rfl rfl hHeld ?_
 simp only [sZ,sS]
 refine tkE 1 5 (pB b) rfl rfl hHeld ?_
 simp only [sZ,sS]
 refine tkE 2 6 (pB b) rfl rfl hHeld ?_
 simp only [sZ,sS]
 refine tkE 3 7 (.int .i64 h.now) rfl rfl hHeld ?_
 simp only [sZ,sS]
 refine tkE 4 8 (pB b) rfl rfl hHeld ?_
 simp only [sZ,sS]
 refine wpAnyH_ready (rs:=[5,7]) (by kernel_rfl) (by simp) (AllReadyH.cons rfl (fun K hK=>?_) (AllReadyH.cons rfl (fun K hK=>?_) AllReadyH.nil))
 ·go_simp
  refine(HTK.out W0.drew HB0.out.drew).mono ?_
  rintro e w1 ⟨rv,own1,rfl,hrow,hro,⟨lay1,nv1,gv1,wv1,ps1,qs1,hb1⟩,hag,hkp⟩
  obtain⟨va,vc,hv,_⟩:=own_sh hrow
  subst hv
  have f0:=(hb1.c).1
  simp only at f0
  have HK1:=mH (And.intro hrow (And.intro hro (And.intro hb1 (And.intro hag hkp))))
  clear hrow hro hb1 hag hkp hHeld
  refine hK.out _ _ f0 (fun hHeld=>?_)
  clear hK K
  (try simp only [Act.put])
  refine tkE 6 10 (.agg #[.int .i64 h.now,.slice va T.2.2.length vc,.slice none 0 0,.int .i64 0,.int .i64 0,.int .i64 0,.int .i64 0,.int .i64 0,.int .i64 0,.bool false]) rfl rfl hHeld ?_
  simp only [sZ,sS]
  refine wpAnyH_ready (rs:=[7]) (by kernel_rfl) (by simp) (AllReadyH.cons rfl (fun K hK=>?_) AllReadyH.nil)
  go_simp
  have f1:=kl f0 (oRp #[.int .i64 0,.slice none 0 0,.slice none 0 0,.int .i64 0,.int .i64 0,.int .i64 0,.int .i64 0,.int .i64 0,.int .i64 0,.bool false])
  clear hHeld
  refine hK.out _ _ f1 (fun hHeld=>?_)
  clear hK K
  (try simp only [Act.put])
  refine wpAnyH_ready (rs:=[8]) (by kernel_rfl) (by simp) (AllReadyH.cons rfl (fun K hK=>?_) AllReadyH.nil)
  refine step_store_box rfl 57 (.tmp 3) (.tmp 10) rfl w1.heap.size #[.int .i64 h.now,.slice va T.2.2.length vc,.slice none 0 0,.int .i64 0,.int .i64 0,.int .i64 0,.int .i64 0,.int .i64 0,.int .i64 0,.bool false] (by simp [Act.eval]) (by simp [Act.eval]) 57 _ (heap_alloc_new w1 _) size_report rfl (by kernel_rfl) ?_
  intro w5 hx5 k5
  have f2:=k5.cell f1 (fun e=>by have e:b=w1.heap.size:=e;have:=World.block_lt_of_cell? w1 _ f0;simp only at this;omega)
  clear hHeld
  refine hK.out _ _ f2 (fun hHeld=>?_)
  clear hK K hHeld
  (try simp only [Act.put])
  refine wpAnyH_done (by kernel_rfl) ?_ _
  obtain⟨hrow,hro,hb1,hag,hkp⟩:=HK1.out
  obtain⟨RP,hRP⟩:∃ RP,RP=w1.heap.size:=⟨_,rfl⟩
  rw [<- hRP] at hx5 k5
  have hk5:Kept (fun _=>False) w1 w5:=⟨k5.1,k5.2,k5.3,by have:=k5.size;simp at this;omega,fun k hk _=>(k5.block k (by simp;omega) (by omega)).trans (heap_alloc_old w1 _ hk)⟩
  have b5:Below w1.heap.size w1 w5:=hk5.below (fun _ f=>f.elim) (Nat.le_refl _)
  have hz0:W0.drew.heap.size=W0.heap.size:=rfl
  have hs0:=HS0.out
  have hs1:=hkp.size
  have HM:Hid (TM B own w b mb h T w5 RP (.slice va T.2.2.length vc) own1):=mH ⟨⟨lay1,nv1,gv1,wv1,ps1,qs1,hb1.below b5⟩,oNk (own_lower hrow (by omega)) hk5 (fun _ _ f=>f),hro,fun k hk=>hag k (by omega),((kept_new (F:=fun k=>own k ≠ 0) HB0.out.drew).trans hkp (fun _ h=>.inl h)).trans hk5 (fun _ f=>f.elim),hx5,(hk5.block _ (by omega) (fun f=>f)).trans ((hkp.block w.heap.size (by omega) (fun e=>by have:=HSZ.out.1 _ e;omega)).trans HR0.out),by omega,by omega,Decidable.byContradiction fun hn=>by have:=(hb1.sz _ hn).2;omega,by rw [hag _ (by omega)];exact Decidable.byContradiction fun hn=>by have:=HSZ.out.1 _ hn;omega,fun k e=>by have:=hrow.lt k e;omega⟩
  rw [<- hRP]
  clear hRP hrow hro hb1 hag hkp HK1 f0 f1 f2 hz0 hs0 hs1 hx5 k5 hk5 b5
  obtain⟨lay5,nv5,gv5,wv5,ps5,qs5,hb5⟩:=HM.out.hb
  have HP5:Hid (HB B own1 w5 b mb lay5 nv5 gv5 wv5 ps5 qs5 ⟨h.now,T.1,T.2.1,h.ws.drop T.2.2.length⟩):=mH hb5
  have hsm:T.1.Sm 1000:=⟨by have:=HTO.out.1.sm.n;have:=HTO.out.2;have:=HSZ.out;omega,by have:=HTO.out.1.sm.g;have:=HTO.out.2;have:=HSZ.out;omega,by have:=HTO.out.1.sm.l;have:=HTO.out.2;have:=HSZ.out;omega,HTO.out.1.sm.s⟩
  have hpl:ps5.length<=1000:=by have:=hsm.n;rw [<- hb5.te,List.length_map] at this;exact this
  have HSM:=mH (And.intro hsm hpl)
  have HTW:=mH (tellWork_is hb5 (fun n hn=>by obtain⟨r,hr,_⟩:=HTO.out.1.at_ n hn;exact⟨r,hr⟩) HTO.out.1.rvg hsm (by have:=HSZ.out.2.2.2.2.1;show h.now<=_;omega))
  clear hb5 hsm hpl
  go_wp2_with (first | (go_at_call 34;refine HTW.out.mono ?_;rintro e w6 ⟨rfl,hb6,k6⟩;have hrp6:=(k6.block RP (lOh HM.out.rp) (fun g=>g HM.out.r0)).trans HM.out.rp;have HRD:=mH (runDown_is hb6 RP (.int .i64 h.now) (.slice va T.2.2.length vc) (.slice none 0 0) hrp6 HM.out.r0 HTO.out.1.rg HTO.out.1.good HSM.out.1);have HK6:=mH k6;clear hb6 k6 hrp6) | (go_at_call 35;refine HRD.out.mono ?_;rintro e w7 ⟨rfl,rv3,out,own7,lay7,hd7,hb7,ag7,hrp7,k7,hr7⟩;have HMK:=mH (marks_is hb7 (fun n hn=>(by obtain⟨r,hr,_⟩:=(HTO.out.1.tick hd7).at_ n hn;exact⟨r,hr⟩)) HSM.out.2);have H7:=mH (And.intro hd7 (And.intro hb7 (And.intro ag7 (And.intro hrp7 (And.intro k7 hr7)))));clear hd7 hb7 ag7 hrp7 k7 hr7) | (go_at_call 36;refine HMK.out.mono ?_;rintro e w8 ⟨ma,mc,rfl,hmo,b8⟩;have hte:=TM.run (A:=A) HM.out HSZ.out.1 HK6.out H7.out.1 H7.out.2.1 H7.out.2.2.1 H7.out.2.2.2.1 H7.out.2.2.2.2.1 H7.out.2.2.2.2.2 hmo b8;have HTE:=mH hte;obtain⟨n3,n4,n5,n6,n7,n8,ee,hrpc⟩:=rpC_ex out;have hrp8:=hte.rp;rw [hrpc] at hrp8;have HRPC:=mH hrpc;have HRP8:=mH hrp8;obtain⟨p0,p1,g2,p3,p4,p5,p6,p7,p8,p9⟩:=rp_cells hrp8;obtain⟨z0,z1,z2,z3,z4,z5,z6,z7,z8,z9⟩:=rp_cells hte.rq;have zf0:w8.frozen? ⟨w.heap.size,0,none⟩=false:=fOb hte.rq;have zf1:w8.frozen? ⟨w.heap.size,1,none⟩=false:=fOb hte.rq;have zf2:w8.frozen? ⟨w.heap.size,2,none⟩=false:=fOb hte.rq;have zf3:w8.frozen? ⟨w.heap.size,3,none⟩=false:=fOb hte.rq;have zf4:w8.frozen? ⟨w.heap.size,4,none⟩=false:=fOb hte.rq;have zf5:w8.frozen? ⟨w.heap.size,5,none⟩=false:=fOb hte.rq;have zf6:w8.frozen? ⟨w.heap.size,6,none⟩=false:=fOb hte.rq;have zf7:w8.frozen? ⟨w.heap.size,7,none⟩=false:=fOb hte.rq;have zf8:w8.frozen? ⟨w.heap.size,8,none⟩=false:=fOb hte.rq;have zf9:w8.frozen? ⟨w.heap.size,9,none⟩=false:=fOb hte.rq;have HRQ:=mH hte.rq;have hqr:¬ w.heap.size=RP:=(fun e=>hte.rn e.symm);have hrq:¬ RP=w.heap.size:=hte.rn;have hqb:¬ w.heap.size=b:=(by have:=HSZ.out.2.1;omega);have hbq:¬ b=w.heap.size:=(by have:=HSZ.out.2.1;omega);have gf2:w8.frozen? ⟨RP,2,none⟩=false:=fOb hrp8;have hbb:=hte.hb;obtain⟨lay8,nv8,gv8,wv8,ps8,qs8,hb8⟩:=hbb;have g0:=hb8.c.1;simp only at g0;have gf0:=hb8.fz 0;have HB8:=mH hb8;have hnb:¬ RP=b:=(fun e=>(by have e1:=hte.r0;rw [e,hb8.ob] at e1;omega));have hbn:¬ b=RP:=(fun e=>hnb e.symm);clear hmo b8 hte hrpc hrp8 hb8))
  clear p0 p1 g2 p3 p4 p5 p6 p7 p8 p9 z0 z1 z2 z3 z4 z5 z6 z7 z8 z9 zf0 zf1 zf2 zf3 zf4 zf5 zf6 zf7 zf8 zf9 gf2 g0 gf0
  obtain⟨W9,hW9⟩:∃ W9,W9=w8.setCell ⟨RP,2,none⟩ (.slice ma T.1.ns.length mc):=⟨_,rfl⟩
  rw [<- hW9]
  have k9:Kept (fun k=>k=RP) w8 W9:=by rw [hW9];exact ksetR (Kept.refl _ _) _ _
  obtain⟨W10,hW10⟩:∃ W10,W10=W9.setCell ⟨b,0,none⟩ (.int .i64 (h.now+1)):=⟨_,rfl⟩
  rw [<- hW10]
  have k10:Kept (fun k=>k=b) W9 W10:=by rw [hW10];exact ksetR (Kept.refl _ _) _ _
  have h10:∀ lay nv gv wv ps qs,HB B own7 W9 b mb lay nv gv wv ps qs ⟨h.now,T.1,rv3,h.ws.drop T.2.2.length⟩->W10.heap[b]?=some (.cells #[.int .i64 (h.now+1),nv,gv,.int .i64 T.1.last,.int .i64 T.1.now,.map (some mb),wv] 87 (0,0)):=fun lay nv gv wv ps qs hb9=>by rw [hW10,hSt hb9.blk];kernel_rfl
  have hq10:=(k10.block w.heap.size (by have:=k9.size;have:=lOh HRQ.out;omega) hqb).trans ((k9.block w.heap.size (lOh HRQ.out) hqr).trans HRQ.out)
  clear hW9 hW10
  have hq11:=set10_heap hq10 (.int .i64 h.now) (.slice va T.2.2.length vc) (.slice ma T.1.ns.length mc) (.int .i64 n3) (.int .i64 n4) (.int .i64 n5) (.int .i64 n6) (.int .i64 n7) (.int .i64 n8) (.bool ee)
  have k11:=set10_kept W10 w.heap.size (.int .i64 h.now) (.slice va T.2.2.length vc) (.slice ma T.1.ns.length mc) (.int .i64 n3) (.int .i64 n4) (.int .i64 n5) (.int .i64 n6) (.int .i64 n7) (.int .i64 n8) (.bool ee)
  obtain⟨W11,hW11⟩:∃ W11,W11=set10 W10 w.heap.size (.int .i64 h.now) (.slice va T.2.2.length vc) (.slice ma T.1.ns.length mc) (.int .i64 n3) (.int .i64 n4) (.int .i64 n5) (.int .i64 n6) (.int .i64 n7) (.int .i64 n8) (.bool ee):=⟨_,rfl⟩
  rw [<- hW11] at hq11 k11
  unfold set10 at hW11
  rw [<- hW11]
  clear hW11 hq10
  have hend:=HTE.out.end HT.out HSZ.out.2.2.2.2.2.2 HSZ.out.2.1 k9 k10 h10 k11
  rw [HRPC.out] at hend
  exact bodyPost_ret (leaves1 (cs:=#[.int .i64 h.now,.slice va T.2.2.length vc,.slice ma T.1.ns.length mc,.int .i64 n3,.int .i64 n4,.int .i64 n5,.int .i64 n6,.int .i64 n7,.int .i64 n8,.bool ee]) rfl hq11 Tryz.underlying57 size_report _ rfl) rfl hend
 ·go_simp
  have f1:=kl d0 (oRp #[.int .i64 0,.slice none 0 0,.slice none 0 0,.int .i64 0,.int .i64 0,.int .i64 0,.int .i64 0,.int .i64 0,.int .i64 0,.bool false])
  clear hHeld
  refine hK.out _ _ f1 (fun hHeld=>?_)
  clear hK K
  (try simp only [Act.put])
  obtain⟨W1,hW1⟩:∃ W1,W1=(W0.alloc (oRp #[.int .i64 0,.slice none 0 0,.slice none 0 0,.int .i64 0,.int .i64 0,.int .i64 0,.int .i64 0,.int .i64 0,.int .i64 0,.bool false])).drew:=⟨_,rfl⟩
  have HB1:Hid (Below W0.heap.size W0 W1):=mH (by rw [hW1];exact(ba (Below.refl _ _) _).drew)
  have HX1:Hid (W1.heap[W0.heap.size]?=some (oRp #[.int .i64 0,.slice none 0 0,.slice none 0 0,.int .i64 0,.int .i64 0,.int .i64 0,.int .i64 0,.int .i64 0,.int .i64 0,.bool false])):=mH (by rw [hW1];exact heap_alloc_new W0 _)
  have HS1:Hid (W1.heap.size=W0.heap.size+1):=mH (by rw [hW1];simp)
  rw [<- hW1]
  rw [<- hW1] at hHeld
  clear hW1 f1
  refine wpAnyH_ready (rs:=[5]) (by kernel_rfl) (by simp) (AllReadyH.cons rfl (fun K hK=>?_) AllReadyH.nil)
  go_simp
  refine(HTK.out W1 (bt HB0.out HB1.out)).mono ?_
  rintro e w1 ⟨rv,own1,rfl,hrow,hro,⟨lay1,nv1,gv1,wv1,ps1,qs1,hb1⟩,hag,hkp⟩
  obtain⟨va,vc,hv,_⟩:=own_sh hrow
  subst hv
  have f0:=(hb1.c).1
  simp only at f0
  have HK1:=mH (And.intro hrow (And.intro hro (And.intro hb1 (And.intro hag hkp))))
  clear hrow hro hb1 hag hkp hHeld
  obtain⟨RP,hRP⟩:∃ RP,RP=W0.heap.size:=⟨_,rfl⟩
  have HX2:Hid (w1.heap[RP]?=some (oRp #[.int .i64 0,.slice none 0 0,.slice none 0 0,.int .i64 0,.int .i64 0,.int .i64 0,.int .i64 0,.int .i64 0,.int .i64 0,.bool false])):=mH (by rw [hRP];exact(HK1.out.2.2.2.2.block W0.heap.size (by have:=HS1.out;omega) (fun e=>by have:=HSZ.out.1 _ e;have:=HS0.out;omega)).trans HX1.out)
  rw [<- hRP]
  have hRb:¬ RP=b:=by have:=HSZ.out.2.1;have:=HS0.out;omega
  refine hK.out _ _ f0 (fun hHeld=>?_)
  clear hK K
  (try simp only [Act.put])
  refine tkE 6 10 (.agg #[.int .i64 h.now,.slice va T.2.2.length vc,.slice none 0 0,.int .i64 0,.int .i64 0,.int .i64 0,.int .i64 0,.int .i64 0,.int .i64 0,.bool false]) rfl rfl hHeld ?_
  simp only [sZ,sS]
  refine wpAnyH_ready (rs:=[8]) (by kernel_rfl) (by simp) (AllReadyH.cons rfl (fun K hK=>?_) AllReadyH.nil)
  refine step_store_box rfl 57 (.tmp 3) (.tmp 10) rfl RP #[.int .i64 h.now,.slice va T.2.2.length vc,.slice none 0 0,.int .i64 0,.int .i64 0,.int .i64 0,.int .i64 0,.int .i64 0,.int .i64 0,.bool false] (by simp [Act.eval]) (by simp [Act.eval]) 57 _ HX2.out size_report rfl (by kernel_rfl) ?_
  intro w5 hx5 k5
  have f2:=k5.cell f0 (fun e=>hRb e.symm)
  clear hHeld
  refine hK.out _ _ f2 (fun hHeld=>?_)
  clear hK K hHeld
  (try simp only [Act.put])
  refine wpAnyH_done (by kernel_rfl) ?_ _
  obtain⟨hrow,hro,hb1,hag,hkp⟩:=HK1.out
  have hs0:=HS0.out
  have hs1:=HS1.out
  have hs2:=hkp.size
  have hRr:own1 RP=0:=by rw [hag _ (by omega)];exact Decidable.byContradiction fun hn=>by have:=HSZ.out.1 _ hn;omega
  have HM:Hid (TM B own w b mb h T w5 RP (.slice va T.2.2.length vc) own1):=mH ⟨⟨lay1,nv1,gv1,wv1,ps1,qs1,hb1.kept k5 (fun k e=>.inl (by rw [e];exact hRr))⟩,oNk (own_lower hrow (by omega)) k5 (fun k e f=>by have:=(hrow.lt k e).1;omega),hro,fun k hk=>hag k (by omega),(((kept_new (F:=fun k=>own k ≠ 0) (bt HB0.out HB1.out)).trans hkp (fun _ h=>.inl h))).trans k5 (fun k e=>.inr (by omega)),hx5,(k5.block w.heap.size (by omega) (by omega)).trans ((hkp.block w.heap.size (by omega) (fun e=>by have:=HSZ.out.1 _ e;omega)).trans ((HB1.out.block w.heap.size (by omega)).trans HR0.out)),by omega,by omega,hRr,by rw [hag _ (by omega)];exact Decidable.byContradiction fun hn=>by have:=HSZ.out.1 _ hn;omega,fun k e=>by have:=hrow.lt k e;omega⟩
  clear hRP hrow hro hb1 hag hkp HK1 f0 f2 hs0 hs1 hs2 hRr k5 hx5 hRb
  obtain⟨lay5,nv5,gv5,wv5,ps5,qs5,hb5⟩:=HM.out.hb
  have HP5:Hid (HB B own1 w5 b mb lay5 nv5 gv5 wv5 ps5 qs5 ⟨h.now,T.1,T.2.1,h.ws.drop T.2.2.length⟩):=mH hb5
  have hsm:T.1.Sm 1000:=⟨by have:=HTO.out.1.sm.n;have:=HTO.out.2;have:=HSZ.out;omega,by have:=HTO.out.1.sm.g;have:=HTO.out.2;have:=HSZ.out;omega,by have:=HTO.out.1.sm.l;have:=HTO.out.2;have:=HSZ.out;omega,HTO.out.1.sm.s⟩
  have hpl:ps5.length<=1000:=by have:=hsm.n;rw [<- hb5.te,List.length_map] at this;exact this
  have HSM:=mH (And.intro hsm hpl)
  have HTW:=mH (tellWork_is hb5 (fun n hn=>by obtain⟨r,hr,_⟩:=HTO.out.1.at_ n hn;exact⟨r,hr⟩) HTO.out.1.rvg hsm (by have:=HSZ.out.2.2.2.2.1;show h.now<=_;omega))
  clear hb5 hsm hpl
  go_wp2_with (first | (go_at_call 34;refine HTW.out.mono ?_;rintro e w6 ⟨rfl,hb6,k6⟩;have hrp6:=(k6.block RP (lOh HM.out.rp) (fun g=>g HM.out.r0)).trans HM.out.rp;have HRD:=mH (runDown_is hb6 RP (.int .i64 h.now) (.slice va T.2.2.length vc) (.slice none 0 0) hrp6 HM.out.r0 HTO.out.1.rg HTO.out.1.good HSM.out.1);have HK6:=mH k6;clear hb6 k6 hrp6) | (go_at_call 35;refine HRD.out.mono ?_;rintro e w7 ⟨rfl,rv3,out,own7,lay7,hd7,hb7,ag7,hrp7,k7,hr7⟩;have HMK:=mH (marks_is hb7 (fun n hn=>(by obtain⟨r,hr,_⟩:=(HTO.out.1.tick hd7).at_ n hn;exact⟨r,hr⟩)) HSM.out.2);have H7:=mH (And.intro hd7 (And.intro hb7 (And.intro ag7 (And.intro hrp7 (And.intro k7 hr7)))));clear hd7 hb7 ag7 hrp7 k7 hr7) | (go_at_call 36;refine HMK.out.mono ?_;rintro e w8 ⟨ma,mc,rfl,hmo,b8⟩;have hte:=TM.run (A:=A) HM.out HSZ.out.1 HK6.out H7.out.1 H7.out.2.1 H7.out.2.2.1 H7.out.2.2.2.1 H7.out.2.2.2.2.1 H7.out.2.2.2.2.2 hmo b8;have HTE:=mH hte;obtain⟨n3,n4,n5,n6,n7,n8,ee,hrpc⟩:=rpC_ex out;have hrp8:=hte.rp;rw [hrpc] at hrp8;have HRPC:=mH hrpc;have HRP8:=mH hrp8;obtain⟨p0,p1,g2,p3,p4,p5,p6,p7,p8,p9⟩:=rp_cells hrp8;obtain⟨z0,z1,z2,z3,z4,z5,z6,z7,z8,z9⟩:=rp_cells hte.rq;have zf0:w8.frozen? ⟨w.heap.size,0,none⟩=false:=fOb hte.rq;have zf1:w8.frozen? ⟨w.heap.size,1,none⟩=false:=fOb hte.rq;have zf2:w8.frozen? ⟨w.heap.size,2,none⟩=false:=fOb hte.rq;have zf3:w8.frozen? ⟨w.heap.size,3,none⟩=false:=fOb hte.rq;have zf4:w8.frozen? ⟨w.heap.size,4,none⟩=false:=fOb hte.rq;have zf5:w8.frozen? ⟨w.heap.size,5,none⟩=false:=fOb hte.rq;have zf6:w8.frozen? ⟨w.heap.size,6,none⟩=false:=fOb hte.rq;have zf7:w8.frozen? ⟨w.heap.size,7,none⟩=false:=fOb hte.rq;have zf8:w8.frozen? ⟨w.heap.size,8,none⟩=false:=fOb hte.rq;have zf9:w8.frozen? ⟨w.heap.size,9,none⟩=false:=fOb hte.rq;have HRQ:=mH hte.rq;have hqr:¬ w.heap.size=RP:=(fun e=>hte.rn e.symm);have hrq:¬ RP=w.heap.size:=hte.rn;have hqb:¬ w.heap.size=b:=(by have:=HSZ.out.2.1;omega);have hbq:¬ b=w.heap.size:=(by have:=HSZ.out.2.1;omega);have gf2:w8.frozen? ⟨RP,2,none⟩=false:=fOb hrp8;have hbb:=hte.hb;obtain⟨lay8,nv8,gv8,wv8,ps8,qs8,hb8⟩:=hbb;have g0:=hb8.c.1;simp only at g0;have gf0:=hb8.fz 0;have HB8:=mH hb8;have hnb:¬ RP=b:=(fun e=>(by have e1:=hte.r0;rw [e,hb8.ob] at e1;omega));have hbn:¬ b=RP:=(fun e=>hnb e.symm);clear hmo b8 hte hrpc hrp8 hb8))
  clear p0 p1 g2 p3 p4 p5 p6 p7 p8 p9 z0 z1 z2 z3 z4 z5 z6 z7 z8 z9 zf0 zf1 zf2 zf3 zf4 zf5 zf6 zf7 zf8 zf9 gf2 g0 gf0
  obtain⟨W9,hW9⟩:∃ W9,W9=w8.setCell ⟨RP,2,none⟩ (.slice ma T.1.ns.length mc):=⟨_,rfl⟩
  rw [<- hW9]
  have k9:Kept (fun k=>k=RP) w8 W9:=by rw [hW9];exact ksetR (Kept.refl _ _) _ _
  obtain⟨W10,hW10⟩:∃ W10,W10=W9.setCell ⟨b,0,none⟩ (.int .i64 (h.now+1)):=⟨_,rfl⟩
  rw [<- hW10]
  have k10:Kept (fun k=>k=b) W9 W10:=by rw [hW10];exact ksetR (Kept.refl _ _) _ _
  have h10:∀ lay nv gv wv ps qs,HB B own7 W9 b mb lay nv gv wv ps qs ⟨h.now,T.1,rv3,h.ws.drop T.2.2.length⟩->W10.heap[b]?=some (.cells #[.int .i64 (h.now+1),nv,gv,.int .i64 T.1.last,.int .i64 T.1.now,.map (some mb),wv] 87 (0,0)):=fun lay nv gv wv ps qs hb9=>by rw [hW10,hSt hb9.blk];kernel_rfl
  have hq10:=(k10.block w.heap.size (by have:=k9.size;have:=lOh HRQ.out;omega) hqb).trans ((k9.block w.heap.size (lOh HRQ.out) hqr).trans HRQ.out)
  clear hW9 hW10
  have hq11:=set10_heap hq10 (.int .i64 h.now) (.slice va T.2.2.length vc) (.slice ma T.1.ns.length mc) (.int .i64 n3) (.int .i64 n4) (.int .i64 n5) (.int .i64 n6) (.int .i64 n7) (.int .i64 n8) (.bool ee)
  have k11:=set10_kept W10 w.heap.size (.int .i64 h.now) (.slice va T.2.2.length vc) (.slice ma T.1.ns.length mc) (.int .i64 n3) (.int .i64 n4) (.int .i64 n5) (.int .i64 n6) (.int .i64 n7) (.int .i64 n8) (.bool ee)
  obtain⟨W11,hW11⟩:∃ W11,W11=set10 W10 w.heap.size (.int .i64 h.now) (.slice va T.2.2.length vc) (.slice ma T.1.ns.length mc) (.int .i64 n3) (.int .i64 n4) (.int .i64 n5) (.int .i64 n6) (.int .i64 n7) (.int .i64 n8) (.bool ee):=⟨_,rfl⟩
  rw [<- hW11] at hq11 k11
  unfold set10 at hW11
  rw [<- hW11]
  clear hW11 hq10
  have hend:=HTE.out.end HT.out HSZ.out.2.2.2.2.2.2 HSZ.out.2.1 k9 k10 h10 k11
  rw [HRPC.out] at hend
  exact bodyPost_ret (leaves1 (cs:=#[.int .i64 h.now,.slice va T.2.2.length vc,.slice ma T.1.ns.length mc,.int .i64 n3,.int .i64 n4,.int .i64 n5,.int .i64 n6,.int .i64 n7,.int .i64 n8,.bool ee]) rfl hq11 Tryz.underlying57 size_report _ rfl) rfl hend
end Go.Proofs.YtpdehdomilnmeaaGreatDoor
