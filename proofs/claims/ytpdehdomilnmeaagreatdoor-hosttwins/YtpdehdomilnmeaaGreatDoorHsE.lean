import Derived.Test.YtpdehdomilnmeaaGreatDoorHsD
import Derived.Test.YtpdehdomilnmeaaGreatDoorOpenOd
namespace Go.Proofs.YtpdehdomilnmeaaGreatDoor
theorem kc16:KC (0,0,0) [(3,5,10)] 0:=by
 refine .fits (.inl rfl) (by intro x hx;simp at hx;subst hx;unfold okS;decide) (by decide) ⟨by decide,by decide,fun l a b=>?_⟩
 have e1:gS (0,0,0)=0:=rfl
 have e2:dS (0,0,0)=0:=rfl
 have e3:qS (0,0,0)=1:=rfl
 rw [e1,e2,e3,sb_whole (by omega)]
 simp only [tot,sdem,List.map_cons,List.map_nil,List.sum_cons,List.sum_nil]
 rw [if_pos (by decide)]
 omega
abbrev ts16:List Tk:=[(1,20,20,0)]
theorem okG16:okG 1 ts16:=by
 refine⟨.inl rfl,by decide,by decide, ?_⟩
 intro x hx
 simp at hx
 subst hx
 unfold okT
 decide
theorem gc16:GC (3,5,10) 1 ts16 0:=by
 refine .fitsT (.inr (by unfold okS;decide)) okG16 rfl ⟨by decide,by decide,fun l a b=>?_⟩
 have e1:gS (3,5,10)=5:=rfl
 have e2:dS (3,5,10)=5:=rfl
 have e3:qS (3,5,10)=5:=rfl
 rw [e1,e2,e3]
 have hb:bdl l ts16=0:=by
  unfold bdl ts16 late blk
  by_cases h:l < 20
  ·simp [h];omega
  ·simp [h]
 unfold tskM
 rw [hb]
 simp only [ts16,tot,tdem,List.map_cons,List.map_nil,List.sum_cons,List.sum_nil]
 unfold sb sbF
 split
 ·have h1:0<=max 0 (l - 5) / (5+5) * 5:=by omega
  omega
 ·split
  ·rename_i h1 h2
   omega
  ·omega
def o16a:Od:=⟨1,0,(3,5,10),0,[],0⟩
def o16b:Od:=⟨4,1,(0,0,0),1,ts16,0⟩
abbrev n16:Nd:=⟨1,0,(3,5,10),1,ts16⟩
abbrev t16a:Tr:=⟨[⟨1,0,(3,5,10),0,[]⟩],[],1,0⟩
abbrev t16b:Tr:=⟨[n16],[],1,0⟩
theorem app16a (A:Ops):Tr.app A ⟨[],[],0,0⟩ (o16a.att 0)=(t16a,0,1):=by
 have hk:A.k (0,0,0) [(3,5,10)]=0:=k_of kc16
 have hok:A.ok (3,5,10)=true:=(A.hok _).mpr (by unfold okS;decide)
 simp [o16a,Od.att,Tr.app,Tr.create,Tr.crC,Tr.pass,Tr.dep,Tr.dw,Tr.bnd,Tr.nd,Tr.full,Tr.cnt,Tr.fits,Tr.srv,Tr.hold,hok,hk]
theorem gc_one1 {s:Sv} {xs:List Tk} {n:Int} (h:GC s 1 xs n) (hf:GC s 1 xs 0):n=0:=by
 obtain⟨z1,z2,z3⟩:=hf.zero1 rfl
 cases h with
 |parent h=>exact absurd z1 h
 |task _ h=>exact absurd z2 h
 |tightO _ _ h _=>omega
 |fitsO _ _ h _=>omega
 |tightT _ _ _ h=>exact absurd z3 h
 |fitsT _ _ _ _=>rfl
theorem app16b (A:Ops):Tr.app A t16a (o16b.att 0)=(t16b,0,1):=by
 have hg:A.g (3,5,10) 1 ts16=0:=gc_one1 (A.hg _ _ _) gc16
 have hok:A.okg 1 ts16=true:=(A.hokg _ _).mpr okG16
 simp [o16b,Od.att,Tr.app,Tr.bind,Tr.bdC,Tr.idleC,Tr.leafC,Tr.pass,Tr.bnd,Tr.nd,isId,Tr.cnt,bel,Tr.own,setAtL,hok,hg]
abbrev g16:Gt:=⟨[((1,20,20,0),0)],[]⟩
def rv16:Int->Option Rv:=upR (fun _=>none) 1 (some ⟨(3,5,10),0,false,⟨false,0,0⟩,some (1,g16),0,false,false⟩)
theorem take16 (A:Ops):takeH A 0 ⟨[],[],0,0⟩ (fun _=>none) [o16a,o16b]=(t16b,rv16,[(0,1),(0,1)]):=by
 have h1:won t16a 0=false:=rfl
 have h2:won t16b 0=false:=rfl
 rw [takeH_go (X:=(t16b,rv16,[(0,1)])) (by rw [app16a];exact h1),app16a]
 rw [app16a]
 simp only [if_true]
 rw [takeH_go (X:=(t16b,rv16,[])) (by rw [app16b];exact h2),app16b]
 rw [app16b]
 simp only [if_true,takeH]
 refine Prod.ext rfl (Prod.ext ?_ rfl)
 show rv16=folR 0 (folR 0 (fun _=>none) o16a 1) o16b 1
 funext j
 unfold rv16 folR upR
 by_cases e:j=1
 ·simp [e,o16a,o16b,newR,Rv.bind]
 ·simp [e,o16a,o16b]
theorem TOk.zero:TOk 0 0 ⟨[],[],0,0⟩ (fun _=>none):=⟨Tr.Good.zero,fun g hg=>by simp at hg,⟨by simp,by simp,by simp,fun x hx=>by simp at hx⟩,by simp,fun n hn=>by simp at hn,fun i r hr=>by simp at hr⟩
theorem TOk.rel {k:Nat} {now:Int} {t:Tr} {rv:Int->Option Rv} (h:TOk k now t rv) {i:Int} {r:Rv} {pol:Int} {s:Gt} (hr:rv i=some r) (hg:r.g=some (pol,s)) (tk tc:Int):TOk k now t (upR rv i (some (r.rel s pol tk now tc))):=by
 refine⟨h.good,h.liv,h.sm,h.tn,fun n hn=>?_,fun j q hq=>?_⟩
 ·by_cases e:n.id=i
  ·rw [e,upR_same]
   obtain⟨r',hr',hR⟩:=h.at_ n hn
   rw [e,hr] at hr'
   cases hr'
   refine⟨_,rfl,hR.sv,hR.ok,hR.m0,hR.m1,hR.gi,fun e2=>?_,fun e2=>?_⟩
   ·rw [hR.no e2] at hg;cases hg
   ·obtain⟨s',e3,e4,e5⟩:=hR.yes e2
    rw [hg] at e3
    simp only [Option.some.injEq,Prod.mk.injEq] at e3
    obtain⟨rfl,rfl⟩:=e3
    exact⟨_,rfl,by rw [rel_ts];exact e4,e5.rel tk now tc⟩
  ·rw [upR_other _ _ e];exact h.at_ n hn
 ·by_cases e:j=i
  ·rw [e];exact h.dom i r hr
  ·rw [upR_other _ _ e] at hq;exact h.dom j q hq
theorem TOk.gok {k:Nat} {now:Int} {t:Tr} {rv:Int->Option Rv} (h:TOk k now t rv) {i:Int} {r:Rv} {pol:Int} {s:Gt} (hr:rv i=some r) (hg:r.g=some (pol,s)):s.Ok pol:=by
 obtain⟨n,hn,hi⟩:=h.dom i r hr
 obtain⟨r',hr',hR⟩:=h.at_ n hn
 rw [hi,hr] at hr'
 cases hr'
 have hp:¬ n.po=0:=fun e=>by rw [hR.no e] at hg;cases hg
 obtain⟨s',e3,e4,e5⟩:=hR.yes hp
 rw [hg] at e3
 simp only [Option.some.injEq,Prod.mk.injEq] at e3
 obtain⟨rfl,rfl⟩:=e3
 exact e5
def r16 (wk:Bool):Rv:=⟨(3,5,10),0,wk,⟨true,5,10⟩,some (1,g16),1,wk,false⟩
theorem tell16:tellR 0 t16b.ns rv16 1=some (r16 false):=by
 simp [tellR,begR,upR,rv16,wrkR,Rv.beg,begS,flS,fillS,r16]
theorem down16 {rv':Int->Option Rv} {out:Option (Int × Jb × Bool)} (h:Down t16b.ns (tellR 0 t16b.ns rv16) 0 rv' out):out=none/\rv' 1=some (r16 false):=by
 have hb:bestR (tellR 0 t16b.ns rv16) t16b.ns 0=none:=by
  have:=tell16
  simp only [bestR,List.foldl_cons,List.foldl_nil,bstF,this]
  simp [rdyR,rdyS,r16]
 cases h with
 |stop _=>exact⟨rfl,tell16⟩
 |leaf h1 _ _ _=>rw [hb] at h1;cases h1
 |step h1 _ _ _=>rw [hb] at h1;cases h1
abbrev j16:Jb:=⟨0,1,21,1,0⟩
theorem rel16:relC g16 0 1=0/\g16.rel 0 1 1=⟨[((1,20,20,0),21)],[j16]⟩:=by
 constructor
 ·rfl
 ·rfl
theorem tell16b {rv:Int->Option Rv} (h:rv 1=some ((r16 false).rel g16 1 0 1 1)):∃ x,tellR 1 t16b.ns rv 1=some ⟨(3,5,10),0,true,⟨true,5,10⟩,some (1,⟨[((1,20,20,0),21)],[j16]⟩),1,true,x⟩:=by
 refine⟨false, ?_⟩
 simp only [tellR,List.foldr_cons,List.foldr_nil]
 rw [begR_at (n:=n16) h,upR_same]
 simp [Rv.rel,Rv.beg,r16,rel16.2,wrkR,begS,flS]
theorem down16b {rv rv':Int->Option Rv} {out:Option (Int × Jb × Bool)} (hr:rv 1=some ((r16 false).rel g16 1 0 1 1)) (h:Down t16b.ns (tellR 1 t16b.ns rv) 0 rv' out):∃ j,out=some (1,j,true):=by
 obtain⟨x,ht⟩:=tell16b hr
 have hb:bestR (tellR 1 t16b.ns rv) t16b.ns 0=some 1:=by
  simp only [bestR,List.foldl_cons,List.foldl_nil,bstF,ht]
  simp [rdyR,rdyS,sooner]
 cases h with
 |stop h1=>rw [hb] at h1;cases h1
 |@leaf _ _ i r pol s j h1 h2 h3 h4=>
  rw [hb] at h1
  cases h1
  rw [ht] at h2
  cases h2
  simp only [Option.some.injEq,Prod.mk.injEq] at h3
  obtain⟨rfl,rfl⟩:=h3
  have hn:nx 1 (Gt.ts ⟨[((1,20,20,0),21)],[j16]⟩) [j16]=0:=rfl
  rw [hn] at h4
  cases h4
  exact⟨_,rfl⟩
 |step h1 h2 h3 _=>
  rw [hb] at h1
  cases h1
  rw [ht] at h2
  cases h2
  cases h3
end Go.Proofs.YtpdehdomilnmeaaGreatDoor
namespace Go.Proofs.YtpdehdomilnmeaaGreatDoor
open Go.ChangeShapes Go.WideShapes Go.ChangeAt Go.RowKit
set_option maxRecDepth 100000
attribute [local go_sem] World.cell?_alloc_some fAs
theorem Eg.low {B:Nat} {w w':World} {a:Nat->Addr} (h:Eg w a) (hb:Below B w w') (hB:16<=B):Eg w' a:=
 ⟨(hb.cell (by show 0 < B;omega)).trans h.1,(hb.cell (by show 13 < B;omega)).trans h.2,(hb.cell (by show 6 < B;omega)).trans h.3,(hb.cell (by show 10 < B;omega)).trans h.4⟩
structure HX (B:Nat) (W:World) (own:Nat->Int) (w:World) (b mb:Nat) (h:Hs):Prop where
 hb:∃ lay nv gv wv ps qs,HB B own w b mb lay nv gv wv ps qs h
 bl:Below B W w
theorem HX.sz {B:Nat} {W:World} {own:Nat->Int} {w:World} {b mb:Nat} {h:Hs} (X:HX B W own w b mb h):∀ k,own k ≠ 0->B<=k/\k < w.heap.size:=by
 obtain⟨_,_,_,_,_,_,hb⟩:=X.hb
 exact hb.sz
theorem HX.zero {B:Nat} {W:World} {own:Nat->Int} {w:World} {b mb:Nat} {h:Hs} (X:HX B W own w b mb h) {k:Nat} (hk:w.heap.size<=k):own k=0:=Decidable.byContradiction fun hn=>by have:=(X.sz k hn).2;omega
theorem HX.le {B:Nat} {W:World} {own:Nat->Int} {w:World} {b mb:Nat} {h:Hs} (X:HX B W own w b mb h):B<=w.heap.size:=by
 obtain⟨_,_,_,_,_,_,hb⟩:=X.hb
 have:=hb.sz b (by rw [hb.ob];decide)
 omega
theorem HX.late {B:Nat} {W:World} {own:Nat->Int} {w w':World} {b mb:Nat} {h:Hs} (X:HX B W own w b mb h) (hb:Below w.heap.size w w'):HX B W own w' b mb h:=by
 have hl:=X.le
 obtain⟨_,_,_,_,_,_,h0⟩:=X.hb
 exact⟨⟨_,_,_,_,_,_,h0.below hb⟩,X.bl.trans (hb.mono hl)⟩
theorem HX.call {B:Nat} {W:World} {own own':Nat->Int} {w w':World} {b mb:Nat} {h h':Hs} (X:HX B W own w b mb h) (h1:∃ lay nv gv wv ps qs,HB B own' w' b mb lay nv gv wv ps qs h') (hk:Kept (fun k=>own k ≠ 0) w w'):HX B W own' w' b mb h':=
 ⟨h1,X.bl.trans (hk.below (fun k e=>(X.sz k e).1) X.le)⟩
theorem HX.calls {B:Nat} {W:World} {own:Nat->Int} {w w':World} {b mb:Nat} {h h':Hs} (X:HX B W own w b mb h) (ho:HO B own w b mb h' w'):∃ own',HX B W own' w' b mb h'/\(∀ k,k < w.heap.size->own' k=own k)/\Kept (fun k=>own k ≠ 0) w w':=by
 obtain⟨own',lay,nv,gv,wv,ps,qs,h1,h2,h3⟩:=ho
 exact⟨own',X.call ⟨lay,nv,gv,wv,ps,qs,h1⟩ h3,h2,h3⟩
theorem HX.submit {B:Nat} {W:World} {own:Nat->Int} {w:World} {b mb:Nat} {h:Hs} (X:HX B W own w b mb h) (q:Op) (hq:Tks w (tvO q) q.1.ts) (hqs:smallO q) (hl:h.ws.length<=63):Calls Tryz.prog 11 #[pB b,vOp q] w fun e w'=>e=.returned (.tuple #[])/\∃ own',HX B W own' w' b mb ⟨h.now,h.t,h.rv,h.ws ++ [q.1]⟩/\(∀ k,k < w.heap.size->own' k=own k)/\Kept (fun k=>own k ≠ 0) w w':=by
 obtain⟨_,_,_,_,_,_,hb⟩:=id X.hb
 refine(submit_is hb q hq hqs hl).mono ?_
 rintro e w' ⟨rfl,ho⟩
 exact⟨rfl,X.calls ho⟩
def TiX (A:Ops) (B:Nat) (W:World) (own:Nat->Int) (w:World) (b mb:Nat) (h:Hs) (e:Ending) (w':World):Prop:=∃ h' rs ms out ra rc ma mc own',TickR A h h' rs ms out/\e=.returned (.agg (rpC (.int .i64 h.now) (.slice ra rs.length rc) (.slice ma ms.length mc) out))/\w'.ownsRow w.heap.size 94 2 (.slice ra rs.length rc) rs.length (rs.flatMap c2r)/\w'.ownsRow w.heap.size 96 3 (.slice ma ms.length mc) ms.length (ms.flatMap c3m)/\(∀ k,(Value.slice ra rs.length rc).ownBlock=some k->own' k=0)/\(∀ k,(Value.slice ma ms.length mc).ownBlock=some k->own' k=0)/\HX B W own' w' b mb h'/\(∀ k,k < w.heap.size->own' k=own k)/\Kept (fun k=>own k ≠ 0) w w'
theorem HX.tick {A:Ops} {B:Nat} {W:World} {own:Nat->Int} {w:World} {b mb:Nat} {h:Hs} (X:HX B W own w b mb h) (a:Nat->Addr) (K0:Nat) (E:Er6 W a) (hB:16<=B) (hok:TOk K0 h.now h.t h.rv) (hk0:K0+h.ws.length<=700) (n0:0<=h.now) (n1:h.now<=1099511627776) (hwl:h.ws.length<=64) :
  Calls Tryz.prog 16 #[pB b] w (TiX A B W own w b mb h):=by
 obtain⟨_,_,_,_,_,_,hb⟩:=id X.hb
 refine(tick_is A a K0 hb (E.low X.bl hB) hB hok hk0 n0 n1 hwl).mono ?_
 rintro e w' ⟨h',rs,ms,out,rv,mv,own',htr,rfl,h1,h2,h3,h4,h5,h6,h7⟩
 obtain⟨ra,rc,rfl,_⟩:=own_sh h1
 obtain⟨ma,mc,rfl,_⟩:=own_sh h2
 exact⟨h',rs,ms,out,ra,rc,ma,mc,own',htr,rfl,h1,h2,h3,h4,X.call h5 h7,h6,h7⟩
theorem TickR.ok {A:Ops} {h h':Hs} {rs:List Rs} {ms:List Mk} {out:Option (Int × Jb × Bool)} {K0:Nat} (r:TickR A h h' rs ms out) (hok:TOk K0 h.now h.t h.rv) (n0:0<=h.now):TOk (K0+rs.length) h'.now h'.t h'.rv/\rs.length<=h.ws.length:=by
 have h1:=takeH_ok A n0 h.ws K0 h.t h.rv hok
 rw [<- r.re] at h1
 refine⟨?_,h1.2⟩
 have h2:=h1.1
 rw [<- r.te] at h2
 rw [r.nw]
 exact h2.tick r.dn
theorem tks_none16 (W:World):Tks W (.slice none ([]:List Tk).length 0) []:=⟨none,0,rfl,by simp,fun hp=>by simp at hp⟩
theorem tks_one16 (w:World) (x:Tk):Tks (w.alloc (.cells #[.int .i64 x.1,.int .i64 x.2.1,.int .i64 x.2.2.1,.int .i64 x.2.2.2] 45)) (.slice (some ⟨w.heap.size,0,none⟩) 1 1) [x]:=by
 refine⟨_,_,rfl,by simp,fun _=>⟨w.heap.size,0,rfl,fun i y hy=>?_⟩⟩
 have hi:i=0:=by
  have:=(List.getElem?_eq_some_iff.mp hy).1
  simp at this
  exact this
 subst hi
 simp at hy
 subst hy
 have h:=heap_alloc_new w (.cells #[.int .i64 x.1,.int .i64 x.2.1,.int .i64 x.2.2.1,.int .i64 x.2.2.2] 45)
 exact⟨cOb (i:=0) h rfl,cOb (i:=1) h rfl,cOb (i:=2) h rfl,cOb (i:=3) h rfl⟩
theorem tick16 {A:Ops} {h':Hs} {rs:List Rs} {ms:List Mk} {out:Option (Int × Jb × Bool)} (r:TickR A ⟨0,⟨[],[],0,0⟩,fun _=>none,[o16a,o16b]⟩ h' rs ms out):rs=[(0,1),(0,1)]/\out=none/\h'.now=1/\h'.rv 1=some (r16 false)/\h'.t=t16b/\h'.ws=[]:=by
 have hT:=take16 A
 have e1:=r.re
 have e2:=r.te
 have e3:=r.nw
 have e4:=r.we
 have e5:=r.dn
 simp only at e1 e2 e3 e4 e5
 rw [hT] at e1 e2 e5
 simp only at e1 e2
 rw [e2] at e5
 obtain⟨d1,d2⟩:=down16 e5
 refine⟨e1,d1,e3,d2,e2, ?_⟩
 rw [e4,e1]
 rfl
theorem tick16b {A:Ops} {h4 h':Hs} {rs:List Rs} {ms:List Mk} {out:Option (Int × Jb × Bool)} (hn:h4.now=1) (_hr:h4.rv 1=some (r16 false)) (ht:h4.t=t16b) (hw:h4.ws=[]) (r:TickR A ⟨h4.now,h4.t,upR h4.rv 1 (some ((r16 false).rel g16 1 0 h4.now 1)),h4.ws⟩ h' rs ms out):∃ j,out=some (1,j,true):=by
 have e2:=r.te
 have e5:=r.dn
 simp only at e2 e5
 rw [hw,ht] at e2 e5
 simp only [takeH] at e2 e5
 rw [e2,hn] at e5
 exact down16b (by rw [upR_same]) e5
set_option maxHeartbeats 12800000 in
theorem alive16 (A:Ops) (w:World) (a a2:Nat->Addr) (E:Er6 w a) (G:Eg w a2) (hB:16<=w.heap.size):Calls Tryz.prog 9 #[] w fun e w'=>e=.returned (.bool true)/\Below w.heap.size w w':=by
 have HE:=mH (And.intro E (And.intro G hB))
 clear E G hB
 go_enter Tryz.func9,Tryz.ntmps9
 have M1:=mH trivial
 have M2:=mH trivial
 go_wp2_with (first | (go_at_call 10;refine(hnew_is w).mono ?_;rintro e w1 ⟨rfl,hb1,bl1⟩;have HX1:Hid (HX w.heap.size w (own0 w.heap.size) w1 (w.heap.size+1) w.heap.size hs0):=mH ⟨⟨_,_,_,_,_,_,hb1⟩,bl1⟩;clear hb1 bl1;generalize own0 w.heap.size=own1 at HX1;obtain⟨B,hBe⟩:∃ B,B=w.heap.size:=⟨_,rfl⟩;rw [<- hBe] at HX1 HE ⊢;have HBE:=mH hBe;clear hBe;obtain⟨b,hbe⟩:∃ b,b=B+1:=⟨_,rfl⟩;rw [<- hbe] at HX1 ⊢;clear hbe) | (go_at_call 11;have _m:=M1;clear M1;refine(HX1.out.submit (o16a,none,0) (tks_none16 w1) (by simp [smallO,o16a]) (by simp [hs0])).mono ?_;rintro e w2 ⟨rfl,own2,hx2,_,_⟩;have HX2:=mH hx2;clear hx2) | (go_at_call 11;refine((HX2.out.late (ba (Below.refl _ w2) _)).submit (o16b,some ⟨w2.heap.size,0,none⟩,1) (tks_one16 w2 (1,20,20,0)) (by simp [smallO,o16b]) (by simp [hs0])).mono ?_;rintro e w3 ⟨rfl,own3,hx3,_,_⟩;have HX3:Hid (HX B w own3 w3 b B ⟨0,⟨[],[],0,0⟩,fun _=>none,[o16a,o16b]⟩):=mH hx3;clear hx3) | (go_at_call 16;have _m:=M2;clear M2;refine(HX3.out.tick (A:=A) a 0 HE.out.1 HE.out.2.2 TOk.zero (by simp) (by simp) (by simp) (by simp)).mono ?_;rintro e w4 ⟨h4,rs,ms,out,ra,rc,ma,mc,own4,htr,rfl,_,_,_,_,hx4,_,_⟩;have hok4:=(htr.ok TOk.zero (by simp)).1;have hf4:=tick16 htr;obtain⟨e1,e2,e3,e4,e5,e6⟩:=hf4;subst e1 e2;simp only [rpC];have H4:=mH (And.intro hx4 (And.intro hok4 (And.intro e3 (And.intro e4 (And.intro e5 e6)))));clear htr hx4 hok4 e3 e4 e5 e6;obtain⟨X2,hX2⟩:∃ X2,X2=w4.heap.size:=⟨_,rfl⟩;have HXE:=mH hX2;clear hX2) | (go_at_call 13;have hbl:=H4.out.1.late (ba (Below.refl _ w4) (.cells #[.int .i64 0,.slice ra [((0:Int),(1:Int)),(0,1)].length rc,.slice ma ms.length mc,.int .i64 0,.int .i64 0,.int .i64 0,.int .i64 0,.int .i64 0,.int .i64 0,.bool false] 57));obtain⟨lay4,nv4,gv4,wv4,ps4,qs4,hb4⟩:=hbl.hb;refine(release_some hb4 1 0 1 a2 (r16 false) 1 g16 H4.out.2.2.2.1 rfl (H4.out.2.1.gok H4.out.2.2.2.1 rfl) (HE.out.2.1.low hbl.bl HE.out.2.2)).mono ?_;rintro e w5 ⟨rfl,own5,lay5,hb5,ag5,kp5⟩;rw [H4.out.2.2.1];have er:eg a2 (relC g16 0 1)=.nilIface:=(by rw [rel16.1];rfl);rw [er];clear er;have hx5:=hbl.call ⟨_,_,_,_,_,_,hb5⟩ kp5;have hbx:w5.heap[w4.heap.size]?=some (.cells #[.int .i64 0,.slice ra [((0:Int),(1:Int)),(0,1)].length rc,.slice ma ms.length mc,.int .i64 0,.int .i64 0,.int .i64 0,.int .i64 0,.int .i64 0,.int .i64 0,.bool false] 57):=(kp5.block w4.heap.size (by simp) (fun hn=>hn (H4.out.1.zero (Nat.le_refl _)))).trans (heap_alloc_new w4 _);have H5:=mH (And.intro hx5 (And.intro hbx (show own5 w4.heap.size=0 by rw [ag5 _ (by simp)];exact H4.out.1.zero (Nat.le_refl _))));clear hbl hb4 hb5 ag5 kp5 hx5 hbx) | (go_at_call 16;have hok5:=H4.out.2.1.rel H4.out.2.2.2.1 (show (r16 false).g=some (1,g16) from rfl) 0 1;refine(H5.out.1.tick (A:=A) a 2 HE.out.1 HE.out.2.2 hok5 (by rw [H4.out.2.2.2.2.2];simp) (by rw [H4.out.2.2.1];simp) (by rw [H4.out.2.2.1];simp) (by rw [H4.out.2.2.2.2.2];simp)).mono ?_;rintro e w6 ⟨h6,rs6,ms6,out6,ra6,rc6,ma6,mc6,own6,htr6,rfl,_,_,_,_,hx6,_,kp6⟩;have hf6:=tick16b H4.out.2.2.1 H4.out.2.2.2.1 H4.out.2.2.2.2.1 H4.out.2.2.2.2.2 htr6;obtain⟨j6,e6⟩:=hf6;subst e6;simp only [rpC];rw [H4.out.2.2.1];have hb6:=(kp6.block w4.heap.size (lOh H5.out.2.1) (fun hn=>hn H5.out.2.2)).trans H5.out.2.1;have p1:=cOb (i:=1) hb6 rfl;have p3:=cOb (i:=3) hb6 rfl;have HX6:=mH hx6;clear htr6 hx6 kp6 hok5 hb6))
 go_ret
 exact⟨by simp,HBE.out ▸ (HX6.out.late (ba (Below.refl _ w6) _)).bl⟩
end Go.Proofs.YtpdehdomilnmeaaGreatDoor
namespace Go.Proofs.YtpdehdomilnmeaaGreatDoor
end Go.Proofs.YtpdehdomilnmeaaGreatDoor
namespace Go.Proofs.YtpdehdomilnmeaaGreatDoor
open Go.ChangeShapes Go.WideShapes Go.ChangeAt Go.RowKit
set_option maxRecDepth 100000
attribute [local go_sem] World.cell?_alloc_some fAs
theorem HX.wait {B:Nat} {W:World} {own:Nat->Int} {w:World} {b mb:Nat} {h:Hs} (X:HX B W own w b mb h):Calls Tryz.prog 21 #[pB b] w fun e w'=>e=.returned (.int .i64 (h.ws.length:Int))/\w'=w:=by
 obtain⟨_,_,_,_,_,_,hb⟩:=X.hb
 exact hwait_is hb
end Go.Proofs.YtpdehdomilnmeaaGreatDoor
