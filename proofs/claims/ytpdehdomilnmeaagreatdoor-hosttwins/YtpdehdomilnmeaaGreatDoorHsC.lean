import Derived.Test.YtpdehdomilnmeaaGreatDoorHsB
import Derived.Test.YtpdehdomilnmeaaGreatDoorHsM
import Derived.Test.YtpdehdomilnmeaaGreatDoorSx
namespace Go.Proofs.YtpdehdomilnmeaaGreatDoor
open Go.ChangeShapes Go.WideShapes Go.ChangeAt Go.RowKit
set_option maxRecDepth 100000
attribute [local go_sem] World.cell?_alloc_some fAs
def HL (B:Nat) (own:Nat->Int) (w:World) (b mb:Nat) (nv gv wv:Value) (ps:List Np) (qs:List Op) (h:Hs) (w':World):Prop:=∃ own' lay,HB B own' w' b mb lay nv gv wv ps qs h/\(∀ k,k < w.heap.size->own' k=own k)/\Kept (fun k=>own k ≠ 0) w w'
abbrev oOq (q:Op):Obj:=.cells #[.int .i64 q.1.ki,.int .i64 q.1.id,.int .i64 q.1.sv.1,.int .i64 q.1.sv.2.1,.int .i64 q.1.sv.2.2,.int .i64 q.1.po,tvO q,.int .i64 q.1.tm] 40
set_option maxHeartbeats 6400000 in
theorem follow_new1 {B:Nat} {own:Nat->Int} {w:World} {b mb:Nat} {lay:Int->Option Lay} {nv gv wv:Value} {ps:List Np} {qs:List Op} {h:Hs} (H:HB B own w b mb lay nv gv wv ps qs h) (q:Op) (i:Int) (hk:q.1.ki=1) (hs:okS q.1.sv) (n0:0<=h.now) (n1:h.now<=1099511627776) (hi:1<=i) :
  Calls Tryz.prog 51 #[pB b,vOp q,.int .i64 i] w fun e w'=>e=.returned (.tuple #[])/\HL B own w b mb nv gv wv ps qs ⟨h.now,h.t,upR h.rv i (some (newR q.1.sv h.now)),h.ws⟩ w':=by
 have HH:=mH H
 obtain⟨W,hW⟩:∃ W,W=w.alloc (oOq q):=⟨_,rfl⟩
 have HBW:Hid (Below w.heap.size w W):=mH (by rw [hW];exact ba (Below.refl _ w) _)
 have hx:W.heap[w.heap.size]?=some (oOq q):=by rw [hW];exact heap_alloc_new w _
 have x0:W.cell? ⟨w.heap.size,0,none⟩=some (.int .i64 q.1.ki):=cOb (i:=0) hx rfl
 have x2:W.cell? ⟨w.heap.size,2,none⟩=some (.int .i64 q.1.sv.1):=cOb (i:=2) hx rfl
 have x3:W.cell? ⟨w.heap.size,3,none⟩=some (.int .i64 q.1.sv.2.1):=cOb (i:=3) hx rfl
 have x4:W.cell? ⟨w.heap.size,4,none⟩=some (.int .i64 q.1.sv.2.2):=cOb (i:=4) hx rfl
 obtain⟨d0,_,_,_,_,d5,_⟩:=H.c
 have e0:=kc d0 HBW.out
 have e5:=kc d5 HBW.out
 have HN:Hid (Calls Tryz.prog 73 #[vS q.1.sv,.int .i64 h.now] W.drew fun e w'=>∃ b,e=.returned (.tuple #[.pointer (some ⟨b,0,none⟩),.nilIface])/\W.drew.heap.size<=b/\SB w' b q.1.sv h.now false ⟨false,0,h.now⟩/\Below W.drew.heap.size W.drew w'):=mH (snew_ok W.drew q.1.sv h.now ⟨hs,n0,n1⟩)
 have HSW:Hid (w.heap.size+1=W.heap.size):=mH (by rw [hW];simp)
 have HI:=mH hi
 clear H d0 d5 hs n0 n1 hi hx
 obtain⟨⟨ki,id,⟨sk,sq,sT⟩,po,ts,tm⟩,oa,oc⟩:=q
 simp only [vOp,vOd,tvO,oOq] at *
 subst hk
 go_enter Tryz.func51,Tryz.ntmps51
 go_wp2
 rw [<- hW]
 clear hW
 go_wp2
 refine wp_region_held_drew (S:=fun w'=>w'.cell? ⟨w.heap.size,2,none⟩=some (.int .i64 sk)/\w'.cell? ⟨w.heap.size,3,none⟩=some (.int .i64 sq)/\w'.cell? ⟨w.heap.size,4,none⟩=some (.int .i64 sT)/\w'.cell? ⟨b,0,none⟩=some (.int .i64 h.now)) (by kernel_rfl) ⟨x2,x3,x4,e0⟩ (fun hHeld=>?_)
 refine tkE 0 14 (.pointer (some ⟨w.heap.size,2,none⟩)) rfl rfl hHeld ?_
 simp only [sZ,sS]
 refine tkE 1 15 (.agg #[.int .i64 sk,.int .i64 sq,.int .i64 sT]) rfl rfl hHeld ?_
 simp only [sZ,sS]
 refine tkE 2 16 (pB b) rfl rfl hHeld ?_
 simp only [sZ,sS]
 refine tkE 3 17 (pB b) rfl rfl hHeld ?_
 simp only [sZ,sS]
 refine tkE 4 18 (pB b) rfl rfl hHeld ?_
 simp only [sZ,sS]
 refine tkE 5 19 (.int .i64 h.now) rfl rfl hHeld ?_
 simp only [sZ,sS]
 refine wpAnyH_ready (rs:=[6]) (by kernel_rfl) (by simp) (AllReadyH.cons rfl (fun K hK=>?_) AllReadyH.nil)
 go_simp
 refine HN.out.mono ?_
 rintro e w2 ⟨sb,rfl,hsb,hS2,b2⟩
 have HB2:Hid (Below W.heap.size W w2):=mH ((Below.refl _ W).drew.trans b2)
 have y2:=kc x2 HB2.out
 have y3:=kc x3 HB2.out
 have y4:=kc x4 HB2.out
 have y0:=kc e0 HB2.out
 have y5:=kc e5 HB2.out
 have HS2:=mH (And.intro hS2 hsb)
 clear b2 hS2 hsb hHeld
 refine hK.out _ _ ⟨y2,y3,y4,y0⟩ (fun hHeld=>?_)
 clear hK K
 refine tkE 7 13 (.tuple #[pB sb,.nilIface]) rfl rfl hHeld ?_
 simp only [sZ,sS]
 refine tkE 8 21 (pB sb) rfl rfl hHeld ?_
 simp only [sZ,sS]
 refine tkE 9 22 (.nilIface) rfl rfl hHeld ?_
 simp only [sZ,sS]
 refine tkE 10 6 (pB sb) rfl rfl hHeld ?_
 simp only [sZ,sS]
 refine tkE 11 7 (.nilIface) rfl rfl hHeld ?_
 simp only [sZ,sS]
 refine wpAnyH_done (by kernel_rfl) ?_ _
 clear hHeld x0 x2 x3 x4 e0 e5 y2 y3 y4 y0
 obtain⟨w3,hu,hM3,k3⟩:=((HH.out.mp.below (bt HBW.out HB2.out)).below (ba (Below.refl _ w2) (.cells #[pB sb,.pointer none,.int .i64 0,.bool false,.bool false] 116))).put i w2.heap.size
 have HU:=mH (And.intro hM3 k3)
 clear hM3 k3
 go_wp2
 go_end0
 refine⟨rfl, ?_⟩
 have s2:=HB2.out.size
 have s1:=HBW.out.size
 have hm:RvM B (w2.alloc (.cells #[pB sb,.pointer none,.int .i64 0,.bool false,.bool false] 116)) ⟨w2.heap.size,sb,none,.slice none 0 0,.slice none 0 0⟩ (newR (sk,sq,sT) h.now):=⟨heap_alloc_new w2 _,HS2.out.1.alloc _,by have:=(HH.out.sz b (by rw [HH.out.ob];decide)).1;have:=HH.out.lt;show B<=w2.heap.size;omega,by have:=(HH.out.sz b (by rw [HH.out.ob];decide)).1;have:=HH.out.lt;have:=HS2.out.2;have e:W.drew.heap.size=W.heap.size:=rfl;show B<=sb;omega,by have:=HS2.out.1.lt;show w2.heap.size ≠ sb;omega,fun _=>rfl,fun p s e=>by cases e⟩
 have hF:∀ k,(⟨w2.heap.size,sb,none,.slice none 0 0,.slice none 0 0⟩:Lay).F k->w.heap.size<=k:=fun k f=>by
  rcases f with e | e | ⟨x,e,_⟩
  ·have e:k=w2.heap.size:=e
   omega
  ·have e:k=sb:=e
   have:=HS2.out.2
   have e2:W.drew.heap.size=W.heap.size:=rfl
   omega
  ·cases e
 have HF:=HH.out.fresh HI.out (ba (bt HBW.out HB2.out) _) hm hF HU.out.2 HU.out.1
 refine⟨_,_,HF,fun k hk=>tag_old hk, ?_⟩
 exact(kept_new (F:=fun k=>own k ≠ 0) (ba (bt HBW.out HB2.out) _)).trans HU.out.2 (fun k e=>.inl (by rw [e,HH.out.om];decide))
set_option maxHeartbeats 6400000 in
theorem follow_new2 {B:Nat} {own:Nat->Int} {w:World} {b mb:Nat} {lay:Int->Option Lay} {nv gv wv:Value} {ps:List Np} {qs:List Op} {h:Hs} (H:HB B own w b mb lay nv gv wv ps qs h) (q:Op) (i:Int) (hk:q.1.ki=2) (hs:okS q.1.sv) (n0:0<=h.now) (n1:h.now<=1099511627776) (hi:1<=i) :
  Calls Tryz.prog 51 #[pB b,vOp q,.int .i64 i] w fun e w'=>e=.returned (.tuple #[])/\HL B own w b mb nv gv wv ps qs ⟨h.now,h.t,upR h.rv i (some (newR q.1.sv h.now)),h.ws⟩ w':=by
 have HH:=mH H
 obtain⟨W,hW⟩:∃ W,W=w.alloc (oOq q):=⟨_,rfl⟩
 have HBW:Hid (Below w.heap.size w W):=mH (by rw [hW];exact ba (Below.refl _ w) _)
 have hx:W.heap[w.heap.size]?=some (oOq q):=by rw [hW];exact heap_alloc_new w _
 have x0:W.cell? ⟨w.heap.size,0,none⟩=some (.int .i64 q.1.ki):=cOb (i:=0) hx rfl
 have x2:W.cell? ⟨w.heap.size,2,none⟩=some (.int .i64 q.1.sv.1):=cOb (i:=2) hx rfl
 have x3:W.cell? ⟨w.heap.size,3,none⟩=some (.int .i64 q.1.sv.2.1):=cOb (i:=3) hx rfl
 have x4:W.cell? ⟨w.heap.size,4,none⟩=some (.int .i64 q.1.sv.2.2):=cOb (i:=4) hx rfl
 obtain⟨d0,_,_,_,_,d5,_⟩:=H.c
 have e0:=kc d0 HBW.out
 have e5:=kc d5 HBW.out
 have HN:Hid (Calls Tryz.prog 73 #[vS q.1.sv,.int .i64 h.now] W.drew fun e w'=>∃ b,e=.returned (.tuple #[.pointer (some ⟨b,0,none⟩),.nilIface])/\W.drew.heap.size<=b/\SB w' b q.1.sv h.now false ⟨false,0,h.now⟩/\Below W.drew.heap.size W.drew w'):=mH (snew_ok W.drew q.1.sv h.now ⟨hs,n0,n1⟩)
 have HSW:Hid (w.heap.size+1=W.heap.size):=mH (by rw [hW];simp)
 have HI:=mH hi
 clear H d0 d5 hs n0 n1 hi hx
 obtain⟨⟨ki,id,⟨sk,sq,sT⟩,po,ts,tm⟩,oa,oc⟩:=q
 simp only [vOp,vOd,tvO,oOq] at *
 subst hk
 go_enter Tryz.func51,Tryz.ntmps51
 go_wp2
 rw [<- hW]
 clear hW
 go_wp2
 refine wp_region_held_drew (S:=fun w'=>w'.cell? ⟨w.heap.size,2,none⟩=some (.int .i64 sk)/\w'.cell? ⟨w.heap.size,3,none⟩=some (.int .i64 sq)/\w'.cell? ⟨w.heap.size,4,none⟩=some (.int .i64 sT)/\w'.cell? ⟨b,0,none⟩=some (.int .i64 h.now)) (by kernel_rfl) ⟨x2,x3,x4,e0⟩ (fun hHeld=>?_)
 refine tkE 0 14 (.pointer (some ⟨w.heap.size,2,none⟩)) rfl rfl hHeld ?_
 simp only [sZ,sS]
 refine tkE 1 15 (.agg #[.int .i64 sk,.int .i64 sq,.int .i64 sT]) rfl rfl hHeld ?_
 simp only [sZ,sS]
 refine tkE 2 16 (pB b) rfl rfl hHeld ?_
 simp only [sZ,sS]
 refine tkE 3 17 (pB b) rfl rfl hHeld ?_
 simp only [sZ,sS]
 refine tkE 4 18 (pB b) rfl rfl hHeld ?_
 simp only [sZ,sS]
 refine tkE 5 19 (.int .i64 h.now) rfl rfl hHeld ?_
 simp only [sZ,sS]
 refine wpAnyH_ready (rs:=[6]) (by kernel_rfl) (by simp) (AllReadyH.cons rfl (fun K hK=>?_) AllReadyH.nil)
 go_simp
 refine HN.out.mono ?_
 rintro e w2 ⟨sb,rfl,hsb,hS2,b2⟩
 have HB2:Hid (Below W.heap.size W w2):=mH ((Below.refl _ W).drew.trans b2)
 have y2:=kc x2 HB2.out
 have y3:=kc x3 HB2.out
 have y4:=kc x4 HB2.out
 have y0:=kc e0 HB2.out
 have y5:=kc e5 HB2.out
 have HS2:=mH (And.intro hS2 hsb)
 clear b2 hS2 hsb hHeld
 refine hK.out _ _ ⟨y2,y3,y4,y0⟩ (fun hHeld=>?_)
 clear hK K
 refine tkE 7 13 (.tuple #[pB sb,.nilIface]) rfl rfl hHeld ?_
 simp only [sZ,sS]
 refine tkE 8 21 (pB sb) rfl rfl hHeld ?_
 simp only [sZ,sS]
 refine tkE 9 22 (.nilIface) rfl rfl hHeld ?_
 simp only [sZ,sS]
 refine tkE 10 6 (pB sb) rfl rfl hHeld ?_
 simp only [sZ,sS]
 refine tkE 11 7 (.nilIface) rfl rfl hHeld ?_
 simp only [sZ,sS]
 refine wpAnyH_done (by kernel_rfl) ?_ _
 clear hHeld x0 x2 x3 x4 e0 e5 y2 y3 y4 y0
 obtain⟨w3,hu,hM3,k3⟩:=((HH.out.mp.below (bt HBW.out HB2.out)).below (ba (Below.refl _ w2) (.cells #[pB sb,.pointer none,.int .i64 0,.bool false,.bool false] 116))).put i w2.heap.size
 have HU:=mH (And.intro hM3 k3)
 clear hM3 k3
 go_wp2
 go_end0
 refine⟨rfl, ?_⟩
 have s2:=HB2.out.size
 have s1:=HBW.out.size
 have hm:RvM B (w2.alloc (.cells #[pB sb,.pointer none,.int .i64 0,.bool false,.bool false] 116)) ⟨w2.heap.size,sb,none,.slice none 0 0,.slice none 0 0⟩ (newR (sk,sq,sT) h.now):=⟨heap_alloc_new w2 _,HS2.out.1.alloc _,by have:=(HH.out.sz b (by rw [HH.out.ob];decide)).1;have:=HH.out.lt;show B<=w2.heap.size;omega,by have:=(HH.out.sz b (by rw [HH.out.ob];decide)).1;have:=HH.out.lt;have:=HS2.out.2;have e:W.drew.heap.size=W.heap.size:=rfl;show B<=sb;omega,by have:=HS2.out.1.lt;show w2.heap.size ≠ sb;omega,fun _=>rfl,fun p s e=>by cases e⟩
 have hF:∀ k,(⟨w2.heap.size,sb,none,.slice none 0 0,.slice none 0 0⟩:Lay).F k->w.heap.size<=k:=fun k f=>by
  rcases f with e | e | ⟨x,e,_⟩
  ·have e:k=w2.heap.size:=e
   omega
  ·have e:k=sb:=e
   have:=HS2.out.2
   have e2:W.drew.heap.size=W.heap.size:=rfl
   omega
  ·cases e
 have HF:=HH.out.fresh HI.out (ba (bt HBW.out HB2.out) _) hm hF HU.out.2 HU.out.1
 refine⟨_,_,HF,fun k hk=>tag_old hk, ?_⟩
 exact(kept_new (F:=fun k=>own k ≠ 0) (ba (bt HBW.out HB2.out) _)).trans HU.out.2 (fun k e=>.inl (by rw [e,HH.out.om];decide))
set_option maxHeartbeats 6400000 in
theorem follow_gone {B:Nat} {own:Nat->Int} {w:World} {b mb:Nat} {lay:Int->Option Lay} {nv gv wv:Value} {ps:List Np} {qs:List Op} {h:Hs} (H:HB B own w b mb lay nv gv wv ps qs h) (q:Op) (i:Int) (hk:q.1.ki=3) :
  Calls Tryz.prog 51 #[pB b,vOp q,.int .i64 i] w fun e w'=>e=.returned (.tuple #[])/\HL B own w b mb nv gv wv ps qs ⟨h.now,h.t,upR h.rv i none,h.ws⟩ w':=by
 have HH:=mH H
 obtain⟨W,hW⟩:∃ W,W=w.alloc (oOq q):=⟨_,rfl⟩
 have HBW:Hid (Below w.heap.size w W):=mH (by rw [hW];exact ba (Below.refl _ w) _)
 have hx:W.heap[w.heap.size]?=some (oOq q):=by rw [hW];exact heap_alloc_new w _
 have x0:W.cell? ⟨w.heap.size,0,none⟩=some (.int .i64 q.1.ki):=cOb (i:=0) hx rfl
 obtain⟨_,_,_,_,_,d5,_⟩:=H.c
 have e5:=kc d5 HBW.out
 obtain⟨w3,hu,hM3,k3⟩:=(H.mp.below HBW.out).drop i 0
 have HU:=mH (And.intro hM3 k3)
 clear H d5 hx hM3 k3
 obtain⟨⟨ki,id,⟨sk,sq,sT⟩,po,ts,tm⟩,oa,oc⟩:=q
 simp only [vOp,vOd,tvO,oOq] at *
 subst hk hW
 go_enter Tryz.func51,Tryz.ntmps51
 go_wp2
 go_end0
 exact⟨rfl,own,_,(HH.out.below HBW.out).gone HU.out.2 HU.out.1,fun _ _=>rfl,(kept_new (F:=fun k=>own k ≠ 0) HBW.out).trans HU.out.2 (fun k e=>.inl (by rw [e,HH.out.om];decide))⟩
theorem gb_lower {base base':Nat} {w:World} {b:Nat} {p:Int} {tv jv:Value} {s:Gt} (h:GB base w b p tv jv s) (hb:base'<=base):GB base' w b p tv jv s:=⟨h.blk,own_lower h.town hb,own_lower h.jown hb,Nat.le_trans hb h.bb,h.tb,h.jb,h.tj⟩
set_option maxHeartbeats 6400000 in
theorem follow_bind {B:Nat} {own:Nat->Int} {w:World} {b mb:Nat} {lay:Int->Option Lay} {nv gv wv:Value} {ps:List Np} {qs:List Op} {h:Hs} (H:HB B own w b mb lay nv gv wv ps qs h) (q:Op) (i:Int) (r:Rv) (hk:q.1.ki=4) (hr:h.rv i=some r) (hg:okG q.1.po q.1.ts) (hq:Tks w (tvO q) q.1.ts) :
  Calls Tryz.prog 51 #[pB b,vOp q,.int .i64 i] w fun e w'=>e=.returned (.tuple #[])/\HL B own w b mb nv gv wv ps qs ⟨h.now,h.t,upR h.rv i (some (r.bind q.1)),h.ws⟩ w':=by
 have HH:=mH H
 obtain⟨l,hl,hm⟩:=H.at hr
 obtain⟨W,hW⟩:∃ W,W=w.alloc (oOq q):=⟨_,rfl⟩
 have HBW:Hid (Below w.heap.size w W):=mH (by rw [hW];exact ba (Below.refl _ w) _)
 have hx:W.heap[w.heap.size]?=some (oOq q):=by rw [hW];exact heap_alloc_new w _
 have x0:W.cell? ⟨w.heap.size,0,none⟩=some (.int .i64 q.1.ki):=cOb (i:=0) hx rfl
 have x5:W.cell? ⟨w.heap.size,5,none⟩=some (.int .i64 q.1.po):=cOb (i:=5) hx rfl
 have x6:W.cell? ⟨w.heap.size,6,none⟩=some (tvO q):=cOb (i:=6) hx rfl
 obtain⟨_,_,_,_,_,d5,_⟩:=H.c
 have e5:=kc d5 HBW.out
 have HLK:Hid (∀ W',Below w.heap.size w W'->(Instr.lookup 85 (.map (some mb)) (.int .i64 i) false).run Tryz.prog W'=.ok (pB l.rb) W'):=mH (fun W' hW'=>by
  have:=(HH.out.mp.below hW').get1 i
  rw [hl] at this
  exact this)
 have HN:Hid (Calls Tryz.prog 74 #[.int .i64 q.1.po,tvO q] W.drew fun e w'=>∃ b tv,e=.returned (.tuple #[.pointer (some ⟨b,0,none⟩),.nilIface])/\GB W.drew.heap.size w' b q.1.po tv (.slice none 0 0) ⟨q.1.ts.map (fun t=>(t,0)),[]⟩/\Below W.drew.heap.size W.drew w'):=mH (gnew_ok W.drew (tvO q) q.1.po q.1.ts (hq.below ((Below.refl _ w).trans (HBW.out.drew))) hg)
 have HM:=mH (And.intro hm hl)
 clear H d5 hx hm hg hq
 obtain⟨⟨ki,id,⟨sk,sq,sT⟩,po,ts,tm⟩,oa,oc⟩:=q
 simp only [vOp,vOd,tvO,oOq] at *
 subst hk
 go_enter Tryz.func51,Tryz.ntmps51
 go_wp2
 rw [<- hW]
 clear hW
 go_wp2
 have hlk0:=HLK.out W.drew HBW.out.drew
 refine wp_region_held_drew (S:=fun w'=>(w'.cell? ⟨w.heap.size,5,none⟩=some (.int .i64 po)/\w'.cell? ⟨w.heap.size,6,none⟩=some (.slice oa ts.length oc)/\w'.cell? ⟨b,5,none⟩=some (.map (some mb)))/\(Instr.lookup 85 (.map (some mb)) (.int .i64 i) false).run Tryz.prog w'=.ok (pB l.rb) w') (by kernel_rfl) ⟨⟨x5,x6,e5⟩,hlk0⟩ (fun hHeld=>?_)
 clear hlk0
 refine tkE 0 41 (pB b) rfl rfl hHeld ?_
 simp only [sZ,sS]
 refine tkE 1 42 (pB b) rfl rfl hHeld ?_
 simp only [sZ,sS]
 refine tkE 2 43 (.pointer (some ⟨b,5,none⟩)) rfl rfl hHeld ?_
 simp only [sZ,sS]
 refine tkE 3 44 (.map (some mb)) rfl rfl hHeld ?_
 simp only [sZ,sS]
 refine tkE 4 45 (.int .i64 i) rfl rfl hHeld ?_
 simp only [sZ,sS]
 refine tkE 5 46 (pB l.rb) rfl rfl hHeld ?_
 simp only [sZ,sS]
 refine tkE 6 47 (.pointer (some ⟨w.heap.size,5,none⟩)) rfl rfl hHeld ?_
 simp only [sZ,sS]
 refine tkE 7 48 (.int .i64 po) rfl rfl hHeld ?_
 simp only [sZ,sS]
 refine tkE 8 49 (.pointer (some ⟨w.heap.size,6,none⟩)) rfl rfl hHeld ?_
 simp only [sZ,sS]
 refine tkE 9 50 (.slice oa ts.length oc) rfl rfl hHeld ?_
 simp only [sZ,sS]
 refine wpAnyH_ready (rs:=[10]) (by kernel_rfl) (by simp) (AllReadyH.cons rfl (fun K hK=>?_) AllReadyH.nil)
 go_simp
 refine HN.out.mono ?_
 rintro e w2 ⟨gb,tv,rfl,hG2,b2⟩
 have HB2:Hid (Below W.heap.size W w2):=mH ((Below.refl _ W).drew.trans b2)
 have y5:=kc x5 HB2.out
 have y6:=kc x6 HB2.out
 have y7:=kc e5 HB2.out
 have HG2:=mH hG2
 have HM2:=mH (HM.out.1.kept (kept_new (F:=fun _=>False) (bt HBW.out HB2.out)) (fun _ _ f=>f))
 obtain⟨p0,p1,_⟩:=HM2.out.cells
 have f1:w2.frozen? ⟨l.rb,1,none⟩=false:=fOb HM2.out.box
 clear b2 hG2 hHeld
 refine hK.out _ _ ⟨⟨y5,y6,y7⟩,HLK.out w2 (bt HBW.out HB2.out)⟩ (fun hHeld=>?_)
 clear hK K
 refine tkE 11 40 (.tuple #[pB gb,.nilIface]) rfl rfl hHeld ?_
 simp only [sZ,sS]
 refine tkE 12 52 (pB gb) rfl rfl hHeld ?_
 simp only [sZ,sS]
 refine tkE 13 53 (.nilIface) rfl rfl hHeld ?_
 simp only [sZ,sS]
 refine tkE 14 54 (pB l.rb) rfl rfl hHeld ?_
 simp only [sZ,sS]
 refine tkE 15 55 (.pointer (some ⟨l.rb,1,none⟩)) rfl rfl hHeld ?_
 simp only [sZ,sS]
 have K3:Hid (Kept (fun k=>k=l.rb) w2 (w2.setCell ⟨l.rb,1,none⟩ (pB gb))):=mH (Kept.setCell (F:=fun k=>k=l.rb) w2 (p:=⟨l.rb,1,none⟩) rfl _)
 have hlr:l.rb < w.heap.size:=HM.out.1.box.lt
 have hnx:¬ l.rb=w.heap.size:=by omega
 have hnb:¬ b=l.rb:=fun e=>by have e1:=(HH.out.ol i l HM.out.2).2 l.rb (.inl rfl);have e2:=HH.out.ob;have e3:=(HH.out.ol i l HM.out.2).1;rw [e] at e2;omega
 have hnm:¬ l.rb=mb:=fun e=>by have e1:=(HH.out.ol i l HM.out.2).2 l.rb (.inl rfl);have e2:=HH.out.om;have e3:=(HH.out.ol i l HM.out.2).1;rw [<- e] at e2;omega
 refine wpAnyH_ready (rs:=[16]) (by kernel_rfl) (by simp) (AllReadyH.cons rfl (fun K hK=>?_) AllReadyH.nil)
 go_simp
 have z5:=K3.out.cell y5 (fun e=>hnx e.symm)
 have z6:=K3.out.cell y6 (fun e=>hnx e.symm)
 have z7:=K3.out.cell y7 hnb
 have hl3:(Instr.lookup 85 (.map (some mb)) (.int .i64 i) false).run Tryz.prog (w2.setCell ⟨l.rb,1,none⟩ (pB gb))=.ok (pB l.rb) (w2.setCell ⟨l.rb,1,none⟩ (pB gb)):=by
  have:=((HH.out.mp.below (bt HBW.out HB2.out)).kept K3.out (fun e=>hnm e.symm)).get1 i
  rw [HM.out.2] at this
  exact this
 clear hHeld
 refine hK.out _ _ ⟨⟨z5,z6,z7⟩,hl3⟩ (fun hHeld=>?_)
 clear hK K hl3 z5 z6 z7
 refine wpAnyH_done (by kernel_rfl) ?_ _
 clear hHeld
 go_wp2
 go_end0
 have s1:=HBW.out.size
 have s2:=HB2.out.size
 have eW:W.drew.heap.size=W.heap.size:=rfl
 have hB0:=(HH.out.sz b (by rw [HH.out.ob];decide)).1
 have hBl:=HH.out.lt
 have nft:∀ k,Ft tv (.slice none 0 0) gb k->w.heap.size<=k:=fun k f=>by have:=(HG2.out.foot f).1;omega
 have hm3:RvM B (w2.setCell ⟨l.rb,1,none⟩ (pB gb)) ⟨l.rb,l.sb,some gb,tv,.slice none 0 0⟩ (r.bind ⟨4,id,(sk,sq,sT),po,ts,tm⟩):=by
  refine⟨?_,HM2.out.srv.kept K3.out (fun e=>HM2.out.ne e.symm),HM2.out.b1,HM2.out.b2,HM2.out.ne,fun e=>(by cases e),fun p s e=>?_⟩
  ·have:=hSt (i:=1) (v:=pB gb) HM2.out.box
   exact this
  ·simp only [Rv.bind,Option.some.injEq,Prod.mk.injEq] at e
   obtain⟨rfl,rfl⟩:=e
   exact⟨gb,rfl,(gb_lower HG2.out (by omega)).kept K3.out (fun k e f=>by have:=nft k f;omega),fun f=>by have:=nft l.rb f;omega,fun f=>by have:=nft l.sb f;have:=HM.out.1.srv.lt;omega⟩
 have KW:Kept l.F w (w2.setCell ⟨l.rb,1,none⟩ (pB gb)):=(kept_new (F:=l.F) (bt HBW.out HB2.out)).trans K3.out (fun k e=>.inl (.inl e))
 obtain⟨own',hB,ha⟩:=HH.out.one HM.out.2 (l':=⟨l.rb,l.sb,some gb,tv,.slice none 0 0⟩) rfl KW hm3 (fun k f=>by
  rcases f with e | e | ⟨x,e,f⟩
  ·exact .inl (.inl e)
  ·exact .inl (.inr (.inl e))
  ·simp only [Option.some.injEq] at e
   subst e
   exact .inr (nft k f))
 refine⟨rfl,own',_,hB,ha,KW.mono (fun k f=>?_)⟩
 have e1:=(HH.out.ol i l HM.out.2).2 k f
 have e2:=(HH.out.ol i l HM.out.2).1
 omega
theorem od_cells {w:World} {p:Nat} {q:Op} (h:w.heap[p]?=some (oOq q)):w.cell? ⟨p,0,none⟩=some (.int .i64 q.1.ki)/\w.cell? ⟨p,1,none⟩=some (.int .i64 q.1.id)/\w.cell? ⟨p,2,none⟩=some (.int .i64 q.1.sv.1)/\w.cell? ⟨p,3,none⟩=some (.int .i64 q.1.sv.2.1)/\w.cell? ⟨p,4,none⟩=some (.int .i64 q.1.sv.2.2)/\w.cell? ⟨p,5,none⟩=some (.int .i64 q.1.po)/\w.cell? ⟨p,6,none⟩=some (tvO q)/\w.cell? ⟨p,7,none⟩=some (.int .i64 q.1.tm):=
 ⟨cOb (i:=0) h rfl,cOb (i:=1) h rfl,cOb (i:=2) h rfl,cOb (i:=3) h rfl,cOb (i:=4) h rfl,cOb (i:=5) h rfl,cOb (i:=6) h rfl,cOb (i:=7) h rfl⟩
theorem step_append_run {P:Program} {ops:Array Oper} {o:Oper} {a:Act} {w:World} {K:Act->World->Prop} {Q:Exit->Act->World->Prop} {E:Prop} (hgd:o.guard=none) (sl x:Operand) (t tx:TypeId)
  (hop:o.op=.call { callee:=.builtin .append,args:=#[sl,x],argTypes:=#[t,tx] }) (v xv v':Value) (w':World) (hs:a.eval sl=v) (hx:a.eval x=xv) (hr:(Builtin.append_ #[t,tx] o.type #[v,xv]).run P w=.ok v' w') (h:K (a.put o.dst v') w') :
  if Region.wanted o (yielded ops a.tmps)=true then Oper.wp P o a w K Q else E:=by
 have hw:Region.wanted o (yielded ops a.tmps)=true:=by simp [Region.wanted,hgd]
 rw [if_pos hw]
 unfold Oper.wp execOp
 simp only [hop,resolve,invoke,builtin,Sem.run_bind,Sem.run_pure,Result.andThen_ok,List.map_toArray,List.map_cons,List.map_nil,hs,hx,hr]
 exact h
set_option maxHeartbeats 6400000 in
theorem submit_is {B:Nat} {own:Nat->Int} {w:World} {b mb:Nat} {lay:Int->Option Lay} {nv gv wv:Value} {ps:List Np} {qs:List Op} {h:Hs} (H:HB B own w b mb lay nv gv wv ps qs h) (q:Op) (hq:Tks w (tvO q) q.1.ts) (hqs:smallO q) (hl:h.ws.length<=63) :
  Calls Tryz.prog 11 #[pB b,vOp q] w fun e w'=>e=.returned (.tuple #[])/\HO B own w b mb ⟨h.now,h.t,h.rv,h.ws ++ [q.1]⟩ w':=by
 have HH:=mH H
 have hl':qs.length<=63:=by rw [<- H.we,List.length_map] at hl;exact hl
 obtain⟨W,hW⟩:∃ W,W=w.alloc (oOq q):=⟨_,rfl⟩
 have HBW:Hid (Below w.heap.size w W):=mH (by rw [hW];exact ba (Below.refl _ w) _)
 have hx:W.heap[w.heap.size]?=some (oOq q):=by rw [hW];exact heap_alloc_new w _
 have HX:=mH hx
 have HSW:Hid (W.heap.size=w.heap.size+1):=mH (by rw [hW];simp)
 obtain⟨wa,wc,hwv,_⟩:=H.ws.shape
 obtain⟨⟨ki,id,⟨sk,sq,sT⟩,po,ts,tm⟩,oa,oc⟩:=q
 have HC:Hid (Calls Tryz.prog 28 #[.slice oa ts.length oc] W fun r w'=>∃ a2 c2,r=.returned (.slice a2 ts.length c2)/\w'.ownsRow W.heap.size 45 4 (.slice a2 ts.length c2) ts.length (ts.flatMap c4)/\Below W.heap.size W w'):=mH (cloneT_any W oa oc ts (fun W' hW'=>((hq.below HBW.out).below hW').src) (fun e=>tks_nil hq e) hqs)
 have HQS:=mH hqs
 obtain⟨x0,x1,x2,x3,x4,x5,x6,x7⟩:=od_cells hx
 have f6:W.frozen? ⟨w.heap.size,6,none⟩=false:=fOb hx
 clear hx hqs hq hl
 simp only [vOp,vOd,tvO,oOq] at *
 subst hW
 go_enter Tryz.func11,Tryz.ntmps11
 go_wp2_with (go_at_call 28;refine HC.out.mono ?_;rintro r w2 ⟨a2,c2,rfl,ho,hb⟩;have HX2:=mH (bLt HX.out hb);have z6:=cOb (i:=6) HX2.out rfl;have g6:w2.frozen? ⟨w.heap.size,6,none⟩=false:=fOb HX2.out;have HO2:=mH ho;have HB2:=mH (bt HBW.out hb);have HS2:=mH hb.size;clear ho hb)
 obtain⟨w3,hw3⟩:∃ w3,w3=w2.setCell ⟨w.heap.size,6,none⟩ (.slice a2 ts.length c2):=⟨_,rfl⟩
 have K3:Hid (Kept (fun k=>k=w.heap.size) w2 w3):=mH (by rw [hw3];exact Kept.setCell (F:=fun k=>k=w.heap.size) w2 (p:=⟨w.heap.size,6,none⟩) rfl _)
 have HX3:Hid (w3.heap[w.heap.size]?=some (oOq (⟨ki,id,(sk,sq,sT),po,ts,tm⟩,a2,c2))):=mH (by rw [hw3,hSt HX2.out];rfl)
 have HB3:Hid (Below w.heap.size w w3):=mH (HB2.out.trans (Kept.below K3.out (fun k e=>by omega) HB2.out.size))
 have HO3:Hid (w3.ownsRow (w.heap.size+1) 45 4 (.slice a2 ts.length c2) ts.length (ts.flatMap c4)):=mH (by
  have:=oNk HO2.out K3.out (fun k e f=>by have:=(HO2.out.lt k e).1;have:=HSW.out;omega)
  rw [HSW.out] at this;exact this)
 rw [<- hw3]
 clear hw3 z6 g6 x0 x1 x2 x3 x4 x5 x6 x7 f6
 obtain⟨y0,y1,y2,y3,y4,y5,y6,y7⟩:=od_cells HX3.out
 simp only [tvO] at y0 y1 y2 y3 y4 y5 y6 y7
 have H3:=HH.out.below HB3.out
 obtain⟨_,_,_,_,_,_,d6⟩:=H3.c
 rw [hwv] at d6
 have HH3:=mH H3
 clear H H3
 have hT:w3.drew.cell? ⟨b,6,none⟩=some (.slice wa qs.length wc)/\w3.drew.cell? ⟨w.heap.size,0,none⟩=some (.int .i64 ki)/\w3.drew.cell? ⟨w.heap.size,1,none⟩=some (.int .i64 id)/\w3.drew.cell? ⟨w.heap.size,2,none⟩=some (.int .i64 sk)/\w3.drew.cell? ⟨w.heap.size,3,none⟩=some (.int .i64 sq)/\w3.drew.cell? ⟨w.heap.size,4,none⟩=some (.int .i64 sT)/\w3.drew.cell? ⟨w.heap.size,5,none⟩=some (.int .i64 po)/\w3.drew.cell? ⟨w.heap.size,6,none⟩=some (.slice a2 ts.length c2)/\w3.drew.cell? ⟨w.heap.size,7,none⟩=some (.int .i64 tm):=⟨d6,y0,y1,y2,y3,y4,y5,y6,y7⟩
 refine wp_region_till (fun w'=>w'.cell? ⟨b,6,none⟩=some (.slice wa qs.length wc)/\w'.cell? ⟨w.heap.size,0,none⟩=some (.int .i64 ki)/\w'.cell? ⟨w.heap.size,1,none⟩=some (.int .i64 id)/\w'.cell? ⟨w.heap.size,2,none⟩=some (.int .i64 sk)/\w'.cell? ⟨w.heap.size,3,none⟩=some (.int .i64 sq)/\w'.cell? ⟨w.heap.size,4,none⟩=some (.int .i64 sT)/\w'.cell? ⟨w.heap.size,5,none⟩=some (.int .i64 po)/\w'.cell? ⟨w.heap.size,6,none⟩=some (.slice a2 ts.length c2)/\w'.cell? ⟨w.heap.size,7,none⟩=some (.int .i64 tm)) 10 (by kernel_rfl) ?_
 refine frE 0 8 (pB b) rfl rfl (fun _=>hT) ?_
 simp only [sZ,sS]
 refine frE 1 9 (pB b) rfl rfl (fun _=>hT) ?_
 simp only [sZ,sS]
 refine frE 2 10 (pB b) rfl rfl (fun _=>hT) ?_
 simp only [sZ,sS]
 refine frE 3 11 (.pointer (some ⟨b,6,none⟩)) rfl rfl (fun _=>hT) ?_
 simp only [sZ,sS]
 refine fiE 4 12 (.slice wa qs.length wc) rfl rfl hT ?_
 simp only [sZ,sS]
 refine fiE 5 13 (.agg #[.int .i64 ki,.int .i64 id,.int .i64 sk,.int .i64 sq,.int .i64 sT,.int .i64 po,.slice a2 ts.length c2,.int .i64 tm]) rfl rfl hT ?_
 simp only [sZ,sS]
 refine wpT_ready (rs:=[6]) (by kernel_rfl) (by simp) (AllT.cons rfl (fun K hK=>?_) AllT.nil)
 go_simp
 obtain⟨W4,hW4⟩:∃ W4,W4=(w3.alloc (.cells #[.int .i64 ki,.int .i64 id,.int .i64 sk,.int .i64 sq,.int .i64 sT,.int .i64 po,.slice a2 ts.length c2,.int .i64 tm] 40)).drew:=⟨_,rfl⟩
 have HB4:Hid (Below w3.heap.size w3 W4):=mH (by rw [hW4];exact(ba (Below.refl _ _) _).drew)
 have HR4:Hid (RowIn 8 c8 W4 (.slice (some ⟨w3.heap.size,0,none⟩) 1 1) [((⟨ki,id,(sk,sq,sT),po,ts,tm⟩,a2,c2):Op)]):=mH (by
  rw [hW4]
  exact RowIn.below (rowOne (f:=c8) ((⟨ki,id,(sk,sq,sT),po,ts,tm⟩,a2,c2):Op) w3 40) (Below.refl _ _).drew)
 rw [<- hW4]
 clear hW4 hT
 have H4:=HH3.out.below HB4.out
 obtain⟨_,_,_,_,_,_,d6'⟩:=H4.c
 rw [hwv] at d6'
 have HX4:=mH (bLt HX3.out HB4.out)
 obtain⟨v0,v1,v2,v3,v4,v5,v6,v7⟩:=od_cells HX4.out
 simp only [tvO] at v0 v1 v2 v3 v4 v5 v6 v7
 have hsrc:=RowIn.src (ty:=33) (e:=40) Tryz.underlying33 (by omega) c8_len one8 HR4.out
 simp only [List.length_cons,List.length_nil,List.flatMap_cons,List.flatMap_nil,List.append_nil,Nat.zero_add] at hsrc
 obtain⟨vv,w6,hr6,hro6,hg6,hat6⟩:=run_append_ro W4 33 H4.ws hsrc (by omega)
 rw [hwv] at hr6 hg6 hat6
 obtain⟨va,vc,hvv,_⟩:=hro6.shape
 have HR6:=mH (And.intro hro6 (And.intro hg6 hat6))
 subst hvv
 have HB6:=mH H4
 clear H4 hsrc hro6 hg6 hat6
 refine hK.out _ _ (fun _=>⟨d6',v0,v1,v2,v3,v4,v5,v6,v7⟩) ?_
 clear hK K
 (try simp only [Act.put])
 refine wpT_ready (rs:=[7]) (by kernel_rfl) (by simp) (AllT.cons rfl (fun K hK=>?_) AllT.nil)
 refine step_append_run (w:=W4) rfl (.tmp 12) (.tmp 14) 33 33 rfl _ _ _ w6 (by simp [Act.eval]) (by simp [Act.eval]) hr6 ?_
 have K6:Hid (Kept (fun k=>(Value.slice wa qs.length wc).ownBlock=some k) W4 w6):=mH (Kept.grown HR6.out.2.1 (fun k hk=>hk))
 have hbl6:w6.heap[b]?=W4.heap[b]?:=K6.out.block b HB6.out.lt (fun e=>by have:=HB6.out.ow b (by rw [hwv];exact e);rw [HB6.out.ob] at this;omega)
 have HXW:Hid (¬ (Value.slice wa qs.length wc).ownBlock=some w.heap.size):=mH (fun e=>by have e1:=HB6.out.ow w.heap.size (by rw [hwv];exact e);have:=(HH.out.sz w.heap.size (by rw [e1];decide)).2;omega)
 have hblk6:=hbl6.trans HB6.out.blk
 rw [hwv] at hblk6
 have e6:w6.cell? ⟨b,6,none⟩=some (.slice wa qs.length wc):=cOb (i:=6) hblk6 rfl
 have g6:w6.frozen? ⟨b,6,none⟩=false:=fOb hblk6
 have HBL6:=mH hblk6
 have u0:=K6.out.cell v0 HXW.out
 have u1:=K6.out.cell v1 HXW.out
 have u2:=K6.out.cell v2 HXW.out
 have u3:=K6.out.cell v3 HXW.out
 have u4:=K6.out.cell v4 HXW.out
 have u5:=K6.out.cell v5 HXW.out
 have u6:=K6.out.cell v6 HXW.out
 have u7:=K6.out.cell v7 HXW.out
 clear hbl6 hblk6 hr6
 refine hK.out _ _ (fun _=>⟨e6,u0,u1,u2,u3,u4,u5,u6,u7⟩) ?_
 clear hK K
 (try simp only [Act.put])
 refine freeD 8 16 (pB b) rfl rfl (by kernel_rfl) (by kernel_rfl) (by kernel_rfl) (by decide) (fun _ _ _ h=>h) (fun _=>⟨e6,u0,u1,u2,u3,u4,u5,u6,u7⟩) (Or.inl ⟨by kernel_rfl,by intro w _;go_simp⟩) ?_
 simp only [sZ,sS]
 refine freeD 9 17 (.pointer (some ⟨b,6,none⟩)) rfl rfl (by kernel_rfl) (by kernel_rfl) (by kernel_rfl) (by decide) (fun _ _ _ h=>h) (fun _=>⟨e6,u0,u1,u2,u3,u4,u5,u6,u7⟩) (Or.inl ⟨by kernel_rfl,by intro w _;go_simp⟩) ?_
 simp only [sZ,sS]
 refine wpT_ready (rs:=[10]) (by kernel_rfl) (by simp) (AllT.cons rfl (fun K hK=>?_) AllT.nil)
 go_simp
 refine hK.out _ _ (bool_no (by kernel_rfl)) ?_
 clear hK K
 (try simp only [Act.put])
 refine wpT_done (by kernel_rfl) ?_ _
 go_wp2
 go_end0
 have hb8:(w6.setCell ⟨b,6,none⟩ (.slice va (qs ++ [((⟨ki,id,(sk,sq,sT),po,ts,tm⟩,a2,c2):Op)]).length vc)).heap[b]?=some (.cells #[.int .i64 h.now,nv,gv,.int .i64 h.t.last,.int .i64 h.t.now,.map (some mb),.slice va (qs ++ [((⟨ki,id,(sk,sq,sT),po,ts,tm⟩,a2,c2):Op)]).length vc] 87 (0,0)):=by rw [hSt HBL6.out];rfl
 have K8:Kept (fun k=>k=b) w6 (w6.setCell ⟨b,6,none⟩ (.slice va (qs ++ [((⟨ki,id,(sk,sq,sT),po,ts,tm⟩,a2,c2):Op)]).length vc)):=Kept.setCell (F:=fun k=>k=b) w6 (p:=⟨b,6,none⟩) rfl _
 obtain⟨ta,tc,e1,htk⟩:=tks_of_owns (by have:=HQS.out;unfold smallO at this;simp only at this;omega) HO3.out
 simp only [Value.slice.injEq] at e1
 obtain⟨rfl,_,rfl⟩:=e1
 obtain⟨_,_,e2,hcap⟩:=own_sh HO3.out
 simp only [Value.slice.injEq] at e2
 have hB:=HH.out.push (q:=(⟨ki,id,(sk,sq,sT),po,ts,tm⟩,a2,c2)) (bt HB3.out HB4.out) (htk.below HB4.out) (by obtain⟨_,_,e⟩:=e2;simp only at *;omega) HQS.out (fun k e hp=>by have:=(HO3.out.lt k e).1;omega) (by rw [hwv];exact K6.out) HR6.out.1 (by rw [hwv];exact HR6.out.2.2) K8 hb8
 rw [show qs.length+1=(qs ++ [((⟨ki,id,(sk,sq,sT),po,ts,tm⟩,a2,c2):Op)]).length from (by simp)]
 refine⟨rfl,HO.mk hB (fun k hk=>?_) ?_⟩
 ·have s1:=HB3.out.size
  have s2:=HB4.out.size
  rw [if_neg (by omega),tag_old hk]
 ·refine((kept_new (F:=fun k=>own k ≠ 0) (bt HB3.out HB4.out)).trans K6.out (fun k e=>.inl ?_)).trans K8 (fun k e=>.inl (by rw [e,HH.out.ob];decide))
  rw [HH.out.ow k (by rw [hwv];exact e)];decide
theorem follow_is {B:Nat} {own:Nat->Int} {w:World} {b mb:Nat} {lay:Int->Option Lay} {nv gv wv:Value} {ps:List Np} {qs:List Op} {h:Hs} (H:HB B own w b mb lay nv gv wv ps qs h) (q:Op) (i:Int) (hf:Fol h.now h.rv q.1 i) (n0:0<=h.now) (n1:h.now<=1099511627776) (hq:Tks w (tvO q) q.1.ts) :
  Calls Tryz.prog 51 #[pB b,vOp q,.int .i64 i] w fun e w'=>e=.returned (.tuple #[])/\HL B own w b mb nv gv wv ps qs ⟨h.now,h.t,folR h.now h.rv q.1 i,h.ws⟩ w':=by
 rcases hf.ki with e | e | e | e
 ·have:=follow_new1 H q i e (hf.sv (.inl e)) n0 n1 hf.i1
  rwa [show folR h.now h.rv q.1 i=upR h.rv i (some (newR q.1.sv h.now)) by unfold folR;rw [if_pos (.inl e)]]
 ·have:=follow_new2 H q i e (hf.sv (.inr e)) n0 n1 hf.i1
  rwa [show folR h.now h.rv q.1 i=upR h.rv i (some (newR q.1.sv h.now)) by unfold folR;rw [if_pos (.inr e)]]
 ·have:=follow_gone H q i e
  rwa [show folR h.now h.rv q.1 i=upR h.rv i none by unfold folR;rw [if_neg (by omega),if_pos e]]
 ·obtain⟨hg,r,hr⟩:=hf.gs e
  have:=follow_bind H q i r e hr hg hq
  rwa [show folR h.now h.rv q.1 i=upR h.rv i (some (r.bind q.1)) by unfold folR;rw [if_neg (by omega),if_neg (by omega),if_pos e,hr];rfl]
def c2r (r:Rs):List Value:=[.int .i64 r.1,.int .i64 r.2]
theorem one2r (r:Rs):∀ u ∈ c2r r,u.oneCell'=true:=by
 intro u hx
 simp only [c2r,List.mem_cons,List.not_mem_nil,or_false] at hx
 rcases hx with rfl | rfl <;> rfl
theorem info_res:(Tryz.prog.info? 94).map (fun i=>(i.zero,i.size,i.bytes))=some (some (.agg #[.int .i64 0,.int .i64 0]),2,16):=by kernel_rfl
theorem Er4.low {B:Nat} {w w':World} {a:Nat->Addr} (h:Er4 w a) (hb:Below B w w') (hB:16<=B):Er4 w' a:=
 ⟨⟨(hb.cell (by show 9 < B;omega)).trans h.1.1,(hb.cell (by show 6 < B;omega)).trans h.1.2,(hb.cell (by show 0 < B;omega)).trans h.1.3⟩,(hb.cell (by show 10 < B;omega)).trans h.2⟩
theorem Er6.low {B:Nat} {w w':World} {a:Nat->Addr} (h:Er6 w a) (hb:Below B w w') (hB:16<=B):Er6 w' a:=
 ⟨h.1.low hb hB,(hb.cell (by show 11 < B;omega)).trans h.2,(hb.cell (by show 1 < B;omega)).trans h.3⟩
theorem takeH_stop {A:Ops} {now:Int} {t:Tr} {rv:Int->Option Rv} {o:Od} {os:List Od} (h:won (t.app A (o.att now)).1 (t.app A (o.att now)).2.1=true):takeH A now t rv (o :: os)=((t.app A (o.att now)).1,rv,[]):=by
 simp only [takeH];rw [if_pos h]
theorem takeH_go {A:Ops} {now:Int} {t:Tr} {rv:Int->Option Rv} {o:Od} {os:List Od} (h:won (t.app A (o.att now)).1 (t.app A (o.att now)).2.1=false) {X:Tr × (Int->Option Rv) × List Rs} (hX:X=takeH A now (t.app A (o.att now)).1 (if (t.app A (o.att now)).2.1=0 then folR now rv o (t.app A (o.att now)).2.2 else rv) os):takeH A now t rv (o :: os)=(X.1,X.2.1,(t.app A (o.att now)).2 :: X.2.2):=by
 subst hX
 simp only [takeH];rw [if_neg (by simp [h])]
def TkP (B:Nat) (own:Nat->Int) (w:World) (b mb:Nat) (h:Hs) (T:Tr × (Int->Option Rv) × List Rs) (e:Ending) (w':World):Prop:=∃ rv own',e=.returned rv/\w'.ownsRow w.heap.size 94 2 rv T.2.2.length (T.2.2.flatMap c2r)/\(∀ k,rv.ownBlock=some k->own' k=0)/\(∃ lay nv gv wv ps qs,HB B own' w' b mb lay nv gv wv ps qs ⟨h.now,T.1,T.2.1,h.ws.drop T.2.2.length⟩)/\(∀ k,k < w.heap.size->own' k=own k)/\Kept (fun k=>own k ≠ 0) w w'
structure TL (A:Ops) (a:Nat->Addr) (B K0:Nat) (own:Nat->Int) (w:World) (b mb:Nat) (wv:Value) (qs:List Op) (h:Hs) (j:Nat) (rv:Value) (wr:World) (own':Nat->Int) (lay:Int->Option Lay) (nv gv:Value) (ps:List Np) (t:Tr) (rvs:Int->Option Rv) (rs:List Rs):Prop where
 len:rs.length=j
 hb:HB B own' wr b mb lay nv gv wv ps qs ⟨h.now,t,rvs,h.ws⟩
 row:wr.ownsRow w.heap.size 94 2 rv rs.length (rs.flatMap c2r)
 ro:∀ k,rv.ownBlock=some k->own' k=0
 ok:TOk (K0+j) h.now t rvs
 tk:∀ X,X=takeH A h.now t rvs (h.ws.drop j)->takeH A h.now h.t h.rv h.ws=(X.1,X.2.1,rs ++ X.2.2)
 ag:∀ k,k < w.heap.size->own' k=own k
 kp:Kept (fun k=>own k ≠ 0) w wr
theorem TL.bel {A:Ops} {a:Nat->Addr} {B K0:Nat} {own:Nat->Int} {w:World} {b mb:Nat} {wv:Value} {qs:List Op} {h:Hs} {j:Nat} {rv:Value} {wr:World} {own':Nat->Int} {lay:Int->Option Lay} {nv gv:Value} {ps:List Np} {t:Tr} {rvs:Int->Option Rv} {rs:List Rs} (L:TL A a B K0 own w b mb wv qs h j rv wr own' lay nv gv ps t rvs rs) (hs:∀ k,own k ≠ 0->B<=k) (hB:B<=w.heap.size):Below B w wr:=L.kp.below hs hB
theorem eightO {w:World} {b o:Nat} {t:Op} (h:∀ r u,r < 8->(c8 t)[r]?=some u->w.cell? ⟨b,o+r,none⟩=some u):w.cell? ⟨b,o,none⟩=some (.int .i64 t.1.ki)/\w.cell? ⟨b,o+1,none⟩=some (.int .i64 t.1.id)/\w.cell? ⟨b,o+2,none⟩=some (.int .i64 t.1.sv.1)/\w.cell? ⟨b,o+3,none⟩=some (.int .i64 t.1.sv.2.1)/\w.cell? ⟨b,o+4,none⟩=some (.int .i64 t.1.sv.2.2)/\w.cell? ⟨b,o+5,none⟩=some (.int .i64 t.1.po)/\w.cell? ⟨b,o+6,none⟩=some (tvO t)/\w.cell? ⟨b,o+7,none⟩=some (.int .i64 t.1.tm):=
 ⟨h 0 _ (by omega) rfl,h 1 _ (by omega) rfl,h 2 _ (by omega) rfl,h 3 _ (by omega) rfl,h 4 _ (by omega) rfl,h 5 _ (by omega) rfl,h 6 _ (by omega) rfl,h 7 _ (by omega) rfl⟩
theorem fl_snoc {α:Type} (f:α->List Value) (xs:List α) (x:α):(xs ++ [x]).flatMap f=xs.flatMap f ++ f x:=by simp
theorem tkP_mk {B:Nat} {own ow:Nat->Int} {w WW:World} {b mb:Nat} {h:Hs} {T0:Tr × (Int->Option Rv) × List Rs} {T1:Tr} {rvs:Int->Option Rv} {rs:List Rs} {lay:Int->Option Lay} {nv gv wv wv':Value} {ps:List Np} {qs:List Op} {ra:Option Addr} {rc:Nat} (hT:T0=(T1,rvs,rs)) (H:HB B ow WW b mb lay nv gv wv ps qs ⟨h.now,T1,rvs,h.ws⟩)
  (row:WW.ownsRow w.heap.size 94 2 (.slice ra rs.length rc) rs.length (rs.flatMap c2r)) (ro:∀ k,(Value.slice ra rs.length rc).ownBlock=some k->ow k=0) (ag:∀ k,k < w.heap.size->ow k=own k) (kp:Kept (fun k=>own k ≠ 0) w WW) (hrd:RO WW wv' (qs.drop rs.length)) (hob:wv'.ownBlock=wv.ownBlock) (hbw:b < w.heap.size) :
  TkP B own w b mb h T0 (.returned (.slice ra rs.length rc)) (WW.setCell ⟨b,6,none⟩ wv'):=by
 subst hT
 have K:Kept (fun k=>k=b) WW (WW.setCell ⟨b,6,none⟩ wv'):=Kept.setCell (F:=fun k=>k=b) WW (p:=⟨b,6,none⟩) rfl _
 have hc:=H.cut rs.length K hrd hob (by rw [hSt H.blk];rfl)
 refine⟨_,ow,rfl,oNk row K (fun k e f=>?_),ro,⟨_,_,_,_,_,_,hc⟩,ag,kp.trans K (fun k e=>.inl ?_)⟩
 ·have:=ro k e
  rw [f,H.ob] at this
  omega
 ·rw [e,<- ag b hbw,H.ob];decide
theorem TL.next {A:Ops} {a:Nat->Addr} {B K0:Nat} {own:Nat->Int} {w:World} {b mb:Nat} {wv:Value} {qs:List Op} {h:Hs} {j:Nat} {rv:Value} {wr:World} {own':Nat->Int} {lay:Int->Option Lay} {nv gv:Value} {ps:List Np} {t:Tr} {rvs:Int->Option Rv} {rs:List Rs} (L:TL A a B K0 own w b mb wv qs h j rv wr own' lay nv gv ps t rvs rs) {o:Od} (hx:h.ws[j]?=some o) {T1:Tr} {code rid:Int} (hTC:(T1,code,rid)=t.app A (o.att h.now)) (hw:won T1 code=false) {rvs':Int->Option Rv} (hrv:rvs'=if code=0 then folR h.now rvs o rid else rvs) (hok:TOk (K0+j+1) h.now T1 (if code=0 then folR h.now rvs o rid else rvs))
  {W:World} {own9:Nat->Int} {lay9:Int->Option Lay} {nv4 gv4 v:Value} {ps4:List Np} (hb:HB B own9 W b mb lay9 nv4 gv4 wv ps4 qs ⟨h.now,T1,rvs',h.ws⟩) (row:W.ownsRow w.heap.size 94 2 v (rs.length+1) (rs.flatMap c2r ++ c2r (code,rid))) (ro:∀ k,v.ownBlock=some k->own9 k=0) (ag:∀ k,k < w.heap.size->own9 k=own k) (kp:Kept (fun k=>own k ≠ 0) w W) :
  TL A a B K0 own w b mb wv qs h (j+1) v W own9 lay9 nv4 gv4 ps4 T1 rvs' (rs ++ [(code,rid)]):=by
 refine⟨by rw [List.length_append,L.len];rfl,hb, ?_,ro,by rw [hrv];exact hok,fun X hX=>?_,ag,kp⟩
 ·rw [fl_snoc,List.length_append];exact row
 ·have hd:h.ws.drop j=o :: h.ws.drop (j+1):=by obtain⟨hjl,hje⟩:=List.getElem?_eq_some_iff.mp hx;rw [List.drop_eq_getElem_cons hjl,hje]
  have hg:=takeH_go (A:=A) (now:=h.now) (t:=t) (rv:=rvs) (o:=o) (os:=h.ws.drop (j+1)) (X:=X) (by rw [<- hTC];exact hw) (by rw [<- hTC];simp only;rw [<- hrv];exact hX)
  have:=L.tk _ (by rw [hd])
  rw [hg] at this
  rw [this,<- hTC]
  simp
set_option maxHeartbeats 25600000 in
theorem takeOrders_is (A:Ops) (a:Nat->Addr) (K0:Nat) {B:Nat} {own:Nat->Int} {w:World} {b mb:Nat} {lay:Int->Option Lay} {nv gv wv:Value} {ps:List Np} {qs:List Op} {h:Hs} (H:HB B own w b mb lay nv gv wv ps qs h) (E:Er6 w a) (hB:16<=B) (hok:TOk K0 h.now h.t h.rv) (hk0:K0+h.ws.length<=700) (n0:0<=h.now) (n1:h.now<=1099511627776) (hwl:h.ws.length<=64) :
  Calls Tryz.prog 33 #[pB b] w (TkP B own w b mb h (takeH A h.now h.t h.rv h.ws)):=by
 obtain⟨ie,hi,hz0,hz1,hz2⟩:=info_parts info_res
 have hie:=mH (And.intro hi (And.intro hz0 (And.intro hz1 hz2)))
 clear hi hz0 hz1 hz2
 have hql:qs.length=h.ws.length:=by rw [<- H.we,List.length_map]
 have HQL:=mH hql
 have HWE:=mH H.we
 obtain⟨_,_,_,_,_,_,c6⟩:=H.c
 obtain⟨wa,wc,hwv,_⟩:=H.ws.shape
 have HWV:=mH hwv
 rw [hwv] at c6
 have HE:=mH E
 have HSB:Hid ((∀ k,own k ≠ 0->B<=k)/\B<=w.heap.size):=mH ⟨fun k hk=>(H.sz k hk).1,by have:=(H.sz b (by rw [H.ob];decide));omega⟩
 have HBW0:Hid (b < w.heap.size):=mH H.lt
 have HNN:=mH (And.intro n0 (And.intro n1 (And.intro hB hk0)))
 have HTT:Hid (∀ T,T=takeH A h.now h.t h.rv h.ws->takeH A h.now h.t h.rv h.ws=T):=mH (fun T e=>e.symm)
 have HL0:Hid (TL A a B K0 own w b mb wv qs h 0 (.slice none 0 0) w own lay nv gv ps h.t h.rv []):=mH ⟨rfl,H,World.ownsRow_nil _ _ _ _,fun k e=>(by cases e),hok,fun X e=>(by rw [List.drop_zero] at e;rw [<- e];rfl),fun _ _=>rfl,Kept.refl _ _⟩
 have hqi:(qs.length:Int)<=64:=by omega
 clear H E hok n0 n1 hB hk0 hwl hql hwv
 obtain⟨T0,hT0⟩:∃ T0,T0=takeH A h.now h.t h.rv h.ws:=⟨_,rfl⟩
 rw [<- hT0]
 have HT0:=mH hT0
 clear hT0 HTT
 go_enter Tryz.func33,Tryz.ntmps33
 go_wp2
 go_loopw [3,12] (fun rv iv wr=>∃ (j:Nat) (own':Nat->Int) (lay:Int->Option Lay) (nv gv:Value) (ps:List Np) (t:Tr) (rvs:Int->Option Rv) (rs:List Rs),iv=.int .i64 (j:Int)/\j<=qs.length/\Hid (TL A a B K0 own w b mb wv qs h j rv wr own' lay nv gv ps t rvs rs)) (fun _ iv _=>qs.length - (intOf iv).toNat)
 case atStart=>exact⟨0,own,lay,nv,gv,ps,h.t,h.rv,[],rfl,Nat.zero_le _,HL0⟩
 case round=>
  clear HL0 c6
  obtain⟨j,own',lay,nv,gv,ps,t,rvs,rs,rfl,hj,HLj⟩:=hrel
  obtain⟨ra,rc,rfl,_⟩:=own_sh HLj.out.row
  by_cases hlt:j < qs.length
  ·have hL:=HLj.out
   have hws:=hL.hb.ws
   rw [HWV.out] at hws
   obtain⟨wb,off,x,hwa,hxj,hat⟩:=hws.1.at (Below.refl _ _) j hlt
   subst hwa
   obtain⟨q0,q1,q2,q3,q4,q5,q6,q7⟩:=eightO hat
   have hqm:=hL.hb.wq x (List.mem_of_getElem? hxj)
   obtain⟨d0,d1,d2,d3,d4,d5,d6⟩:=hL.hb.c
   simp only at d0 d3 d4
   obtain⟨na,nc,hnv,_⟩:=own_sh hL.hb.tr.nown
   obtain⟨ga,gc,hgv,_⟩:=own_sh hL.hb.tr.gown
   subst hnv hgv
   have hwsj:h.ws[j]?=some x.1:=by rw [<- HWE.out,List.getElem?_map,hxj];rfl
   obtain⟨⟨ki,id,⟨sk,sq,sT⟩,po,ts,tm⟩,oa,oc⟩:=x
   simp only [tvO] at q0 q1 q2 q3 q4 q5 q6 q7
   have hji:(j:Int) < qs.length:=by omega
   obtain⟨X,hX⟩:∃ X,X=wr.heap.size:=⟨_,rfl⟩
   obtain⟨W3,hW3⟩:∃ W3,W3=(wr.alloc (oOq (⟨ki,id,(sk,sq,sT),po,ts,h.now⟩,oa,oc))).alloc (.cells #[.int .i64 0,.int .i64 0] 94):=⟨_,rfl⟩
   have hB3:Below wr.heap.size wr W3:=by
    rw [hW3]
    exact ba (ba (Below.refl _ wr) _) _
   have hX3:W3.heap[X]?=some (oOq (⟨ki,id,(sk,sq,sT),po,ts,h.now⟩,oa,oc)):=by
    rw [hW3,hX,heap_alloc_old _ _ (by simp)];exact heap_alloc_new wr _
   have hR3:W3.heap[X+1]?=some (.cells #[.int .i64 0,.int .i64 0] 94 (0,0)):=by
    rw [hW3,hX]
    have:=heap_alloc_new (wr.alloc (oOq (⟨ki,id,(sk,sq,sT),po,ts,h.now⟩,oa,oc))) (.cells #[.int .i64 0,.int .i64 0] 94)
    simpa using this
   have hS3:W3.heap.size=X+2:=by rw [hW3,hX];simp
   obtain⟨TC,hTC⟩:∃ TC,TC=t.app A ⟨ki,id,(sk,sq,sT),po,ts,h.now⟩:=⟨_,rfl⟩
   have h3:=hL.hb.below hB3
   have hsm8:t.Sm 800:=⟨by have:=hL.ok.sm.n;have:=HNN.out;have:=HQL.out;omega,by have:=hL.ok.sm.g;have:=HNN.out;have:=HQL.out;omega,by have:=hL.ok.sm.l;have:=HNN.out;have:=HQL.out;omega,hL.ok.sm.s⟩
   have hsm9:t.Sm 1000:=⟨by have:=hsm8.n;omega,by have:=hsm8.g;omega,by have:=hsm8.l;omega,hsm8.s⟩
   have HAP:Hid (Calls Tryz.prog 49 #[vTr (.slice na ps.length nc) (.slice ga t.gs.length gc) t,vOd ⟨ki,id,(sk,sq,sT),po,ts,h.now⟩ (.slice oa ts.length oc)] W3.drew (ApP W3.drew TC)):=mH (by
    rw [hTC]
    have htr:TrW W3.drew (.slice na ps.length nc) (.slice ga t.gs.length gc) ps t:=(TrO.trw (t:=t) h3.tr hsm9 h3.te).below (Below.refl _ W3).drew
    refine apply_is A W3.drew t _ _ ps ⟨ki,id,(sk,sq,sT),po,ts,h.now⟩ oa oc a htr hsm8 hL.ok.good.now0 hL.ok.good.now1 hL.ok.good.last0 ?_ ((hqm.ts.below hB3).below (Below.refl _ W3).drew) hqm.cap hqm.sm
    exact(HE.out.low (((hL.bel HSB.out.1 HSB.out.2).trans (hB3.mono (by have:=(hL.bel HSB.out.1 HSB.out.2).size;have:=HSB.out.2;omega))).drew) HNN.out.2.2.1))
   have HQM:=mH hqm
   have HXM:=mH (List.mem_of_getElem? hxj)
   have HX3:=mH hX3
   have HR3:=mH hR3
   have HS3:=mH (And.intro hS3 hB3)
   have HH3:=mH h3
   have HTC:=mH (And.intro hTC hwsj)
   obtain⟨y0,y1,y2,y3,y4,y5,y6,y7⟩:=od_cells hX3
   simp only [tvO] at y0 y1 y2 y3 y4 y5 y6 y7
   obtain⟨_,e1,e2,e3,e4,_,_⟩:=h3.c
   simp only at e3 e4
   have hXl:b < X:=by rw [hX];exact hL.hb.lt
   clear hX3 hR3 hS3 hB3 h3 hTC hqm hL hws hat hxj hsm8 hsm9 hwsj
   go_wp2
   rw [<- hW3,<- hX]
   have HXE:=mH hX
   clear hW3 hX q0 q1 q2 q3 q4 q5 q6 q7 d0 d1 d2 d3 d4 d5 d6
   have hT:W3.drew.cell? ⟨b,1,none⟩=some (.slice na ps.length nc)/\W3.drew.cell? ⟨b,2,none⟩=some (.slice ga t.gs.length gc)/\W3.drew.cell? ⟨b,3,none⟩=some (.int .i64 t.last)/\W3.drew.cell? ⟨b,4,none⟩=some (.int .i64 t.now)/\W3.drew.cell? ⟨X,0,none⟩=some (.int .i64 ki)/\W3.drew.cell? ⟨X,1,none⟩=some (.int .i64 id)/\W3.drew.cell? ⟨X,2,none⟩=some (.int .i64 sk)/\W3.drew.cell? ⟨X,3,none⟩=some (.int .i64 sq)/\W3.drew.cell? ⟨X,4,none⟩=some (.int .i64 sT)/\W3.drew.cell? ⟨X,5,none⟩=some (.int .i64 po)/\W3.drew.cell? ⟨X,6,none⟩=some (.slice oa ts.length oc)/\W3.drew.cell? ⟨X,7,none⟩=some (.int .i64 h.now):=⟨e1,e2,e3,e4,y0,y1,y2,y3,y4,y5,y6,y7⟩
   refine wp_region_till (fun w'=>w'.cell? ⟨b,1,none⟩=some (.slice na ps.length nc)/\w'.cell? ⟨b,2,none⟩=some (.slice ga t.gs.length gc)/\w'.cell? ⟨b,3,none⟩=some (.int .i64 t.last)/\w'.cell? ⟨b,4,none⟩=some (.int .i64 t.now)/\w'.cell? ⟨X,0,none⟩=some (.int .i64 ki)/\w'.cell? ⟨X,1,none⟩=some (.int .i64 id)/\w'.cell? ⟨X,2,none⟩=some (.int .i64 sk)/\w'.cell? ⟨X,3,none⟩=some (.int .i64 sq)/\w'.cell? ⟨X,4,none⟩=some (.int .i64 sT)/\w'.cell? ⟨X,5,none⟩=some (.int .i64 po)/\w'.cell? ⟨X,6,none⟩=some (.slice oa ts.length oc)/\w'.cell? ⟨X,7,none⟩=some (.int .i64 h.now)) 12 (by kernel_rfl) ?_
   refine frE 0 22 (pB b) rfl rfl (fun _=>hT) ?_
   simp only [sZ,sS]
   refine frE 1 23 (pB b) rfl rfl (fun _=>hT) ?_
   simp only [sZ,sS]
   refine frE 2 24 (pB b) rfl rfl (fun _=>hT) ?_
   simp only [sZ,sS]
   refine frE 3 25 (.pointer (some ⟨b,1,none⟩)) rfl rfl (fun _=>hT) ?_
   simp only [sZ,sS]
   refine fiE 4 26 (vTr (.slice na ps.length nc) (.slice ga t.gs.length gc) t) rfl rfl hT ?_
   simp only [sZ,sS]
   refine fiE 5 27 (vOd ⟨ki,id,(sk,sq,sT),po,ts,h.now⟩ (.slice oa ts.length oc)) rfl rfl hT ?_
   simp only [sZ,sS]
   refine wpT_ready (rs:=[6]) (by kernel_rfl) (by simp) (AllT.cons rfl (fun K hK=>?_) AllT.nil)
   go_simp
   refine HAP.out.mono ?_
   rintro e w4 ⟨nv4,gv4,ps4,rfl,ho4,he4,b4⟩
   have HB4:Hid (Below W3.heap.size W3 w4):=mH ((Below.refl _ W3).drew.trans b4)
   have HO4:=mH (And.intro (show TrO W3.heap.size w4 nv4 gv4 ps4 TC.1.gs from ho4) he4)
   obtain⟨na4,nc4,hnv4,_⟩:=own_sh ho4.nown
   obtain⟨ga4,gc4,hgv4,_⟩:=own_sh ho4.gown
   subst hnv4 hgv4
   have h4:=HH3.out.below HB4.out
   obtain⟨_,i1,i2,i3,i4,_,_⟩:=h4.c
   simp only at i3 i4
   have k1:=h4.fz 1
   have k2:=h4.fz 2
   have k3:=h4.fz 3
   have k4:=h4.fz 4
   have HX4:=mH (bLt HX3.out HB4.out)
   have HR4:=mH (bLt HR3.out HB4.out)
   obtain⟨z0,z1,z2,z3,z4,z5,z6,z7⟩:=od_cells HX4.out
   simp only [tvO] at z0 z1 z2 z3 z4 z5 z6 z7
   have r0:w4.cell? ⟨X+1,0,none⟩=some (.int .i64 0):=cOb (i:=0) HR4.out rfl
   have r1:w4.cell? ⟨X+1,1,none⟩=some (.int .i64 0):=cOb (i:=1) HR4.out rfl
   have fr0:w4.frozen? ⟨X+1,0,none⟩=false:=fOb HR4.out
   have fr1:w4.frozen? ⟨X+1,1,none⟩=false:=fOb HR4.out
   have HH4:=mH h4
   clear ho4 he4 b4 h4 hT
   refine hK.out _ _ (fun _=>⟨i1,i2,i3,i4,z0,z1,z2,z3,z4,z5,z6,z7⟩) ?_
   clear hK K
   (try simp only [Act.put])
   have hT:w4.cell? ⟨b,1,none⟩=some (.slice na ps.length nc)/\w4.cell? ⟨b,2,none⟩=some (.slice ga t.gs.length gc)/\w4.cell? ⟨b,3,none⟩=some (.int .i64 t.last)/\w4.cell? ⟨b,4,none⟩=some (.int .i64 t.now)/\w4.cell? ⟨X,0,none⟩=some (.int .i64 ki)/\w4.cell? ⟨X,1,none⟩=some (.int .i64 id)/\w4.cell? ⟨X,2,none⟩=some (.int .i64 sk)/\w4.cell? ⟨X,3,none⟩=some (.int .i64 sq)/\w4.cell? ⟨X,4,none⟩=some (.int .i64 sT)/\w4.cell? ⟨X,5,none⟩=some (.int .i64 po)/\w4.cell? ⟨X,6,none⟩=some (.slice oa ts.length oc)/\w4.cell? ⟨X,7,none⟩=some (.int .i64 h.now):=⟨i1,i2,i3,i4,z0,z1,z2,z3,z4,z5,z6,z7⟩
   obtain⟨T1,⟨code,rid⟩⟩:=TC
   refine frE 7 21 (.tuple #[vTr (.slice na4 ps4.length nc4) (.slice ga4 T1.gs.length gc4) T1,vRs (code,rid)]) rfl rfl (fun _=>hT) ?_
   simp only [sZ,sS]
   refine frE 8 29 (vTr (.slice na4 ps4.length nc4) (.slice ga4 T1.gs.length gc4) T1) rfl rfl (fun _=>hT) ?_
   simp only [sZ,sS]
   refine frE 9 30 (vRs (code,rid)) rfl rfl (fun _=>hT) ?_
   simp only [sZ,sS]
   refine frE 10 31 (pB b) rfl rfl (fun _=>hT) ?_
   simp only [sZ,sS]
   refine frE 11 32 (.pointer (some ⟨b,1,none⟩)) rfl rfl (fun _=>hT) ?_
   simp only [sZ,sS]
   have hXb:¬ X+1=b:=by omega
   have hXb':¬ b=X+1:=by omega
   have hXX:¬ X=b:=by omega
   refine wpT_ready (rs:=[12]) (by kernel_rfl) (by simp) (AllT.cons rfl (fun K hK=>?_) AllT.nil)
   go_simp
   refine hK.out _ _ (bool_no (by kernel_rfl)) ?_
   clear hK K
   (try simp only [Act.put])
   obtain⟨w5,hw5⟩:∃ w5,w5=(((w4.setCell ⟨b,1,none⟩ (.slice na4 ps4.length nc4)).setCell ⟨b,2,none⟩ (.slice ga4 T1.gs.length gc4)).setCell ⟨b,3,none⟩ (.int .i64 T1.last)).setCell ⟨b,4,none⟩ (.int .i64 T1.now):=⟨_,rfl⟩
   have K5:Hid (Kept (fun k=>k=b) w4 w5):=mH (by rw [hw5];exact kset (F:=fun k=>k=b) (kset (F:=fun k=>k=b) (kset (F:=fun k=>k=b) (kset (F:=fun k=>k=b) (Kept.refl _ _) (.inl rfl) _ _) (.inl rfl) _ _) (.inl rfl) _ _) (.inl rfl) _ _)
   have HX5:Hid (w5.heap[b]?=some (.cells #[.int .i64 h.now,.slice na4 ps4.length nc4,.slice ga4 T1.gs.length gc4,.int .i64 T1.last,.int .i64 T1.now,.map (some mb),wv] 87 (0,0))):=mH (by rw [hw5,hSt (hSt (hSt (hSt HH4.out.blk)))];rfl)
   rw [<- hw5]
   clear hw5
   have HR5:=mH ((K5.out.block (X+1) (lOh HR4.out) hXb).trans HR4.out)
   have u0:w5.cell? ⟨X+1,0,none⟩=some (.int .i64 0):=cOb (i:=0) HR5.out rfl
   have u1:w5.cell? ⟨X+1,1,none⟩=some (.int .i64 0):=cOb (i:=1) HR5.out rfl
   have gu0:w5.frozen? ⟨X+1,0,none⟩=false:=fOb HR5.out
   have gu1:w5.frozen? ⟨X+1,1,none⟩=false:=fOb HR5.out
   clear i1 i2 i3 i4 z0 z1 z2 z3 z4 z5 z6 z7 r0 r1 fr0 fr1 k1 k2 k3 k4 hT y0 y1 y2 y3 y4 y5 y6 y7 e1 e2 e3 e4
   refine wpT_ready (rs:=[13]) (by kernel_rfl) (by simp) (AllT.cons rfl (fun K hK=>?_) AllT.nil)
   go_simp
   refine hK.out _ _ (bool_no (by kernel_rfl)) ?_
   clear hK K
   (try simp only [Act.put])
   refine wpT_done (by kernel_rfl) ?_ _
   obtain⟨w6,hw6⟩:∃ w6,w6=(w5.setCell ⟨X+1,0,none⟩ (.int .i64 code)).setCell ⟨X+1,1,none⟩ (.int .i64 rid):=⟨_,rfl⟩
   have K6:Hid (Kept (fun k=>k=X+1) w5 w6):=mH (by rw [hw6];exact kset (F:=fun k=>k=X+1) (kset (F:=fun k=>k=X+1) (Kept.refl _ _) (.inl rfl) _ _) (.inl rfl) _ _)
   have HR6:Hid (w6.heap[X+1]?=some (.cells #[.int .i64 code,.int .i64 rid] 94 (0,0))):=mH (by rw [hw6,hSt (hSt HR5.out)];rfl)
   have HX6:Hid (w6.heap[X]?=some (oOq (⟨ki,id,(sk,sq,sT),po,ts,h.now⟩,oa,oc))):=mH ((K6.out.block X (by have:=K5.out.size;have:=lOh HX4.out;omega) (by omega)).trans ((K5.out.block X (lOh HX4.out) hXX).trans HX4.out))
   rw [<- hw6]
   clear hw6 u0 u1 gu0 gu1
   have hOX:own' (X+1)=0:=Decidable.byContradiction fun hn=>by have:=(HLj.out.hb.sz _ hn).2;have:=HXE.out;omega
   have h5:=HH3.out.tree HB4.out HO4.out.1 HO4.out.2 K5.out HX5.out
   have h6:HB B (tag own' W3.heap.size w4.heap.size (-4)) w6 b mb lay (.slice na4 ps4.length nc4) (.slice ga4 T1.gs.length gc4) wv ps4 qs ⟨h.now,T1,rvs,h.ws⟩:=h5.kept K6.out (fun k e=>.inl (by rw [e,tag_old (by have:=HS3.out.1;omega)];exact hOX))
   have HTG:Hid (∀ k,k < w.heap.size->tag own' W3.heap.size w4.heap.size (-4) k=own k):=mH (fun k hk=>by rw [tag_old (by have:=HS3.out.1;have:=HXE.out;have:=HLj.out.kp.size;omega)];exact HLj.out.ag k hk)
   have HKP:Hid (Kept (fun k=>own' k ≠ 0) wr w6):=mH (((kept_new (F:=fun k=>own' k ≠ 0) (bt HS3.out.2 HB4.out)).trans K5.out (fun k e=>.inl (by rw [e,HLj.out.hb.ob];decide))).trans K6.out (fun k e=>.inr (by have:=HXE.out;omega)))
   have HKW:Hid (Kept (fun k=>own k ≠ 0) w w6):=mH (HLj.out.kp.trans HKP.out (fun k e=>by by_cases hk:k < w.heap.size;exact .inl (by rw [<- HLj.out.ag k hk];exact e);exact .inr (by omega)))
   have HRW:Hid (w6.ownsRow w.heap.size 94 2 (.slice ra rs.length rc) rs.length (rs.flatMap c2r)):=mH (oNk HLj.out.row HKP.out (fun k e g=>g (HLj.out.ro k e)))
   have HRO:Hid (∀ k,(Value.slice ra rs.length rc).ownBlock=some k->tag own' W3.heap.size w4.heap.size (-4) k=0):=mH (fun k e=>by rw [tag_old (by have:=(HLj.out.row.lt k e).2;have:=HS3.out.1;have:=HXE.out;omega)];exact HLj.out.ro k e)
   have HST:=HLj.out.ok.step (o:=⟨ki,id,(sk,sq,sT),po,ts,tm⟩) HNN.out.1 (u:=T1) (r:=(code,rid)) (by have:=app_ap A t ⟨ki,id,(sk,sq,sT),po,ts,h.now⟩;rw [<- HTC.out.1] at this;exact this)
   have HSTP:=mH HST
   clear HST
   obtain⟨ow,how⟩:∃ ow,ow=tag own' W3.heap.size w4.heap.size (-4):=⟨_,rfl⟩
   have HZW:Hid (∀ k,w4.heap.size<=k->ow k=0):=mH (fun k hk=>by rw [how];unfold tag;rw [if_neg (by have:=HB4.out.size;omega),if_neg (by omega)])
   rw [<- how] at h6 HTG HRO
   clear how h5 hOX
   have HH6:=mH h6
   clear h6
   have v0:w6.cell? ⟨X+1,0,none⟩=some (.int .i64 code):=cOb (i:=0) HR6.out rfl
   have v1:w6.cell? ⟨X+1,1,none⟩=some (.int .i64 rid):=cOb (i:=1) HR6.out rfl
   have HWO:Hid (Calls Tryz.prog 50 #[pB b,.int .i64 code] w6 fun e w'=>e=.returned (.bool (won T1 code))/\w'=w6):=mH (waitsOn_is HH6.out code)
   have hws5:h.ws.drop j=⟨ki,id,(sk,sq,sT),po,ts,tm⟩ :: h.ws.drop (j+1):=by obtain⟨hjl,hje⟩:=List.getElem?_eq_some_iff.mp HTC.out.2;rw [List.drop_eq_getElem_cons hjl,hje]
   have HDR:=mH hws5
   clear hws5
   by_cases hwo:won T1 code=true
   ·have HWT:Hid (T0=(T1,rvs,rs)):=mH (by
     rw [HT0.out]
     have hst:=takeH_stop (A:=A) (now:=h.now) (t:=t) (rv:=rvs) (o:=⟨ki,id,(sk,sq,sT),po,ts,tm⟩) (os:=h.ws.drop (j+1)) (by show won (t.app A ⟨ki,id,(sk,sq,sT),po,ts,h.now⟩).1 (t.app A ⟨ki,id,(sk,sq,sT),po,ts,h.now⟩).2.1=true;rw [<- HTC.out.1];exact hwo)
     have:=HLj.out.tk _ (by rw [HDR.out])
     rw [hst] at this
     rw [this]
     show ((t.app A ⟨ki,id,(sk,sq,sT),po,ts,h.now⟩).1,rvs,rs ++ [])=_
     rw [<- HTC.out.1,List.append_nil])
    have HLEN:Hid (rs.length<=qs.length):=mH (by have:=HLj.out.len;omega)
    have HHE:=HH6
    rw [hwo] at HWO
    clear hwo
    have hln:=HLEN.out
    obtain⟨_,_,_,_,_,_,g6⟩:=HHE.out.c
    have gf6:=HHE.out.fz 6
    obtain⟨wa',wm',wc',wv',e1,e2,hsl,hro,hob⟩:=HHE.out.ws.drop rs.length (by omega)
    rw [e1] at g6
    rw [e2] at g6 hsl
    obtain⟨wa2,wc2,hwv2,_⟩:=hro.shape
    have hslW:=hsl w6
    have HRD:=mH (And.intro hro hob)
    subst hwv2
    have HE1:=mH (And.intro e1 e2)
    clear hsl hro hob e1 e2
    go_wp2_with (go_at_call 50;refine HWO.out.mono ?_;rintro e w7 ⟨rfl,hw⟩;rw [hw];clear hw)
    go_ret
    obtain⟨p1,p2⟩:=HRD.out
    rw [List.length_drop] at p1 p2
    exact tkP_mk HWT.out HHE.out HRW.out HRO.out HTG.out HKW.out p1 p2 HBW0.out
   ·have hwo':won T1 code=false:=by simpa using hwo
    have HWF:=mH hwo'
    rw [hwo'] at HWO
    clear hwo hwo'
    have HLC:Hid (rs.length<=64):=mH (by have:=HLj.out.len;omega)
    have HK0:Hid (w.heap.size<=w6.heap.size):=mH HKW.out.size
    have HOWR:Hid ((w6.alloc (.cells #[.int .i64 code,.int .i64 rid] 94)).ownsRow w.heap.size 94 2 (.slice ra rs.length rc) rs.length (rs.flatMap c2r)):=mH (own_new HRW.out _)
    have HRB:Hid (∀ k,(Value.slice ra rs.length rc).ownBlock=some k->k < X):=mH (fun k e=>by have:=(HLj.out.row.lt k e).2;have:=HXE.out;omega)
    by_cases hc:code=0
    ·have HFO:=mH (HSTP.out.2.2 hc)
     subst hc
     simp only at HFO
     go_wp2_with (first | (go_at_call 50;refine HWO.out.mono ?_;rintro e w7 ⟨rfl,hw⟩;rw [hw];clear hw) | (at_builtin;refine wpList_append_src2 _ rfl (.tmp 37) (.tmp 39) 52 52 rfl w.heap.size 94 ie Tryz.underlying52 hie.out.1 (.agg #[.int .i64 0,.int .i64 0]) 16 hie.out.2.1 rfl hie.out.2.2.1 hie.out.2.2.2 (.slice ra rs.length rc) rs.length (rs.flatMap c2r) rfl HOWR.out (.slice (some ⟨w6.heap.size,0,none⟩) 1 1) 1 (c2r (0,rid)) rfl (src_one (f:=c2r) Tryz.underlying52 (0,rid) rfl (one2r _) w6 _ rfl) (by have:=HLC.out;unfold maxLen;omega) (by have:=HLC.out;omega) (by have:=HK0.out;simp;omega) ?_;intro v8 w8 ho8 hg8 hat8;have k8:=Kept.grown hg8 (F:=fun k=>(Value.slice ra rs.length rc).ownBlock=some k) (fun k hk=>hk);have HH8:=mH ((HH6.out.below (ba (Below.refl _ w6) _)).kept k8 (fun k e=>.inl (HRO.out k e)));have hx8:=(k8.block (X+1) (by have:=lOh HR6.out;simp;omega) (fun e=>by have:=HRB.out _ e;omega)).trans ((heap_alloc_old w6 _ (lOh HR6.out)).trans HR6.out);have hq8:=(k8.block X (by have:=lOh HX6.out;simp;omega) (fun e=>by have:=HRB.out _ e;omega)).trans ((heap_alloc_old w6 _ (lOh HX6.out)).trans HX6.out);have n0':=cOb (i:=0) hx8 rfl;have n1':=cOb (i:=1) hx8 rfl;have HRW8:=mH ho8;have HRO8:Hid (∀ k,v8.ownBlock=some k->ow k=0):=mH (fun k e=>(by rcases hat8 with e2 | e2;exact HRO.out k (e2 ▸ e);rw [e2] at e;cases e;exact HZW.out _ (by have:=K5.out.size;have:=K6.out.size;simp;omega)));have HKW8:Hid (Kept (fun k=>own k ≠ 0) w w8):=mH ((HKW.out.trans (Kept.alloc (fun k=>own k ≠ 0) w6 _) (fun _ h=>.inl h)).trans k8 (fun k e=>.inr (HOWR.out.lt k e).1));obtain⟨va8,vc8,hv8,_⟩:=own_sh ho8;subst hv8;obtain⟨s0,s1,s2,s3,s4,s5,s6,s7⟩:=od_cells hq8;simp only [tvO] at s0 s1 s2 s3 s4 s5 s6 s7;clear ho8 hg8 hat8 k8 hx8 hq8) | (go_at_call 51;refine(follow_is HH8.out (⟨ki,id,(sk,sq,sT),po,ts,h.now⟩,oa,oc) rid ⟨HFO.out.i1,HFO.out.ki,HFO.out.sv,HFO.out.gs⟩ HNN.out.1 HNN.out.2.1 (HH8.out.wq (⟨ki,id,(sk,sq,sT),po,ts,tm⟩,oa,oc) HXM.out).ts).mono ?_;rintro e w9 ⟨rfl,own9,lay9,hb9,ag9,kp9⟩;have HH9:Hid (HB B own9 w9 b mb lay9 (.slice na4 ps4.length nc4) (.slice ga4 T1.gs.length gc4) wv ps4 qs ⟨h.now,T1,folR h.now rvs ⟨ki,id,(sk,sq,sT),po,ts,tm⟩ rid,h.ws⟩):=mH hb9;have HRW9:=mH (oNk HRW8.out kp9 (fun k e g=>g (HRO8.out k e)));have HRO9:Hid (∀ k,(Value.slice va8 (rs.length+1) vc8).ownBlock=some k->own9 k=0):=mH (fun k e=>(by rw [ag9 k (HRW8.out.lt k e).2];exact HRO8.out k e));have HTG9:Hid (∀ k,k < w.heap.size->own9 k=own k):=mH (fun k hk=>(by rw [ag9 k (by have:=HKW8.out.size;omega)];exact HTG.out k hk));have HKW9:Hid (Kept (fun k=>own k ≠ 0) w w9):=mH (HKW8.out.trans kp9 (fun k e=>(by by_cases hk:k < w.heap.size;exact .inl (by rw [<- HTG.out k hk];exact e);exact .inr (by omega))));clear hb9 ag9 kp9))
     go_roundw
     case rel=>exact⟨j+1,own9,lay9,_,_,ps4,T1,_,_,by go_num,hlt,mH (HLj.out.next HTC.out.2 HTC.out.1 HWF.out (if_pos rfl).symm HSTP.out.1 HH9.out HRW9.out HRO9.out HTG9.out HKW9.out)⟩
     case measure=>simp [intOf];omega
    ·have hc':(code == 0)=false:=by simpa using hc
     go_wp2_with (first | (go_at_call 50;refine HWO.out.mono ?_;rintro e w7 ⟨rfl,hw⟩;rw [hw];clear hw) | (at_builtin;refine wpList_append_src2 _ rfl (.tmp 37) (.tmp 39) 52 52 rfl w.heap.size 94 ie Tryz.underlying52 hie.out.1 (.agg #[.int .i64 0,.int .i64 0]) 16 hie.out.2.1 rfl hie.out.2.2.1 hie.out.2.2.2 (.slice ra rs.length rc) rs.length (rs.flatMap c2r) rfl HOWR.out (.slice (some ⟨w6.heap.size,0,none⟩) 1 1) 1 (c2r (code,rid)) rfl (src_one (f:=c2r) Tryz.underlying52 (code,rid) rfl (one2r _) w6 _ rfl) (by have:=HLC.out;unfold maxLen;omega) (by have:=HLC.out;omega) (by have:=HK0.out;simp;omega) ?_;intro v8 w8 ho8 hg8 hat8;have k8:=Kept.grown hg8 (F:=fun k=>(Value.slice ra rs.length rc).ownBlock=some k) (fun k hk=>hk);have HH8:=mH ((HH6.out.below (ba (Below.refl _ w6) _)).kept k8 (fun k e=>.inl (HRO.out k e)));have hx8:=(k8.block (X+1) (by have:=lOh HR6.out;simp;omega) (fun e=>by have:=HRB.out _ e;omega)).trans ((heap_alloc_old w6 _ (lOh HR6.out)).trans HR6.out);have hq8:=(k8.block X (by have:=lOh HX6.out;simp;omega) (fun e=>by have:=HRB.out _ e;omega)).trans ((heap_alloc_old w6 _ (lOh HX6.out)).trans HX6.out);have n0':=cOb (i:=0) hx8 rfl;have n1':=cOb (i:=1) hx8 rfl;have HRW8:=mH ho8;have HRO8:Hid (∀ k,v8.ownBlock=some k->ow k=0):=mH (fun k e=>(by rcases hat8 with e2 | e2;exact HRO.out k (e2 ▸ e);rw [e2] at e;cases e;exact HZW.out _ (by have:=K5.out.size;have:=K6.out.size;simp;omega)));have HKW8:Hid (Kept (fun k=>own k ≠ 0) w w8):=mH ((HKW.out.trans (Kept.alloc (fun k=>own k ≠ 0) w6 _) (fun _ h=>.inl h)).trans k8 (fun k e=>.inr (HOWR.out.lt k e).1));obtain⟨va8,vc8,hv8,_⟩:=own_sh ho8;subst hv8;clear ho8 hg8 hat8 k8 hx8 hq8))
     go_roundw
     case rel=>exact⟨j+1,ow,lay,_,_,ps4,T1,_,_,by go_num,hlt,mH (HLj.out.next HTC.out.2 HTC.out.1 HWF.out (if_neg hc).symm HSTP.out.1 HH8.out HRW8.out HRO8.out HTG.out HKW8.out)⟩
     case measure=>simp [intOf];omega
  ·obtain rfl:j=qs.length:=by omega
   have HWT:Hid (T0=(t,rvs,rs)):=mH (by
    rw [HT0.out]
    have:=HLj.out.tk (t,rvs,[]) (by rw [HQL.out,List.drop_length];rfl)
    rw [this,List.append_nil])
   have HLEN:Hid (rs.length<=qs.length):=mH (by have:=HLj.out.len;omega)
   have HHE:=mH HLj.out.hb
   have hln:=HLEN.out
   obtain⟨_,_,_,_,_,_,g6⟩:=HHE.out.c
   have gf6:=HHE.out.fz 6
   obtain⟨wa',wm',wc',wv',e1,e2,hsl,hro,hob⟩:=HHE.out.ws.drop rs.length (by omega)
   rw [e1] at g6
   rw [e2] at g6 hsl
   obtain⟨wa2,wc2,hwv2,_⟩:=hro.shape
   have hslW:=hsl wr
   have HRD:=mH (And.intro hro hob)
   subst hwv2
   have HE1:=mH (And.intro e1 e2)
   clear hsl hro hob e1 e2
   go_wp2
   go_ret
   obtain⟨p1,p2⟩:=HRD.out
   rw [List.length_drop] at p1 p2
   exact tkP_mk HWT.out HHE.out HLj.out.row HLj.out.ro HLj.out.ag HLj.out.kp p1 p2 HBW0.out
end Go.Proofs.YtpdehdomilnmeaaGreatDoor
