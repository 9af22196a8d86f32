import Derived.Test.YtpdehdomilnmeaaGreatDoorTrA
import Derived.BigQuiet
import Derived.Deep.QuietTactic
namespace Go.Proofs.YtpdehdomilnmeaaGreatDoor
open Go.ChangeShapes Go.WideShapes Go.ChangeAt Go.RowKit
set_option maxRecDepth 100000
attribute [local go_sem] World.cell?_alloc_some fAs
theorem cnt_len {t:Tr} (hs:t.Sm 1000) (i:Int):(t.cnt i).length<=2000:=by
 unfold Tr.cnt
 rw [List.length_append,List.length_map,List.length_map]
 have:=List.length_filter_le (bel i) t.ns
 have:=List.length_filter_le (belG i) t.gs
 have:=hs.n
 have:=hs.g
 omega
set_option maxHeartbeats 3200000 in
theorem full_is (w:World) (t:Tr) (nv gv:Value) (ps:List Np) (i:Int) (b:Bool) (h:TrW w nv gv ps t) (hs:t.Sm 1000) (hb:b=t.full i) :
  Calls Tryz.prog 146 #[vTr nv gv t,.int .i64 i] w fun e w'=>e=.returned (.bool b)/\Below w.heap.size w w':=by
 have hl:=cnt_len hs i
 have HC:Hid (∀ W,Below w.heap.size w W->Calls Tryz.prog 152 #[vTr nv gv t,.int .i64 i] W fun e w'=>∃ a c,e=.returned (.slice a (t.cnt i).length c)/\w'.ownsRow W.heap.size 37 3 (.slice a (t.cnt i).length c) (t.cnt i).length ((t.cnt i).flatMap c3)/\Below W.heap.size W w'):=mH (fun W hW=>counted_is W t nv gv ps i (h.below hW) hs)
 obtain⟨a,cap,rfl,_⟩:=h.n.row.shape
 obtain⟨a2,cap2,rfl,_⟩:=h.g.shape
 unfold Tr.full at hb
 clear h hs
 generalize (t.cnt i).flatMap c3=fl at *
 generalize (t.cnt i).length=L at *
 by_cases c:8<=L
 ·have hb2:b=true:=by rw [hb];simp [c]
  subst hb2
  have c':(8:Int)<=(L:Int):=by omega
  clear c hb
  go_enter Tryz.func146,Tryz.ntmps146
  go_wp2_with (go_at_call 152;refine(HC.out _ (ba (Below.refl _ w) _)).mono ?_;rintro r w2 ⟨a3,c3,rfl,_,hb2⟩;have HB:=mH (bt (ba (Below.refl _ w) _) hb2);clear hb2)
  go_ret
  exact⟨by simp,HB.out⟩
 ·have hb2:b=false:=by rw [hb];simp [c]
  subst hb2
  have c':¬ (8:Int)<=(L:Int):=by omega
  clear c hb
  go_enter Tryz.func146,Tryz.ntmps146
  go_wp2_with (go_at_call 152;refine(HC.out _ (ba (Below.refl _ w) _)).mono ?_;rintro r w2 ⟨a3,c3,rfl,_,hb2⟩;have HB:=mH (bt (ba (Below.refl _ w) _) hb2);clear hb2)
  go_ret
  exact⟨by simp [c'],HB.out⟩
set_option maxHeartbeats 6400000 in
theorem leafC_is (w:World) (t:Tr) (nv gv:Value) (ps:List Np) (i R:Int) (h:TrW w nv gv ps t) (hs:t.Sm 1000) (hR:R=t.leafC i) :
  Calls Tryz.prog 120 #[vTr nv gv t,.int .i64 i] w fun e w'=>e=.returned (.int .i64 R)/\Below w.heap.size w w':=by
 have hl:=cnt_len hs i
 have HC:Hid (∀ W,Below w.heap.size w W->Calls Tryz.prog 152 #[vTr nv gv t,.int .i64 i] W fun e w'=>∃ a c,e=.returned (.slice a (t.cnt i).length c)/\w'.ownsRow W.heap.size 37 3 (.slice a (t.cnt i).length c) (t.cnt i).length ((t.cnt i).flatMap c3)/\Below W.heap.size W w'):=mH (fun W hW=>counted_is W t nv gv ps i (h.below hW) hs)
 obtain⟨K,hK⟩:=pln_ex t i
 have HP:Hid (∀ W,Below w.heap.size w W->Calls Tryz.prog 119 #[vTr nv gv t,.int .i64 i] W fun e w'=>e=.returned (.int .i64 K)/\Below W.heap.size W w'):=mH (fun W hW=>place_is W t nv gv ps i K (h.below hW) hK)
 obtain⟨a,cap,rfl,_⟩:=h.n.row.shape
 obtain⟨a2,cap2,rfl,_⟩:=h.g.shape
 unfold Tr.leafC at hR
 rcases hK with ⟨hn,rfl⟩ | ⟨la,n,lb,_,_,hn,_,rfl⟩
 ·rw [if_pos hn] at hR
  subst hR
  clear h hs hn HC
  go_enter Tryz.func120,Tryz.ntmps120
  go_wp2_with (go_at_call 119;refine(HP.out _ (ba (Below.refl _ w) _)).mono ?_;rintro r w2 ⟨rfl,hb2⟩;have HB:=mH (bt (ba (Below.refl _ w) _) hb2);clear hb2)
  go_ret
  exact⟨rfl,HB.out⟩
 ·rw [if_neg (by rw [hn];simp)] at hR
  have h0:¬ ((la.length:Int) < 0):=by omega
  clear h hs hn
  generalize (t.cnt i).flatMap c3=fl at *
  generalize (t.cnt i).length=L at *
  generalize (la.length:Int)=J at *
  by_cases c:0 < L
  ·rw [if_pos c] at hR
   subst hR
   have c':(0:Int) < (L:Int):=by omega
   clear c
   go_enter Tryz.func120,Tryz.ntmps120
   go_wp2_with (first
    |(go_at_call 119;refine(HP.out _ (ba (Below.refl _ w) _)).mono ?_;rintro r w2 ⟨rfl,hb2⟩;obtain⟨hx2,hbb⟩:=new_last hb2;obtain⟨q0,q1,q2,q3⟩:=four hx2;have HB:=mH hbb;clear hb2 hx2 hbb)
    |(go_at_call 152;refine(HC.out _ HB.out).mono ?_;rintro r w3 ⟨a3,c3,rfl,_,hb3⟩;have HB3:=mH (bt HB.out hb3);clear hb3))
   go_ret
   exact⟨rfl,HB3.out⟩
  ·rw [if_neg c] at hR
   subst hR
   have c':¬ (0:Int) < (L:Int):=by omega
   clear c
   go_enter Tryz.func120,Tryz.ntmps120
   go_wp2_with (first
    |(go_at_call 119;refine(HP.out _ (ba (Below.refl _ w) _)).mono ?_;rintro r w2 ⟨rfl,hb2⟩;obtain⟨hx2,hbb⟩:=new_last hb2;obtain⟨q0,q1,q2,q3⟩:=four hx2;have HB:=mH hbb;clear hb2 hx2 hbb)
    |(go_at_call 152;refine(HC.out _ HB.out).mono ?_;rintro r w3 ⟨a3,c3,rfl,_,hb3⟩;have HB3:=mH (bt HB.out hb3);clear hb3))
   go_ret
   exact⟨rfl,HB3.out⟩
set_option maxHeartbeats 6400000 in
theorem idleC_is (w:World) (t:Tr) (nv gv:Value) (ps:List Np) (i R:Int) (h:TrW w nv gv ps t) (hs:t.Sm 1000) (hR:R=t.idleC i) :
  Calls Tryz.prog 148 #[vTr nv gv t,.int .i64 i] w fun e w'=>e=.returned (.int .i64 R)/\Below w.heap.size w w':=by
 have HP:Hid (∀ W,Below w.heap.size w W->Calls Tryz.prog 120 #[vTr nv gv t,.int .i64 i] W fun e w'=>e=.returned (.int .i64 (t.leafC i))/\Below W.heap.size W w'):=mH (fun W hW=>leafC_is W t nv gv ps i _ (h.below hW) hs rfl)
 have HC:Hid (∀ W,Below w.heap.size w W->Calls Tryz.prog 145 #[vTr nv gv t,.int .i64 i] W fun e w'=>e=.returned (.bool (t.bnd i))/\Below W.heap.size W w'):=mH (fun W hW=>bound_is W t nv gv ps i _ (h.below hW) hs rfl)
 obtain⟨a,cap,rfl,_⟩:=h.n.row.shape
 obtain⟨a2,cap2,rfl,_⟩:=h.g.shape
 unfold Tr.idleC at hR
 clear h hs
 generalize t.leafC i=L at *
 generalize t.bnd i=b at *
 by_cases c:L=0
 ·subst c
  rw [if_neg (by omega)] at hR
  cases b with
  |true=>
   rw [if_pos rfl] at hR
   subst hR
   go_enter Tryz.func148,Tryz.ntmps148
   go_wp2_with (first
    |(go_at_call 120;refine(HP.out _ (ba (Below.refl _ w) _)).mono ?_;rintro r w2 ⟨rfl,hb2⟩;obtain⟨hx2,hbb⟩:=new_last hb2;obtain⟨q0,q1,q2,q3⟩:=four hx2;have HB:=mH hbb;clear hb2 hx2 hbb)
    |(go_at_call 145;refine(HC.out _ HB.out).mono ?_;rintro r w3 ⟨rfl,hb3⟩;have HB3:=mH (bt HB.out hb3);clear hb3))
   go_ret
   exact⟨rfl,HB3.out⟩
  |false=>
   rw [if_neg (by simp)] at hR
   subst hR
   go_enter Tryz.func148,Tryz.ntmps148
   go_wp2_with (first
    |(go_at_call 120;refine(HP.out _ (ba (Below.refl _ w) _)).mono ?_;rintro r w2 ⟨rfl,hb2⟩;obtain⟨hx2,hbb⟩:=new_last hb2;obtain⟨q0,q1,q2,q3⟩:=four hx2;have HB:=mH hbb;clear hb2 hx2 hbb)
    |(go_at_call 145;refine(HC.out _ HB.out).mono ?_;rintro r w3 ⟨rfl,hb3⟩;have HB3:=mH (bt HB.out hb3);clear hb3))
   go_ret
   exact⟨rfl,HB3.out⟩
 ·rw [if_pos c] at hR
  have c':(L == 0)=false:=by simpa using c
  subst hR
  go_enter Tryz.func148,Tryz.ntmps148
  go_wp2_with (go_at_call 120;refine(HP.out _ (ba (Below.refl _ w) _)).mono ?_;rintro r w2 ⟨rfl,hb2⟩;have HB:=mH (bt (ba (Below.refl _ w) _) hb2);clear hb2)
  go_ret
  exact⟨rfl,HB.out⟩
set_option maxHeartbeats 6400000 in
theorem freed_is (A:Ops) (w:World) (t:Tr) (nv gv:Value) (ps:List Np) (i R:Int) (a:Nat->Addr) (h:TrW w nv gv ps t) (hs:t.Sm 1000) (hn0:0<=t.now) (hn1:t.now<=1099511627776) (E:Er6 w a) (hR:R=t.fr A i) :
  Calls Tryz.prog 121 #[vTr nv gv t,.int .i64 i] w fun e w'=>e=.returned (.int .i64 R)/\Below w.heap.size w w':=by
 obtain⟨n,hn⟩:=A.hd (t.srv i) (t.cnt i)
 obtain⟨d0,d1⟩:=d_range (A:=A) (t.srv i) (t.cnt i)
 have HS:Hid (∀ W,Below w.heap.size w W->Calls Tryz.prog 153 #[vTr nv gv t,.int .i64 i] W fun e w'=>e=.returned (.tuple #[vS (t.srv i),.bool (t.hasB i)])/\Below W.heap.size W w'):=mH (fun W hW=>server_is W t nv gv ps i (h.below hW) hs)
 have HC:Hid (∀ W,Below w.heap.size w W->Calls Tryz.prog 152 #[vTr nv gv t,.int .i64 i] W fun e w'=>∃ a c,e=.returned (.slice a (t.cnt i).length c)/\w'.ownsRow W.heap.size 37 3 (.slice a (t.cnt i).length c) (t.cnt i).length ((t.cnt i).flatMap c3)/\Below W.heap.size W w'):=mH (fun W hW=>counted_is W t nv gv ps i (h.below hW) hs)
 have hl:=cnt_len hs i
 have HD:Hid (∀ W b a3 c3',Below w.heap.size w W->W.ownsRow b 37 3 (.slice a3 (t.cnt i).length c3') (t.cnt i).length ((t.cnt i).flatMap c3)->Calls Tryz.prog 154 #[vS (t.srv i),.slice a3 (t.cnt i).length c3'] W fun e w'=>e=.returned (.tuple #[.int .i64 (A.d (t.srv i) (t.cnt i)),ev6 a n])/\Below W.heap.size W w'):=mH (fun W b a3 c3' hW ho=>by
  obtain⟨a4,c4,e4,hsv⟩:=svs_of_owns (by omega) ho
  rw [<- e4] at hsv
  exact drain_is W (t.srv i) _ (t.cnt i) a _ n hsv (E.late hW) hn)
 unfold Tr.fr at hR
 generalize A.d (t.srv i) (t.cnt i)=D at *
 generalize (t.cnt i).flatMap c3=fl at *
 generalize (t.cnt i).length=L at *
 generalize t.srv i=s at *
 obtain⟨k,q,T⟩:=s
 generalize t.hasB i=hb at *
 generalize ev6 a n=ev at *
 have ew:IntKind.i64.wrap (t.now+D)=t.now+D:=wfit (by omega) (by omega)
 obtain⟨a1,cap,rfl,_⟩:=h.n.row.shape
 obtain⟨a2,cap2,rfl,_⟩:=h.g.shape
 clear h hs hn E hl
 go_enter Tryz.func121,Tryz.ntmps121
 go_wp2_with (go_at_call 153;refine(HS.out _ (ba (Below.refl _ w) _)).mono ?_;rintro r w2 ⟨rfl,hb2⟩;obtain⟨hx2,hbb⟩:=new_last hb2;have HX:=mH hx2;have HB:=mH hbb;clear hb2 hx2 hbb)
 obtain⟨W,hW⟩:∃ W,W=w2.alloc (oS (k,q,T)):=⟨_,rfl⟩
 have HB3:Hid (Below w.heap.size w W):=mH (by rw [hW];exact ba HB.out _)
 have hx3:W.heap[w.heap.size]?=some (oTr (.slice a1 ps.length cap) (.slice a2 t.gs.length cap2) t):=by rw [hW];exact(heap_alloc_old w2 _ (lOh HX.out)).trans HX.out
 obtain⟨e0,e1,e2,e3⟩:=four hx3
 have hx4:W.heap[w2.heap.size]?=some (oS (k,q,T)):=by rw [hW];exact heap_alloc_new w2 _
 obtain⟨z0,z1,z2⟩:=three hx4
 rw [<- hW]
 clear hW hx3 hx4 HB
 generalize w2.heap.size=p at *
 obtain⟨p1,hP1⟩:∃ p1,p1=w.heap.size:=⟨_,rfl⟩
 rw [<- hP1] at e0 e1 e2 e3 ⊢
 clear hP1
 go_region_held3 (fun w'=>w'.cell? ⟨p1,0,none⟩=some (.slice a1 ps.length cap)/\w'.cell? ⟨p1,1,none⟩=some (.slice a2 t.gs.length cap2)/\w'.cell? ⟨p1,2,none⟩=some (.int .i64 t.last)/\w'.cell? ⟨p1,3,none⟩=some (.int .i64 t.now)/\w'.cell? ⟨p,0,none⟩=some (.int .i64 k)/\w'.cell? ⟨p,1,none⟩=some (.int .i64 q)/\w'.cell? ⟨p,2,none⟩=some (.int .i64 T)) (go_keep) (first
  |(go_at_call 152;refine(HC.out W.drew HB3.out.drew).mono ?_;rintro e w4 ⟨a3,c3',rfl,ho4,b4⟩;have y0:w4.cell? ⟨p1,0,none⟩=some (.slice a1 ps.length cap):=kc (w:=W.drew) (a:=⟨p1,0,none⟩) e0 b4;have y1:w4.cell? ⟨p1,1,none⟩=some (.slice a2 t.gs.length cap2):=kc (w:=W.drew) (a:=⟨p1,1,none⟩) e1 b4;have y2:w4.cell? ⟨p1,2,none⟩=some (.int .i64 t.last):=kc (w:=W.drew) (a:=⟨p1,2,none⟩) e2 b4;have y3:w4.cell? ⟨p1,3,none⟩=some (.int .i64 t.now):=kc (w:=W.drew) (a:=⟨p1,3,none⟩) e3 b4;have y4:w4.cell? ⟨p,0,none⟩=some (.int .i64 k):=kc (w:=W.drew) (a:=⟨p,0,none⟩) z0 b4;have y5:w4.cell? ⟨p,1,none⟩=some (.int .i64 q):=kc (w:=W.drew) (a:=⟨p,1,none⟩) z1 b4;have y6:w4.cell? ⟨p,2,none⟩=some (.int .i64 T):=kc (w:=W.drew) (a:=⟨p,2,none⟩) z2 b4;have HB4:=mH (bt HB3.out.drew b4);have HO4:=mH ho4;clear b4 ho4)
  |(go_at_call 154;refine(HD.out w4 _ _ _ HB4.out HO4.out).mono ?_;rintro e w5 ⟨rfl,b5⟩;have x0:w5.cell? ⟨p1,0,none⟩=some (.slice a1 ps.length cap):=kc y0 b5;have x1:w5.cell? ⟨p1,1,none⟩=some (.slice a2 t.gs.length cap2):=kc y1 b5;have x2:w5.cell? ⟨p1,2,none⟩=some (.int .i64 t.last):=kc y2 b5;have x3:w5.cell? ⟨p1,3,none⟩=some (.int .i64 t.now):=kc y3 b5;have x4:w5.cell? ⟨p,0,none⟩=some (.int .i64 k):=kc y4 b5;have x5:w5.cell? ⟨p,1,none⟩=some (.int .i64 q):=kc y5 b5;have x6:w5.cell? ⟨p,2,none⟩=some (.int .i64 T):=kc y6 b5;have HB5:=mH (bt HB4.out b5);clear b5))
 go_wp2
 go_ret
 exact⟨by rw [hR];rfl,HB5.out⟩
theorem svs_own {w:World} {b:Nat} {v:Value} {xs:List Sv} (hl:xs.length<=10000) (h:w.ownsRow b 37 3 v xs.length (xs.flatMap c3)):Svs w v xs:=by
 obtain⟨a4,c4,e4,hsv⟩:=svs_of_owns (by omega) h
 rw [e4];exact hsv
theorem takeD {P:Program} {md:Region.Mode} {ops:Array Oper} {Q:Exit->Act->World->Prop} {S:World->Prop} {fuel:Nat} {listed:Array Bool} {l:List Value} {df:List Deferred} {w:World} {oi:Oper} (i d:Nat) (v:Value) (hi:ops[i]?=some oi) (hd:oi.dst=some d)
  (hs:Region.noSelect ops=true) (hf:Region.free md ops listed i=true) (hr:(Region.ready md ops listed).contains i=true)
  (hQ:∀ c a w,Q (.panic c) (a.put oi.dst v) w->Q (.panic c) a w) (hy:YieldsIf P ops S oi v ⟨l.toArray,df⟩) (hS:S w)
  (h:wpAnyH P md ops Q S fuel (listed.setIfInBounds i true) ⟨(l.set d v).toArray,df⟩ w):wpAnyH P md ops Q S (fuel+1) listed ⟨l.toArray,df⟩ w:=by
 refine wpAnyH_take hi hs hf hr hQ hy hS ?_
 rw [hd]
 simpa [Act.put] using h
theorem tkE {P:Program} {md:Region.Mode} {ops:Array Oper} {Q:Exit->Act->World->Prop} {S:World->Prop} {fuel:Nat} {listed:Array Bool} {l:List Value} {df:List Deferred} {w:World} {oi:Oper} (i d:Nat) (v:Value) (hi:ops[i]?=some oi) (hd:oi.dst=some d) (hS:S w)
  (h:wpAnyH P md ops Q S fuel (listed.setIfInBounds i true) ⟨(l.set d v).toArray,df⟩ w) (hs:Region.noSelect ops=true:=by kernel_rfl) (hf:Region.free md ops listed i=true:=by kernel_rfl) (hr:(Region.ready md ops listed).contains i=true:=by kernel_rfl)
  (hQ:∀ c a w,Q (.panic c) (a.put oi.dst v) w->Q (.panic c) a w:=by exact fun _ _ _ h=>h) (hy:YieldsIf P ops S oi v ⟨l.toArray,df⟩:=by exact Or.inl ⟨by kernel_rfl,by intro w hSw;(try dsimp only at hSw);go_simp⟩):wpAnyH P md ops Q S (fuel+1) listed ⟨l.toArray,df⟩ w:=takeD i d v hi hd hs hf hr hQ hy hS h
theorem step_append_src3 {P:Program} {ops:Array Oper} {o:Oper} {a:Act} {w:World} {K:Act->World->Prop} {Q:Exit->Act->World->Prop} {E:Prop} (hgd:o.guard=none) (sl x:Operand) (t tx:TypeId)
  (hop:o.op=.call { callee:=.builtin .append,args:=#[sl,x],argTypes:=#[t,tx] })
  (base:Nat) (e:TypeId) (i:TypeInfo) (ht:P.underlying t=some (.slice e)) (hi:P.info? e=some i) (z:Value) (B:Nat) (hz:i.zero=some z) (hzs:z.cells.size=3) (hsize:i.size=3) (hby:i.bytes=B)
  (v:Value) (n:Nat) (xs:List Value) (hs:a.eval sl=v) (hown:w.ownsRow base e 3 v n xs) (xv:Value) (m:Nat) (news:List Value) (hx:a.eval x=xv) (hsrc:Src P 3 tx xv m news w)
  (h63:n+m<=maxLen) (hbytes:(n+m) * B<=140737488355328) (hbase:base<=w.heap.size)
  (h:∀ v' w',w'.ownsRow base e 3 v' (n+m) (xs ++ news)->w.grownBy w' v.ownBlock->(v'.ownBlock=v.ownBlock ∨ v'.ownBlock=some w.heap.size)->K (a.put o.dst v') w') :
  if Region.wanted o (yielded ops a.tmps)=true then Oper.wp P o a w K Q else E:=by
 have hw:Region.wanted o (yielded ops a.tmps)=true:=by simp [Region.wanted,hgd]
 rw [if_pos hw]
 obtain⟨v',w',hr,h2,h3,h4⟩:=run_append_own_src3 (P:=P) w base t tx o.type e i ht hi z B hz hzs hsize hby v n xs hown xv m news hsrc h63 hbytes hbase
 unfold Oper.wp execOp
 simp only [hop,resolve,invoke,builtin,Sem.run_bind,Sem.run_pure,Result.andThen_ok,List.map_toArray,List.map_cons,List.map_nil,hs,hx,hr]
 exact h v' w' h2 h3 h4
theorem step_append_src5 {P:Program} {ops:Array Oper} {o:Oper} {a:Act} {w:World} {K:Act->World->Prop} {Q:Exit->Act->World->Prop} {E:Prop} (hgd:o.guard=none) (sl x:Operand) (t tx:TypeId)
  (hop:o.op=.call { callee:=.builtin .append,args:=#[sl,x],argTypes:=#[t,tx] })
  (base:Nat) (e:TypeId) (i:TypeInfo) (ht:P.underlying t=some (.slice e)) (hi:P.info? e=some i) (z:Value) (B:Nat) (hz:i.zero=some z) (hzs:z.cells.size=5) (hsize:i.size=5) (hby:i.bytes=B)
  (v:Value) (n:Nat) (xs:List Value) (hs:a.eval sl=v) (hown:w.ownsRow base e 5 v n xs) (xv:Value) (m:Nat) (news:List Value) (hx:a.eval x=xv) (hsrc:Src P 5 tx xv m news w)
  (h63:n+m<=maxLen) (hbytes:(n+m) * B<=140737488355328) (hbase:base<=w.heap.size)
  (h:∀ v' w',w'.ownsRow base e 5 v' (n+m) (xs ++ news)->w.grownBy w' v.ownBlock->(v'.ownBlock=v.ownBlock ∨ v'.ownBlock=some w.heap.size)->K (a.put o.dst v') w') :
  if Region.wanted o (yielded ops a.tmps)=true then Oper.wp P o a w K Q else E:=by
 have hw:Region.wanted o (yielded ops a.tmps)=true:=by simp [Region.wanted,hgd]
 rw [if_pos hw]
 obtain⟨v',w',hr,h2,h3,h4⟩:=run_append_own_src5 (P:=P) w base t tx o.type e i ht hi z B hz hzs hsize hby v n xs hown xv m news hsrc h63 hbytes hbase
 unfold Oper.wp execOp
 simp only [hop,resolve,invoke,builtin,Sem.run_bind,Sem.run_pure,Result.andThen_ok,List.map_toArray,List.map_cons,List.map_nil,hs,hx,hr]
 exact h v' w' h2 h3 h4
theorem step_append_src7 {P:Program} {ops:Array Oper} {o:Oper} {a:Act} {w:World} {K:Act->World->Prop} {Q:Exit->Act->World->Prop} {E:Prop} (hgd:o.guard=none) (sl x:Operand) (t tx:TypeId)
  (hop:o.op=.call { callee:=.builtin .append,args:=#[sl,x],argTypes:=#[t,tx] })
  (base:Nat) (e:TypeId) (i:TypeInfo) (ht:P.underlying t=some (.slice e)) (hi:P.info? e=some i) (z:Value) (B:Nat) (hz:i.zero=some z) (hzs:z.cells.size=7) (hsize:i.size=7) (hby:i.bytes=B)
  (v:Value) (n:Nat) (xs:List Value) (hs:a.eval sl=v) (hown:w.ownsRow base e 7 v n xs) (xv:Value) (m:Nat) (news:List Value) (hx:a.eval x=xv) (hsrc:Src P 7 tx xv m news w)
  (h63:n+m<=maxLen) (hbytes:(n+m) * B<=140737488355328) (hbase:base<=w.heap.size)
  (h:∀ v' w',w'.ownsRow base e 7 v' (n+m) (xs ++ news)->w.grownBy w' v.ownBlock->(v'.ownBlock=v.ownBlock ∨ v'.ownBlock=some w.heap.size)->K (a.put o.dst v') w') :
  if Region.wanted o (yielded ops a.tmps)=true then Oper.wp P o a w K Q else E:=by
 have hw:Region.wanted o (yielded ops a.tmps)=true:=by simp [Region.wanted,hgd]
 rw [if_pos hw]
 obtain⟨v',w',hr,h2,h3,h4⟩:=run_append_own_src7 (P:=P) w base t tx o.type e i ht hi z B hz hzs hsize hby v n xs hown xv m news hsrc h63 hbytes hbase
 unfold Oper.wp execOp
 simp only [hop,resolve,invoke,builtin,Sem.run_bind,Sem.run_pure,Result.andThen_ok,List.map_toArray,List.map_cons,List.map_nil,hs,hx,hr]
 exact h v' w' h2 h3 h4
theorem rowOne {α:Type} {n:Nat} {f:α->List Value} (x:α) (w:World) (e2:TypeId):RowIn n f (w.alloc (.cells (f x).toArray e2)) (.slice (some ⟨w.heap.size,0,none⟩) 1 1) [x]:=by
 refine⟨_,_,rfl,Nat.le_refl _,by simp,fun _=>⟨w.heap.size,0,rfl,fun i y hy r u hr hu=>?_⟩⟩
 have hi:i=0:=by
  have:=(List.getElem?_eq_some_iff.mp hy).1
  simpa using this
 subst hi
 simp at hy
 subst hy
 rw [Nat.zero_mul,Nat.zero_add]
 exact cOb (heap_alloc_new w _) (by simpa using hu)
theorem srcOne {α:Type} {n:Nat} {f:α->List Value} {ty e:TypeId} (hu:Tryz.prog.underlying ty=some (.slice e)) (hn:0 < n) (hf:∀ x,(f x).length=n) (h1:∀ x,∀ u ∈ f x,u.oneCell'=true) {x:α} {w:World} {v:Value} (h:RowIn n f w v [x]):Src Tryz.prog n ty v 1 (f x) w:=by
 have:=RowIn.src hu hn hf h1 h
 simpa using this
set_option maxHeartbeats 12800000 in
theorem fits_is (A:Ops) (w:World) (t:Tr) (nv gv:Value) (ps:List Np) (i:Int) (s:Sv) (b:Bool) (a:Nat->Addr) (h:TrW w nv gv ps t) (hs:t.Sm 1000) (E:Er6 w a) (hb:b=t.fits A i s) :
  Calls Tryz.prog 147 #[vTr nv gv t,.int .i64 i,vS s] w fun e w'=>e=.returned (.bool b)/\Below w.heap.size w w':=by
 obtain⟨ie,hi,hz0,hz1,hz2⟩:=info_parts info_server
 have hie:=mH (And.intro hi (And.intro hz0 (And.intro hz1 hz2)))
 clear hi hz0 hz1 hz2
 have HS:Hid (∀ W,Below w.heap.size w W->Calls Tryz.prog 153 #[vTr nv gv t,.int .i64 i] W fun e w'=>e=.returned (.tuple #[vS (t.srv i),.bool (t.hasB i)])/\Below W.heap.size W w'):=mH (fun W hW=>server_is W t nv gv ps i (h.below hW) hs)
 have HC:Hid (∀ W,Below w.heap.size w W->Calls Tryz.prog 152 #[vTr nv gv t,.int .i64 i] W fun e w'=>∃ a c,e=.returned (.slice a (t.cnt i).length c)/\w'.ownsRow W.heap.size 37 3 (.slice a (t.cnt i).length c) (t.cnt i).length ((t.cnt i).flatMap c3)/\Below W.heap.size W w'):=mH (fun W hW=>counted_is W t nv gv ps i (h.below hW) hs)
 have HL:=mH (cnt_len hs i)
 obtain⟨EV,hEV,hEb⟩:∃ EV,EV=ev6 a (A.k (t.srv i) (t.cnt i ++ [s]))/\((b=true/\EV=.nilIface) ∨ (b=false/\∃ ea,EV=vE ea)):=by
  refine⟨_,rfl, ?_⟩
  unfold Tr.fits at hb
  rcases (A.hk (t.srv i) (t.cnt i ++ [s])).codes with e | e | e | e <;> rw [e] at hb ⊢
  ·exact .inl ⟨by simpa using hb,rfl⟩
  ·exact .inr ⟨by simpa using hb,_,rfl⟩
  ·exact .inr ⟨by simpa using hb,_,rfl⟩
  ·exact .inr ⟨by simpa using hb,_,rfl⟩
 have HK:Hid (∀ W v,Below w.heap.size w W->Svs W v (t.cnt i ++ [s])->Calls Tryz.prog 165 #[vS (t.srv i),v] W fun e w'=>e=.returned EV/\Below W.heap.size W w'):=mH (fun W v hW hv=>by rw [hEV];exact kids_is W (t.srv i) v _ a _ hv (E.late hW) (A.hk _ _))
 clear hEV hb
 generalize t.srv i=sp at *
 obtain⟨k,q,T⟩:=sp
 obtain⟨mk,mq,mT⟩:=s
 generalize t.hasB i=hb at *
 obtain⟨a1,cap,rfl,_⟩:=h.n.row.shape
 obtain⟨a2,cap2,rfl,_⟩:=h.g.shape
 clear h hs E
 rcases hEb with ⟨rfl,rfl⟩ | ⟨rfl,ea,rfl⟩
 ·go_enter Tryz.func147,Tryz.ntmps147
  go_wp2_with (go_at_call 153;refine(HS.out _ (ba (ba (Below.refl _ w) _) _)).mono ?_;rintro r w2 ⟨rfl,hb2⟩;obtain⟨hx2,hy2,hbb⟩:=new_two hb2;have HX:=mH (And.intro hx2 hy2);have HB:=mH hbb;clear hb2 hx2 hy2 hbb)
  obtain⟨W,hW⟩:∃ W,W=w2.alloc (oS (k,q,T)):=⟨_,rfl⟩
  have HB3:Hid (Below w.heap.size w W):=mH (by rw [hW];exact ba HB.out _)
  have hx3:W.heap[w.heap.size]?=some (oTr (.slice a1 ps.length cap) (.slice a2 t.gs.length cap2) t):=by rw [hW];exact(heap_alloc_old w2 _ (lOh HX.out.1)).trans HX.out.1
  have hx5:W.heap[w.heap.size+1]?=some (oS (mk,mq,mT)):=by rw [hW];exact(heap_alloc_old w2 _ (lOh HX.out.2)).trans HX.out.2
  have hx4:W.heap[w2.heap.size]?=some (oS (k,q,T)):=by rw [hW];exact heap_alloc_new w2 _
  obtain⟨e0,e1,e2,e3⟩:=four hx3
  obtain⟨z0,z1,z2⟩:=three hx4
  obtain⟨m0,m1,m2⟩:=three hx5
  have HP1:Hid (w.heap.size < W.drew.heap.size):=mH (lOh hx3)
  have HP2:Hid (w.heap.size+1 < W.drew.heap.size):=mH (lOh hx5)
  have HP0:Hid (w2.heap.size < W.drew.heap.size):=mH (lOh hx4)
  rw [<- hW]
  clear hW hx3 hx4 hx5 HB HX
  generalize w2.heap.size=p at *
  obtain⟨p2,hP2⟩:∃ p2,p2=w.heap.size+1:=⟨_,rfl⟩
  rw [<- hP2] at HP2 m0 m1 m2 ⊢
  clear hP2
  obtain⟨p1,hP1⟩:∃ p1,p1=w.heap.size:=⟨_,rfl⟩
  rw [<- hP1] at HP1 e0 e1 e2 e3 ⊢
  clear hP1
  refine wp_region_held_drew (S:=fun w'=>w'.cell? ⟨p1,0,none⟩=some (.slice a1 ps.length cap)/\w'.cell? ⟨p1,1,none⟩=some (.slice a2 t.gs.length cap2)/\w'.cell? ⟨p1,2,none⟩=some (.int .i64 t.last)/\w'.cell? ⟨p1,3,none⟩=some (.int .i64 t.now)/\w'.cell? ⟨p,0,none⟩=some (.int .i64 k)/\w'.cell? ⟨p,1,none⟩=some (.int .i64 q)/\w'.cell? ⟨p,2,none⟩=some (.int .i64 T)/\w'.cell? ⟨p2,0,none⟩=some (.int .i64 mk)/\w'.cell? ⟨p2,1,none⟩=some (.int .i64 mq)/\w'.cell? ⟨p2,2,none⟩=some (.int .i64 mT)) (by kernel_rfl) ⟨e0,e1,e2,e3,z0,z1,z2,m0,m1,m2⟩ (fun hHeld=>?_)
  refine tkE 0 15 (vS (k,q,T)) rfl rfl hHeld ?_
  simp only [sZ,sS]
  refine tkE 1 16 (vTr (.slice a1 ps.length cap) (.slice a2 t.gs.length cap2) t) rfl rfl hHeld ?_
  simp only [sZ,sS]
  refine tkE 2 17 (.int .i64 i) rfl rfl hHeld ?_
  simp only [sZ,sS]
  refine tkE 4 19 (vS (mk,mq,mT)) rfl rfl hHeld ?_
  simp only [sZ,sS]
  refine wpAnyH_ready (rs:=[3,5]) (by kernel_rfl) (by simp) (AllReadyH.cons rfl (fun K hK=>?_) (AllReadyH.cons rfl (fun K hK=>?_) AllReadyH.nil))
  ·go_simp
   refine(HC.out W.drew HB3.out.drew).mono ?_
   rintro e w4 ⟨a3,c3',rfl,ho4,b4⟩
   have y0:w4.cell? ⟨p1,0,none⟩=some (.slice a1 ps.length cap):=kc (show W.drew.cell? _=_ from e0) b4
   have y1:w4.cell? ⟨p1,1,none⟩=some (.slice a2 t.gs.length cap2):=kc (show W.drew.cell? _=_ from e1) b4
   have y2:w4.cell? ⟨p1,2,none⟩=some (.int .i64 t.last):=kc (show W.drew.cell? _=_ from e2) b4
   have y3:w4.cell? ⟨p1,3,none⟩=some (.int .i64 t.now):=kc (show W.drew.cell? _=_ from e3) b4
   have y4:w4.cell? ⟨p,0,none⟩=some (.int .i64 k):=kc (show W.drew.cell? _=_ from z0) b4
   have y5:w4.cell? ⟨p,1,none⟩=some (.int .i64 q):=kc (show W.drew.cell? _=_ from z1) b4
   have y6:w4.cell? ⟨p,2,none⟩=some (.int .i64 T):=kc (show W.drew.cell? _=_ from z2) b4
   have y7:w4.cell? ⟨p2,0,none⟩=some (.int .i64 mk):=kc (show W.drew.cell? _=_ from m0) b4
   have y8:w4.cell? ⟨p2,1,none⟩=some (.int .i64 mq):=kc (show W.drew.cell? _=_ from m1) b4
   have y9:w4.cell? ⟨p2,2,none⟩=some (.int .i64 mT):=kc (show W.drew.cell? _=_ from m2) b4
   have HB4:=mH (bt HB3.out.drew b4)
   have HBS:=mH HB3.out.size
   have HLTp1:=mH HP1.out
   have HLTp:=mH HP0.out
   have HLTp2:=mH HP2.out
   clear hHeld
   refine hK.out _ _ ⟨y0,y1,y2,y3,y4,y5,y6,y7,y8,y9⟩ (fun hHeld=>?_)
   clear hK K
   (try simp only [Act.put])
   refine wpAnyH_ready (rs:=[5]) (by kernel_rfl) (by simp) (AllReadyH.cons rfl (fun K hK=>?_) AllReadyH.nil)
   go_simp
   have b5:Below w4.heap.size w4 (w4.alloc (oS (mk,mq,mT))):=ba (Below.refl _ _) _
   have x0:(w4.alloc (oS (mk,mq,mT))).cell? ⟨p1,0,none⟩=some (.slice a1 ps.length cap):=kc y0 b5
   have x1:(w4.alloc (oS (mk,mq,mT))).cell? ⟨p1,1,none⟩=some (.slice a2 t.gs.length cap2):=kc y1 b5
   have x2:(w4.alloc (oS (mk,mq,mT))).cell? ⟨p1,2,none⟩=some (.int .i64 t.last):=kc y2 b5
   have x3:(w4.alloc (oS (mk,mq,mT))).cell? ⟨p1,3,none⟩=some (.int .i64 t.now):=kc y3 b5
   have x4:(w4.alloc (oS (mk,mq,mT))).cell? ⟨p,0,none⟩=some (.int .i64 k):=kc y4 b5
   have x5:(w4.alloc (oS (mk,mq,mT))).cell? ⟨p,1,none⟩=some (.int .i64 q):=kc y5 b5
   have x6:(w4.alloc (oS (mk,mq,mT))).cell? ⟨p,2,none⟩=some (.int .i64 T):=kc y6 b5
   have x7:(w4.alloc (oS (mk,mq,mT))).cell? ⟨p2,0,none⟩=some (.int .i64 mk):=kc y7 b5
   have x8:(w4.alloc (oS (mk,mq,mT))).cell? ⟨p2,1,none⟩=some (.int .i64 mq):=kc y8 b5
   have x9:(w4.alloc (oS (mk,mq,mT))).cell? ⟨p2,2,none⟩=some (.int .i64 mT):=kc y9 b5
   have HB5:=mH (bt HB4.out b5)
   have HO5:Hid ((w4.alloc (oS (mk,mq,mT))).ownsRow W.drew.heap.size 37 3 (.slice a3 (t.cnt i).length c3') (t.cnt i).length ((t.cnt i).flatMap c3)):=mH (own_new ho4 _)
   have HR5:Hid (RowIn 3 c3 (w4.alloc (oS (mk,mq,mT))) (.slice (some ⟨w4.heap.size,0,none⟩) 1 1) [(mk,mq,mT)]):=mH (rowOne (f:=c3) (mk,mq,mT) w4 37)
   have HSZ:Hid (W.drew.heap.size<=(w4.alloc (oS (mk,mq,mT))).heap.size):=mH (by have:=b4.size;simp at this ⊢;omega)
   clear ho4 b5 b4 hHeld
   refine hK.out _ _ ⟨x0,x1,x2,x3,x4,x5,x6,x7,x8,x9⟩ (fun hHeld=>?_)
   clear hK K
   (try simp only [Act.put])
   refine wpAnyH_ready (rs:=[6]) (by kernel_rfl) (by simp) (AllReadyH.cons rfl (fun K hK=>?_) AllReadyH.nil)
   refine step_append_src3 (w:=(w4.alloc (oS (mk,mq,mT)))) rfl (.tmp 18) (.tmp 20) 172 172 rfl W.drew.heap.size 37 ie Tryz.underlying172 hie.out.1 (.agg #[.int .i64 0,.int .i64 0,.int .i64 0]) 24 hie.out.2.1 rfl hie.out.2.2.1 hie.out.2.2.2 (.slice a3 (t.cnt i).length c3') (t.cnt i).length ((t.cnt i).flatMap c3) (by simp [Act.eval]) HO5.out _ 1 (c3 (mk,mq,mT)) (by simp [Act.eval]) (srcOne (f:=c3) (x:=(mk,mq,mT)) Tryz.underlying172 (by omega) (fun _=>rfl) one3' HR5.out) (by have:=HL.out;unfold maxLen;omega) (by have:=HL.out;omega) HSZ.out ?_
   intro v6 w6 ho6 hg6 hat6
   have b6:Below (w4.alloc (oS (mk,mq,mT))).heap.size (w4.alloc (oS (mk,mq,mT))) w6 ∨ True:=.inr trivial
   have hO6:w6.ownsRow W.drew.heap.size 37 3 v6 (t.cnt i ++ [(mk,mq,mT)]).length ((t.cnt i ++ [(mk,mq,mT)]).flatMap c3):=by rw [List.flatMap_append,List.length_append];simpa using ho6
   have B6:Below W.drew.heap.size (w4.alloc (oS (mk,mq,mT))) w6:=(Below.refl _ _).grown hg6 HSZ.out (fun k hk=>(HO5.out.lt k hk).1)
   have s0:w6.cell? ⟨p1,0,none⟩=some (.slice a1 ps.length cap):=(B6.cell (p:=⟨p1,0,none⟩) (HLTp1.out)).trans x0
   have s1:w6.cell? ⟨p1,1,none⟩=some (.slice a2 t.gs.length cap2):=(B6.cell (p:=⟨p1,1,none⟩) (HLTp1.out)).trans x1
   have s2:w6.cell? ⟨p1,2,none⟩=some (.int .i64 t.last):=(B6.cell (p:=⟨p1,2,none⟩) (HLTp1.out)).trans x2
   have s3:w6.cell? ⟨p1,3,none⟩=some (.int .i64 t.now):=(B6.cell (p:=⟨p1,3,none⟩) (HLTp1.out)).trans x3
   have s4:w6.cell? ⟨p,0,none⟩=some (.int .i64 k):=(B6.cell (p:=⟨p,0,none⟩) (HLTp.out)).trans x4
   have s5:w6.cell? ⟨p,1,none⟩=some (.int .i64 q):=(B6.cell (p:=⟨p,1,none⟩) (HLTp.out)).trans x5
   have s6:w6.cell? ⟨p,2,none⟩=some (.int .i64 T):=(B6.cell (p:=⟨p,2,none⟩) (HLTp.out)).trans x6
   have s7:w6.cell? ⟨p2,0,none⟩=some (.int .i64 mk):=(B6.cell (p:=⟨p2,0,none⟩) (HLTp2.out)).trans x7
   have s8:w6.cell? ⟨p2,1,none⟩=some (.int .i64 mq):=(B6.cell (p:=⟨p2,1,none⟩) (HLTp2.out)).trans x8
   have s9:w6.cell? ⟨p2,2,none⟩=some (.int .i64 mT):=(B6.cell (p:=⟨p2,2,none⟩) (HLTp2.out)).trans x9
   have HB6:Hid (Below w.heap.size w w6):=mH (HB5.out.trans (B6.mono (HBS.out)))
   have HV6:Hid (Svs w6 v6 (t.cnt i ++ [(mk,mq,mT)])):=mH (svs_own (by have:=HL.out;rw [List.length_append];simp;omega) hO6)
   clear b6 ho6 hg6 hat6 hO6 B6 hHeld
   refine hK.out _ _ ⟨s0,s1,s2,s3,s4,s5,s6,s7,s8,s9⟩ (fun hHeld=>?_)
   clear hK K
   (try simp only [Act.put])
   refine wpAnyH_ready (rs:=[7]) (by kernel_rfl) (by simp) (AllReadyH.cons rfl (fun K hK=>?_) AllReadyH.nil)
   go_simp
   refine(HK.out w6 v6 HB6.out HV6.out).mono ?_
   rintro e w7 ⟨rfl,b7⟩
   have r0:w7.cell? ⟨p1,0,none⟩=some (.slice a1 ps.length cap):=kc s0 b7
   have r1:w7.cell? ⟨p1,1,none⟩=some (.slice a2 t.gs.length cap2):=kc s1 b7
   have r2:w7.cell? ⟨p1,2,none⟩=some (.int .i64 t.last):=kc s2 b7
   have r3:w7.cell? ⟨p1,3,none⟩=some (.int .i64 t.now):=kc s3 b7
   have r4:w7.cell? ⟨p,0,none⟩=some (.int .i64 k):=kc s4 b7
   have r5:w7.cell? ⟨p,1,none⟩=some (.int .i64 q):=kc s5 b7
   have r6:w7.cell? ⟨p,2,none⟩=some (.int .i64 T):=kc s6 b7
   have r7:w7.cell? ⟨p2,0,none⟩=some (.int .i64 mk):=kc s7 b7
   have r8:w7.cell? ⟨p2,1,none⟩=some (.int .i64 mq):=kc s8 b7
   have r9:w7.cell? ⟨p2,2,none⟩=some (.int .i64 mT):=kc s9 b7
   have HB7:=mH (bt HB6.out b7)
   clear b7 hHeld
   refine hK.out _ _ ⟨r0,r1,r2,r3,r4,r5,r6,r7,r8,r9⟩ (fun hHeld=>?_)
   clear hK K
   (try simp only [Act.put])
   refine tkE 8 23 (.bool true) rfl rfl hHeld ?_
   simp only [sZ,sS]
   refine tkE 9 6 (.bool true) rfl rfl hHeld ?_
   simp only [sZ,sS]
   refine wpAnyH_done (by kernel_rfl) ?_ _
   clear hHeld
   go_wp2
   go_ret
   exact⟨rfl,HB7.out⟩
  ·go_simp
   have b5:Below W.drew.heap.size W.drew (W.drew.alloc (oS (mk,mq,mT))):=ba (Below.refl _ _) _
   have x0:(W.drew.alloc (oS (mk,mq,mT))).cell? ⟨p1,0,none⟩=some (.slice a1 ps.length cap):=kc (show W.drew.cell? _=_ from e0) b5
   have x1:(W.drew.alloc (oS (mk,mq,mT))).cell? ⟨p1,1,none⟩=some (.slice a2 t.gs.length cap2):=kc (show W.drew.cell? _=_ from e1) b5
   have x2:(W.drew.alloc (oS (mk,mq,mT))).cell? ⟨p1,2,none⟩=some (.int .i64 t.last):=kc (show W.drew.cell? _=_ from e2) b5
   have x3:(W.drew.alloc (oS (mk,mq,mT))).cell? ⟨p1,3,none⟩=some (.int .i64 t.now):=kc (show W.drew.cell? _=_ from e3) b5
   have x4:(W.drew.alloc (oS (mk,mq,mT))).cell? ⟨p,0,none⟩=some (.int .i64 k):=kc (show W.drew.cell? _=_ from z0) b5
   have x5:(W.drew.alloc (oS (mk,mq,mT))).cell? ⟨p,1,none⟩=some (.int .i64 q):=kc (show W.drew.cell? _=_ from z1) b5
   have x6:(W.drew.alloc (oS (mk,mq,mT))).cell? ⟨p,2,none⟩=some (.int .i64 T):=kc (show W.drew.cell? _=_ from z2) b5
   have x7:(W.drew.alloc (oS (mk,mq,mT))).cell? ⟨p2,0,none⟩=some (.int .i64 mk):=kc (show W.drew.cell? _=_ from m0) b5
   have x8:(W.drew.alloc (oS (mk,mq,mT))).cell? ⟨p2,1,none⟩=some (.int .i64 mq):=kc (show W.drew.cell? _=_ from m1) b5
   have x9:(W.drew.alloc (oS (mk,mq,mT))).cell? ⟨p2,2,none⟩=some (.int .i64 mT):=kc (show W.drew.cell? _=_ from m2) b5
   have HB5:Hid (Below w.heap.size w (W.drew.alloc (oS (mk,mq,mT)))):=mH (bt HB3.out.drew b5)
   have HR5:Hid (RowIn 3 c3 (W.drew.alloc (oS (mk,mq,mT))) (.slice (some ⟨W.drew.heap.size,0,none⟩) 1 1) [(mk,mq,mT)]):=mH (rowOne (f:=c3) (mk,mq,mT) W.drew 37)
   clear b5 hHeld
   refine hK.out _ _ ⟨x0,x1,x2,x3,x4,x5,x6,x7,x8,x9⟩ (fun hHeld=>?_)
   clear hK K
   (try simp only [Act.put])
   refine wpAnyH_ready (rs:=[3]) (by kernel_rfl) (by simp) (AllReadyH.cons rfl (fun K hK=>?_) AllReadyH.nil)
   go_simp
   refine(HC.out (W.drew.alloc (oS (mk,mq,mT))) HB5.out).mono ?_
   rintro e w4 ⟨a3,c3',rfl,ho4,b4⟩
   have y0:w4.cell? ⟨p1,0,none⟩=some (.slice a1 ps.length cap):=kc x0 b4
   have y1:w4.cell? ⟨p1,1,none⟩=some (.slice a2 t.gs.length cap2):=kc x1 b4
   have y2:w4.cell? ⟨p1,2,none⟩=some (.int .i64 t.last):=kc x2 b4
   have y3:w4.cell? ⟨p1,3,none⟩=some (.int .i64 t.now):=kc x3 b4
   have y4:w4.cell? ⟨p,0,none⟩=some (.int .i64 k):=kc x4 b4
   have y5:w4.cell? ⟨p,1,none⟩=some (.int .i64 q):=kc x5 b4
   have y6:w4.cell? ⟨p,2,none⟩=some (.int .i64 T):=kc x6 b4
   have y7:w4.cell? ⟨p2,0,none⟩=some (.int .i64 mk):=kc x7 b4
   have y8:w4.cell? ⟨p2,1,none⟩=some (.int .i64 mq):=kc x8 b4
   have y9:w4.cell? ⟨p2,2,none⟩=some (.int .i64 mT):=kc x9 b4
   have HB4:=mH (bt HB5.out b4)
   have HO4:Hid (w4.ownsRow W.drew.heap.size 37 3 (.slice a3 (t.cnt i).length c3') (t.cnt i).length ((t.cnt i).flatMap c3)):=mH (own_lower ho4 (by simp))
   have HR4:=mH (HR5.out.below b4)
   have HSZ:Hid (W.drew.heap.size<=w4.heap.size):=mH (by have:=b4.size;simp at this ⊢;omega)
   have HBS:=mH HB3.out.size
   have HLTp1:=mH HP1.out
   have HLTp:=mH HP0.out
   have HLTp2:=mH HP2.out
   clear ho4 b4 hHeld
   refine hK.out _ _ ⟨y0,y1,y2,y3,y4,y5,y6,y7,y8,y9⟩ (fun hHeld=>?_)
   clear hK K
   (try simp only [Act.put])
   refine wpAnyH_ready (rs:=[6]) (by kernel_rfl) (by simp) (AllReadyH.cons rfl (fun K hK=>?_) AllReadyH.nil)
   refine step_append_src3 (w:=w4) rfl (.tmp 18) (.tmp 20) 172 172 rfl W.drew.heap.size 37 ie Tryz.underlying172 hie.out.1 (.agg #[.int .i64 0,.int .i64 0,.int .i64 0]) 24 hie.out.2.1 rfl hie.out.2.2.1 hie.out.2.2.2 (.slice a3 (t.cnt i).length c3') (t.cnt i).length ((t.cnt i).flatMap c3) (by simp [Act.eval]) HO4.out _ 1 (c3 (mk,mq,mT)) (by simp [Act.eval]) (srcOne (f:=c3) (x:=(mk,mq,mT)) Tryz.underlying172 (by omega) (fun _=>rfl) one3' HR4.out) (by have:=HL.out;unfold maxLen;omega) (by have:=HL.out;omega) HSZ.out ?_
   intro v6 w6 ho6 hg6 hat6
   have b6:Below w4.heap.size w4 w6 ∨ True:=.inr trivial
   have hO6:w6.ownsRow W.drew.heap.size 37 3 v6 (t.cnt i ++ [(mk,mq,mT)]).length ((t.cnt i ++ [(mk,mq,mT)]).flatMap c3):=by rw [List.flatMap_append,List.length_append];simpa using ho6
   have B6:Below W.drew.heap.size w4 w6:=(Below.refl _ _).grown hg6 HSZ.out (fun k hk=>(HO4.out.lt k hk).1)
   have s0:w6.cell? ⟨p1,0,none⟩=some (.slice a1 ps.length cap):=(B6.cell (p:=⟨p1,0,none⟩) (HLTp1.out)).trans y0
   have s1:w6.cell? ⟨p1,1,none⟩=some (.slice a2 t.gs.length cap2):=(B6.cell (p:=⟨p1,1,none⟩) (HLTp1.out)).trans y1
   have s2:w6.cell? ⟨p1,2,none⟩=some (.int .i64 t.last):=(B6.cell (p:=⟨p1,2,none⟩) (HLTp1.out)).trans y2
   have s3:w6.cell? ⟨p1,3,none⟩=some (.int .i64 t.now):=(B6.cell (p:=⟨p1,3,none⟩) (HLTp1.out)).trans y3
   have s4:w6.cell? ⟨p,0,none⟩=some (.int .i64 k):=(B6.cell (p:=⟨p,0,none⟩) (HLTp.out)).trans y4
   have s5:w6.cell? ⟨p,1,none⟩=some (.int .i64 q):=(B6.cell (p:=⟨p,1,none⟩) (HLTp.out)).trans y5
   have s6:w6.cell? ⟨p,2,none⟩=some (.int .i64 T):=(B6.cell (p:=⟨p,2,none⟩) (HLTp.out)).trans y6
   have s7:w6.cell? ⟨p2,0,none⟩=some (.int .i64 mk):=(B6.cell (p:=⟨p2,0,none⟩) (HLTp2.out)).trans y7
   have s8:w6.cell? ⟨p2,1,none⟩=some (.int .i64 mq):=(B6.cell (p:=⟨p2,1,none⟩) (HLTp2.out)).trans y8
   have s9:w6.cell? ⟨p2,2,none⟩=some (.int .i64 mT):=(B6.cell (p:=⟨p2,2,none⟩) (HLTp2.out)).trans y9
   have HB6:Hid (Below w.heap.size w w6):=mH (HB4.out.trans (B6.mono (HBS.out)))
   have HV6:Hid (Svs w6 v6 (t.cnt i ++ [(mk,mq,mT)])):=mH (svs_own (by have:=HL.out;rw [List.length_append];simp;omega) hO6)
   clear b6 ho6 hg6 hat6 hO6 B6 hHeld
   refine hK.out _ _ ⟨s0,s1,s2,s3,s4,s5,s6,s7,s8,s9⟩ (fun hHeld=>?_)
   clear hK K
   (try simp only [Act.put])
   refine wpAnyH_ready (rs:=[7]) (by kernel_rfl) (by simp) (AllReadyH.cons rfl (fun K hK=>?_) AllReadyH.nil)
   go_simp
   refine(HK.out w6 v6 HB6.out HV6.out).mono ?_
   rintro e w7 ⟨rfl,b7⟩
   have r0:w7.cell? ⟨p1,0,none⟩=some (.slice a1 ps.length cap):=kc s0 b7
   have r1:w7.cell? ⟨p1,1,none⟩=some (.slice a2 t.gs.length cap2):=kc s1 b7
   have r2:w7.cell? ⟨p1,2,none⟩=some (.int .i64 t.last):=kc s2 b7
   have r3:w7.cell? ⟨p1,3,none⟩=some (.int .i64 t.now):=kc s3 b7
   have r4:w7.cell? ⟨p,0,none⟩=some (.int .i64 k):=kc s4 b7
   have r5:w7.cell? ⟨p,1,none⟩=some (.int .i64 q):=kc s5 b7
   have r6:w7.cell? ⟨p,2,none⟩=some (.int .i64 T):=kc s6 b7
   have r7:w7.cell? ⟨p2,0,none⟩=some (.int .i64 mk):=kc s7 b7
   have r8:w7.cell? ⟨p2,1,none⟩=some (.int .i64 mq):=kc s8 b7
   have r9:w7.cell? ⟨p2,2,none⟩=some (.int .i64 mT):=kc s9 b7
   have HB7:=mH (bt HB6.out b7)
   clear b7 hHeld
   refine hK.out _ _ ⟨r0,r1,r2,r3,r4,r5,r6,r7,r8,r9⟩ (fun hHeld=>?_)
   clear hK K
   (try simp only [Act.put])
   refine tkE 8 23 (.bool true) rfl rfl hHeld ?_
   simp only [sZ,sS]
   refine tkE 9 6 (.bool true) rfl rfl hHeld ?_
   simp only [sZ,sS]
   refine wpAnyH_done (by kernel_rfl) ?_ _
   clear hHeld
   go_wp2
   go_ret
   exact⟨rfl,HB7.out⟩
 ·go_enter Tryz.func147,Tryz.ntmps147
  go_wp2_with (go_at_call 153;refine(HS.out _ (ba (ba (Below.refl _ w) _) _)).mono ?_;rintro r w2 ⟨rfl,hb2⟩;obtain⟨hx2,hy2,hbb⟩:=new_two hb2;have HX:=mH (And.intro hx2 hy2);have HB:=mH hbb;clear hb2 hx2 hy2 hbb)
  obtain⟨W,hW⟩:∃ W,W=w2.alloc (oS (k,q,T)):=⟨_,rfl⟩
  have HB3:Hid (Below w.heap.size w W):=mH (by rw [hW];exact ba HB.out _)
  have hx3:W.heap[w.heap.size]?=some (oTr (.slice a1 ps.length cap) (.slice a2 t.gs.length cap2) t):=by rw [hW];exact(heap_alloc_old w2 _ (lOh HX.out.1)).trans HX.out.1
  have hx5:W.heap[w.heap.size+1]?=some (oS (mk,mq,mT)):=by rw [hW];exact(heap_alloc_old w2 _ (lOh HX.out.2)).trans HX.out.2
  have hx4:W.heap[w2.heap.size]?=some (oS (k,q,T)):=by rw [hW];exact heap_alloc_new w2 _
  obtain⟨e0,e1,e2,e3⟩:=four hx3
  obtain⟨z0,z1,z2⟩:=three hx4
  obtain⟨m0,m1,m2⟩:=three hx5
  have HP1:Hid (w.heap.size < W.drew.heap.size):=mH (lOh hx3)
  have HP2:Hid (w.heap.size+1 < W.drew.heap.size):=mH (lOh hx5)
  have HP0:Hid (w2.heap.size < W.drew.heap.size):=mH (lOh hx4)
  rw [<- hW]
  clear hW hx3 hx4 hx5 HB HX
  generalize w2.heap.size=p at *
  obtain⟨p2,hP2⟩:∃ p2,p2=w.heap.size+1:=⟨_,rfl⟩
  rw [<- hP2] at HP2 m0 m1 m2 ⊢
  clear hP2
  obtain⟨p1,hP1⟩:∃ p1,p1=w.heap.size:=⟨_,rfl⟩
  rw [<- hP1] at HP1 e0 e1 e2 e3 ⊢
  clear hP1
  refine wp_region_held_drew (S:=fun w'=>w'.cell? ⟨p1,0,none⟩=some (.slice a1 ps.length cap)/\w'.cell? ⟨p1,1,none⟩=some (.slice a2 t.gs.length cap2)/\w'.cell? ⟨p1,2,none⟩=some (.int .i64 t.last)/\w'.cell? ⟨p1,3,none⟩=some (.int .i64 t.now)/\w'.cell? ⟨p,0,none⟩=some (.int .i64 k)/\w'.cell? ⟨p,1,none⟩=some (.int .i64 q)/\w'.cell? ⟨p,2,none⟩=some (.int .i64 T)/\w'.cell? ⟨p2,0,none⟩=some (.int .i64 mk)/\w'.cell? ⟨p2,1,none⟩=some (.int .i64 mq)/\w'.cell? ⟨p2,2,none⟩=some (.int .i64 mT)) (by kernel_rfl) ⟨e0,e1,e2,e3,z0,z1,z2,m0,m1,m2⟩ (fun hHeld=>?_)
  refine tkE 0 15 (vS (k,q,T)) rfl rfl hHeld ?_
  simp only [sZ,sS]
  refine tkE 1 16 (vTr (.slice a1 ps.length cap) (.slice a2 t.gs.length cap2) t) rfl rfl hHeld ?_
  simp only [sZ,sS]
  refine tkE 2 17 (.int .i64 i) rfl rfl hHeld ?_
  simp only [sZ,sS]
  refine tkE 4 19 (vS (mk,mq,mT)) rfl rfl hHeld ?_
  simp only [sZ,sS]
  refine wpAnyH_ready (rs:=[3,5]) (by kernel_rfl) (by simp) (AllReadyH.cons rfl (fun K hK=>?_) (AllReadyH.cons rfl (fun K hK=>?_) AllReadyH.nil))
  ·go_simp
   refine(HC.out W.drew HB3.out.drew).mono ?_
   rintro e w4 ⟨a3,c3',rfl,ho4,b4⟩
   have y0:w4.cell? ⟨p1,0,none⟩=some (.slice a1 ps.length cap):=kc (show W.drew.cell? _=_ from e0) b4
   have y1:w4.cell? ⟨p1,1,none⟩=some (.slice a2 t.gs.length cap2):=kc (show W.drew.cell? _=_ from e1) b4
   have y2:w4.cell? ⟨p1,2,none⟩=some (.int .i64 t.last):=kc (show W.drew.cell? _=_ from e2) b4
   have y3:w4.cell? ⟨p1,3,none⟩=some (.int .i64 t.now):=kc (show W.drew.cell? _=_ from e3) b4
   have y4:w4.cell? ⟨p,0,none⟩=some (.int .i64 k):=kc (show W.drew.cell? _=_ from z0) b4
   have y5:w4.cell? ⟨p,1,none⟩=some (.int .i64 q):=kc (show W.drew.cell? _=_ from z1) b4
   have y6:w4.cell? ⟨p,2,none⟩=some (.int .i64 T):=kc (show W.drew.cell? _=_ from z2) b4
   have y7:w4.cell? ⟨p2,0,none⟩=some (.int .i64 mk):=kc (show W.drew.cell? _=_ from m0) b4
   have y8:w4.cell? ⟨p2,1,none⟩=some (.int .i64 mq):=kc (show W.drew.cell? _=_ from m1) b4
   have y9:w4.cell? ⟨p2,2,none⟩=some (.int .i64 mT):=kc (show W.drew.cell? _=_ from m2) b4
   have HB4:=mH (bt HB3.out.drew b4)
   have HBS:=mH HB3.out.size
   have HLTp1:=mH HP1.out
   have HLTp:=mH HP0.out
   have HLTp2:=mH HP2.out
   clear hHeld
   refine hK.out _ _ ⟨y0,y1,y2,y3,y4,y5,y6,y7,y8,y9⟩ (fun hHeld=>?_)
   clear hK K
   (try simp only [Act.put])
   refine wpAnyH_ready (rs:=[5]) (by kernel_rfl) (by simp) (AllReadyH.cons rfl (fun K hK=>?_) AllReadyH.nil)
   go_simp
   have b5:Below w4.heap.size w4 (w4.alloc (oS (mk,mq,mT))):=ba (Below.refl _ _) _
   have x0:(w4.alloc (oS (mk,mq,mT))).cell? ⟨p1,0,none⟩=some (.slice a1 ps.length cap):=kc y0 b5
   have x1:(w4.alloc (oS (mk,mq,mT))).cell? ⟨p1,1,none⟩=some (.slice a2 t.gs.length cap2):=kc y1 b5
   have x2:(w4.alloc (oS (mk,mq,mT))).cell? ⟨p1,2,none⟩=some (.int .i64 t.last):=kc y2 b5
   have x3:(w4.alloc (oS (mk,mq,mT))).cell? ⟨p1,3,none⟩=some (.int .i64 t.now):=kc y3 b5
   have x4:(w4.alloc (oS (mk,mq,mT))).cell? ⟨p,0,none⟩=some (.int .i64 k):=kc y4 b5
   have x5:(w4.alloc (oS (mk,mq,mT))).cell? ⟨p,1,none⟩=some (.int .i64 q):=kc y5 b5
   have x6:(w4.alloc (oS (mk,mq,mT))).cell? ⟨p,2,none⟩=some (.int .i64 T):=kc y6 b5
   have x7:(w4.alloc (oS (mk,mq,mT))).cell? ⟨p2,0,none⟩=some (.int .i64 mk):=kc y7 b5
   have x8:(w4.alloc (oS (mk,mq,mT))).cell? ⟨p2,1,none⟩=some (.int .i64 mq):=kc y8 b5
   have x9:(w4.alloc (oS (mk,mq,mT))).cell? ⟨p2,2,none⟩=some (.int .i64 mT):=kc y9 b5
   have HB5:=mH (bt HB4.out b5)
   have HO5:Hid ((w4.alloc (oS (mk,mq,mT))).ownsRow W.drew.heap.size 37 3 (.slice a3 (t.cnt i).length c3') (t.cnt i).length ((t.cnt i).flatMap c3)):=mH (own_new ho4 _)
   have HR5:Hid (RowIn 3 c3 (w4.alloc (oS (mk,mq,mT))) (.slice (some ⟨w4.heap.size,0,none⟩) 1 1) [(mk,mq,mT)]):=mH (rowOne (f:=c3) (mk,mq,mT) w4 37)
   have HSZ:Hid (W.drew.heap.size<=(w4.alloc (oS (mk,mq,mT))).heap.size):=mH (by have:=b4.size;simp at this ⊢;omega)
   clear ho4 b5 b4 hHeld
   refine hK.out _ _ ⟨x0,x1,x2,x3,x4,x5,x6,x7,x8,x9⟩ (fun hHeld=>?_)
   clear hK K
   (try simp only [Act.put])
   refine wpAnyH_ready (rs:=[6]) (by kernel_rfl) (by simp) (AllReadyH.cons rfl (fun K hK=>?_) AllReadyH.nil)
   refine step_append_src3 (w:=(w4.alloc (oS (mk,mq,mT)))) rfl (.tmp 18) (.tmp 20) 172 172 rfl W.drew.heap.size 37 ie Tryz.underlying172 hie.out.1 (.agg #[.int .i64 0,.int .i64 0,.int .i64 0]) 24 hie.out.2.1 rfl hie.out.2.2.1 hie.out.2.2.2 (.slice a3 (t.cnt i).length c3') (t.cnt i).length ((t.cnt i).flatMap c3) (by simp [Act.eval]) HO5.out _ 1 (c3 (mk,mq,mT)) (by simp [Act.eval]) (srcOne (f:=c3) (x:=(mk,mq,mT)) Tryz.underlying172 (by omega) (fun _=>rfl) one3' HR5.out) (by have:=HL.out;unfold maxLen;omega) (by have:=HL.out;omega) HSZ.out ?_
   intro v6 w6 ho6 hg6 hat6
   have b6:Below (w4.alloc (oS (mk,mq,mT))).heap.size (w4.alloc (oS (mk,mq,mT))) w6 ∨ True:=.inr trivial
   have hO6:w6.ownsRow W.drew.heap.size 37 3 v6 (t.cnt i ++ [(mk,mq,mT)]).length ((t.cnt i ++ [(mk,mq,mT)]).flatMap c3):=by rw [List.flatMap_append,List.length_append];simpa using ho6
   have B6:Below W.drew.heap.size (w4.alloc (oS (mk,mq,mT))) w6:=(Below.refl _ _).grown hg6 HSZ.out (fun k hk=>(HO5.out.lt k hk).1)
   have s0:w6.cell? ⟨p1,0,none⟩=some (.slice a1 ps.length cap):=(B6.cell (p:=⟨p1,0,none⟩) (HLTp1.out)).trans x0
   have s1:w6.cell? ⟨p1,1,none⟩=some (.slice a2 t.gs.length cap2):=(B6.cell (p:=⟨p1,1,none⟩) (HLTp1.out)).trans x1
   have s2:w6.cell? ⟨p1,2,none⟩=some (.int .i64 t.last):=(B6.cell (p:=⟨p1,2,none⟩) (HLTp1.out)).trans x2
   have s3:w6.cell? ⟨p1,3,none⟩=some (.int .i64 t.now):=(B6.cell (p:=⟨p1,3,none⟩) (HLTp1.out)).trans x3
   have s4:w6.cell? ⟨p,0,none⟩=some (.int .i64 k):=(B6.cell (p:=⟨p,0,none⟩) (HLTp.out)).trans x4
   have s5:w6.cell? ⟨p,1,none⟩=some (.int .i64 q):=(B6.cell (p:=⟨p,1,none⟩) (HLTp.out)).trans x5
   have s6:w6.cell? ⟨p,2,none⟩=some (.int .i64 T):=(B6.cell (p:=⟨p,2,none⟩) (HLTp.out)).trans x6
   have s7:w6.cell? ⟨p2,0,none⟩=some (.int .i64 mk):=(B6.cell (p:=⟨p2,0,none⟩) (HLTp2.out)).trans x7
   have s8:w6.cell? ⟨p2,1,none⟩=some (.int .i64 mq):=(B6.cell (p:=⟨p2,1,none⟩) (HLTp2.out)).trans x8
   have s9:w6.cell? ⟨p2,2,none⟩=some (.int .i64 mT):=(B6.cell (p:=⟨p2,2,none⟩) (HLTp2.out)).trans x9
   have HB6:Hid (Below w.heap.size w w6):=mH (HB5.out.trans (B6.mono (HBS.out)))
   have HV6:Hid (Svs w6 v6 (t.cnt i ++ [(mk,mq,mT)])):=mH (svs_own (by have:=HL.out;rw [List.length_append];simp;omega) hO6)
   clear b6 ho6 hg6 hat6 hO6 B6 hHeld
   refine hK.out _ _ ⟨s0,s1,s2,s3,s4,s5,s6,s7,s8,s9⟩ (fun hHeld=>?_)
   clear hK K
   (try simp only [Act.put])
   refine wpAnyH_ready (rs:=[7]) (by kernel_rfl) (by simp) (AllReadyH.cons rfl (fun K hK=>?_) AllReadyH.nil)
   go_simp
   refine(HK.out w6 v6 HB6.out HV6.out).mono ?_
   rintro e w7 ⟨rfl,b7⟩
   have r0:w7.cell? ⟨p1,0,none⟩=some (.slice a1 ps.length cap):=kc s0 b7
   have r1:w7.cell? ⟨p1,1,none⟩=some (.slice a2 t.gs.length cap2):=kc s1 b7
   have r2:w7.cell? ⟨p1,2,none⟩=some (.int .i64 t.last):=kc s2 b7
   have r3:w7.cell? ⟨p1,3,none⟩=some (.int .i64 t.now):=kc s3 b7
   have r4:w7.cell? ⟨p,0,none⟩=some (.int .i64 k):=kc s4 b7
   have r5:w7.cell? ⟨p,1,none⟩=some (.int .i64 q):=kc s5 b7
   have r6:w7.cell? ⟨p,2,none⟩=some (.int .i64 T):=kc s6 b7
   have r7:w7.cell? ⟨p2,0,none⟩=some (.int .i64 mk):=kc s7 b7
   have r8:w7.cell? ⟨p2,1,none⟩=some (.int .i64 mq):=kc s8 b7
   have r9:w7.cell? ⟨p2,2,none⟩=some (.int .i64 mT):=kc s9 b7
   have HB7:=mH (bt HB6.out b7)
   clear b7 hHeld
   refine hK.out _ _ ⟨r0,r1,r2,r3,r4,r5,r6,r7,r8,r9⟩ (fun hHeld=>?_)
   clear hK K
   (try simp only [Act.put])
   refine tkE 8 23 (.bool false) rfl rfl hHeld ?_
   simp only [sZ,sS]
   refine tkE 9 6 (.bool false) rfl rfl hHeld ?_
   simp only [sZ,sS]
   refine wpAnyH_done (by kernel_rfl) ?_ _
   clear hHeld
   go_wp2
   go_ret
   exact⟨rfl,HB7.out⟩
  ·go_simp
   have b5:Below W.drew.heap.size W.drew (W.drew.alloc (oS (mk,mq,mT))):=ba (Below.refl _ _) _
   have x0:(W.drew.alloc (oS (mk,mq,mT))).cell? ⟨p1,0,none⟩=some (.slice a1 ps.length cap):=kc (show W.drew.cell? _=_ from e0) b5
   have x1:(W.drew.alloc (oS (mk,mq,mT))).cell? ⟨p1,1,none⟩=some (.slice a2 t.gs.length cap2):=kc (show W.drew.cell? _=_ from e1) b5
   have x2:(W.drew.alloc (oS (mk,mq,mT))).cell? ⟨p1,2,none⟩=some (.int .i64 t.last):=kc (show W.drew.cell? _=_ from e2) b5
   have x3:(W.drew.alloc (oS (mk,mq,mT))).cell? ⟨p1,3,none⟩=some (.int .i64 t.now):=kc (show W.drew.cell? _=_ from e3) b5
   have x4:(W.drew.alloc (oS (mk,mq,mT))).cell? ⟨p,0,none⟩=some (.int .i64 k):=kc (show W.drew.cell? _=_ from z0) b5
   have x5:(W.drew.alloc (oS (mk,mq,mT))).cell? ⟨p,1,none⟩=some (.int .i64 q):=kc (show W.drew.cell? _=_ from z1) b5
   have x6:(W.drew.alloc (oS (mk,mq,mT))).cell? ⟨p,2,none⟩=some (.int .i64 T):=kc (show W.drew.cell? _=_ from z2) b5
   have x7:(W.drew.alloc (oS (mk,mq,mT))).cell? ⟨p2,0,none⟩=some (.int .i64 mk):=kc (show W.drew.cell? _=_ from m0) b5
   have x8:(W.drew.alloc (oS (mk,mq,mT))).cell? ⟨p2,1,none⟩=some (.int .i64 mq):=kc (show W.drew.cell? _=_ from m1) b5
   have x9:(W.drew.alloc (oS (mk,mq,mT))).cell? ⟨p2,2,none⟩=some (.int .i64 mT):=kc (show W.drew.cell? _=_ from m2) b5
   have HB5:Hid (Below w.heap.size w (W.drew.alloc (oS (mk,mq,mT)))):=mH (bt HB3.out.drew b5)
   have HR5:Hid (RowIn 3 c3 (W.drew.alloc (oS (mk,mq,mT))) (.slice (some ⟨W.drew.heap.size,0,none⟩) 1 1) [(mk,mq,mT)]):=mH (rowOne (f:=c3) (mk,mq,mT) W.drew 37)
   clear b5 hHeld
   refine hK.out _ _ ⟨x0,x1,x2,x3,x4,x5,x6,x7,x8,x9⟩ (fun hHeld=>?_)
   clear hK K
   (try simp only [Act.put])
   refine wpAnyH_ready (rs:=[3]) (by kernel_rfl) (by simp) (AllReadyH.cons rfl (fun K hK=>?_) AllReadyH.nil)
   go_simp
   refine(HC.out (W.drew.alloc (oS (mk,mq,mT))) HB5.out).mono ?_
   rintro e w4 ⟨a3,c3',rfl,ho4,b4⟩
   have y0:w4.cell? ⟨p1,0,none⟩=some (.slice a1 ps.length cap):=kc x0 b4
   have y1:w4.cell? ⟨p1,1,none⟩=some (.slice a2 t.gs.length cap2):=kc x1 b4
   have y2:w4.cell? ⟨p1,2,none⟩=some (.int .i64 t.last):=kc x2 b4
   have y3:w4.cell? ⟨p1,3,none⟩=some (.int .i64 t.now):=kc x3 b4
   have y4:w4.cell? ⟨p,0,none⟩=some (.int .i64 k):=kc x4 b4
   have y5:w4.cell? ⟨p,1,none⟩=some (.int .i64 q):=kc x5 b4
   have y6:w4.cell? ⟨p,2,none⟩=some (.int .i64 T):=kc x6 b4
   have y7:w4.cell? ⟨p2,0,none⟩=some (.int .i64 mk):=kc x7 b4
   have y8:w4.cell? ⟨p2,1,none⟩=some (.int .i64 mq):=kc x8 b4
   have y9:w4.cell? ⟨p2,2,none⟩=some (.int .i64 mT):=kc x9 b4
   have HB4:=mH (bt HB5.out b4)
   have HO4:Hid (w4.ownsRow W.drew.heap.size 37 3 (.slice a3 (t.cnt i).length c3') (t.cnt i).length ((t.cnt i).flatMap c3)):=mH (own_lower ho4 (by simp))
   have HR4:=mH (HR5.out.below b4)
   have HSZ:Hid (W.drew.heap.size<=w4.heap.size):=mH (by have:=b4.size;simp at this ⊢;omega)
   have HBS:=mH HB3.out.size
   have HLTp1:=mH HP1.out
   have HLTp:=mH HP0.out
   have HLTp2:=mH HP2.out
   clear ho4 b4 hHeld
   refine hK.out _ _ ⟨y0,y1,y2,y3,y4,y5,y6,y7,y8,y9⟩ (fun hHeld=>?_)
   clear hK K
   (try simp only [Act.put])
   refine wpAnyH_ready (rs:=[6]) (by kernel_rfl) (by simp) (AllReadyH.cons rfl (fun K hK=>?_) AllReadyH.nil)
   refine step_append_src3 (w:=w4) rfl (.tmp 18) (.tmp 20) 172 172 rfl W.drew.heap.size 37 ie Tryz.underlying172 hie.out.1 (.agg #[.int .i64 0,.int .i64 0,.int .i64 0]) 24 hie.out.2.1 rfl hie.out.2.2.1 hie.out.2.2.2 (.slice a3 (t.cnt i).length c3') (t.cnt i).length ((t.cnt i).flatMap c3) (by simp [Act.eval]) HO4.out _ 1 (c3 (mk,mq,mT)) (by simp [Act.eval]) (srcOne (f:=c3) (x:=(mk,mq,mT)) Tryz.underlying172 (by omega) (fun _=>rfl) one3' HR4.out) (by have:=HL.out;unfold maxLen;omega) (by have:=HL.out;omega) HSZ.out ?_
   intro v6 w6 ho6 hg6 hat6
   have b6:Below w4.heap.size w4 w6 ∨ True:=.inr trivial
   have hO6:w6.ownsRow W.drew.heap.size 37 3 v6 (t.cnt i ++ [(mk,mq,mT)]).length ((t.cnt i ++ [(mk,mq,mT)]).flatMap c3):=by rw [List.flatMap_append,List.length_append];simpa using ho6
   have B6:Below W.drew.heap.size w4 w6:=(Below.refl _ _).grown hg6 HSZ.out (fun k hk=>(HO4.out.lt k hk).1)
   have s0:w6.cell? ⟨p1,0,none⟩=some (.slice a1 ps.length cap):=(B6.cell (p:=⟨p1,0,none⟩) (HLTp1.out)).trans y0
   have s1:w6.cell? ⟨p1,1,none⟩=some (.slice a2 t.gs.length cap2):=(B6.cell (p:=⟨p1,1,none⟩) (HLTp1.out)).trans y1
   have s2:w6.cell? ⟨p1,2,none⟩=some (.int .i64 t.last):=(B6.cell (p:=⟨p1,2,none⟩) (HLTp1.out)).trans y2
   have s3:w6.cell? ⟨p1,3,none⟩=some (.int .i64 t.now):=(B6.cell (p:=⟨p1,3,none⟩) (HLTp1.out)).trans y3
   have s4:w6.cell? ⟨p,0,none⟩=some (.int .i64 k):=(B6.cell (p:=⟨p,0,none⟩) (HLTp.out)).trans y4
   have s5:w6.cell? ⟨p,1,none⟩=some (.int .i64 q):=(B6.cell (p:=⟨p,1,none⟩) (HLTp.out)).trans y5
   have s6:w6.cell? ⟨p,2,none⟩=some (.int .i64 T):=(B6.cell (p:=⟨p,2,none⟩) (HLTp.out)).trans y6
   have s7:w6.cell? ⟨p2,0,none⟩=some (.int .i64 mk):=(B6.cell (p:=⟨p2,0,none⟩) (HLTp2.out)).trans y7
   have s8:w6.cell? ⟨p2,1,none⟩=some (.int .i64 mq):=(B6.cell (p:=⟨p2,1,none⟩) (HLTp2.out)).trans y8
   have s9:w6.cell? ⟨p2,2,none⟩=some (.int .i64 mT):=(B6.cell (p:=⟨p2,2,none⟩) (HLTp2.out)).trans y9
   have HB6:Hid (Below w.heap.size w w6):=mH (HB4.out.trans (B6.mono (HBS.out)))
   have HV6:Hid (Svs w6 v6 (t.cnt i ++ [(mk,mq,mT)])):=mH (svs_own (by have:=HL.out;rw [List.length_append];simp;omega) hO6)
   clear b6 ho6 hg6 hat6 hO6 B6 hHeld
   refine hK.out _ _ ⟨s0,s1,s2,s3,s4,s5,s6,s7,s8,s9⟩ (fun hHeld=>?_)
   clear hK K
   (try simp only [Act.put])
   refine wpAnyH_ready (rs:=[7]) (by kernel_rfl) (by simp) (AllReadyH.cons rfl (fun K hK=>?_) AllReadyH.nil)
   go_simp
   refine(HK.out w6 v6 HB6.out HV6.out).mono ?_
   rintro e w7 ⟨rfl,b7⟩
   have r0:w7.cell? ⟨p1,0,none⟩=some (.slice a1 ps.length cap):=kc s0 b7
   have r1:w7.cell? ⟨p1,1,none⟩=some (.slice a2 t.gs.length cap2):=kc s1 b7
   have r2:w7.cell? ⟨p1,2,none⟩=some (.int .i64 t.last):=kc s2 b7
   have r3:w7.cell? ⟨p1,3,none⟩=some (.int .i64 t.now):=kc s3 b7
   have r4:w7.cell? ⟨p,0,none⟩=some (.int .i64 k):=kc s4 b7
   have r5:w7.cell? ⟨p,1,none⟩=some (.int .i64 q):=kc s5 b7
   have r6:w7.cell? ⟨p,2,none⟩=some (.int .i64 T):=kc s6 b7
   have r7:w7.cell? ⟨p2,0,none⟩=some (.int .i64 mk):=kc s7 b7
   have r8:w7.cell? ⟨p2,1,none⟩=some (.int .i64 mq):=kc s8 b7
   have r9:w7.cell? ⟨p2,2,none⟩=some (.int .i64 mT):=kc s9 b7
   have HB7:=mH (bt HB6.out b7)
   clear b7 hHeld
   refine hK.out _ _ ⟨r0,r1,r2,r3,r4,r5,r6,r7,r8,r9⟩ (fun hHeld=>?_)
   clear hK K
   (try simp only [Act.put])
   refine tkE 8 23 (.bool false) rfl rfl hHeld ?_
   simp only [sZ,sS]
   refine tkE 9 6 (.bool false) rfl rfl hHeld ?_
   simp only [sZ,sS]
   refine wpAnyH_done (by kernel_rfl) ?_ _
   clear hHeld
   go_wp2
   go_ret
   exact⟨rfl,HB7.out⟩
end Go.Proofs.YtpdehdomilnmeaaGreatDoor
