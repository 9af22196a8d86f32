import Derived.Test.YtpdehdomilnmeaaGreatDoorTrB
import Derived.RangeFuncNested
import Derived.RangeFuncBound
import Derived.RangeFuncCalls
import Derived.RangeFuncLeaves
import Derived.RangeFuncBox
import Derived.Shelf.Abstract
import Derived.Shelf.RegionOpen
import Derived.WalkKit
import Derived.OwnWalkIn
import Derived.TacticsInMore
import Derived.LoopNIn
import Derived.LoopIn
import Derived.Maps.OwnIn
namespace Go.Proofs.YtpdehdomilnmeaaGreatDoor
open Go.ChangeShapes Go.WideShapes Go.ChangeAt Go.RowKit Go.Shelf
set_option maxRecDepth 100000
attribute [local go_sem] Oper.semAt_some
structure NE where
 i:Nat
 x:Np
def encN (e:NE):Array Value:=#[.int .i64 (e.i:Int),vNp e.x]
def upto {α:Type} (f:Nat->α) (k:Nat):List α:=(List.range k).map f
theorem upto_succ {α:Type} (f:Nat->α) (k:Nat):upto f (k+1)=upto f k ++ [f k]:=by simp [upto,List.range_succ]
theorem upto_length {α:Type} (f:Nat->α) (k:Nat):(upto f k).length=k:=by simp [upto]
set_option maxRecDepth 100000 in
set_option maxHeartbeats 6400000 in
theorem back1_in (G:Fence) (n:Nat) (h34:G.fn 75) (hro:G.round=none) (hn:1<=n) (l Bs b off len cap:Nat) (F:Nat->Prop) (e:Nat->NE) (hlen:(len:Int)<=1000000000000) (hb:¬ F b) (hB:¬ F Bs) (J Jx:List NE->World->Prop)
  (hY:∀ pre x W,J pre W->pre.length < len->YieldAt G (n - 1) Tryz.prog l (encN x) W fun r W'=>
   (r=.returned (.bool true)/\J (pre ++ [x]) W'/\Kept F W W') ∨ (r=.returned (.bool false)/\Jx (pre ++ [x]) W'))
  (W:World) (hBs:W.cell? ⟨Bs,0,none⟩=some (.slice (some ⟨b,off,none⟩) len cap)) (hc:∀ j,j < len->(e j).i=len - 1 - j/\∀ r u,r < 7->(c7 (e j).x)[r]?=some u->W.cell? ⟨b,off+(len - 1 - j) * 7+r,none⟩=some u) (h0:J [] W) :
  CallsIn G n Tryz.prog 75 #[.func (.yield l) #[] #[],.pointer (some ⟨Bs,0,none⟩)] W fun r W'=>(∃ v,r=.returned v) /\
   ((∃ ys,ys=upto e len/\J ys W') ∨ (∃ pre,(∃ k,k < len/\pre=upto e (k+1))/\Jx pre W')):=by
 refine callsIn_of_wp Tryz.func75 rfl h34 ?_ hro
 simp only [Tryz.ntmps75,List.size_toArray,List.length_cons,List.length_nil,Nat.reduceAdd,Nat.reduceSub,Array.replicate_succ,Array.replicate_zero,List.push_toArray,List.append_toArray,List.nil_append,List.cons_append]
 gi_wp2
 gi_loopw [3] (fun iv wr=>∃ k:Nat,k<=len/\iv=.int .i64 ((len:Int) - 1 - k)/\J (upto e k) wr/\Kept F W wr)
  (fun iv _=>(intOf iv+1).toNat)
 case atStart=>exact⟨0,Nat.zero_le _,by simp,h0,Kept.refl _ _⟩
 case round=>
  obtain⟨k,hk,rfl,hJs,hnx⟩:=hrel
  have hBx:=hnx.cell hBs hB
  by_cases hlt:k < len
  ·obtain⟨fn,tmps,assign,body,hy,hR⟩:=hY _ (e k) wr hJs (by rw [upto_length];exact hlt)
   obtain⟨he1,he2⟩:=hc k hlt
   obtain⟨m,hm⟩:∃ m:Nat,m=len - 1 - k:=⟨_,rfl⟩
   have hmi:(len:Int) - 1 - k=(m:Int):=by omega
   rw [<- hm] at he1 he2
   obtain⟨d0,d1,d2,d3,d4,d5,d6⟩:=seven (w:=wr) (b:=b) (o:=off+m * 7) (t:=(e k).x) (fun r u hr hu=>hnx.cell (he2 r u hr hu) hb)
   have hm2:(m:Int) < len:=by omega
   unfold encN at hy
   rw [he1] at hy
   rw [hmi]
   have HMI:=mH hmi
   clear he1 he2 hc hBs hm hmi
   gi_wp2
   refine hR.mono ?_
   rintro r W3 (⟨rfl,hJ3,hk3⟩ | ⟨rfl,hJx3⟩)
   ·gi_wp2
    go_roundw
    case rel=>exact⟨k+1,by omega,by have:=HMI.out;congr 1;omega,by rw [upto_succ];exact hJ3,hnx.trans hk3 (fun _ h=>.inl h)⟩
    case measure=>simp [intOf] <;> omega
   ·gi_wp2
    refine bodyPost_ret (results_none rfl _ _ _) rfl ?_
    exact⟨⟨_,rfl⟩,.inr ⟨_,⟨k,hlt,(upto_succ _ _).symm⟩,hJx3⟩⟩
  ·obtain rfl:k=len:=by omega
   have hmi:(k:Int) - 1 - k = -1:=by omega
   rw [hmi]
   gi_wp2
   go_end0
   exact⟨⟨_,rfl⟩,.inl ⟨_,rfl,hJs⟩⟩
def bkN (ps:List Np) (j:Nat):NE:=if h:j < ps.length then ⟨ps.length - 1 - j,ps[ps.length - 1 - j]⟩ else ⟨0,(⟨0,0,(0,0,0),0,[]⟩,none,0)⟩
theorem bkN_at (ps:List Np) (j:Nat) (h:j < ps.length):(bkN ps j).i=ps.length - 1 - j/\ps[ps.length - 1 - j]?=some (bkN ps j).x:=by
 unfold bkN
 rw [dif_pos h]
 exact⟨rfl,by simp⟩
theorem bkN_all (ps:List Np):(upto (bkN ps) ps.length).map (·.x)=ps.reverse:=by
 apply List.ext_getElem?
 intro i
 unfold upto
 rw [List.map_map,List.getElem?_map]
 by_cases h:i < ps.length
 ·rw [List.getElem?_range h,List.getElem?_reverse h,(bkN_at ps i h).2];rfl
 ·rw [List.getElem?_eq_none (by simp;omega),List.getElem?_eq_none (by simp;omega)];rfl
set_option maxRecDepth 100000 in
set_option maxHeartbeats 6400000 in
theorem back1_nil_in (G:Fence) (n:Nat) (h34:G.fn 75) (hro:G.round=none) (l Bs cap:Nat) (J:List NE->World->Prop) (W:World) (a:Option Addr) (hBs:W.cell? ⟨Bs,0,none⟩=some (.slice a 0 cap)) (h0:J [] W) :
  CallsIn G n Tryz.prog 75 #[.func (.yield l) #[] #[],.pointer (some ⟨Bs,0,none⟩)] W fun r W'=>(∃ v,r=.returned v)/\J [] W':=by
 refine callsIn_of_wp Tryz.func75 rfl h34 ?_ hro
 simp only [Tryz.ntmps75,List.size_toArray,List.length_cons,List.length_nil,Nat.reduceAdd,Nat.reduceSub,Array.replicate_succ,Array.replicate_zero,List.push_toArray,List.append_toArray,List.nil_append,List.cons_append]
 gi_wp2
 gi_loopw [3] (fun iv wr=>iv=.int .i64 (-1)/\J [] wr) (fun _ _=>0)
 case atStart=>exact⟨rfl,h0⟩
 case round=>
  obtain⟨rfl,hJs⟩:=hrel
  gi_wp2
  go_end0
  exact⟨⟨_,rfl⟩,hJs⟩
set_option maxHeartbeats 3200000 in
theorem backward_in (G:Fence) (n:Nat) (h33:G.fn 52) (hro:G.round=none) (a:Option Addr) (len cap:Nat) (w:World) :
  CallsIn G n Tryz.prog 52 #[.slice a len cap] w fun r w'=>r=.returned (.func (.func 75) #[] #[.pointer (some ⟨w.heap.size,0,none⟩)])/\w'=w.alloc (.cells #[.slice a len cap] 27):=by
 refine callsIn_of_wp Tryz.func52 rfl h33 ?_ hro
 simp only [Tryz.ntmps52,List.size_toArray,List.length_cons,List.length_nil,Nat.reduceAdd,Nat.reduceSub,Array.replicate_succ,Array.replicate_zero,List.push_toArray,List.append_toArray,List.nil_append,List.cons_append]
 gi_wp2
 go_ret
 exact⟨rfl,rfl⟩
theorem back_stops (G:Fence) (n:Nat) (h34:G.fn 75) (hro:G.round=none) (hn:1<=n) (Bs:Nat) (F:Nat->Prop) (v:Value) (ps:List Np) (hlen:ps.length<=1000) (w:World) (hB:¬ F Bs)
  (hcell:w.cell? ⟨Bs,0,none⟩=some v) (h:Nds w v ps) (hb:∀ b off c,v=.slice (some ⟨b,off,none⟩) ps.length c->0 < ps.length->¬ F b) :
  SeqStopsK G n Tryz.prog 75 #[.pointer (some ⟨Bs,0,none⟩)] encN (Kept F) (fun ys=>ys=upto (bkN ps) ps.length) (fun pre=>∃ k,k < ps.length/\pre=upto (bkN ps) (k+1)) ps.length w:=fun l J Jx W hW _ _ hY h0=>by
 have hc':=kc hcell hW
 have h':=h.below hW
 obtain⟨a,cap,rfl,hcap,hl,hr⟩:=h'.row
 by_cases hp:0 < ps.length
 ·obtain⟨b,off,rfl,hx⟩:=hr hp
  refine back1_in G n h34 hro hn l Bs b off ps.length cap F (bkN ps) (by omega) (hb b off cap rfl hp) hB J Jx hY W hc' (fun j hj=>?_) h0
  obtain⟨e1,e2⟩:=bkN_at ps j hj
  exact⟨e1,hx _ _ e2⟩
 ·have h0':ps=[]:=List.eq_nil_of_length_eq_zero (by omega)
  subst h0'
  refine(back1_nil_in G n h34 hro l Bs cap J W a hc' h0).mono fun e W' ⟨he',hj⟩=>⟨he',.inl ⟨_,rfl, ?_⟩⟩
  exact hj
def st (i:Int) (pre:List NE):Int × Int:=pre.foldl (fun p e=>up e.x.1 p) (0,i)
theorem st_snoc (i:Int) (pre:List NE) (e:NE):st i (pre ++ [e])=up e.x.1 (st i pre):=by simp [st]
theorem st_all (i:Int) (ps:List Np):st i (upto (bkN ps) ps.length)=(nds ps).foldr up (0,i):=by
 have e:st i (upto (bkN ps) ps.length)=((upto (bkN ps) ps.length).map (·.x)).foldl (fun p x=>up x.1 p) (0,i):=by
  unfold st;rw [List.foldl_map]
 rw [e,bkN_all,List.foldl_reverse,nds,List.foldr_map]
theorem st_bound (i:Int) (pre:List NE):0<=(st i pre).1/\(st i pre).1<=pre.length:=by
 unfold st
 suffices h:∀ (l:List NE) (p:Int × Int),p.1<=(l.foldl (fun p e=>up e.x.1 p) p).1/\(l.foldl (fun p e=>up e.x.1 p) p).1<=p.1+l.length by
  have:=h pre (0,i)
  simp only at this
  omega
 intro l
 induction l with
 |nil=>intro p;simp
 |cons e l ih=>
  intro p
  have:=ih (up e.x.1 p)
  simp only [List.foldl_cons,List.length_cons]
  have hu:p.1<=(up e.x.1 p).1/\(up e.x.1 p).1<=p.1+1:=by
   unfold up;split <;> simp <;> omega
  omega
theorem keptK_b {F:Nat->Prop} {B:Nat} (hF:∀ k,B<=k->F k) (W:World) (l:Nat) (o o':Obj) (hl:B<=l) (_:W.heap[l]?=some o) (_:o.isCells=false) (_:o.isWalk=false):Kept F W (W.putObj l o'):=
 Kept.grown (grownBy_putObj' W l o') (fun k e=>by cases e;exact hF _ hl)
set_option maxRecDepth 100000 in
set_option maxHeartbeats 12800000 in
theorem depth_is (w:World) (t:Tr) (nv gv:Value) (ps:List Np) (i R:Int) (h:TrW w nv gv ps t) (hs:t.Sm 1000) (hR:R=t.dep i) :
  Calls Tryz.prog 144 #[vTr nv gv t,.int .i64 i] w fun e w'=>e=.returned (.int .i64 R)/\Below w.heap.size w w':=by
 have hl:ps.length<=1000:=by have:=hs.n;rw [<- h.e,List.length_map] at this;exact this
 have HR:Hid (∀ W,(W=(st i (upto (bkN ps) ps.length)).2->W=0->R=(st i (upto (bkN ps) ps.length)).1)/\(W=(st i (upto (bkN ps) ps.length)).2->¬ W=0->R = -1)):=mH (fun W=>by
  rw [st_all,h.e]
  unfold Tr.dep Tr.dw at hR
  exact⟨fun e1 e2=>by rw [hR,if_pos (by rw [<- e1];exact e2)],fun e1 e2=>by rw [hR,if_neg (by rw [<- e1];exact e2)]⟩)
 have HH:=mH h
 obtain⟨a1,cap,rfl,_⟩:=h.n.row.shape
 obtain⟨a2,cap2,rfl,_⟩:=h.g.shape
 have HLB:Hid (∀ b off c,(Value.slice a1 ps.length cap)=.slice (some ⟨b,off,none⟩) ps.length c->0 < ps.length->b < w.heap.size):=mH (fun b off c e hp=>by
  obtain⟨b',off',x,e1,e2,e3⟩:=HH.out.n.row.at (Below.refl _ _) 0 hp
  simp only [Value.slice.injEq] at e
  rw [e.1] at e1
  simp only [Option.some.injEq,Addr.mk.injEq] at e1
  obtain⟨q0,_⟩:=seven e3
  have:=World.block_lt_of_cell? w _ q0
  simp only at this
  omega)
 clear h hs hR
 refine(callsIn_wide (n:=3)).1 ?_
 refine callsIn_of_wp_marks Tryz.func144 rfl trivial ?_ rfl
 simp only [Tryz.ntmps144,List.size_toArray,List.length_cons,List.length_nil,Nat.reduceAdd,Nat.reduceSub,Array.replicate_succ,Array.replicate_zero,List.push_toArray,List.append_toArray,List.nil_append,List.cons_append]
 gi_wp2_with (first | (refine⟨trivial, ?_⟩;gi_at_call 52;refine(backward_in Fence.wide _ trivial rfl a1 ps.length cap _).mono ?_;rintro e w1 ⟨rfl,rfl⟩) | (gi_at_call 52;refine(backward_in Fence.wide _ trivial rfl a1 ps.length cap _).mono ?_;rintro e w1 ⟨rfl,rfl⟩))
 obtain⟨W0,hW0⟩:∃ W0,W0=(((w.alloc (oTr (.slice a1 ps.length cap) (.slice a2 t.gs.length cap2) t)).alloc (.cells #[.int .i64 i] 3)).alloc (.cells #[.int .i64 0] 3)).alloc (.cells #[.slice a1 ps.length cap] 27):=⟨_,rfl⟩
 have hsz:W0.heap.size=w.heap.size+4:=by rw [hW0];simp
 have hb0:Below w.heap.size w W0:=by rw [hW0];exact ba (ba (ba (ba (Below.refl _ w) _) _) _) _
 have k1:W0.heap[w.heap.size+1]?=some (.cells #[.int .i64 i] 3 (0,0)):=by
  rw [hW0,heap_alloc_old _ _ (by simp),heap_alloc_old _ _ (by simp)]
  have:=heap_alloc_new (w.alloc (oTr (.slice a1 ps.length cap) (.slice a2 t.gs.length cap2) t)) (.cells #[.int .i64 i] 3)
  simpa using this
 have k2:W0.heap[w.heap.size+1+1]?=some (.cells #[.int .i64 0] 3 (0,0)):=by
  rw [hW0,heap_alloc_old _ _ (by simp)]
  have:=heap_alloc_new ((w.alloc (oTr (.slice a1 ps.length cap) (.slice a2 t.gs.length cap2) t)).alloc (.cells #[.int .i64 i] 3)) (.cells #[.int .i64 0] 3)
  simpa using this
 have k3:W0.heap[w.heap.size+1+1+1]?=some (.cells #[.slice a1 ps.length cap] 27 (0,0)):=by
  rw [hW0]
  have:=heap_alloc_new (((w.alloc (oTr (.slice a1 ps.length cap) (.slice a2 t.gs.length cap2) t)).alloc (.cells #[.int .i64 i] 3)).alloc (.cells #[.int .i64 0] 3)) (.cells #[.slice a1 ps.length cap] 27)
  simpa using this
 rw [<- hW0]
 clear hW0
 obtain⟨F,hF⟩:∃ F:Nat->Prop,F=fun k=>k=w.heap.size+1 ∨ k=w.heap.size+1+1 ∨ W0.heap.size<=k:=⟨_,rfl⟩
 have hFb:∀ k,W0.heap.size<=k->F k:=fun k hk=>by rw [hF];exact .inr (.inr hk)
 refine wpIn_rangeFunc_ownH rfl (by omega) (gf:=75) (lb:=#[.pointer (some ⟨w.heap.size+1+1+1,0,none⟩)]) rfl trivial (enters_of Tryz.func75 (by kernel_rfl) rfl)
  (back_stops Fence.wide 2 trivial rfl (by omega) (w.heap.size+1+1+1) F (.slice a1 ps.length cap) ps hl W0 (by rw [hF];omega) (cOb k3 rfl) (HH.out.n.below hb0) (fun b off c e hp=>by have:=HLB.out b off c e hp;rw [hF];omega)) (fun h1 h2=>h1.trans h2 (fun _ h=>.inl h)) (keptK_b hFb) (Below.refl _ _) (fun _=>rfl)
  (fun pre W=>W.heap[w.heap.size+1]?=some (.cells #[.int .i64 (st i pre).2] 3 (0,0))/\W.heap[w.heap.size+1+1]?=some (.cells #[.int .i64 (st i pre).1] 3 (0,0))/\Kept F W0 W)
  (fun _ _ _=>False)
  (fun s X Y row hs hg hr=>⟨(hg.block _ (lOh hs.1) (fun e=>by have:=(hr _ e.symm).1;omega)).trans hs.1,(hg.block _ (lOh hs.2.1) (fun e=>by have:=(hr _ e.symm).1;omega)).trans hs.2.1,hs.2.2.trans (Kept.grown hg (F:=F) (fun k e=>hFb k (hr k e).1)) (fun _ h=>.inl h)⟩)
  (fun cd s X Y row hs hg hr=>hs)
  ⟨k1,k2,Kept.refl _ _⟩
  (fun x a' W=>∃ Bx,W0.heap.size<=Bx/\W.heap[Bx]?=some (.cells #[.int .i64 x.x.1.id,.int .i64 x.x.1.pa,.int .i64 x.x.1.sv.1,.int .i64 x.x.1.sv.2.1,.int .i64 x.x.1.sv.2.2,.int .i64 x.x.1.po,tvN x.x] 69 (0,0))/\a' = { tmps:=#[vTr (.slice a1 ps.length cap) (.slice a2 t.gs.length cap2) t,.int .i64 i,.pointer (some ⟨w.heap.size,0,none⟩),.pointer (some ⟨w.heap.size+1,0,none⟩),.int .i64 0,.pointer (some ⟨w.heap.size+1+1,0,none⟩),undef,.pointer (some ⟨Bx,0,none⟩),.pointer (some ⟨w.heap.size,0,none⟩),.slice a1 ps.length cap,.func (.func 75) #[] #[.pointer (some ⟨w.heap.size+1+1+1,0,none⟩)],.int .i64 (x.i:Int),vNp x.x,undef,undef,undef,undef,undef,undef,undef,undef,undef,undef,undef],defers:=[] })
  (fun x a' _ X Y row hs hg hr=>by
   obtain⟨Bx,h1,h2,h3⟩:=hs
   exact⟨Bx,h1,(hg.block Bx (lOh h2) (fun e'=>by obtain⟨o,ho,hcs⟩:=(hr _ e'.symm).2;rw [h2] at ho;cases ho;cases hcs)).trans h2,h3⟩)
  ?assign ?body ?done ?stop
 case assign=>
  rintro l pre ⟨xi,⟨id,pa,⟨k,q,T⟩,po,ts⟩,ta,tc⟩ W K ⟨hi1,hi2,hi3⟩ hK
  simp only [encN,vNp,vNd,tvN]
  gi_wp2
  refine hK _ _ ((KeepsOthers.alloc _ _).from _) (Kept.alloc _ _ _) ⟨(heap_alloc_old W _ (lOh hi1)).trans hi1,(heap_alloc_old W _ (lOh hi2)).trans hi2,hi3.trans (Kept.alloc F _ _) (fun _ h=>.inl h)⟩ ⟨W.heap.size,hi3.size,heap_alloc_new W _,by simp⟩
 case body=>
  rintro l pre ⟨xi,⟨id,pa,⟨k,q,T⟩,po,ts⟩,ta,tc⟩ a' W hl' ⟨r,hr⟩ ⟨hi1,hi2,hi3⟩ ⟨Bx,hBx,hblk,rfl⟩ hlt
  have hst:=st_snoc i pre ⟨xi,⟨id,pa,⟨k,q,T⟩,po,ts⟩,ta,tc⟩
  obtain⟨hb1,hb2⟩:=st_bound i pre
  simp only at hblk hst
  obtain⟨⟨D,I⟩,hDI⟩:∃ p,p=st i pre:=⟨_,rfl⟩
  rw [<- hDI] at hi1 hi2 hb1 hb2 hst
  simp only at hi1 hi2 hb1 hb2
  clear hDI
  have q0:W.cell? ⟨Bx,0,none⟩=some (.int .i64 id):=cOb hblk rfl
  have q1:W.cell? ⟨Bx,1,none⟩=some (.int .i64 pa):=cOb hblk rfl
  have ci:W.cell? ⟨w.heap.size+1,0,none⟩=some (.int .i64 I):=cOb hi1 rfl
  have cd:W.cell? ⟨w.heap.size+1+1,0,none⟩=some (.int .i64 D):=cOb hi2 rfl
  have f1:W.frozen? ⟨w.heap.size+1,0,none⟩=false:=fOb hi1
  have f2:W.frozen? ⟨w.heap.size+1+1,0,none⟩=false:=fOb hi2
  by_cases he:id=I
  ·subst he
   have hup:up ⟨id,pa,(k,q,T),po,ts⟩ (D,id)=(D+1,pa):=by simp [up]
   rw [hup] at hst
   have HST:=mH hst
   clear hst
   have ew:IntKind.i64.wrap (D+1)=D+1:=wfit (by omega) (by omega)
   have HII:=mH (And.intro hi1 (And.intro hi2 hi3))
   clear hup hi1 hi2 hi3 hblk
   gi_wp2
   obtain⟨hi1,hi2,hi3⟩:=HII.out
   have ks:Kept F W ((W.setCell ⟨w.heap.size+1+1,0,none⟩ (.int .i64 (D+1))).setCell ⟨w.heap.size+1,0,none⟩ (.int .i64 pa)):=kset (kset (Kept.refl _ _) (.inl (by rw [hF];exact .inr (.inl rfl))) 0 _) (.inl (by rw [hF];exact .inl rfl)) 0 _
   have kd:Kept (fun k=>k=w.heap.size+1+1) W (W.setCell ⟨w.heap.size+1+1,0,none⟩ (.int .i64 (D+1))):=Kept.setCell (F:=fun k=>k=w.heap.size+1+1) W (p:=⟨w.heap.size+1+1,0,none⟩) rfl _
   have kp:Kept (fun k=>k=w.heap.size+1) (W.setCell ⟨w.heap.size+1+1,0,none⟩ (.int .i64 (D+1))) ((W.setCell ⟨w.heap.size+1+1,0,none⟩ (.int .i64 (D+1))).setCell ⟨w.heap.size+1,0,none⟩ (.int .i64 pa)):=Kept.setCell (F:=fun k=>k=w.heap.size+1) _ (p:=⟨w.heap.size+1,0,none⟩) rfl _
   have hi2':=hSt (v:=.int .i64 (D+1)) (i:=0) hi2
   have hi1':=(kd.block _ (lOh hi1) (by omega)).trans hi1
   have ks2:Kept (fun k=>k=w.heap.size+1 ∨ k=w.heap.size+1+1) W ((W.setCell ⟨w.heap.size+1+1,0,none⟩ (.int .i64 (D+1))).setCell ⟨w.heap.size+1,0,none⟩ (.int .i64 pa)):=kset (kset (Kept.refl _ _) (.inl (.inr rfl)) 0 _) (.inl (.inl rfl)) 0 _
   refine⟨⟨ks.size,fun k o hk ho hc=>(ks2.block k (lOh ho) (by omega)).trans ho⟩,ks, ?_, ?_,hi3.trans ks (fun _ h=>.inl h)⟩
   ·rw [HST.out];exact hSt hi1'
   ·rw [HST.out];exact(kp.block _ (lOh hi2') (by omega)).trans hi2'
  ·have he':(id == I)=false:=by simpa using he
   have hup:up ⟨id,pa,(k,q,T),po,ts⟩ (D,I)=(D,I):=up_no he
   rw [hup] at hst
   have HST:=mH hst
   clear hst
   have HII:=mH (And.intro hi1 (And.intro hi2 hi3))
   clear hup hi1 hi2 hi3 hblk he
   gi_wp2
   obtain⟨hi1,hi2,hi3⟩:=HII.out
   exact⟨KeepsFrom.refl _ _,Kept.refl _ _,by rw [HST.out];exact hi1,by rw [HST.out];exact hi2,hi3⟩
 case done=>
  rintro D ys W hD rfl ⟨hi1,hi2,hi3⟩ hK
  have hr:=HR.out (st i (upto (bkN ps) ps.length)).2
  obtain⟨⟨dd,ii⟩,hDI⟩:∃ p,p=st i (upto (bkN ps) ps.length):=⟨_,rfl⟩
  rw [<- hDI] at hi1 hi2 hr
  simp only at hi1 hi2 hr
  have ci:W.cell? ⟨w.heap.size+1,0,none⟩=some (.int .i64 ii):=cOb hi1 rfl
  have cd:W.cell? ⟨w.heap.size+1+1,0,none⟩=some (.int .i64 dd):=cOb hi2 rfl
  have hB:Below w.heap.size w W:=hb0.trans (hi3.below (fun k hk=>by rw [hF] at hk;omega) (by omega))
  have hgp:=grownBy_putObj' W D (.deferred none)
  have HB2:Hid (Below w.heap.size w (W.putObj D (.deferred none))):=mH (hB.grown hgp hB.size (fun k' e'=>by cases e';omega))
  by_cases h0:ii=0
  ·have hr':=hr.1 (by first | rfl | trivial) h0
   subst hr' h0
   clear hr hDI HR
   gi_wp2
   refine⟨by simp,.inl ⟨_,_,rfl,run_takeDeferred hK, ?_⟩⟩
   exact⟨_,results_tmp rfl _ _ _,rfl,HB2.out⟩
  ·have hr':=hr.2 (by first | rfl | trivial) h0
   subst hr'
   have h0':(ii == 0)=false:=by simpa using h0
   clear hr hDI HR h0
   gi_wp2
   refine⟨by simp,.inl ⟨_,_,rfl,run_takeDeferred hK, ?_⟩⟩
   exact⟨_,results_tmp rfl _ _ _,rfl,HB2.out⟩
 case stop=>
  rintro D cd pre W hD hS hf hK
  exact hf.elim
end Go.Proofs.YtpdehdomilnmeaaGreatDoor
namespace Go.Proofs.YtpdehdomilnmeaaGreatDoor
open Go.ChangeShapes Go.WideShapes Go.ChangeAt Go.RowKit
set_option maxRecDepth 100000
attribute [local go_sem] World.cell?_alloc_some fAs
abbrev oOd (o:Od) (tv:Value):Obj:=.cells #[.int .i64 o.ki,.int .i64 o.id,.int .i64 o.sv.1,.int .i64 o.sv.2.1,.int .i64 o.sv.2.2,.int .i64 o.po,tv,.int .i64 o.tm] 40
theorem eight {w:World} {p:Nat} {c0 c1 c2 c3 c4 c5 c6 c7:Value} {ty:TypeId} (h:w.heap[p]?=some (.cells #[c0,c1,c2,c3,c4,c5,c6,c7] ty (0,0))):w.cell? ⟨p,0,none⟩=some c0/\w.cell? ⟨p,1,none⟩=some c1/\w.cell? ⟨p,2,none⟩=some c2/\w.cell? ⟨p,3,none⟩=some c3/\w.cell? ⟨p,4,none⟩=some c4/\w.cell? ⟨p,5,none⟩=some c5/\w.cell? ⟨p,6,none⟩=some c6/\w.cell? ⟨p,7,none⟩=some c7:=
 ⟨cOb h rfl,cOb h rfl,cOb h rfl,cOb h rfl,cOb h rfl,cOb h rfl,cOb h rfl,cOb h rfl⟩
theorem bLt {w w':World} {p:Nat} {o:Obj} (h:w.heap[p]?=some o) (hb:Below w.heap.size w w'):w'.heap[p]?=some o:=(hb.block p (lOh h)).trans h
theorem checkS_is (A:Ops) (w:World) (s:Sv) (a:Nat->Addr) (E:Er6 w a) (V:Value) (h1:A.ok s=true->V=.nilIface) (h2:A.ok s=false->V=vE (a 9)):Calls Tryz.prog 101 #[vS s] w fun e w'=>e=.returned V/\Below w.heap.size w w':=by
 cases h:A.ok s with
 |true=>rw [h1 h];exact check_ok w s ((A.hok s).mp h)
 |false=>rw [h2 h];exact check_no w s (fun hk=>by have:=(A.hok s).mpr hk;rw [h] at this;cases this) _ E.er4.er3.cell_server
theorem checkG_is (A:Ops) (w:World) (p:Int) (v:Value) (xs:List Tk) (a:Nat->Addr) (hx:Tks w v xs) (E:Er6 w a) (V:Value) (h1:A.okg p xs=true->V=.nilIface) (h2:A.okg p xs=false->V=vE (a 10)):Calls Tryz.prog 103 #[.int .i64 p,v] w fun e w'=>e=.returned V/\Below w.heap.size w w':=by
 cases h:A.okg p xs with
 |true=>rw [h1 h];exact guest_ok w v p xs hx ((A.hokg p xs).mp h)
 |false=>rw [h2 h];exact guest_no w v p xs _ hx (fun hk=>by have:=(A.hokg p xs).mpr hk;rw [h] at this;cases this) E.er4.cell_task
set_option maxHeartbeats 25600000 in
theorem crC_is (A:Ops) (w:World) (t:Tr) (nv gv:Value) (ps:List Np) (o:Od) (oa:Option Addr) (oc:Nat) (R:Int) (a:Nat->Addr) (h:TrW w nv gv ps t) (hs:t.Sm 1000) (E:Er6 w a) (hot:Tks w (.slice oa o.ts.length oc) o.ts) (hoc:o.ts.length<=oc) (hR:R=t.crC A o) :
  Calls Tryz.prog 116 #[vTr nv gv t,vOd o (.slice oa o.ts.length oc)] w fun e w'=>e=.returned (.int .i64 R)/\Below w.heap.size w w':=by
 have HD:Hid (∀ W,Below w.heap.size w W->Calls Tryz.prog 144 #[vTr nv gv t,.int .i64 o.id] W fun e w'=>e=.returned (.int .i64 (t.dep o.id))/\Below W.heap.size W w'):=mH (fun W hW=>depth_is W t nv gv ps o.id _ (h.below hW) hs rfl)
 obtain⟨EV,hEV⟩:∃ EV,EV=if A.ok o.sv=true then Value.nilIface else vE (a 9):=⟨_,rfl⟩
 have HC:Hid (∀ W,Below w.heap.size w W->Calls Tryz.prog 101 #[vS o.sv] W fun e w'=>e=.returned (EV)/\Below W.heap.size W w'):=mH (fun W hW=>checkS_is A W o.sv a (E.late hW) EV (fun h=>by rw [hEV,if_pos h]) (fun h=>by rw [hEV,if_neg (by rw [h];simp)]))
 have HN:Hid (∀ W,Below w.heap.size w W->Calls Tryz.prog 145 #[vTr nv gv t,.int .i64 o.id] W fun e w'=>e=.returned (.bool (t.bnd o.id))/\Below W.heap.size W w'):=mH (fun W hW=>bound_is W t nv gv ps o.id _ (h.below hW) hs rfl)
 have HF:Hid (∀ W,Below w.heap.size w W->Calls Tryz.prog 146 #[vTr nv gv t,.int .i64 o.id] W fun e w'=>e=.returned (.bool (t.full o.id))/\Below W.heap.size W w'):=mH (fun W hW=>full_is W t nv gv ps o.id _ (h.below hW) hs rfl)
 have HT:Hid (∀ W,Below w.heap.size w W->Calls Tryz.prog 147 #[vTr nv gv t,.int .i64 o.id,vS o.sv] W fun e w'=>e=.returned (.bool (t.fits A o.id o.sv))/\Below W.heap.size W w'):=mH (fun W hW=>fits_is A W t nv gv ps o.id o.sv _ a (h.below hW) hs (E.late hW) rfl)
 have hll:ps.length=t.ns.length:=by rw [<- h.e,List.length_map]
 have hl1:=hs.n
 rw [<- hll] at hl1
 unfold Tr.crC at hR
 rw [<- hll] at hR
 obtain⟨a1,cap,rfl,_⟩:=h.n.row.shape
 obtain⟨a2,cap2,rfl,_⟩:=h.g.shape
 obtain⟨ki,id,⟨sk,sq,sT⟩,po,ts,tm⟩:=o
 simp only at hR HD HC HN HF HT hEV
 clear h hs E hot hoc hll
 generalize t.dep id=D at *
 generalize t.bnd id=bn at *
 generalize t.full id=fl at *
 generalize t.fits A id (sk,sq,sT)=ft at *
 simp only [vOd]
 cases hok:A.ok (sk,sq,sT) with
 |false=>
  rw [hok] at hR hEV
  rw [if_pos rfl] at hR
  rw [if_neg (by simp)] at hEV
  subst hR hEV
  clear hok HN HF HT
  go_enter Tryz.func116,Tryz.ntmps116
  go_wp2_with (first
   |(go_at_call 144;refine(HD.out _ (ba (ba (Below.refl _ w) _) _)).mono ?_;rintro r w1 ⟨rfl,hb⟩;obtain⟨hx,hy,hbb⟩:=new_two hb;obtain⟨c0,c1,c2,c3⟩:=four hx;obtain⟨d0,d1,d2,d3,d4,d5,d6,d7⟩:=eight hy;have HXw1:=mH (And.intro hx hy);have HBw1:=mH hbb;clear hb hx hy hbb)
   |(go_at_call 101;refine(HC.out _ HBw1.out).mono ?_;rintro r w2 ⟨rfl,hb⟩;have hx:=bLt HXw1.out.1 hb;have hy:=bLt HXw1.out.2 hb;have hbb:=bt HBw1.out hb;clear c0 c1 c2 c3 d0 d1 d2 d3 d4 d5 d6 d7;obtain⟨c0,c1,c2,c3⟩:=four hx;obtain⟨d0,d1,d2,d3,d4,d5,d6,d7⟩:=eight hy;have HXw2:=mH (And.intro hx hy);have HBw2:=mH hbb;clear hb hx hy hbb))
  go_ret
  exact⟨rfl,HBw2.out⟩
 |true=>
  rw [hok] at hR hEV
  rw [if_neg (by simp)] at hR
  rw [if_pos rfl] at hEV
  subst hEV
  clear hok
  by_cases hD:D < 0
  ·rw [if_pos hD] at hR
   subst hR
   clear HN HF HT
   go_enter Tryz.func116,Tryz.ntmps116
   go_wp2_with (first
    |(go_at_call 144;refine(HD.out _ (ba (ba (Below.refl _ w) _) _)).mono ?_;rintro r w1 ⟨rfl,hb⟩;obtain⟨hx,hy,hbb⟩:=new_two hb;obtain⟨c0,c1,c2,c3⟩:=four hx;obtain⟨d0,d1,d2,d3,d4,d5,d6,d7⟩:=eight hy;have HXw1:=mH (And.intro hx hy);have HBw1:=mH hbb;clear hb hx hy hbb)
    |(go_at_call 101;refine(HC.out _ HBw1.out).mono ?_;rintro r w2 ⟨rfl,hb⟩;have hx:=bLt HXw1.out.1 hb;have hy:=bLt HXw1.out.2 hb;have hbb:=bt HBw1.out hb;clear c0 c1 c2 c3 d0 d1 d2 d3 d4 d5 d6 d7;obtain⟨c0,c1,c2,c3⟩:=four hx;obtain⟨d0,d1,d2,d3,d4,d5,d6,d7⟩:=eight hy;have HXw2:=mH (And.intro hx hy);have HBw2:=mH hbb;clear hb hx hy hbb))
   go_ret
   exact⟨rfl,HBw2.out⟩
  ·rw [if_neg hD] at hR
   cases bn with
   |true=>
    rw [if_pos rfl] at hR
    subst hR
    clear HF HT
    go_enter Tryz.func116,Tryz.ntmps116
    go_wp2_with (first
     |(go_at_call 144;refine(HD.out _ (ba (ba (Below.refl _ w) _) _)).mono ?_;rintro r w1 ⟨rfl,hb⟩;obtain⟨hx,hy,hbb⟩:=new_two hb;obtain⟨c0,c1,c2,c3⟩:=four hx;obtain⟨d0,d1,d2,d3,d4,d5,d6,d7⟩:=eight hy;have HXw1:=mH (And.intro hx hy);have HBw1:=mH hbb;clear hb hx hy hbb)
     |(go_at_call 101;refine(HC.out _ HBw1.out).mono ?_;rintro r w2 ⟨rfl,hb⟩;have hx:=bLt HXw1.out.1 hb;have hy:=bLt HXw1.out.2 hb;have hbb:=bt HBw1.out hb;clear c0 c1 c2 c3 d0 d1 d2 d3 d4 d5 d6 d7;obtain⟨c0,c1,c2,c3⟩:=four hx;obtain⟨d0,d1,d2,d3,d4,d5,d6,d7⟩:=eight hy;have HXw2:=mH (And.intro hx hy);have HBw2:=mH hbb;clear hb hx hy hbb)
     |(go_at_call 145;refine(HN.out _ HBw2.out).mono ?_;rintro r w3 ⟨rfl,hb⟩;have hx:=bLt HXw2.out.1 hb;have hy:=bLt HXw2.out.2 hb;have hbb:=bt HBw2.out hb;clear c0 c1 c2 c3 d0 d1 d2 d3 d4 d5 d6 d7;obtain⟨c0,c1,c2,c3⟩:=four hx;obtain⟨d0,d1,d2,d3,d4,d5,d6,d7⟩:=eight hy;have HXw3:=mH (And.intro hx hy);have HBw3:=mH hbb;clear hb hx hy hbb))
    go_ret
    exact⟨rfl,HBw3.out⟩
   |false=>
    rw [if_neg (by simp)] at hR
    by_cases hD4:4<=D
    ·rw [if_pos hD4] at hR
     subst hR
     clear HF HT
     go_enter Tryz.func116,Tryz.ntmps116
     go_wp2_with (first
      |(go_at_call 144;refine(HD.out _ (ba (ba (Below.refl _ w) _) _)).mono ?_;rintro r w1 ⟨rfl,hb⟩;obtain⟨hx,hy,hbb⟩:=new_two hb;obtain⟨c0,c1,c2,c3⟩:=four hx;obtain⟨d0,d1,d2,d3,d4,d5,d6,d7⟩:=eight hy;have HXw1:=mH (And.intro hx hy);have HBw1:=mH hbb;clear hb hx hy hbb)
      |(go_at_call 101;refine(HC.out _ HBw1.out).mono ?_;rintro r w2 ⟨rfl,hb⟩;have hx:=bLt HXw1.out.1 hb;have hy:=bLt HXw1.out.2 hb;have hbb:=bt HBw1.out hb;clear c0 c1 c2 c3 d0 d1 d2 d3 d4 d5 d6 d7;obtain⟨c0,c1,c2,c3⟩:=four hx;obtain⟨d0,d1,d2,d3,d4,d5,d6,d7⟩:=eight hy;have HXw2:=mH (And.intro hx hy);have HBw2:=mH hbb;clear hb hx hy hbb)
      |(go_at_call 145;refine(HN.out _ HBw2.out).mono ?_;rintro r w3 ⟨rfl,hb⟩;have hx:=bLt HXw2.out.1 hb;have hy:=bLt HXw2.out.2 hb;have hbb:=bt HBw2.out hb;clear c0 c1 c2 c3 d0 d1 d2 d3 d4 d5 d6 d7;obtain⟨c0,c1,c2,c3⟩:=four hx;obtain⟨d0,d1,d2,d3,d4,d5,d6,d7⟩:=eight hy;have HXw3:=mH (And.intro hx hy);have HBw3:=mH hbb;clear hb hx hy hbb))
     go_ret
     exact⟨rfl,HBw3.out⟩
    ·rw [if_neg hD4] at hR
     by_cases h64:64<=ps.length
     ·rw [if_pos h64] at hR
      subst hR
      have h64':(64:Int)<=(ps.length:Int):=by omega
      clear HF HT h64
      go_enter Tryz.func116,Tryz.ntmps116
      go_wp2_with (first
       |(go_at_call 144;refine(HD.out _ (ba (ba (Below.refl _ w) _) _)).mono ?_;rintro r w1 ⟨rfl,hb⟩;obtain⟨hx,hy,hbb⟩:=new_two hb;obtain⟨c0,c1,c2,c3⟩:=four hx;obtain⟨d0,d1,d2,d3,d4,d5,d6,d7⟩:=eight hy;have HXw1:=mH (And.intro hx hy);have HBw1:=mH hbb;clear hb hx hy hbb)
       |(go_at_call 101;refine(HC.out _ HBw1.out).mono ?_;rintro r w2 ⟨rfl,hb⟩;have hx:=bLt HXw1.out.1 hb;have hy:=bLt HXw1.out.2 hb;have hbb:=bt HBw1.out hb;clear c0 c1 c2 c3 d0 d1 d2 d3 d4 d5 d6 d7;obtain⟨c0,c1,c2,c3⟩:=four hx;obtain⟨d0,d1,d2,d3,d4,d5,d6,d7⟩:=eight hy;have HXw2:=mH (And.intro hx hy);have HBw2:=mH hbb;clear hb hx hy hbb)
       |(go_at_call 145;refine(HN.out _ HBw2.out).mono ?_;rintro r w3 ⟨rfl,hb⟩;have hx:=bLt HXw2.out.1 hb;have hy:=bLt HXw2.out.2 hb;have hbb:=bt HBw2.out hb;clear c0 c1 c2 c3 d0 d1 d2 d3 d4 d5 d6 d7;obtain⟨c0,c1,c2,c3⟩:=four hx;obtain⟨d0,d1,d2,d3,d4,d5,d6,d7⟩:=eight hy;have HXw3:=mH (And.intro hx hy);have HBw3:=mH hbb;clear hb hx hy hbb))
      go_ret
      exact⟨rfl,HBw3.out⟩
     ·rw [if_neg h64] at hR
      have h64':¬ (64:Int)<=(ps.length:Int):=by omega
      clear h64
      cases fl with
      |true=>
       rw [if_pos rfl] at hR
       subst hR
       clear HT
       go_enter Tryz.func116,Tryz.ntmps116
       go_wp2_with (first
        |(go_at_call 144;refine(HD.out _ (ba (ba (Below.refl _ w) _) _)).mono ?_;rintro r w1 ⟨rfl,hb⟩;obtain⟨hx,hy,hbb⟩:=new_two hb;obtain⟨c0,c1,c2,c3⟩:=four hx;obtain⟨d0,d1,d2,d3,d4,d5,d6,d7⟩:=eight hy;have HXw1:=mH (And.intro hx hy);have HBw1:=mH hbb;clear hb hx hy hbb)
        |(go_at_call 101;refine(HC.out _ HBw1.out).mono ?_;rintro r w2 ⟨rfl,hb⟩;have hx:=bLt HXw1.out.1 hb;have hy:=bLt HXw1.out.2 hb;have hbb:=bt HBw1.out hb;clear c0 c1 c2 c3 d0 d1 d2 d3 d4 d5 d6 d7;obtain⟨c0,c1,c2,c3⟩:=four hx;obtain⟨d0,d1,d2,d3,d4,d5,d6,d7⟩:=eight hy;have HXw2:=mH (And.intro hx hy);have HBw2:=mH hbb;clear hb hx hy hbb)
        |(go_at_call 145;refine(HN.out _ HBw2.out).mono ?_;rintro r w3 ⟨rfl,hb⟩;have hx:=bLt HXw2.out.1 hb;have hy:=bLt HXw2.out.2 hb;have hbb:=bt HBw2.out hb;clear c0 c1 c2 c3 d0 d1 d2 d3 d4 d5 d6 d7;obtain⟨c0,c1,c2,c3⟩:=four hx;obtain⟨d0,d1,d2,d3,d4,d5,d6,d7⟩:=eight hy;have HXw3:=mH (And.intro hx hy);have HBw3:=mH hbb;clear hb hx hy hbb)
        |(go_at_call 146;refine(HF.out _ HBw3.out).mono ?_;rintro r w4 ⟨rfl,hb⟩;have hx:=bLt HXw3.out.1 hb;have hy:=bLt HXw3.out.2 hb;have hbb:=bt HBw3.out hb;clear c0 c1 c2 c3 d0 d1 d2 d3 d4 d5 d6 d7;obtain⟨c0,c1,c2,c3⟩:=four hx;obtain⟨d0,d1,d2,d3,d4,d5,d6,d7⟩:=eight hy;have HXw4:=mH (And.intro hx hy);have HBw4:=mH hbb;clear hb hx hy hbb))
       go_ret
       exact⟨rfl,HBw4.out⟩
      |false=>
       rw [if_neg (by simp)] at hR
       cases ft with
       |true=>
        rw [if_neg (by simp)] at hR
        subst hR
        go_enter Tryz.func116,Tryz.ntmps116
        go_wp2_with (first
         |(go_at_call 144;refine(HD.out _ (ba (ba (Below.refl _ w) _) _)).mono ?_;rintro r w1 ⟨rfl,hb⟩;obtain⟨hx,hy,hbb⟩:=new_two hb;obtain⟨c0,c1,c2,c3⟩:=four hx;obtain⟨d0,d1,d2,d3,d4,d5,d6,d7⟩:=eight hy;have HXw1:=mH (And.intro hx hy);have HBw1:=mH hbb;clear hb hx hy hbb)
         |(go_at_call 101;refine(HC.out _ HBw1.out).mono ?_;rintro r w2 ⟨rfl,hb⟩;have hx:=bLt HXw1.out.1 hb;have hy:=bLt HXw1.out.2 hb;have hbb:=bt HBw1.out hb;clear c0 c1 c2 c3 d0 d1 d2 d3 d4 d5 d6 d7;obtain⟨c0,c1,c2,c3⟩:=four hx;obtain⟨d0,d1,d2,d3,d4,d5,d6,d7⟩:=eight hy;have HXw2:=mH (And.intro hx hy);have HBw2:=mH hbb;clear hb hx hy hbb)
         |(go_at_call 145;refine(HN.out _ HBw2.out).mono ?_;rintro r w3 ⟨rfl,hb⟩;have hx:=bLt HXw2.out.1 hb;have hy:=bLt HXw2.out.2 hb;have hbb:=bt HBw2.out hb;clear c0 c1 c2 c3 d0 d1 d2 d3 d4 d5 d6 d7;obtain⟨c0,c1,c2,c3⟩:=four hx;obtain⟨d0,d1,d2,d3,d4,d5,d6,d7⟩:=eight hy;have HXw3:=mH (And.intro hx hy);have HBw3:=mH hbb;clear hb hx hy hbb)
         |(go_at_call 146;refine(HF.out _ HBw3.out).mono ?_;rintro r w4 ⟨rfl,hb⟩;have hx:=bLt HXw3.out.1 hb;have hy:=bLt HXw3.out.2 hb;have hbb:=bt HBw3.out hb;clear c0 c1 c2 c3 d0 d1 d2 d3 d4 d5 d6 d7;obtain⟨c0,c1,c2,c3⟩:=four hx;obtain⟨d0,d1,d2,d3,d4,d5,d6,d7⟩:=eight hy;have HXw4:=mH (And.intro hx hy);have HBw4:=mH hbb;clear hb hx hy hbb)
         |(go_at_call 147;refine(HT.out _ HBw4.out).mono ?_;rintro r w5 ⟨rfl,hb⟩;have hx:=bLt HXw4.out.1 hb;have hy:=bLt HXw4.out.2 hb;have hbb:=bt HBw4.out hb;clear c0 c1 c2 c3 d0 d1 d2 d3 d4 d5 d6 d7;obtain⟨c0,c1,c2,c3⟩:=four hx;obtain⟨d0,d1,d2,d3,d4,d5,d6,d7⟩:=eight hy;have HXw5:=mH (And.intro hx hy);have HBw5:=mH hbb;clear hb hx hy hbb))
        go_ret
        exact⟨rfl,HBw5.out⟩
       |false=>
        rw [if_pos rfl] at hR
        subst hR
        go_enter Tryz.func116,Tryz.ntmps116
        go_wp2_with (first
         |(go_at_call 144;refine(HD.out _ (ba (ba (Below.refl _ w) _) _)).mono ?_;rintro r w1 ⟨rfl,hb⟩;obtain⟨hx,hy,hbb⟩:=new_two hb;obtain⟨c0,c1,c2,c3⟩:=four hx;obtain⟨d0,d1,d2,d3,d4,d5,d6,d7⟩:=eight hy;have HXw1:=mH (And.intro hx hy);have HBw1:=mH hbb;clear hb hx hy hbb)
         |(go_at_call 101;refine(HC.out _ HBw1.out).mono ?_;rintro r w2 ⟨rfl,hb⟩;have hx:=bLt HXw1.out.1 hb;have hy:=bLt HXw1.out.2 hb;have hbb:=bt HBw1.out hb;clear c0 c1 c2 c3 d0 d1 d2 d3 d4 d5 d6 d7;obtain⟨c0,c1,c2,c3⟩:=four hx;obtain⟨d0,d1,d2,d3,d4,d5,d6,d7⟩:=eight hy;have HXw2:=mH (And.intro hx hy);have HBw2:=mH hbb;clear hb hx hy hbb)
         |(go_at_call 145;refine(HN.out _ HBw2.out).mono ?_;rintro r w3 ⟨rfl,hb⟩;have hx:=bLt HXw2.out.1 hb;have hy:=bLt HXw2.out.2 hb;have hbb:=bt HBw2.out hb;clear c0 c1 c2 c3 d0 d1 d2 d3 d4 d5 d6 d7;obtain⟨c0,c1,c2,c3⟩:=four hx;obtain⟨d0,d1,d2,d3,d4,d5,d6,d7⟩:=eight hy;have HXw3:=mH (And.intro hx hy);have HBw3:=mH hbb;clear hb hx hy hbb)
         |(go_at_call 146;refine(HF.out _ HBw3.out).mono ?_;rintro r w4 ⟨rfl,hb⟩;have hx:=bLt HXw3.out.1 hb;have hy:=bLt HXw3.out.2 hb;have hbb:=bt HBw3.out hb;clear c0 c1 c2 c3 d0 d1 d2 d3 d4 d5 d6 d7;obtain⟨c0,c1,c2,c3⟩:=four hx;obtain⟨d0,d1,d2,d3,d4,d5,d6,d7⟩:=eight hy;have HXw4:=mH (And.intro hx hy);have HBw4:=mH hbb;clear hb hx hy hbb)
         |(go_at_call 147;refine(HT.out _ HBw4.out).mono ?_;rintro r w5 ⟨rfl,hb⟩;have hx:=bLt HXw4.out.1 hb;have hy:=bLt HXw4.out.2 hb;have hbb:=bt HBw4.out hb;clear c0 c1 c2 c3 d0 d1 d2 d3 d4 d5 d6 d7;obtain⟨c0,c1,c2,c3⟩:=four hx;obtain⟨d0,d1,d2,d3,d4,d5,d6,d7⟩:=eight hy;have HXw5:=mH (And.intro hx hy);have HBw5:=mH hbb;clear hb hx hy hbb))
        go_ret
        exact⟨rfl,HBw5.out⟩
set_option maxHeartbeats 25600000 in
theorem rsC_is (A:Ops) (w:World) (t:Tr) (nv gv:Value) (ps:List Np) (o:Od) (oa:Option Addr) (oc:Nat) (R:Int) (a:Nat->Addr) (h:TrW w nv gv ps t) (hs:t.Sm 1000) (E:Er6 w a) (hot:Tks w (.slice oa o.ts.length oc) o.ts) (hoc:o.ts.length<=oc) (hR:R=t.rsC A o) :
  Calls Tryz.prog 118 #[vTr nv gv t,vOd o (.slice oa o.ts.length oc)] w fun e w'=>e=.returned (.int .i64 R)/\Below w.heap.size w w':=by
 obtain⟨EV,hEV⟩:∃ EV,EV=if A.ok o.sv=true then Value.nilIface else vE (a 9):=⟨_,rfl⟩
 have HC:Hid (∀ W,Below w.heap.size w W->Calls Tryz.prog 101 #[vS o.sv] W fun e w'=>e=.returned (EV)/\Below W.heap.size W w'):=mH (fun W hW=>checkS_is A W o.sv a (E.late hW) EV (fun h=>by rw [hEV,if_pos h]) (fun h=>by rw [hEV,if_neg (by rw [h];simp)]))
 have HI:Hid (∀ W,Below w.heap.size w W->Calls Tryz.prog 148 #[vTr nv gv t,.int .i64 o.id] W fun e w'=>e=.returned (.int .i64 (t.idleC o.id))/\Below W.heap.size W w'):=mH (fun W hW=>idleC_is W t nv gv ps o.id _ (h.below hW) hs rfl)
 have HFN:Hid (∀ n,t.nd o.id=some n->∀ W,Below w.heap.size w W->Calls Tryz.prog 149 #[vTr nv gv t,.int .i64 o.id] W fun e w'=>∃ a2 c2,e=.returned (.tuple #[vNp (n,a2,c2),.bool true])/\w'.ownsRow W.heap.size 45 4 (.slice a2 n.ts.length c2) n.ts.length (n.ts.flatMap c4)/\Below W.heap.size W w'):=mH (fun n hn W hW=>find_yes W t nv gv ps o.id n (h.below hW) hn (by have:=hs.s n (nd_some hn).1;omega))
 have HF:Hid (∀ W,Below w.heap.size w W->Calls Tryz.prog 146 #[vTr nv gv t,.int .i64 (t.par o.id)] W fun e w'=>e=.returned (.bool (t.full (t.par o.id)))/\Below W.heap.size W w'):=mH (fun W hW=>full_is W t nv gv ps (t.par o.id) _ (h.below hW) hs rfl)
 have HT:Hid (∀ W,Below w.heap.size w W->Calls Tryz.prog 147 #[vTr nv gv t,.int .i64 (t.par o.id),vS o.sv] W fun e w'=>e=.returned (.bool (t.fits A (t.par o.id) o.sv))/\Below W.heap.size W w'):=mH (fun W hW=>fits_is A W t nv gv ps (t.par o.id) o.sv _ a (h.below hW) hs (E.late hW) rfl)
 have hnd:t.idleC o.id=0->∃ n,t.nd o.id=some n/\t.par o.id=n.pa:=fun hi=>by
  obtain⟨⟨n,hn⟩,_⟩:=leaf_facts (idleC_zero hi).1
  exact⟨n,hn,par_of hn⟩
 unfold Tr.rsC at hR
 obtain⟨a1,cap,rfl,_⟩:=h.n.row.shape
 obtain⟨a2,cap2,rfl,_⟩:=h.g.shape
 obtain⟨ki,id,⟨sk,sq,sT⟩,po,ts,tm⟩:=o
 simp only at hR HC HI HFN HF HT hEV hnd
 clear h hs E hot hoc
 generalize t.par id=pr at *
 generalize t.idleC id=ic at *
 generalize t.full pr=fl at *
 generalize t.fits A pr (sk,sq,sT)=ft at *
 simp only [vOd]
 cases hok:A.ok (sk,sq,sT) with
 |false=>
  rw [hok] at hR hEV
  rw [if_pos rfl] at hR
  rw [if_neg (by simp)] at hEV
  subst hR hEV
  clear hok HI HFN HF HT hnd
  go_enter Tryz.func118,Tryz.ntmps118
  go_wp2_with (first
   |(go_at_call 101;refine(HC.out _ (ba (ba (Below.refl _ w) _) _)).mono ?_;rintro r w1 ⟨rfl,hb⟩;obtain⟨hx,hy,hbb⟩:=new_two hb;obtain⟨c0,c1,c2,c3'⟩:=four hx;obtain⟨d0,d1,d2,d3,d4,d5,d6,d7⟩:=eight hy;have HXw1:=mH (And.intro hx hy);have HBw1:=mH hbb;clear hb hx hy hbb))
  go_ret
  exact⟨rfl,HBw1.out⟩
 |true=>
  rw [hok] at hR hEV
  rw [if_neg (by simp)] at hR
  rw [if_pos rfl] at hEV
  subst hEV
  clear hok
  by_cases hi:ic=0
  ·rw [if_neg (by omega)] at hR
   subst hi
   obtain⟨n,hn,hpr⟩:=hnd rfl
   subst hpr
   have HFN:=mH (HFN.out n hn)
   obtain⟨nid,npa,⟨nk,nq,nT⟩,npo,nts⟩:=n
   simp only at HF HT
   clear hnd hn
   cases fl with
   |true=>
    rw [if_pos rfl] at hR
    subst hR
    clear HT
    go_enter Tryz.func118,Tryz.ntmps118
    go_wp2_with (first
     |(go_at_call 101;refine(HC.out _ (ba (ba (Below.refl _ w) _) _)).mono ?_;rintro r w1 ⟨rfl,hb⟩;obtain⟨hx,hy,hbb⟩:=new_two hb;obtain⟨c0,c1,c2,c3'⟩:=four hx;obtain⟨d0,d1,d2,d3,d4,d5,d6,d7⟩:=eight hy;have HXw1:=mH (And.intro hx hy);have HBw1:=mH hbb;clear hb hx hy hbb)
     |(go_at_call 148;refine(HI.out _ HBw1.out).mono ?_;rintro r w2 ⟨rfl,hb⟩;have hx:=bLt HXw1.out.1 hb;have hy:=bLt HXw1.out.2 hb;have hbb:=bt HBw1.out hb;clear c0 c1 c2 c3' d0 d1 d2 d3 d4 d5 d6 d7;obtain⟨c0,c1,c2,c3'⟩:=four hx;obtain⟨d0,d1,d2,d3,d4,d5,d6,d7⟩:=eight hy;have HXw2:=mH (And.intro hx hy);have HBw2:=mH hbb;clear hb hx hy hbb)
     |(go_at_call 149;refine(HFN.out _ HBw2.out).mono ?_;rintro r w3 ⟨a3,c3,rfl,_,hb⟩;have hx:=bLt HXw2.out.1 hb;have hy:=bLt HXw2.out.2 hb;have hbb:=bt HBw2.out hb;clear c0 c1 c2 c3' d0 d1 d2 d3 d4 d5 d6 d7;obtain⟨c0,c1,c2,c3'⟩:=four hx;obtain⟨d0,d1,d2,d3,d4,d5,d6,d7⟩:=eight hy;have HXw3:=mH (And.intro hx hy);have HBw3:=mH hbb;have HO:=trivial;simp only [vNp,vNd,tvN];clear hb hx hy hbb)
     |(go_at_call 146;refine(HF.out _ (ba HBw3.out _)).mono ?_;rintro r w4 ⟨rfl,hb⟩;have hx:=bLt ((heap_alloc_old w3 (.cells #[.int .i64 nid,.int .i64 npa,.int .i64 nk,.int .i64 nq,.int .i64 nT,.int .i64 npo,.slice a3 nts.length c3] 69) (lOh HXw3.out.1)).trans HXw3.out.1) hb;have hy:=bLt ((heap_alloc_old w3 (.cells #[.int .i64 nid,.int .i64 npa,.int .i64 nk,.int .i64 nq,.int .i64 nT,.int .i64 npo,.slice a3 nts.length c3] 69) (lOh HXw3.out.2)).trans HXw3.out.2) hb;have hz:=bLt (heap_alloc_new w3 (.cells #[.int .i64 nid,.int .i64 npa,.int .i64 nk,.int .i64 nq,.int .i64 nT,.int .i64 npo,.slice a3 nts.length c3] 69)) hb;have hbb:=bt (ba HBw3.out (.cells #[.int .i64 nid,.int .i64 npa,.int .i64 nk,.int .i64 nq,.int .i64 nT,.int .i64 npo,.slice a3 nts.length c3] 69)) hb;clear c0 c1 c2 c3' d0 d1 d2 d3 d4 d5 d6 d7;obtain⟨c0,c1,c2,c3'⟩:=four hx;obtain⟨d0,d1,d2,d3,d4,d5,d6,d7⟩:=eight hy;obtain⟨n0,n1,n2,n3,n4,n5,n6⟩:=nd_cells hz;have HXw4:=mH (And.intro hx hy);have HBw4:=mH hbb;clear hb hx hy hz hbb))
    go_ret
    exact⟨rfl,HBw4.out⟩
   |false=>
    rw [if_neg (by simp)] at hR
    cases ft with
    |true=>
     rw [if_neg (by simp)] at hR
     subst hR
     go_enter Tryz.func118,Tryz.ntmps118
     go_wp2_with (first
      |(go_at_call 101;refine(HC.out _ (ba (ba (Below.refl _ w) _) _)).mono ?_;rintro r w1 ⟨rfl,hb⟩;obtain⟨hx,hy,hbb⟩:=new_two hb;obtain⟨c0,c1,c2,c3'⟩:=four hx;obtain⟨d0,d1,d2,d3,d4,d5,d6,d7⟩:=eight hy;have HXw1:=mH (And.intro hx hy);have HBw1:=mH hbb;clear hb hx hy hbb)
      |(go_at_call 148;refine(HI.out _ HBw1.out).mono ?_;rintro r w2 ⟨rfl,hb⟩;have hx:=bLt HXw1.out.1 hb;have hy:=bLt HXw1.out.2 hb;have hbb:=bt HBw1.out hb;clear c0 c1 c2 c3' d0 d1 d2 d3 d4 d5 d6 d7;obtain⟨c0,c1,c2,c3'⟩:=four hx;obtain⟨d0,d1,d2,d3,d4,d5,d6,d7⟩:=eight hy;have HXw2:=mH (And.intro hx hy);have HBw2:=mH hbb;clear hb hx hy hbb)
      |(go_at_call 149;refine(HFN.out _ HBw2.out).mono ?_;rintro r w3 ⟨a3,c3,rfl,_,hb⟩;have hx:=bLt HXw2.out.1 hb;have hy:=bLt HXw2.out.2 hb;have hbb:=bt HBw2.out hb;clear c0 c1 c2 c3' d0 d1 d2 d3 d4 d5 d6 d7;obtain⟨c0,c1,c2,c3'⟩:=four hx;obtain⟨d0,d1,d2,d3,d4,d5,d6,d7⟩:=eight hy;have HXw3:=mH (And.intro hx hy);have HBw3:=mH hbb;have HO:=trivial;simp only [vNp,vNd,tvN];clear hb hx hy hbb)
      |(go_at_call 146;refine(HF.out _ (ba HBw3.out _)).mono ?_;rintro r w4 ⟨rfl,hb⟩;have hx:=bLt ((heap_alloc_old w3 (.cells #[.int .i64 nid,.int .i64 npa,.int .i64 nk,.int .i64 nq,.int .i64 nT,.int .i64 npo,.slice a3 nts.length c3] 69) (lOh HXw3.out.1)).trans HXw3.out.1) hb;have hy:=bLt ((heap_alloc_old w3 (.cells #[.int .i64 nid,.int .i64 npa,.int .i64 nk,.int .i64 nq,.int .i64 nT,.int .i64 npo,.slice a3 nts.length c3] 69) (lOh HXw3.out.2)).trans HXw3.out.2) hb;have hz:=bLt (heap_alloc_new w3 (.cells #[.int .i64 nid,.int .i64 npa,.int .i64 nk,.int .i64 nq,.int .i64 nT,.int .i64 npo,.slice a3 nts.length c3] 69)) hb;have hbb:=bt (ba HBw3.out (.cells #[.int .i64 nid,.int .i64 npa,.int .i64 nk,.int .i64 nq,.int .i64 nT,.int .i64 npo,.slice a3 nts.length c3] 69)) hb;clear c0 c1 c2 c3' d0 d1 d2 d3 d4 d5 d6 d7;obtain⟨c0,c1,c2,c3'⟩:=four hx;obtain⟨d0,d1,d2,d3,d4,d5,d6,d7⟩:=eight hy;obtain⟨n0,n1,n2,n3,n4,n5,n6⟩:=nd_cells hz;have HXw4:=mH (And.intro hx hy);have HBw4:=mH hbb;clear hb hx hy hz hbb)
      |(go_at_call 147;refine(HT.out _ HBw4.out).mono ?_;rintro r w5 ⟨rfl,hb⟩;have hx:=bLt HXw4.out.1 hb;have hy:=bLt HXw4.out.2 hb;have hbb:=bt HBw4.out hb;clear c0 c1 c2 c3' d0 d1 d2 d3 d4 d5 d6 d7;obtain⟨c0,c1,c2,c3'⟩:=four hx;obtain⟨d0,d1,d2,d3,d4,d5,d6,d7⟩:=eight hy;have HXw5:=mH (And.intro hx hy);have HBw5:=mH hbb;clear hb hx hy hbb))
     go_ret
     exact⟨rfl,HBw5.out⟩
    |false=>
     rw [if_pos rfl] at hR
     subst hR
     go_enter Tryz.func118,Tryz.ntmps118
     go_wp2_with (first
      |(go_at_call 101;refine(HC.out _ (ba (ba (Below.refl _ w) _) _)).mono ?_;rintro r w1 ⟨rfl,hb⟩;obtain⟨hx,hy,hbb⟩:=new_two hb;obtain⟨c0,c1,c2,c3'⟩:=four hx;obtain⟨d0,d1,d2,d3,d4,d5,d6,d7⟩:=eight hy;have HXw1:=mH (And.intro hx hy);have HBw1:=mH hbb;clear hb hx hy hbb)
      |(go_at_call 148;refine(HI.out _ HBw1.out).mono ?_;rintro r w2 ⟨rfl,hb⟩;have hx:=bLt HXw1.out.1 hb;have hy:=bLt HXw1.out.2 hb;have hbb:=bt HBw1.out hb;clear c0 c1 c2 c3' d0 d1 d2 d3 d4 d5 d6 d7;obtain⟨c0,c1,c2,c3'⟩:=four hx;obtain⟨d0,d1,d2,d3,d4,d5,d6,d7⟩:=eight hy;have HXw2:=mH (And.intro hx hy);have HBw2:=mH hbb;clear hb hx hy hbb)
      |(go_at_call 149;refine(HFN.out _ HBw2.out).mono ?_;rintro r w3 ⟨a3,c3,rfl,_,hb⟩;have hx:=bLt HXw2.out.1 hb;have hy:=bLt HXw2.out.2 hb;have hbb:=bt HBw2.out hb;clear c0 c1 c2 c3' d0 d1 d2 d3 d4 d5 d6 d7;obtain⟨c0,c1,c2,c3'⟩:=four hx;obtain⟨d0,d1,d2,d3,d4,d5,d6,d7⟩:=eight hy;have HXw3:=mH (And.intro hx hy);have HBw3:=mH hbb;have HO:=trivial;simp only [vNp,vNd,tvN];clear hb hx hy hbb)
      |(go_at_call 146;refine(HF.out _ (ba HBw3.out _)).mono ?_;rintro r w4 ⟨rfl,hb⟩;have hx:=bLt ((heap_alloc_old w3 (.cells #[.int .i64 nid,.int .i64 npa,.int .i64 nk,.int .i64 nq,.int .i64 nT,.int .i64 npo,.slice a3 nts.length c3] 69) (lOh HXw3.out.1)).trans HXw3.out.1) hb;have hy:=bLt ((heap_alloc_old w3 (.cells #[.int .i64 nid,.int .i64 npa,.int .i64 nk,.int .i64 nq,.int .i64 nT,.int .i64 npo,.slice a3 nts.length c3] 69) (lOh HXw3.out.2)).trans HXw3.out.2) hb;have hz:=bLt (heap_alloc_new w3 (.cells #[.int .i64 nid,.int .i64 npa,.int .i64 nk,.int .i64 nq,.int .i64 nT,.int .i64 npo,.slice a3 nts.length c3] 69)) hb;have hbb:=bt (ba HBw3.out (.cells #[.int .i64 nid,.int .i64 npa,.int .i64 nk,.int .i64 nq,.int .i64 nT,.int .i64 npo,.slice a3 nts.length c3] 69)) hb;clear c0 c1 c2 c3' d0 d1 d2 d3 d4 d5 d6 d7;obtain⟨c0,c1,c2,c3'⟩:=four hx;obtain⟨d0,d1,d2,d3,d4,d5,d6,d7⟩:=eight hy;obtain⟨n0,n1,n2,n3,n4,n5,n6⟩:=nd_cells hz;have HXw4:=mH (And.intro hx hy);have HBw4:=mH hbb;clear hb hx hy hz hbb)
      |(go_at_call 147;refine(HT.out _ HBw4.out).mono ?_;rintro r w5 ⟨rfl,hb⟩;have hx:=bLt HXw4.out.1 hb;have hy:=bLt HXw4.out.2 hb;have hbb:=bt HBw4.out hb;clear c0 c1 c2 c3' d0 d1 d2 d3 d4 d5 d6 d7;obtain⟨c0,c1,c2,c3'⟩:=four hx;obtain⟨d0,d1,d2,d3,d4,d5,d6,d7⟩:=eight hy;have HXw5:=mH (And.intro hx hy);have HBw5:=mH hbb;clear hb hx hy hbb))
     go_ret
     exact⟨rfl,HBw5.out⟩
  ·rw [if_pos hi] at hR
   have hi':(ic == 0)=false:=by simpa using hi
   subst hR
   clear HFN HF HT hnd
   go_enter Tryz.func118,Tryz.ntmps118
   go_wp2_with (first
    |(go_at_call 101;refine(HC.out _ (ba (ba (Below.refl _ w) _) _)).mono ?_;rintro r w1 ⟨rfl,hb⟩;obtain⟨hx,hy,hbb⟩:=new_two hb;obtain⟨c0,c1,c2,c3'⟩:=four hx;obtain⟨d0,d1,d2,d3,d4,d5,d6,d7⟩:=eight hy;have HXw1:=mH (And.intro hx hy);have HBw1:=mH hbb;clear hb hx hy hbb)
    |(go_at_call 148;refine(HI.out _ HBw1.out).mono ?_;rintro r w2 ⟨rfl,hb⟩;have hx:=bLt HXw1.out.1 hb;have hy:=bLt HXw1.out.2 hb;have hbb:=bt HBw1.out hb;clear c0 c1 c2 c3' d0 d1 d2 d3 d4 d5 d6 d7;obtain⟨c0,c1,c2,c3'⟩:=four hx;obtain⟨d0,d1,d2,d3,d4,d5,d6,d7⟩:=eight hy;have HXw2:=mH (And.intro hx hy);have HBw2:=mH hbb;clear hb hx hy hbb))
   go_ret
   exact⟨rfl,HBw2.out⟩
set_option maxHeartbeats 25600000 in
theorem bdC_is (A:Ops) (w:World) (t:Tr) (nv gv:Value) (ps:List Np) (o:Od) (oa:Option Addr) (oc:Nat) (R:Int) (a:Nat->Addr) (h:TrW w nv gv ps t) (hs:t.Sm 1000) (E:Er6 w a) (hot:Tks w (.slice oa o.ts.length oc) o.ts) (hoc:o.ts.length<=oc) (hR:R=t.bdC A o) :
  Calls Tryz.prog 123 #[vTr nv gv t,vOd o (.slice oa o.ts.length oc)] w fun e w'=>e=.returned (.int .i64 R)/\Below w.heap.size w w':=by
 obtain⟨EV,hEV⟩:∃ EV,EV=if A.okg o.po o.ts=true then Value.nilIface else vE (a 10):=⟨_,rfl⟩
 have HC:Hid (∀ W,Below w.heap.size w W->Calls Tryz.prog 103 #[.int .i64 o.po,.slice oa o.ts.length oc] W fun e w'=>e=.returned (EV)/\Below W.heap.size W w'):=mH (fun W hW=>checkG_is A W o.po _ o.ts a (hot.below hW) (E.late hW) EV (fun h=>by rw [hEV,if_pos h]) (fun h=>by rw [hEV,if_neg (by rw [h];simp)]))
 have HI:Hid (∀ W,Below w.heap.size w W->Calls Tryz.prog 148 #[vTr nv gv t,.int .i64 o.id] W fun e w'=>e=.returned (.int .i64 (t.idleC o.id))/\Below W.heap.size W w'):=mH (fun W hW=>idleC_is W t nv gv ps o.id _ (h.below hW) hs rfl)
 have HFN:Hid (∀ n,t.nd o.id=some n->∀ W,Below w.heap.size w W->Calls Tryz.prog 149 #[vTr nv gv t,.int .i64 o.id] W fun e w'=>∃ a2 c2,e=.returned (.tuple #[vNp (n,a2,c2),.bool true])/\w'.ownsRow W.heap.size 45 4 (.slice a2 n.ts.length c2) n.ts.length (n.ts.flatMap c4)/\Below W.heap.size W w'):=mH (fun n hn W hW=>find_yes W t nv gv ps o.id n (h.below hW) hn (by have:=hs.s n (nd_some hn).1;omega))
 obtain⟨EG,hEG,hEb⟩:∃ EG,EG=ev6 a (A.g (t.own o.id) o.po o.ts)/\((A.g (t.own o.id) o.po o.ts=0/\EG=.nilIface) ∨ (¬ A.g (t.own o.id) o.po o.ts=0/\∃ ea,EG=vE ea)):=by
  refine⟨_,rfl, ?_⟩
  rcases (A.hg (t.own o.id) o.po o.ts).codes with e | e | e | e <;> rw [e]
  ·exact .inl ⟨rfl,rfl⟩
  ·exact .inr ⟨by decide,_,rfl⟩
  ·exact .inr ⟨by decide,_,rfl⟩
  ·exact .inr ⟨by decide,_,rfl⟩
 have HG:Hid (∀ W,Below w.heap.size w W->Calls Tryz.prog 155 #[vS (t.own o.id),.int .i64 o.po,.slice oa o.ts.length oc] W fun e w'=>e=.returned (EG)/\Below W.heap.size W w'):=mH (fun W hW=>by rw [hEG];exact guestA_is W (t.own o.id) o.po oa oc o.ts a _ (hot.below hW) hoc (E.late hW) (A.hg _ _ _))
 have hnd:t.idleC o.id=0->∃ n,t.nd o.id=some n/\t.own o.id=n.sv:=fun hi=>by
  obtain⟨⟨n,hn⟩,_⟩:=leaf_facts (idleC_zero hi).1
  exact⟨n,hn,own_of hn⟩
 unfold Tr.bdC at hR
 obtain⟨a1,cap,rfl,_⟩:=h.n.row.shape
 obtain⟨a2,cap2,rfl,_⟩:=h.g.shape
 obtain⟨ki,id,⟨sk,sq,sT⟩,po,ts,tm⟩:=o
 simp only at hR HC HI HFN HG hEV hnd hEb
 clear h hs E hot hoc hEG
 generalize A.g (t.own id) po ts=gc at *
 generalize t.own id=ow at *
 generalize t.idleC id=ic at *
 simp only [vOd]
 cases hok:A.okg po ts with
 |false=>
  rw [hok] at hR hEV
  rw [if_pos rfl] at hR
  rw [if_neg (by simp)] at hEV
  subst hR hEV
  clear hok HI HFN HG hnd hEb
  go_enter Tryz.func123,Tryz.ntmps123
  go_wp2_with (first
   |(go_at_call 103;refine(HC.out _ (ba (ba (Below.refl _ w) _) _)).mono ?_;rintro r w1 ⟨rfl,hb⟩;obtain⟨hx,hy,hbb⟩:=new_two hb;obtain⟨c0,c1,c2,c3'⟩:=four hx;obtain⟨d0,d1,d2,d3,d4,d5,d6,d7⟩:=eight hy;have HXw1:=mH (And.intro hx hy);have HBw1:=mH hbb;clear hb hx hy hbb))
  go_ret
  exact⟨rfl,HBw1.out⟩
 |true=>
  rw [hok] at hR hEV
  rw [if_neg (by simp)] at hR
  rw [if_pos rfl] at hEV
  subst hEV
  clear hok
  by_cases hi:ic=0
  ·rw [if_neg (by omega)] at hR
   subst hi
   obtain⟨n,hn,hpr⟩:=hnd rfl
   subst hpr
   have HFN:=mH (HFN.out n hn)
   obtain⟨nid,npa,⟨nk,nq,nT⟩,npo,nts⟩:=n
   simp only at HG
   clear hnd hn
   rcases hEb with ⟨e1,rfl⟩ | ⟨e1,ea,rfl⟩
   ·rw [if_neg (by omega)] at hR
    subst hR
    clear e1
    go_enter Tryz.func123,Tryz.ntmps123
    go_wp2_with (first
     |(go_at_call 103;refine(HC.out _ (ba (ba (Below.refl _ w) _) _)).mono ?_;rintro r w1 ⟨rfl,hb⟩;obtain⟨hx,hy,hbb⟩:=new_two hb;obtain⟨c0,c1,c2,c3'⟩:=four hx;obtain⟨d0,d1,d2,d3,d4,d5,d6,d7⟩:=eight hy;have HXw1:=mH (And.intro hx hy);have HBw1:=mH hbb;clear hb hx hy hbb)
     |(go_at_call 148;refine(HI.out _ HBw1.out).mono ?_;rintro r w2 ⟨rfl,hb⟩;have hx:=bLt HXw1.out.1 hb;have hy:=bLt HXw1.out.2 hb;have hbb:=bt HBw1.out hb;clear c0 c1 c2 c3' d0 d1 d2 d3 d4 d5 d6 d7;obtain⟨c0,c1,c2,c3'⟩:=four hx;obtain⟨d0,d1,d2,d3,d4,d5,d6,d7⟩:=eight hy;have HXw2:=mH (And.intro hx hy);have HBw2:=mH hbb;clear hb hx hy hbb)
     |(go_at_call 149;refine(HFN.out _ HBw2.out).mono ?_;rintro r w3 ⟨a3,c3,rfl,_,hb⟩;have hx:=bLt HXw2.out.1 hb;have hy:=bLt HXw2.out.2 hb;have hbb:=bt HBw2.out hb;clear c0 c1 c2 c3' d0 d1 d2 d3 d4 d5 d6 d7;obtain⟨c0,c1,c2,c3'⟩:=four hx;obtain⟨d0,d1,d2,d3,d4,d5,d6,d7⟩:=eight hy;have HXw3:=mH (And.intro hx hy);have HBw3:=mH hbb;have HO:=trivial;simp only [vNp,vNd,tvN];clear hb hx hy hbb)
     |(go_at_call 155;refine(HG.out _ (ba HBw3.out _)).mono ?_;rintro r w4 ⟨rfl,hb⟩;have hx:=bLt ((heap_alloc_old w3 (.cells #[.int .i64 nid,.int .i64 npa,.int .i64 nk,.int .i64 nq,.int .i64 nT,.int .i64 npo,.slice a3 nts.length c3] 69) (lOh HXw3.out.1)).trans HXw3.out.1) hb;have hy:=bLt ((heap_alloc_old w3 (.cells #[.int .i64 nid,.int .i64 npa,.int .i64 nk,.int .i64 nq,.int .i64 nT,.int .i64 npo,.slice a3 nts.length c3] 69) (lOh HXw3.out.2)).trans HXw3.out.2) hb;have hz:=bLt (heap_alloc_new w3 (.cells #[.int .i64 nid,.int .i64 npa,.int .i64 nk,.int .i64 nq,.int .i64 nT,.int .i64 npo,.slice a3 nts.length c3] 69)) hb;have hbb:=bt (ba HBw3.out (.cells #[.int .i64 nid,.int .i64 npa,.int .i64 nk,.int .i64 nq,.int .i64 nT,.int .i64 npo,.slice a3 nts.length c3] 69)) hb;clear c0 c1 c2 c3' d0 d1 d2 d3 d4 d5 d6 d7;obtain⟨c0,c1,c2,c3'⟩:=four hx;obtain⟨d0,d1,d2,d3,d4,d5,d6,d7⟩:=eight hy;obtain⟨n0,n1,n2,n3,n4,n5,n6⟩:=nd_cells hz;have HXw4:=mH (And.intro hx hy);have HBw4:=mH hbb;clear hb hx hy hz hbb))
    go_ret
    exact⟨rfl,HBw4.out⟩
   ·rw [if_pos e1] at hR
    subst hR
    clear e1
    go_enter Tryz.func123,Tryz.ntmps123
    go_wp2_with (first
     |(go_at_call 103;refine(HC.out _ (ba (ba (Below.refl _ w) _) _)).mono ?_;rintro r w1 ⟨rfl,hb⟩;obtain⟨hx,hy,hbb⟩:=new_two hb;obtain⟨c0,c1,c2,c3'⟩:=four hx;obtain⟨d0,d1,d2,d3,d4,d5,d6,d7⟩:=eight hy;have HXw1:=mH (And.intro hx hy);have HBw1:=mH hbb;clear hb hx hy hbb)
     |(go_at_call 148;refine(HI.out _ HBw1.out).mono ?_;rintro r w2 ⟨rfl,hb⟩;have hx:=bLt HXw1.out.1 hb;have hy:=bLt HXw1.out.2 hb;have hbb:=bt HBw1.out hb;clear c0 c1 c2 c3' d0 d1 d2 d3 d4 d5 d6 d7;obtain⟨c0,c1,c2,c3'⟩:=four hx;obtain⟨d0,d1,d2,d3,d4,d5,d6,d7⟩:=eight hy;have HXw2:=mH (And.intro hx hy);have HBw2:=mH hbb;clear hb hx hy hbb)
     |(go_at_call 149;refine(HFN.out _ HBw2.out).mono ?_;rintro r w3 ⟨a3,c3,rfl,_,hb⟩;have hx:=bLt HXw2.out.1 hb;have hy:=bLt HXw2.out.2 hb;have hbb:=bt HBw2.out hb;clear c0 c1 c2 c3' d0 d1 d2 d3 d4 d5 d6 d7;obtain⟨c0,c1,c2,c3'⟩:=four hx;obtain⟨d0,d1,d2,d3,d4,d5,d6,d7⟩:=eight hy;have HXw3:=mH (And.intro hx hy);have HBw3:=mH hbb;have HO:=trivial;simp only [vNp,vNd,tvN];clear hb hx hy hbb)
     |(go_at_call 155;refine(HG.out _ (ba HBw3.out _)).mono ?_;rintro r w4 ⟨rfl,hb⟩;have hx:=bLt ((heap_alloc_old w3 (.cells #[.int .i64 nid,.int .i64 npa,.int .i64 nk,.int .i64 nq,.int .i64 nT,.int .i64 npo,.slice a3 nts.length c3] 69) (lOh HXw3.out.1)).trans HXw3.out.1) hb;have hy:=bLt ((heap_alloc_old w3 (.cells #[.int .i64 nid,.int .i64 npa,.int .i64 nk,.int .i64 nq,.int .i64 nT,.int .i64 npo,.slice a3 nts.length c3] 69) (lOh HXw3.out.2)).trans HXw3.out.2) hb;have hz:=bLt (heap_alloc_new w3 (.cells #[.int .i64 nid,.int .i64 npa,.int .i64 nk,.int .i64 nq,.int .i64 nT,.int .i64 npo,.slice a3 nts.length c3] 69)) hb;have hbb:=bt (ba HBw3.out (.cells #[.int .i64 nid,.int .i64 npa,.int .i64 nk,.int .i64 nq,.int .i64 nT,.int .i64 npo,.slice a3 nts.length c3] 69)) hb;clear c0 c1 c2 c3' d0 d1 d2 d3 d4 d5 d6 d7;obtain⟨c0,c1,c2,c3'⟩:=four hx;obtain⟨d0,d1,d2,d3,d4,d5,d6,d7⟩:=eight hy;obtain⟨n0,n1,n2,n3,n4,n5,n6⟩:=nd_cells hz;have HXw4:=mH (And.intro hx hy);have HBw4:=mH hbb;clear hb hx hy hz hbb))
    go_ret
    exact⟨rfl,HBw4.out⟩
  ·rw [if_pos hi] at hR
   have hi':(ic == 0)=false:=by simpa using hi
   subst hR
   clear HFN HG hnd hEb
   go_enter Tryz.func123,Tryz.ntmps123
   go_wp2_with (first
    |(go_at_call 103;refine(HC.out _ (ba (ba (Below.refl _ w) _) _)).mono ?_;rintro r w1 ⟨rfl,hb⟩;obtain⟨hx,hy,hbb⟩:=new_two hb;obtain⟨c0,c1,c2,c3'⟩:=four hx;obtain⟨d0,d1,d2,d3,d4,d5,d6,d7⟩:=eight hy;have HXw1:=mH (And.intro hx hy);have HBw1:=mH hbb;clear hb hx hy hbb)
    |(go_at_call 148;refine(HI.out _ HBw1.out).mono ?_;rintro r w2 ⟨rfl,hb⟩;have hx:=bLt HXw1.out.1 hb;have hy:=bLt HXw1.out.2 hb;have hbb:=bt HBw1.out hb;clear c0 c1 c2 c3' d0 d1 d2 d3 d4 d5 d6 d7;obtain⟨c0,c1,c2,c3'⟩:=four hx;obtain⟨d0,d1,d2,d3,d4,d5,d6,d7⟩:=eight hy;have HXw2:=mH (And.intro hx hy);have HBw2:=mH hbb;clear hb hx hy hbb))
   go_ret
   exact⟨rfl,HBw2.out⟩
theorem fl_set {α:Type} (f:α->List Value) (n:Nat) (hf:∀ x,(f x).length=n):∀ (xs:List α) (j r:Nat) (x y:α) (u:Value),xs[j]?=some x->r < n->f y=(f x).set r u->(xs.flatMap f).set (j * n+r) u=(xs.set j y).flatMap f
 |[],j,r,x,y,u,hx,_,_=>by simp at hx
 |z :: l,0,r,x,y,u,hx,hr,hy=>by
  simp at hx
  subst hx
  rw [List.flatMap_cons,Nat.zero_mul,Nat.zero_add,List.set_append_left _ _ (by rw [hf];exact hr),List.set_cons_zero,List.flatMap_cons,hy]
 |z :: l,j+1,r,x,y,u,hx,hr,hy=>by
  simp at hx
  have e:(j+1) * n+r - n=j * n+r:=by rw [Nat.add_mul];omega
  rw [List.flatMap_cons,List.set_append_right _ _ (by rw [hf,Nat.add_mul];omega),hf,e,fl_set f n hf l j r x y u hx hr hy,List.set_cons_succ,List.flatMap_cons]
theorem own_put {w:World} {base:Nat} {e:TypeId} {size g n cap:Nat} {xs:List Value} (h:w.ownsRow base e size (.slice (some ⟨g,0,none⟩) n cap) n xs) (k:Nat) (u:Value):(w.setCell ⟨g,k,none⟩ u).ownsRow base e size (.slice (some ⟨g,0,none⟩) n cap) n (xs.set k u):=by
 refine⟨by rw [List.length_set];exact h.1, ?_⟩
 rcases h.2 with ⟨e,_⟩ | ⟨g',cap',cur,e1,hb,hg,h1,h2,h3,h4⟩
 ·simp at e
 ·simp only [Value.slice.injEq,Option.some.injEq,Addr.mk.injEq] at e1
  obtain⟨⟨rfl,_⟩,_,rfl⟩:=e1
  refine .inr ⟨g,cap,cur.set! k u,rfl,hb,hSt hg,h1,h2,by simpa using h3, ?_⟩
  rw [<- h4]
  simp [List.take_set]
theorem own_cell {w:World} {base:Nat} {e:TypeId} {size g n cap:Nat} {xs:List Value} (h:w.ownsRow base e size (.slice (some ⟨g,0,none⟩) n cap) n xs) {k:Nat} {u:Value} (hk:xs[k]?=some u):w.cell? ⟨g,k,none⟩=some u/\w.frozen? ⟨g,k,none⟩=false:=by
 rcases h.2 with ⟨e,_⟩ | ⟨g',cap',cur,e1,hb,hg,h1,h2,h3,h4⟩
 ·simp at e
 ·simp only [Value.slice.injEq,Option.some.injEq,Addr.mk.injEq] at e1
  obtain⟨⟨rfl,_⟩,_,rfl⟩:=e1
  refine⟨cOb hg ?_,fOb hg⟩
  rw [<- h4,List.getElem?_take] at hk
  split at hk
  ·simpa using hk
  ·cases hk
theorem own_addr {w:World} {base:Nat} {e:TypeId} {size n m:Nat} {v:Value} {xs:List Value} (h:w.ownsRow base e size v n xs) (hp:m < n):∃ g cap,v=.slice (some ⟨g,0,none⟩) n cap/\base<=g/\g < w.heap.size:=by
 rcases h.2 with ⟨_,e⟩ | ⟨g',cap',cur,e1,hb,hg,_⟩
 ·omega
 ·exact⟨g',cap',e1,hb,lOh hg⟩
theorem ghost_cells {base:Nat} {w:World} {g n cap:Nat} {gs:List Gh} (h:w.ownsRow base 111 5 (.slice (some ⟨g,0,none⟩) n cap) n (gs.flatMap c5)) {j:Nat} {x:Gh} (hx:gs[j]?=some x):(w.cell? ⟨g,j * 5,none⟩=some (.int .i64 x.pa)/\w.cell? ⟨g,j * 5+1,none⟩=some (.int .i64 x.sv.1)/\w.cell? ⟨g,j * 5+2,none⟩=some (.int .i64 x.sv.2.1)/\w.cell? ⟨g,j * 5+3,none⟩=some (.int .i64 x.sv.2.2)/\w.cell? ⟨g,j * 5+4,none⟩=some (.int .i64 x.un))/\(w.frozen? ⟨g,j * 5,none⟩=false/\w.frozen? ⟨g,j * 5+1,none⟩=false/\w.frozen? ⟨g,j * 5+2,none⟩=false/\w.frozen? ⟨g,j * 5+3,none⟩=false/\w.frozen? ⟨g,j * 5+4,none⟩=false):=by
 have q:∀ r u,r < 5->(c5 x)[r]?=some u->w.cell? ⟨g,j * 5+r,none⟩=some u/\w.frozen? ⟨g,j * 5+r,none⟩=false:=fun r u hr hu=>own_cell h ((fl_get c5 5 c5_len _ j r x hx hr).trans hu)
 exact⟨⟨(q 0 _ (by omega) rfl).1,(q 1 _ (by omega) rfl).1,(q 2 _ (by omega) rfl).1,(q 3 _ (by omega) rfl).1,(q 4 _ (by omega) rfl).1⟩,(q 0 _ (by omega) rfl).2,(q 1 _ (by omega) rfl).2,(q 2 _ (by omega) rfl).2,(q 3 _ (by omega) rfl).2,(q 4 _ (by omega) rfl).2⟩
theorem node_cells {base:Nat} {w:World} {g n cap:Nat} {ps:List Np} (h:w.ownsRow base 69 7 (.slice (some ⟨g,0,none⟩) n cap) n (ps.flatMap c7)) {j:Nat} {x:Np} (hx:ps[j]?=some x):(w.cell? ⟨g,j * 7,none⟩=some (.int .i64 x.1.id)/\w.cell? ⟨g,j * 7+1,none⟩=some (.int .i64 x.1.pa)/\w.cell? ⟨g,j * 7+2,none⟩=some (.int .i64 x.1.sv.1)/\w.cell? ⟨g,j * 7+3,none⟩=some (.int .i64 x.1.sv.2.1)/\w.cell? ⟨g,j * 7+4,none⟩=some (.int .i64 x.1.sv.2.2)/\w.cell? ⟨g,j * 7+5,none⟩=some (.int .i64 x.1.po)/\w.cell? ⟨g,j * 7+6,none⟩=some (tvN x))/\(w.frozen? ⟨g,j * 7,none⟩=false/\w.frozen? ⟨g,j * 7+1,none⟩=false/\w.frozen? ⟨g,j * 7+2,none⟩=false/\w.frozen? ⟨g,j * 7+3,none⟩=false/\w.frozen? ⟨g,j * 7+4,none⟩=false/\w.frozen? ⟨g,j * 7+5,none⟩=false/\w.frozen? ⟨g,j * 7+6,none⟩=false):=by
 have q:∀ r u,r < 7->(c7 x)[r]?=some u->w.cell? ⟨g,j * 7+r,none⟩=some u/\w.frozen? ⟨g,j * 7+r,none⟩=false:=fun r u hr hu=>own_cell h ((fl_get c7 7 c7_len _ j r x hx hr).trans hu)
 exact⟨⟨(q 0 _ (by omega) rfl).1,(q 1 _ (by omega) rfl).1,(q 2 _ (by omega) rfl).1,(q 3 _ (by omega) rfl).1,(q 4 _ (by omega) rfl).1,(q 5 _ (by omega) rfl).1,(q 6 _ (by omega) rfl).1⟩,(q 0 _ (by omega) rfl).2,(q 1 _ (by omega) rfl).2,(q 2 _ (by omega) rfl).2,(q 3 _ (by omega) rfl).2,(q 4 _ (by omega) rfl).2,(q 5 _ (by omega) rfl).2,(q 6 _ (by omega) rfl).2⟩
theorem TrO.setG {base:Nat} {w:World} {nv:Value} {g n cap:Nat} {ps:List Np} {gs:List Gh} (h:TrO base w nv (.slice (some ⟨g,0,none⟩) n cap) ps gs) {j r:Nat} {x y:Gh} {u:Value} (hx:gs[j]?=some x) (hr:r < 5) (hy:c5 y=(c5 x).set r u):TrO base (w.setCell ⟨g,j * 5+r,none⟩ u) nv (.slice (some ⟨g,0,none⟩) n cap) ps (gs.set j y):=by
 have hk:=Kept.setCell (F:=fun k=>k=g) w (p:=⟨g,j * 5+r,none⟩) rfl u
 have hn:n=gs.length:=by obtain⟨_,_,e,_⟩:=own_sh h.gown;simp only [Value.slice.injEq] at e;exact e.2.1
 have hg:=h.gown
 rw [<- hn] at hg
 refine⟨oNk h.nown hk (fun k e e2=>h.ng k e (by rw [e2];rfl)),fun t ht=>oNk (h.tk t ht) hk (fun k e e2=>h.tg t ht k e (by rw [e2];rfl)), ?_,h.tn,h.tg,h.ng⟩
 have:=own_put hg (j * 5+r) u
 rw [fl_set c5 5 c5_len gs j r x y u hx hr hy] at this
 rw [List.length_set,<- hn]
 exact this
theorem TrP.setG {base:Nat} {w:World} {p:Nat} {nv:Value} {g n cap:Nat} {ps:List Np} {t:Tr} (h:TrP base w p nv (.slice (some ⟨g,0,none⟩) n cap) ps t) {j r:Nat} {x y:Gh} {u:Value} (hx:t.gs[j]?=some x) (hr:r < 5) (hy:c5 y=(c5 x).set r u):TrP base (w.setCell ⟨g,j * 5+r,none⟩ u) p nv (.slice (some ⟨g,0,none⟩) n cap) ps ⟨t.ns,t.gs.set j y,t.last,t.now⟩:=by
 have hk:=Kept.setCell (F:=fun k=>k=g) w (p:=⟨g,j * 5+r,none⟩) rfl u
 exact⟨(hk.block p (lOh h.blk) (fun e=>h.pg (by rw [e];rfl))).trans h.blk,h.o.setG hx hr hy,h.e,h.bp,h.pn,h.pg,h.pt⟩
theorem TrP.trw {base:Nat} {w:World} {p:Nat} {nv gv:Value} {ps:List Np} {t:Tr} (h:TrP base w p nv gv ps t) (hs:t.Sm 1000):TrW w nv gv ps t:=h.o.trw hs h.e
theorem setG_below {base:Nat} {W w:World} (hb:Below base W w) {g k:Nat} (hg:base<=g) (u:Value) (hB:base<=w.heap.size):Below base W (w.setCell ⟨g,k,none⟩ u):=hb.trans ((Kept.setCell (F:=fun k=>k=g) w (p:=⟨g,k,none⟩) rfl u).below (fun k e=>by omega) hB)
theorem hold_step (gs:List Gh) (i u:Int) (j:Nat) (x:Gh) (hx:gs[j]?=some x):((gs.take j).map (hold1 i u) ++ gs.drop j).set j (hold1 i u x)=(gs.take (j+1)).map (hold1 i u) ++ gs.drop (j+1):=by
 have hl:j < gs.length:=(List.getElem?_eq_some_iff.mp hx).1
 have e:gs.drop j=x :: gs.drop (j+1):=by
  rw [List.drop_eq_getElem_cons hl]
  congr 1
  exact(List.getElem?_eq_some_iff.mp hx).2
 rw [e,List.set_append_right _ _ (by simp;omega),List.take_add_one,hx,List.map_append]
 have:j - ((gs.take j).map (hold1 i u)).length=0:=by simp;omega
 rw [this]
 simp
theorem hold_at (gs:List Gh) (i u:Int) (j:Nat) (x:Gh) (hx:gs[j]?=some x):((gs.take j).map (hold1 i u) ++ gs.drop j)[j]?=some x:=by
 have hl:j < gs.length:=(List.getElem?_eq_some_iff.mp hx).1
 rw [List.getElem?_append_right (by simp;omega)]
 have:j - ((gs.take j).map (hold1 i u)).length=0:=by simp;omega
 rw [this,List.getElem?_drop,Nat.add_zero]
 exact hx
theorem hold_len (gs:List Gh) (i u:Int) (j:Nat):((gs.take j).map (hold1 i u) ++ gs.drop j).length=gs.length:=by simp;omega
theorem kept_new {F:Nat->Prop} {w w':World} (h:Below w.heap.size w w'):Kept F w w':=⟨h.os,h.tape,h.output,h.size,fun k hk _=>h.block k hk⟩
theorem set_same {α:Type} {xs:List α} {j:Nat} {x:α} (h:xs[j]?=some x):xs.set j x=xs:=by
 apply List.ext_getElem?
 intro k
 rw [List.getElem?_set]
 split
 ·rename_i e;subst e;rw [h];have:=(List.getElem?_eq_some_iff.mp h).1;simp [this]
 ·rfl
set_option maxHeartbeats 12800000 in
theorem hold_is (A:Ops) (base:Nat) (w:World) (p:Nat) (t:Tr) (nv gv:Value) (ps:List Np) (i:Int) (a:Nat->Addr) (h:TrP base w p nv gv ps t) (hs:t.Sm 1000) (hn0:0<=t.now) (hn1:t.now<=1099511627776) (E:Er6 w a) :
  Calls Tryz.prog 117 #[.pointer (some ⟨p,0,none⟩),.int .i64 i] w fun e w'=>(∃ v,e=.returned v)/\TrP base w' p nv gv ps (t.hold A i)/\Below base w w'/\Kept (fun k=>gv.ownBlock=some k) w w':=by
 obtain⟨U,hU⟩:∃ U,U=t.fr A i:=⟨_,rfl⟩
 have HF:Hid (∀ W,Below w.heap.size w W->Calls Tryz.prog 121 #[vTr nv gv t,.int .i64 i] W fun e w'=>e=.returned (.int .i64 U)/\Below W.heap.size W w'):=mH (fun W hW=>freed_is A W t nv gv ps i U a ((h.trw hs).below hW) hs hn0 hn1 (E.late hW) hU)
 have HG:Hid (t.hold A i=⟨t.ns,(t.gs.take t.gs.length).map (hold1 i U) ++ t.gs.drop t.gs.length,t.last,t.now⟩):=mH (by unfold Tr.hold;rw [hU,List.take_length,List.drop_length,List.append_nil])
 have hgl:=hs.g
 obtain⟨na,nc,hnv,_⟩:=own_sh h.o.nown
 obtain⟨ga,gc,hgv,_⟩:=own_sh h.o.gown
 subst hnv hgv
 obtain⟨c0,c1,c2,c3⟩:=h.cells
 have HH:=mH h
 have HBS:Hid (base<=w.heap.size):=mH (by have:=h.bp;have:=lOh h.blk;omega)
 clear h hs E hU
 go_enter Tryz.func117,Tryz.ntmps117
 go_wp2_with (go_at_call 121;refine(HF.out _ (Below.refl _ _)).mono ?_;rintro r w1 ⟨rfl,hb1⟩;have HH1:=mH (HH.out.below hb1);clear c0 c1 c2 c3;obtain⟨c0,c1,c2,c3⟩:=HH1.out.cells;have HB1:Hid ((Below base w w1/\Kept (fun k=>(Value.slice ga t.gs.length gc).ownBlock=some k) w w1)/\base<=w1.heap.size):=mH ⟨⟨hb1.mono HBS.out,kept_new hb1⟩,by have:=hb1.size;have:=HBS.out;omega⟩;clear hb1)
 go_loopw [17] (fun iv wr=>∃ (j:Nat),iv=.int .i64 (j:Int)/\j<=t.gs.length/\Hid (TrP base wr p (.slice na ps.length nc) (.slice ga t.gs.length gc) ps ⟨t.ns,(t.gs.take j).map (hold1 i U) ++ t.gs.drop j,t.last,t.now⟩)/\Hid ((Below base w wr/\Kept (fun k=>(Value.slice ga t.gs.length gc).ownBlock=some k) w wr)/\base<=wr.heap.size)) (fun iv _=>t.gs.length - (intOf iv).toNat)
 case atStart=>exact⟨0,rfl,Nat.zero_le _,mH (by simpa using HH1.out),HB1⟩
 case round=>
  clear HH1 HB1 c0 c1 c2 c3
  obtain⟨j,rfl,hj,HP,HB⟩:=hrel
  by_cases hlt:j < t.gs.length
  ·obtain⟨x,hx⟩:∃ x,t.gs[j]?=some x:=⟨_,List.getElem?_eq_getElem hlt⟩
   have HAT:=mH (hold_at t.gs i U j x hx)
   have HST:=mH (hold_step t.gs i U j x hx)
   obtain⟨g,cap,hga,hbg,hgl'⟩:=own_addr HP.out.o.gown (by rw [hold_len];exact hlt)
   simp only [Value.slice.injEq] at hga
   obtain⟨rfl,hlen,rfl⟩:=hga
   clear hlen
   have hgo:=HP.out.o.gown
   rw [hold_len] at hgo
   obtain⟨⟨q0,q1,q2,q3,q4⟩,f0,f1,f2,f3,f4⟩:=ghost_cells hgo HAT.out
   obtain⟨c0,c1,c2,c3⟩:=HP.out.cells
   have HGB:=mH (And.intro hbg hgl')
   obtain⟨pa,⟨k,q,T⟩,un⟩:=x
   simp only at q0 q1 q2 q3 q4
   have hji:(j:Int) < t.gs.length:=by omega
   clear hx hgo hbg hgl'
   by_cases hpi:pa=i
   ·have he:hold1 i U ⟨pa,(k,q,T),un⟩=⟨pa,(k,q,T),max un U⟩:=if_pos hpi
    rw [he] at HST
    have HY:Hid (c5 ⟨pa,(k,q,T),max un U⟩=(c5 ⟨pa,(k,q,T),un⟩).set 4 (.int .i64 (max un U))):=mH rfl
    subst hpi
    clear he
    go_wp2
    obtain⟨W,hW⟩:∃ W,W=wr.alloc (.cells #[.int .i64 pa,.int .i64 k,.int .i64 q,.int .i64 T,.int .i64 un] 111):=⟨_,rfl⟩
    have HPW:Hid (TrP base W p (.slice na ps.length nc) (.slice (some ⟨g,0,none⟩) t.gs.length gc) ps ⟨t.ns,(t.gs.take j).map (hold1 pa U) ++ t.gs.drop j,t.last,t.now⟩):=mH (by rw [hW];exact HP.out.below (ba (Below.refl _ _) _))
    have hbx:W.heap[wr.heap.size]?=some (.cells #[.int .i64 pa,.int .i64 k,.int .i64 q,.int .i64 T,.int .i64 un] 111 (0,0)):=by rw [hW];exact heap_alloc_new wr _
    have HBW:Hid ((Below base w W/\Kept (fun k=>(Value.slice (some ⟨g,0,none⟩) t.gs.length gc).ownBlock=some k) w W)/\base<=W.heap.size):=mH (by rw [hW];exact⟨⟨HB.out.1.1.alloc HB.out.2 _,HB.out.1.2.trans (Kept.alloc (fun _=>False) _ _) (fun _ h=>h.elim)⟩,by have:=HB.out.2;simp;omega⟩)
    have b4:W.cell? ⟨wr.heap.size,4,none⟩=some (.int .i64 un):=cOb hbx rfl
    have hgo:=HPW.out.o.gown
    rw [hold_len] at hgo
    clear c0 c1 c2 c3 q0 q1 q2 q3 q4 f0 f1 f2 f3 f4
    obtain⟨⟨_,_,_,_,q4⟩,_,_,_,_,f4⟩:=ghost_cells hgo HAT.out
    obtain⟨c0,c1,c2,c3⟩:=HPW.out.cells
    have HNE:Hid (¬ g=p/\¬ g=wr.heap.size):=mH ⟨fun e=>HP.out.pg (by rw [e];rfl),fun e=>by have:=HGB.out.2;omega⟩
    rw [<- hW]
    clear hW hbx hgo
    generalize wr.heap.size=B at *
    refine wp_region_held_drew (S:=fun w'=>w'.cell? ⟨p,1,none⟩=some (.slice (some ⟨g,0,none⟩) t.gs.length gc)/\w'.cell? ⟨B,4,none⟩=some (.int .i64 un)) (by kernel_rfl) ⟨c1,b4⟩ (fun hHeld=>?_)
    refine tkE 0 26 (.pointer (some ⟨p,0,none⟩)) rfl rfl hHeld ?_
    simp only [sZ,sS]
    refine tkE 1 27 (.pointer (some ⟨p,0,none⟩)) rfl rfl hHeld ?_
    simp only [sZ,sS]
    refine tkE 2 28 (.pointer (some ⟨p,1,none⟩)) rfl rfl hHeld ?_
    simp only [sZ,sS]
    refine tkE 3 29 (.slice (some ⟨g,0,none⟩) t.gs.length gc) rfl rfl hHeld ?_
    simp only [sZ,sS]
    refine tkE 4 30 (.int .i64 (j:Int)) rfl rfl hHeld ?_
    simp only [sZ,sS]
    refine tkE 5 31 (.pointer (some ⟨B,4,none⟩)) rfl rfl hHeld ?_
    simp only [sZ,sS]
    refine tkE 6 32 (.int .i64 un) rfl rfl hHeld ?_
    simp only [sZ,sS]
    refine tkE 7 33 (.int .i64 U) rfl rfl hHeld ?_
    simp only [sZ,sS]
    refine takeD 8 34 (.int .i64 (max un U)) rfl rfl (by kernel_rfl) (by kernel_rfl) (by kernel_rfl) (fun _ _ _ h=>h) (Or.inl ⟨by kernel_rfl,by intro w hSw;(try dsimp only at hSw);go_simp;split <;> omega⟩) hHeld ?_
    simp only [sZ,sS]
    refine tkE 9 35 (.pointer (some ⟨g,j * 5,none⟩)) rfl rfl hHeld ?_
    simp only [sZ,sS]
    refine tkE 10 36 (.pointer (some ⟨g,j * 5+4,none⟩)) rfl rfl hHeld ?_
    simp only [sZ,sS]
    refine wpAnyH_ready (rs:=[11]) (by kernel_rfl) (by simp) (AllReadyH.cons rfl (fun K hK=>?_) AllReadyH.nil)
    have q4':W.drew.cell? ⟨g,j * 5+4,none⟩=some (.int .i64 un):=q4
    have f4':W.drew.frozen? ⟨g,j * 5+4,none⟩=false:=f4
    go_simp
    have hkk:=Kept.setCell (F:=fun k=>k=g) W.drew (p:=⟨g,j * 5+4,none⟩) rfl (.int .i64 (max un U))
    refine hK.out _ _ ⟨hkk.cell (show W.drew.cell? _=_ from c1) (fun e=>HNE.out.1 e.symm),hkk.cell (show W.drew.cell? _=_ from b4) (fun e=>HNE.out.2 e.symm)⟩ (fun hHeld=>?_)
    clear hK K hkk
    refine wpAnyH_done (by kernel_rfl) ?_ _
    clear hHeld c0 c1 c2 c3 q4 f4 q4' f4' b4
    have HPD:Hid (TrP base W.drew p (.slice na ps.length nc) (.slice (some ⟨g,0,none⟩) t.gs.length gc) ps ⟨t.ns,(t.gs.take j).map (hold1 pa U) ++ t.gs.drop j,t.last,t.now⟩):=mH (HPW.out.below (Below.refl _ W).drew)
    have HP2:Hid (TrP base (W.setCell ⟨g,j * 5+4,none⟩ (.int .i64 (max un U))).drew p (.slice na ps.length nc) (.slice (some ⟨g,0,none⟩) t.gs.length gc) ps ⟨t.ns,((t.gs.take j).map (hold1 pa U) ++ t.gs.drop j).set j ⟨pa,(k,q,T),max un U⟩,t.last,t.now⟩):=mH (HPD.out.setG (u:=.int .i64 (max un U)) (r:=4) HAT.out (by omega) HY.out)
    have HB2:Hid ((Below base w (W.setCell ⟨g,j * 5+4,none⟩ (.int .i64 (max un U))).drew/\Kept (fun k=>(Value.slice (some ⟨g,0,none⟩) t.gs.length gc).ownBlock=some k) w (W.setCell ⟨g,j * 5+4,none⟩ (.int .i64 (max un U))).drew)/\base<=(W.setCell ⟨g,j * 5+4,none⟩ (.int .i64 (max un U))).drew.heap.size):=mH ⟨⟨setG_below HBW.out.1.1.drew HGB.out.1 _ (by have:=HBW.out.2;exact this),(HBW.out.1.2.trans (Kept.setCell (F:=fun k=>k=g) W (p:=⟨g,j * 5+4,none⟩) rfl (.int .i64 (max un U))) (fun k e=>.inl (by rw [e];rfl))).trans (Kept.drew (fun _=>False) _) (fun _ h=>h.elim)⟩,by have:=HBW.out.2;simpa [World.setCell] using this⟩
    rw [HST.out] at HP2
    generalize (W.setCell ⟨g,j * 5+4,none⟩ (.int .i64 (max un U))).drew=W9 at *
    go_wp2
    go_roundw
    case rel=>exact⟨j+1,by go_num,hlt,HP2,HB2⟩
    case measure=>simp [intOf];omega
   ·have he:hold1 i U ⟨pa,(k,q,T),un⟩=⟨pa,(k,q,T),un⟩:=if_neg hpi
    rw [he] at HST
    have hpi':(pa == i)=false:=by simpa using hpi
    clear he hpi
    go_wp2
    go_roundw
    case rel=>
     refine⟨j+1,by go_num,hlt,mH ?_,mH ⟨⟨HB.out.1.1.alloc HB.out.2 _,HB.out.1.2.trans (Kept.alloc (fun _=>False) _ _) (fun _ h=>h.elim)⟩,by have:=HB.out.2;simp;omega⟩⟩
     rw [<- HST.out]
     have e:((t.gs.take j).map (hold1 i U) ++ t.gs.drop j).set j ⟨pa,(k,q,T),un⟩=(t.gs.take j).map (hold1 i U) ++ t.gs.drop j:=set_same HAT.out
     rw [e]
     exact HP.out.below (ba (Below.refl _ _) _)
    case measure=>simp [intOf];omega
  ·obtain rfl:j=t.gs.length:=by omega
   clear hlt
   go_wp2
   go_end0
   exact⟨⟨_,rfl⟩,by rw [HG.out];exact HP.out,HB.out.1.1,HB.out.1.2⟩
abbrev psFn (p:Nat):Value:=.func (.func 100) #[] #[.pointer (some ⟨p,0,none⟩)]
set_option maxHeartbeats 3200000 in
theorem ps1_any (w:World) (g:Gh) (B p:Nat) (now:Int) (b:Bool) (hB:w.cell? ⟨B,0,none⟩=some (.pointer (some ⟨p,0,none⟩))) (hp:w.cell? ⟨p,3,none⟩=some (.int .i64 now)) (hb:b=over now g):Calls Tryz.prog 100 #[vGh g,.pointer (some ⟨B,0,none⟩)] w fun r w'=>r=.returned (.bool b)/\Below w.heap.size w w':=by
 obtain⟨pa,⟨k,q,T⟩,un⟩:=g
 unfold over at hb
 simp only [vGh] at hb ⊢
 by_cases h1:un<=now
 ·simp only [h1,decide_true] at hb
  subst hb
  go_enter Tryz.func100,Tryz.ntmps100
  go_wp2
  go_quiet (fail)
  go_wp2
  go_ret
  exact⟨by simp,bdN (ba (Below.refl _ _) _) _⟩
 ·simp only [h1,decide_false] at hb
  subst hb
  go_enter Tryz.func100,Tryz.ntmps100
  go_wp2
  go_quiet (fail)
  go_wp2
  go_ret
  exact⟨by simp;omega,bdN (ba (Below.refl _ _) _) _⟩
set_option maxHeartbeats 3200000 in
theorem idxG_any (w:World) (v:Value) (gs:List Gh) (B p:Nat) (now R:Int) (h:Ghs w v gs) (hB:w.cell? ⟨B,0,none⟩=some (.pointer (some ⟨p,0,none⟩))) (hp:w.cell? ⟨p,3,none⟩=some (.int .i64 now)) (hno:(∀ x ∈ gs,over now x=false)->R = -1) (hyes:∀ (j:Nat) x,gs[j]?=some x->over now x=true->(∀ y ∈ gs.take j,over now y=false)->R=(j:Int)) :
  Calls Tryz.prog 124 #[v,psFn B] w fun e w'=>e=.returned (.int .i64 R)/\Below w.heap.size w w':=by
 have hll:=h
 obtain⟨a,cap,rfl,hcap,hl,_⟩:=hll
 have HE:=mH h
 have HY:=mH hyes
 have HN:=mH hno
 have HP:=mH (And.intro hB hp)
 clear h hyes hno hp hB
 simp only [psFn]
 go_enter Tryz.func124,Tryz.ntmps124
 go_wp2
 go_loopw [5,8] (fun _ iv wr=>∃ j:Nat,iv=.int .i64 (j:Int)/\j<=gs.length/\Hid (Below w.heap.size w wr)/\Hid (∀ y ∈ gs.take j,over now y=false)) (fun _ iv _=>gs.length - (intOf iv).toNat)
 case atStart=>exact⟨0,rfl,Nat.zero_le _,mH (Below.refl _ _),mH (fun y hy=>by simp at hy)⟩
 case round=>
  obtain⟨j,rfl,hj,HB,HO⟩:=hrel
  by_cases hlt:j < gs.length
  ·obtain⟨b,off,t,rfl,hxj,hat⟩:=HE.out.at HB.out j hlt
   obtain⟨q0,q1,q2,q3,q4⟩:=five hat
   have hji:(j:Int) < gs.length:=by omega
   obtain⟨bb,hbb⟩:∃ bb,bb=over now t:=⟨_,rfl⟩
   have HC:=mH (ps1_any wr t B p now bb (kc HP.out.1 HB.out) (kc HP.out.2 HB.out) hbb)
   have HXJ:=mH (And.intro hxj hbb)
   obtain⟨pa,⟨k,q,T⟩,un⟩:=t
   simp only at q0 q1 q2 q3 q4
   clear hxj hbb hat
   simp only [vGh] at HC
   cases bb with
   |true=>
    have hR:R=(j:Int):=HY.out j _ HXJ.out.1 HXJ.out.2.symm HO.out
    subst hR
    clear HY HN
    go_wp2_with (go_at_call 100;refine HC.out.mono ?_;rintro r w' ⟨rfl,hb⟩;have HB2:=mH (bt HB.out hb);clear hb)
    go_ret
    exact⟨rfl,HB2.out⟩
   |false=>
    go_wp2_with (go_at_call 100;refine HC.out.mono ?_;rintro r w' ⟨rfl,hb⟩;have HB2:=mH (bt HB.out hb);clear hb)
    go_roundw
    case rel=>
     refine⟨j+1,by go_num,by omega,HB2,mH (fun y hy=>?_)⟩
     rw [List.take_add_one,HXJ.out.1] at hy
     rcases List.mem_append.mp hy with hy | hy
     ·exact HO.out y hy
     ·simp at hy
      subst hy
      exact HXJ.out.2.symm
    case measure=>simp [intOf];omega
  ·obtain rfl:j=gs.length:=by omega
   have hR:R = -1:=HN.out (fun y hy=>HO.out y (by rw [List.take_length];exact hy))
   subst hR
   clear HY HN
   go_wp2
   go_ret
   exact⟨rfl,HB.out⟩
end Go.Proofs.YtpdehdomilnmeaaGreatDoor
