import Derived.Test.YtpdehdomilnmeaaGreatDoorHsA
import Derived.Test.YtpdehdomilnmeaaGreatDoorTrC
import Derived.Sort.QuietIn
namespace Go.Proofs.YtpdehdomilnmeaaGreatDoor
open Go.ChangeShapes Go.WideShapes Go.ChangeAt Go.RowKit Go.Shelf
set_option maxRecDepth 100000
set_option maxRecDepth 100000
theorem uponIn_round {F:Fence} {n l:Nat} {P:Program} {o:Oper} {a:Act} {K:Act->World->Prop} {Q:Exit->Act->World->Prop} (r:Result Next) (h:o.uponIn F n P a K Q r):o.uponIn (F.inRound l) n P a K Q r:=by
 cases r with
 |ok x w'=>cases x <;> exact h
 |halt x w'=>cases x <;> exact h
theorem wpOpIn_round {F:Fence} {n l:Nat} {P:Program} {ops:Array Oper} {Q:Exit->Act->World->Prop} (hnd:∀ (i:Nat) (o:Oper),ops[i]?=some o->∀ c,o.op ≠ .defer c) {i:Nat} {K:Act->World->Prop} {a:Act} {w:World} (h:wpOpIn F n P ops Q i K a w):wpOpIn (F.inRound l) n P ops Q i K a w:=by
 unfold wpOpIn at *
 cases ho:ops[i]? with
 |none=>simpa [ho] using h
 |some o=>
  simp only [ho] at h ⊢
  split
  ·rename_i hw
   simp only [hw,if_true] at h
   refine⟨h.1, ?_⟩
   have h2:=h.2
   rw [Oper.semAt_plain F _ _ (hnd i o ho)] at h2
   rw [Oper.semAt_plain (F.inRound l) _ _ (hnd i o ho)]
   exact uponIn_round _ h2
  ·rename_i hw
   simp only [hw] at h
   exact h
theorem wpAnyIn_round {F:Fence} {n l:Nat} {P:Program} {md:Region.Mode} {ops:Array Oper} {Q:Exit->Act->World->Prop} (hnd:∀ (i:Nat) (o:Oper),ops[i]?=some o->∀ c,o.op ≠ .defer c) (_hro:F.round=none):∀ (fuel:Nat) (listed:Array Bool) (a:Act) (w:World),wpAnyIn F n P md ops Q fuel listed a w->wpAnyIn (F.inRound l) n P md ops Q fuel listed a w:=by
 intro fuel
 induction fuel with
 |zero=>intro listed a w h;exact h
 |succ fuel ih=>intro listed a w h;exact⟨h.1,fun i hi=>wpOpIn_mono (fun a w h=>ih _ a w h) (wpOpIn_round hnd (h.2 i hi))⟩
def noDefer (ops:Array Oper):Bool:=ops.toList.all (fun o=>match o.op with | .defer _=>false | _=>true)
theorem noDefer_is {ops:Array Oper} (h:noDefer ops=true):∀ (i:Nat) (o:Oper),ops[i]?=some o->∀ c,o.op ≠ .defer c:=fun i o ho c e=>by
 have:=List.all_eq_true.mp h o (by simpa using Array.mem_of_getElem? ho)
 rw [e] at this
 simp at this
theorem wpIn_region_quiet_round {F:Fence} {n l:Nat} {P:Program} {id:Nat} {Q:Exit->Act->World->Prop} {a:Act} {w:World} {ls:List Oper} (hro:F.round=none) (hm:P.follows .mixedOrders=true) (hB:Region.lexB .any ls.toArray=true) (hnd:noDefer ls.toArray=true)
  (h:wpQuietIn F n P ls.toArray (fun w'=>∃ n,w'=w.drewN n) (fun a'=>∀ w',(∃ n,w'=w.drewN n)->Q .normal a' w') ls a):(Code.region id ls.toArray true).wpIn (F.inRound l) n P Q a w:=by
 simp only [Region.lexB,Bool.and_eq_true] at hB
 refine wpIn_region_any hm (wpAnyIn_round (noDefer_is hnd) hro _ _ _ _ (wpAnyIn_of_quiet (C:=fun w'=>∃ n,w'=w.drewN n) (Q:=fun a'=>∀ w',(∃ n,w'=w.drewN n)->Q .normal a' w') hro (fun _ w' hw' h=>h w' hw') _ _ _ _ ⟨1,rfl⟩ ?_))
 have:=wpAnyQIn_lex (F:=F) (n:=n) (C:=fun w'=>∃ n,w'=w.drewN n) (md:=.any) hB.1 ls 0 (Array.replicate ls.toArray.size false) a (by simp) (by simpa using hB.2) h
 simpa using this
theorem rowsIn_wide {n:Nat} {P:Program} {row:String} {args:Array Value} {w:World} {R:Value->World->Prop} (h:Rows P row args w R):RowsIn Fence.wide n P row args w R:=fun c cs _=>by
 obtain⟨v,w',hr,hs⟩:=h c cs
 exact⟨v,w',hr,stepsIn_wide.2 hs⟩
theorem wpOpIn_of {n:Nat} {P:Program} {ops:Array Oper} {Q:Exit->Act->World->Prop} (hQ:¬ LetsOut Q) {i:Nat} {K:Act->World->Prop} {a:Act} {w:World} (h:wpOp P ops Q i K a w):wpOpIn Fence.wide n P ops Q i K a w:=by
 unfold wpOp at h
 unfold wpOpIn
 cases ho:ops[i]? with
 |none=>simpa [ho] using h
 |some o=>
  simp only [ho] at h ⊢
  split
  ·rename_i hw
   simp only [hw,if_true] at h
   rcases h with h | ⟨_,h⟩
   ·refine⟨fun _ _=>trivial, ?_⟩
    have e:o.semAt Fence.wide.round a.eval=execOp a.eval o:=rfl
    rw [e]
    unfold Oper.wp at h
    generalize (execOp a.eval o).run P w=r at h
    cases r with
    |ok x w'=>
     cases x with
     |enter f args=>exact⟨fun e=>by simp [Fence.wide] at e,callsIn_wide.2 h⟩
     |row row args=>exact⟨fun e=>by simp [Fence.wide] at e,rowsIn_wide h⟩
     |value v=>exact h
     |skip=>exact h
     |defer d=>exact h
     |_=>exact h.elim
    |halt x w'=>cases x <;> first | exact h | exact h.elim
   ·exact absurd h hQ
  ·rename_i hw
   simp only [hw] at h
   exact⟨fun _ _=>trivial,h⟩
theorem wpAnyIn_of {n:Nat} {P:Program} {md:Region.Mode} {ops:Array Oper} {Q:Exit->Act->World->Prop} (hQ:¬ LetsOut Q):∀ (fuel:Nat) (listed:Array Bool) (a:Act) (w:World),wpAny P md ops Q fuel listed a w->wpAnyIn Fence.wide n P md ops Q fuel listed a w
 |0,_,_,_,h=>h
 |fuel+1,_,_,_,h=>⟨h.1,fun i hi=>wpOpIn_mono (fun a w h=>wpAnyIn_of hQ fuel _ a w h) (wpOpIn_of hQ (h.2 i hi))⟩
def Plain (K:Act->World->Prop):Exit->Act->World->Prop
 |.normal,a,w=>K a w
 |_,_,_=>False
theorem plain_out (K:Act->World->Prop):¬ LetsOut (Plain K):=fun ⟨_,_,h⟩=>h
theorem wpIn_region_round {n l:Nat} {P:Program} {id:Nat} {ls:List Oper} {Q:Exit->Act->World->Prop} {a:Act} {w:World} (S:World->Prop) (hm:P.follows .mixedOrders=true) (hnd:noDefer ls.toArray=true) (hS:S w.drew)
  (h:S w.drew->wpAnyH P .any ls.toArray (Plain (fun a w=>Q .normal a w)) S ls.toArray.size (Array.replicate ls.toArray.size false) a w.drew):(Code.region id ls.toArray true).wpIn (Fence.wide.inRound l) n P Q a w:=
 wpIn_mono (wpIn_region_any hm (wpAnyIn_round (noDefer_is hnd) rfl _ _ _ _ (wpAnyIn_of (plain_out _) _ _ _ _ (wpAny_of_held _ _ _ _ (h hS))))) (fun e a w h=>by cases e <;> first | exact h | exact h.elim)
end Go.Proofs.YtpdehdomilnmeaaGreatDoor
namespace Go.Proofs.YtpdehdomilnmeaaGreatDoor
open Go.ChangeShapes Go.WideShapes Go.ChangeAt Go.RowKit Go.Shelf
set_option maxRecDepth 100000
attribute [local go_sem] Oper.semAt_some
abbrev SN (zs:List Np):Type:={ e:NE // e.x ∈ zs }
def encS {zs:List Np} (e:SN zs):Array Value:=encN e.1
def bkS (ps:List Np) (hz:0 < ps.length) (j:Nat):SN ps:=if h:j < ps.length then ⟨bkN ps j,List.mem_of_getElem? (bkN_at ps j h).2⟩ else ⟨bkN ps 0,List.mem_of_getElem? (bkN_at ps 0 hz).2⟩
theorem bkS_val (ps:List Np) (hz:0 < ps.length) (j:Nat) (h:j < ps.length):(bkS ps hz j).1=bkN ps j:=by unfold bkS;rw [dif_pos h]
theorem bkS_all (ps:List Np) (hz:0 < ps.length):(upto (bkS ps hz) ps.length).map (·.1)=upto (bkN ps) ps.length:=by
 apply List.ext_getElem?
 intro i
 unfold upto
 rw [List.map_map,List.getElem?_map,List.getElem?_map]
 by_cases h:i < ps.length
 ·rw [List.getElem?_range h]
  simp only [Option.map_some,Function.comp,bkS_val ps hz i h]
 ·rw [List.getElem?_eq_none (by simp;omega)];rfl
set_option maxRecDepth 100000 in
set_option maxHeartbeats 6400000 in
theorem back1s_in (G:Fence) (n:Nat) (h34:G.fn 75) (hro:G.round=none) (hn:1<=n) (l Bs b off len cap:Nat) (F:Nat->Prop) {zs:List Np} (e:Nat->SN zs) (hlen:(len:Int)<=1000000000000) (hb:¬ F b) (hB:¬ F Bs) (J Jx:List (SN zs)->World->Prop)
  (hY:∀ pre x W,J pre W->pre.length < len->YieldAt G (n - 1) Tryz.prog l (encS x) W fun r W'=>
   (r=.returned (.bool true)/\J (pre ++ [x]) W'/\Kept F W W') ∨ (r=.returned (.bool false)/\Jx (pre ++ [x]) W'))
  (W:World) (hBs:W.cell? ⟨Bs,0,none⟩=some (.slice (some ⟨b,off,none⟩) len cap)) (hc:∀ j,j < len->(e j).1.i=len - 1 - j/\∀ r u,r < 7->(c7 (e j).1.x)[r]?=some u->W.cell? ⟨b,off+(len - 1 - j) * 7+r,none⟩=some u) (h0:J [] W) :
  CallsIn G n Tryz.prog 75 #[.func (.yield l) #[] #[],.pointer (some ⟨Bs,0,none⟩)] W fun r W'=>(∃ v,r=.returned v) /\
   ((∃ ys,ys=upto e len/\J ys W') ∨ (∃ pre,(∃ k,k < len/\pre=upto e (k+1))/\Jx pre W')):=by
 refine callsIn_of_wp Tryz.func75 rfl h34 ?_ hro
 simp only [Tryz.ntmps75,List.size_toArray,List.length_cons,List.length_nil,Nat.reduceAdd,Nat.reduceSub,Array.replicate_succ,Array.replicate_zero,List.push_toArray,List.append_toArray,List.nil_append,List.cons_append]
 gi_wp2
 gi_loopw [3] (fun iv wr=>∃ k:Nat,k<=len/\iv=.int .i64 ((len:Int) - 1 - k)/\J (upto e k) wr/\Kept F W wr)
  (fun iv _=>(intOf iv+1).toNat)
 case atStart=>exact⟨0,Nat.zero_le _,by simp,h0,Kept.refl _ _⟩
 case round=>
  obtain⟨k,hk,rfl,hJs,hnx⟩:=hrel
  have hBx:=hnx.cell hBs hB
  by_cases hlt:k < len
  ·obtain⟨fn,tmps,assign,body,hy,hR⟩:=hY _ (e k) wr hJs (by rw [upto_length];exact hlt)
   obtain⟨he1,he2⟩:=hc k hlt
   obtain⟨m,hm⟩:∃ m:Nat,m=len - 1 - k:=⟨_,rfl⟩
   have hmi:(len:Int) - 1 - k=(m:Int):=by omega
   rw [<- hm] at he1 he2
   obtain⟨d0,d1,d2,d3,d4,d5,d6⟩:=seven (w:=wr) (b:=b) (o:=off+m * 7) (t:=(e k).1.x) (fun r u hr hu=>hnx.cell (he2 r u hr hu) hb)
   have hm2:(m:Int) < len:=by omega
   unfold encS encN at hy
   rw [he1] at hy
   rw [hmi]
   have HMI:=mH hmi
   clear he1 he2 hc hBs hm hmi
   gi_wp2
   refine hR.mono ?_
   rintro r W3 (⟨rfl,hJ3,hk3⟩ | ⟨rfl,hJx3⟩)
   ·gi_wp2
    go_roundw
    case rel=>exact⟨k+1,by omega,by have:=HMI.out;congr 1;omega,by rw [upto_succ];exact hJ3,hnx.trans hk3 (fun _ h=>.inl h)⟩
    case measure=>simp [intOf] <;> omega
   ·gi_wp2
    refine bodyPost_ret (results_none rfl _ _ _) rfl ?_
    exact⟨⟨_,rfl⟩,.inr ⟨_,⟨k,hlt,(upto_succ _ _).symm⟩,hJx3⟩⟩
  ·obtain rfl:k=len:=by omega
   have hmi:(k:Int) - 1 - k = -1:=by omega
   rw [hmi]
   gi_wp2
   go_end0
   exact⟨⟨_,rfl⟩,.inl ⟨_,rfl,hJs⟩⟩
theorem backs_stops (G:Fence) (n:Nat) (h34:G.fn 75) (hro:G.round=none) (hn:1<=n) (Bs:Nat) (F:Nat->Prop) (v:Value) (ps:List Np) (hz:0 < ps.length) (hlen:ps.length<=1000) (w:World) (hB:¬ F Bs)
  (hcell:w.cell? ⟨Bs,0,none⟩=some v) (h:Nds w v ps) (hb:∀ b off c,v=.slice (some ⟨b,off,none⟩) ps.length c->0 < ps.length->¬ F b) :
  SeqStopsK G n Tryz.prog 75 #[.pointer (some ⟨Bs,0,none⟩)] (encS (zs:=ps)) (Kept F) (fun ys=>ys=upto (bkS ps hz) ps.length) (fun pre=>∃ k,k < ps.length/\pre=upto (bkS ps hz) (k+1)) ps.length w:=fun l J Jx W hW _ _ hY h0=>by
 have hc':=kc hcell hW
 have h':=h.below hW
 obtain⟨a,cap,rfl,hcap,hl,hr⟩:=h'.row
 have hp:=hz
 obtain⟨b,off,rfl,hx⟩:=hr hp
 refine back1s_in G n h34 hro hn l Bs b off ps.length cap F (bkS ps hz) (by omega) (hb b off cap rfl hp) hB J Jx hY W hc' (fun j hj=>?_) h0
 obtain⟨e1,e2⟩:=bkN_at ps j hj
 rw [<- bkS_val ps hz j hj] at e1 e2
 exact⟨e1,hx _ _ e2⟩
theorem HB.one0 {B:Nat} {own:Nat->Int} {w w':World} {b mb:Nat} {lay:Int->Option Lay} {nv gv wv:Value} {ps:List Np} {qs:List Op} {h:Hs} (H:HB B own w b mb lay nv gv wv ps qs h) {i:Int} {l:Lay} {r':Rv} (hl:lay i=some l) (hk:Kept l.F w w') (hm:RvM B w' l r') :
  HB B own w' b mb lay nv gv wv ps qs ⟨h.now,h.t,upR h.rv i (some r'),h.ws⟩:=by
 have hi:=(H.ol i l hl).1
 have hown:=(H.ol i l hl).2
 have nF:∀ k,own k ≠ i->¬ l.F k:=fun k e f=>e (hown k f)
 have hs:=hk.size
 refine⟨(hk.block b H.lt (nF b (by rw [H.ob];omega))).trans H.blk,H.tr.kept hk (fun k g=>.inl ⟨fun e=>nF k (by rw [H.on k e];omega) g,fun e=>nF k (by rw [H.og k e];omega) g,fun t ht e=>nF k (by rw [H.ot t ht k e];omega) g⟩),H.te,H.mp.kept hk (nF mb (by rw [H.om];omega)), ?_, ?_,H.ws.kept hk (fun k e=>nF k (by rw [H.ow k e];omega)),fun q hq=>?_,H.we,H.ob,H.om,H.ol,H.ow,H.on,H.og,H.ot,fun k hn=>⟨(H.sz k hn).1,by have:=(H.sz k hn).2;omega⟩⟩
 ·intro j
  show lay j=none ↔ upR h.rv i (some r') j=none
  unfold upR
  split
  ·rename_i e;subst e;rw [hl];simp
  ·exact H.dm j
 ·intro j lj rj h1 h2
  simp only [upR] at h2
  by_cases e:j=i
  ·rw [if_pos e] at h2
   subst e
   rw [hl] at h1
   cases h1;cases h2
   exact hm
  ·rw [if_neg e] at h2
   exact(H.rm j lj rj h1 h2).kept hk (fun k f g=>by have:=(H.ol j lj h1).2 k f;have:=hown k g;omega)
 ·have q1:=H.wq q hq
  exact⟨q1.ts.kept hk (fun k e hp=>nF k (by rw [q1.o k e hp];omega)),q1.cap,q1.sm,q1.o⟩
def RvG (now:Int) (rv:Int->Option Rv):Prop:=∀ i r,rv i=some r->okS r.sv/\0<=r.m/\r.m<=now
theorem upR_some {rv:Int->Option Rv} {i j:Int} {r q:Rv} (h:upR rv i (some r) j=some q):(j=i/\q=r) ∨ (¬ j=i/\rv j=some q):=by
 unfold upR at h
 split at h
 ·rename_i e;exact .inl ⟨e,(Option.some.inj h).symm⟩
 ·rename_i e;exact .inr ⟨e,h⟩
theorem begR_at {now:Int} {ns:List Nd} {n:Nd} {rv:Int->Option Rv} {r:Rv} (hr:rv n.id=some r):begR now ns n rv=upR rv n.id (some (r.beg n.id now (wrkR rv ns n.id r))):=by unfold begR;rw [hr];rfl
theorem RvG.beg {now:Int} {ns:List Nd} {n:Nd} {rv:Int->Option Rv} (h:RvG now rv):RvG now (begR now ns n rv):=by
 cases hr:rv n.id with
 |none=>
  intro i q hq
  unfold begR upR at hq
  rw [hr] at hq
  split at hq
  ·cases hq
  ·exact h i q hq
 |some r=>
  rw [begR_at hr]
  intro i q hq
  rcases upR_some hq with ⟨_,rfl⟩ | ⟨_,hq⟩
  ·exact h n.id r hr
  ·exact h i q hq
theorem begR_dom {now:Int} {ns ms:List Nd} {n:Nd} {rv:Int->Option Rv} (h:∀ m ∈ ms,∃ r,rv m.id=some r):∀ m ∈ ms,∃ r,begR now ns n rv m.id=some r:=by
 intro m hm
 obtain⟨r,hr⟩:=h m hm
 unfold begR upR
 split
 ·rename_i e
  rw [<- e,hr]
  exact⟨_,rfl⟩
 ·exact⟨r,hr⟩
def tlR (now:Int) (ns:List Nd) (rv:Int->Option Rv) (pre:List NE):Int->Option Rv:=pre.foldl (fun rv e=>begR now ns e.x.1 rv) rv
theorem tlR_snoc (now:Int) (ns:List Nd) (rv:Int->Option Rv) (pre:List NE) (e:NE):tlR now ns rv (pre ++ [e])=begR now ns e.x.1 (tlR now ns rv pre):=by simp [tlR]
theorem tlR_all (now:Int) (ns:List Nd) (rv:Int->Option Rv) (ps:List Np):tlR now ns rv (upto (bkN ps) ps.length)=(nds ps).foldr (begR now ns) rv:=by
 have e:tlR now ns rv (upto (bkN ps) ps.length)=((upto (bkN ps) ps.length).map (·.x)).foldl (fun rv x=>begR now ns x.1 rv) rv:=by
  unfold tlR;rw [List.foldl_map]
 rw [e,bkN_all,List.foldl_reverse,nds,List.foldr_map]
theorem RvG.tl {now:Int} {ns:List Nd} {rv:Int->Option Rv} (h:RvG now rv) (pre:List NE):RvG now (tlR now ns rv pre):=by
 unfold tlR
 induction pre generalizing rv with
 |nil=>exact h
 |cons e l ih=>exact ih h.beg
theorem tlR_dom {now:Int} {ns ms:List Nd} {rv:Int->Option Rv} (h:∀ m ∈ ms,∃ r,rv m.id=some r) (pre:List NE):∀ m ∈ ms,∃ r,tlR now ns rv pre m.id=some r:=by
 unfold tlR
 induction pre generalizing rv with
 |nil=>exact h
 |cons e l ih=>exact ih (begR_dom h)
set_option maxRecDepth 100000 in
set_option maxHeartbeats 12800000 in
theorem tellWork_is {B:Nat} {own:Nat->Int} {w:World} {b mb:Nat} {lay:Int->Option Lay} {nv gv wv:Value} {ps:List Np} {qs:List Op} {h:Hs} (H:HB B own w b mb lay nv gv wv ps qs h) (hdm:∀ n ∈ h.t.ns,∃ r,h.rv n.id=some r) (hg:RvG h.now h.rv) (hsm:h.t.Sm 1000) (n1:h.now<=1099511727776) :
  Calls Tryz.prog 34 #[pB b] w fun e w'=>e=.returned (.tuple #[])/\HB B own w' b mb lay nv gv wv ps qs ⟨h.now,h.t,tellR h.now h.t.ns h.rv,h.ws⟩/\Kept (fun k=>own k ≠ 0) w w':=by
 have HH:=mH H
 have HD:=mH hdm
 have HG:=mH hg
 have HE:=mH H.te
 have hl:ps.length<=1000:=by have:=hsm.n;rw [<- H.te,List.length_map] at this;exact this
 have HR:Hid (Nds w nv ps):=mH (H.tr.trw hsm H.te).n
 have HSZ:=mH H.sz
 have HON:=mH H.on
 obtain⟨_,c1,_⟩:=H.c
 obtain⟨a1,cap,rfl,_⟩:=own_sh H.tr.nown
 have HLB:=mH H.lt
 have c1:=kl c1 (.cells #[pB b] 24)
 clear H hdm hg hsm
 refine(callsIn_wide (n:=3)).1 ?_
 refine callsIn_of_wp_marks Tryz.func34 rfl trivial ?_ rfl
 simp only [Tryz.ntmps34,List.size_toArray,List.length_cons,List.length_nil,Nat.reduceAdd,Nat.reduceSub,Array.replicate_succ,Array.replicate_zero,List.push_toArray,List.append_toArray,List.nil_append,List.cons_append]
 gi_wp2_with (first | (refine⟨trivial, ?_⟩;gi_at_call 52;refine(backward_in Fence.wide _ trivial rfl a1 ps.length cap _).mono ?_;rintro e w1 ⟨rfl,rfl⟩) | (gi_at_call 52;refine(backward_in Fence.wide _ trivial rfl a1 ps.length cap _).mono ?_;rintro e w1 ⟨rfl,rfl⟩))
 obtain⟨W0,hW0⟩:∃ W0,W0=(w.alloc (.cells #[pB b] 24)).alloc (.cells #[.slice a1 ps.length cap] 27):=⟨_,rfl⟩
 have hsz:W0.heap.size=w.heap.size+2:=by rw [hW0];simp
 have hb0:Below w.heap.size w W0:=by rw [hW0];exact ba (ba (Below.refl _ w) _) _
 have k1:W0.heap[w.heap.size]?=some (.cells #[pB b] 24 (0,0)):=by
  rw [hW0,heap_alloc_old _ _ (by simp)]
  exact heap_alloc_new w _
 have k2:W0.heap[w.heap.size+1]?=some (.cells #[.slice a1 ps.length cap] 27 (0,0)):=by
  rw [hW0]
  have:=heap_alloc_new (w.alloc (.cells #[pB b] 24)) (.cells #[.slice a1 ps.length cap] 27)
  simpa using this
 rw [<- hW0]
 clear hW0
 obtain⟨F,hF⟩:∃ F:Nat->Prop,F=fun k=>1<=own k ∨ W0.heap.size<=k:=⟨_,rfl⟩
 have hFb:∀ k,W0.heap.size<=k->F k:=fun k hk=>by rw [hF];exact .inr hk
 have hO0:∀ k,w.heap.size<=k->own k=0:=fun k hk=>Decidable.byContradiction fun hn=>by have:=(HSZ.out k hn).2;omega
 by_cases hz:0 < ps.length
 ·refine wpIn_rangeFunc_ownH rfl (by omega) (gf:=75) (lb:=#[.pointer (some ⟨w.heap.size+1,0,none⟩)]) rfl trivial (enters_of Tryz.func75 (by kernel_rfl) rfl)
   (backs_stops Fence.wide 2 trivial rfl (by omega) (w.heap.size+1) F (.slice a1 ps.length cap) ps hz hl W0 (by rw [hF];have:=hO0 (w.heap.size+1) (by omega);omega) (cOb k2 rfl) (HR.out.below hb0) (fun b' off c e hp=>by rw [hF];have:=HON.out b' (by rw [e];rfl);have:=(HSZ.out b' (by omega)).2;omega)) (fun h1 h2=>h1.trans h2 (fun _ h=>.inl h)) (keptK_b hFb) (Below.refl _ _) (fun _=>rfl)
   (fun pre W=>HB B own W b mb lay (.slice a1 ps.length cap) gv wv ps qs ⟨h.now,h.t,tlR h.now h.t.ns h.rv (pre.map Subtype.val),h.ws⟩/\W.heap[w.heap.size]?=some (.cells #[pB b] 24 (0,0))/\Kept F W0 W)
   (fun _ _ _=>False)
   (fun s X Y row hs hg hr=>⟨hs.1.kept (Kept.grown hg (F:=fun k=>W0.heap.size<=k) (fun k e=>(hr k e).1)) (fun k hk=>.inl (hO0 k (by omega))),(hg.block _ (lOh hs.2.1) (fun e=>by have:=(hr _ e.symm).1;omega)).trans hs.2.1,hs.2.2.trans (Kept.grown hg (F:=F) (fun k e=>hFb k (hr k e).1)) (fun _ h=>.inl h)⟩)
   (fun cd s X Y row hs hg hr=>hs)
   ⟨HH.out.below hb0,k1,Kept.refl _ _⟩
   (fun x a' W=>∃ Bx,W0.heap.size<=Bx/\W.heap[Bx]?=some (.cells #[.int .i64 x.1.x.1.id,.int .i64 x.1.x.1.pa,.int .i64 x.1.x.1.sv.1,.int .i64 x.1.x.1.sv.2.1,.int .i64 x.1.x.1.sv.2.2,.int .i64 x.1.x.1.po,tvN x.1.x] 69 (0,0))/\a' = { tmps:=#[pB b,.pointer (some ⟨w.heap.size,0,none⟩),undef,.pointer (some ⟨Bx,0,none⟩),undef,pB b,.pointer (some ⟨b,0,none⟩),.pointer (some ⟨b,1,none⟩),.pointer (some ⟨b,1,none⟩),.slice a1 ps.length cap,.func (.func 75) #[] #[.pointer (some ⟨w.heap.size+1,0,none⟩)],.int .i64 (x.1.i:Int),vNp x.1.x,undef,undef,undef,undef,undef,undef,undef,undef,undef,undef,undef,undef,undef,undef,undef,undef,undef,undef,undef,undef,undef,undef,undef,undef,undef,undef,undef,undef,undef,undef,undef,undef],defers:=[] })
   (fun x a' _ X Y row hs hg hr=>by
    obtain⟨Bx,h1,h2,h3⟩:=hs
    exact⟨Bx,h1,(hg.block Bx (lOh h2) (fun e'=>by obtain⟨o,ho,hcs⟩:=(hr _ e'.symm).2;rw [h2] at ho;cases ho;cases hcs)).trans h2,h3⟩)
   ?assign ?body ?done ?stop
  case assign=>
   rintro l pre ⟨⟨xi,⟨id,pa,⟨k,q,T⟩,po,ts⟩,ta,tc⟩,hx⟩ W K ⟨hi1,hi2,hi3⟩ hK
   simp only [encN,encS,vNp,vNd,tvN]
   gi_wp2
   refine hK _ _ ((KeepsOthers.alloc _ _).from _) (Kept.alloc _ _ _) ⟨hi1.below (ba (Below.refl _ W) _),(heap_alloc_old W _ (lOh hi2)).trans hi2,hi3.trans (Kept.alloc F _ _) (fun _ h=>.inl h)⟩ ⟨W.heap.size,hi3.size,heap_alloc_new W _,by simp⟩
  case body=>
   rintro l pre ⟨⟨xi,⟨id,pa,⟨k,q,T⟩,po,ts⟩,ta,tc⟩,hx⟩ a' W hl' ⟨r,hr⟩ ⟨hi1,hi2,hi3⟩ ⟨Bx,hBx,hblk,rfl⟩ hlt
   have hrd:=hi1
   obtain⟨rr,hrr⟩:∃ rr,tlR h.now h.t.ns h.rv (pre.map Subtype.val) id=some rr:=tlR_dom (ms:=h.t.ns) HD.out (pre.map Subtype.val) ⟨id,pa,(k,q,T),po,ts⟩ (by rw [<- HE.out];exact List.mem_map.mpr ⟨_,hx,rfl⟩)
   obtain⟨ly,hly,hm⟩:=hi1.at hrr
   obtain⟨gs1,gs2,gs3⟩:=HG.out.tl (ns:=h.t.ns) (pre.map Subtype.val) id rr hrr
   obtain⟨wk,hwk⟩:∃ wk,wk=wrkR (tlR h.now h.t.ns h.rv (pre.map Subtype.val)) h.t.ns id rr:=⟨_,rfl⟩
   have hrbl:=hm.box.lt
   have hFl:∀ k,ly.F k->1<=own k/\k < w.heap.size:=fun k f=>by
    have e1:=(hi1.ol id ly hly).2 k f
    have e2:=(hi1.ol id ly hly).1
    exact⟨by omega,(HSZ.out k (by omega)).2⟩
   have HW:Hid (∀ W',Below W.heap.size W W'->Calls Tryz.prog 53 #[pB b,.int .i64 id,pB ly.rb] W' fun e w'=>e=.returned (.bool wk)/\Below W'.heap.size W' w'):=mH (fun W' hW'=>by
    rw [hwk]
    exact hasWork_is (hi1.below hW') (tlR_dom HD.out _) hl hly hrr)
   obtain⟨d0,_,_,_,_,d5,_⟩:=hi1.c
   simp only at d0
   obtain⟨m0,m1,m2,m3,m4⟩:=hm.cells
   have x0:W.cell? ⟨Bx,0,none⟩=some (.int .i64 id):=cOb hblk rfl
   have z0:W.cell? ⟨w.heap.size,0,none⟩=some (pB b):=cOb hi2 rfl
   have HLK:Hid (∀ n,(Instr.lookup 85 (.map (some mb)) (.int .i64 id) false).run Tryz.prog (W.drewN n)=.ok (pB ly.rb) (W.drewN n)):=mH (fun n=>by
    have:=(show Mj (W.drewN n) mb _ from hi1.mp).get1 id
    rw [hly] at this
    exact this)
   have HI:=mH (And.intro hi1 (And.intro hi2 (And.intro hi3 (And.intro hm (And.intro gs1 (And.intro gs2 gs3))))))
   have HWK:=mH hwk
   have HFL:=mH hFl
   have HNE:Hid (ly.rb ≠ ly.sb):=mH hm.ne
   clear hi1 hi2 hi3 hm hrd hwk hFl gs1 gs2 gs3
   gi_wp2
   have hlk:=HLK.out
   refine wpIn_region_quiet_round (F:=Fence.wide) rfl (by kernel_rfl) (by kernel_rfl) (by kernel_rfl) ?_
   repeat (gi_big_quiet_step (fail))
   refine wpQuietIn_nil ?_
   intro _ hw'
   obtain⟨nq,hw''⟩:=hw'
   subst hw''
   clear hlk HLK
   obtain⟨W2,hW2⟩:∃ W2,W2=W.drewN nq:=⟨_,rfl⟩
   have HB2:Hid (Below W.heap.size W W2.drew):=mH (by rw [hW2];exact(below_drewN (Below.refl _ W) nq).drew)
   rw [<- hW2]
   clear hW2
   gi_wp2
   refine wpIn_region_round (fun w'=>w'.cell? ⟨Bx,0,none⟩=some (.int .i64 id)/\w'.cell? ⟨w.heap.size,0,none⟩=some (pB b)) (by kernel_rfl) (by kernel_rfl) ⟨kc x0 HB2.out,kc z0 HB2.out⟩ (fun hHeld=>?_)
   refine tkE 0 20 (pB ly.rb) rfl rfl hHeld ?_
   simp only [sZ,sS]
   refine tkE 1 21 (.pointer (some ⟨Bx,0,none⟩)) rfl rfl hHeld ?_
   simp only [sZ,sS]
   refine tkE 2 22 (.int .i64 id) rfl rfl hHeld ?_
   simp only [sZ,sS]
   refine tkE 3 23 (pB b) rfl rfl hHeld ?_
   simp only [sZ,sS]
   refine tkE 4 24 (.pointer (some ⟨Bx,0,none⟩)) rfl rfl hHeld ?_
   simp only [sZ,sS]
   refine tkE 5 25 (.int .i64 id) rfl rfl hHeld ?_
   simp only [sZ,sS]
   refine tkE 6 26 (pB ly.rb) rfl rfl hHeld ?_
   simp only [sZ,sS]
   refine wpAnyH_ready (rs:=[7]) (by kernel_rfl) (by simp) (AllReadyH.cons rfl (fun K hK=>?_) AllReadyH.nil)
   go_simp
   refine(HW.out _ HB2.out).mono ?_
   rintro e w4 ⟨rfl,b4⟩
   have HB4:=mH (bt HB2.out b4)
   have y0:=kc x0 HB4.out
   have y1:=kc z0 HB4.out
   have HM4:=mH (HI.out.2.2.2.1.kept (kept_of_below HB4.out) (fun k f g=>by have:=(HI.out.2.2.2.1.foot f).2;omega))
   obtain⟨p0,p1,p2,p3,p4⟩:=HM4.out.cells
   have f2:w4.frozen? ⟨ly.rb,2,none⟩=false:=fOb HM4.out.box
   have f3:w4.frozen? ⟨ly.rb,3,none⟩=false:=fOb HM4.out.box
   have f4:w4.frozen? ⟨ly.rb,4,none⟩=false:=fOb HM4.out.box
   clear b4 hHeld
   refine hK.out _ _ ⟨y0,y1⟩ (fun hHeld=>?_)
   clear hK K
   refine tkE 8 28 (.agg #[.int .i64 id,.bool wk,.bool false]) rfl rfl hHeld ?_
   simp only [sZ,sS]
   refine tkE 9 29 (.pointer (some ⟨ly.rb,0,none⟩)) rfl rfl hHeld ?_
   simp only [sZ,sS]
   refine tkE 10 30 (.pointer (some ⟨ly.rb,2,none⟩)) rfl rfl hHeld ?_
   simp only [sZ,sS]
   have hne1:¬ ly.rb=Bx:=by have:=(HFL.out ly.rb (.inl rfl)).2;omega
   have hne2:¬ ly.rb=w.heap.size:=by have:=(HFL.out ly.rb (.inl rfl)).2;omega
   obtain⟨w5,hw5⟩:∃ w5,w5=((w4.setCell ⟨ly.rb,2,none⟩ (.int .i64 id)).setCell ⟨ly.rb,3,none⟩ (.bool wk)).setCell ⟨ly.rb,4,none⟩ (.bool false):=⟨_,rfl⟩
   have K5:Hid (Kept (fun k=>k=ly.rb) w4 w5):=mH (by rw [hw5];exact kset (F:=fun k=>k=ly.rb) (kset (F:=fun k=>k=ly.rb) (kset (F:=fun k=>k=ly.rb) (Kept.refl _ _) (.inl rfl) _ _) (.inl rfl) _ _) (.inl rfl) _ _)
   have HX5:Hid (RB w5 ly id wk false):=mH (by unfold RB;rw [hw5,hSt (hSt (hSt HM4.out.box))];rfl)
   refine wpAnyH_ready (rs:=[11]) (by kernel_rfl) (by simp) (AllReadyH.cons rfl (fun K hK=>?_) AllReadyH.nil)
   go_simp
   rw [<- hw5]
   clear hw5
   have v0:w5.cell? ⟨Bx,0,none⟩=some (.int .i64 id):=K5.out.cell y0 (fun e=>hne1 e.symm)
   have v1:w5.cell? ⟨w.heap.size,0,none⟩=some (pB b):=K5.out.cell y1 (fun e=>hne2 e.symm)
   clear hHeld
   refine hK.out _ _ ⟨v0,v1⟩ (fun hHeld=>?_)
   clear hK K
   refine wpAnyH_done (by kernel_rfl) ?_ _
   dsimp only [Plain]
   have KW5:Hid (Kept ly.F W w5):=mH ((kept_new (F:=ly.F) HB4.out).trans K5.out (fun k e=>.inl (.inl e)))
   have hnb:¬ b=ly.rb:=fun e=>by have e1:=(HFL.out ly.rb (.inl rfl)).1;have e2:=HI.out.1.ob;rw [e] at e2;omega
   have hns:¬ b=ly.sb:=fun e=>by have e1:=(HFL.out ly.sb (.inr (.inl rfl))).1;have e2:=HI.out.1.ob;rw [e] at e2;omega
   have hn3:¬ w.heap.size=ly.sb:=by have:=(HFL.out ly.sb (.inr (.inl rfl))).2;omega
   have g0:w5.drew.cell? ⟨ly.rb,0,none⟩=some (pB ly.sb):=cOb (i:=0) HX5.out rfl
   have g3:w5.drew.cell? ⟨ly.rb,3,none⟩=some (.bool wk):=cOb (i:=3) HX5.out rfl
   have g2:w5.drew.cell? ⟨b,0,none⟩=some (.int .i64 h.now):=K5.out.cell (kc d0 HB4.out) hnb
   have g1:w5.drew.cell? ⟨w.heap.size,0,none⟩=some (pB b):=v1
   have HSB:Hid (SB w5.drew ly.sb rr.sv rr.m rr.wk rr.x):=mH (show SB w5 ly.sb rr.sv rr.m rr.wk rr.x from HM4.out.srv.kept (F:=fun k=>k=ly.rb) K5.out (fun e=>HNE.out (Eq.symm e)))
   have HBG:Hid (Calls Tryz.prog 54 #[pB ly.sb,.int .i64 h.now,.bool wk] w5.drew fun e w'=>e=.returned (.bool (rdyS wk (begS rr.sv rr.m h.now wk rr.x)))/\SB w' ly.sb rr.sv rr.m wk (begS rr.sv rr.m h.now wk rr.x)/\Kb ly.sb w5.drew w'):=mH (begin_is w5.drew ly.sb rr.sv rr.m h.now rr.wk wk rr.x HSB.out HI.out.2.2.2.2.2.1 HI.out.2.2.2.2.2.2 n1 HI.out.2.2.2.2.1)
   clear hHeld y0 y1 p0 p1 p2 p3 p4 f2 f3 f4 v0 v1 m0 m1 m2 m3 m4 x0 z0 d0 d5
   gi_wp2
   refine wpIn_region_round (fun w'=>w'.cell? ⟨ly.rb,0,none⟩=some (pB ly.sb)/\w'.cell? ⟨w.heap.size,0,none⟩=some (pB b)/\w'.cell? ⟨b,0,none⟩=some (.int .i64 h.now)/\w'.cell? ⟨ly.rb,3,none⟩=some (.bool wk)) (by kernel_rfl) (by kernel_rfl) ⟨g0,g1,g2,g3⟩ (fun hHeld=>?_)
   refine tkE 0 31 (pB ly.rb) rfl rfl hHeld ?_
   simp only [sZ,sS]
   refine tkE 1 32 (.pointer (some ⟨ly.rb,0,none⟩)) rfl rfl hHeld ?_
   simp only [sZ,sS]
   refine tkE 2 33 (.pointer (some ⟨ly.rb,0,none⟩)) rfl rfl hHeld ?_
   simp only [sZ,sS]
   refine tkE 3 34 (pB ly.sb) rfl rfl hHeld ?_
   simp only [sZ,sS]
   refine tkE 4 35 (pB b) rfl rfl hHeld ?_
   simp only [sZ,sS]
   refine tkE 5 36 (pB b) rfl rfl hHeld ?_
   simp only [sZ,sS]
   refine tkE 6 37 (pB b) rfl rfl hHeld ?_
   simp only [sZ,sS]
   refine tkE 7 38 (.int .i64 h.now) rfl rfl hHeld ?_
   simp only [sZ,sS]
   refine tkE 8 39 (pB ly.rb) rfl rfl hHeld ?_
   simp only [sZ,sS]
   refine tkE 9 40 (.pointer (some ⟨ly.rb,0,none⟩)) rfl rfl hHeld ?_
   simp only [sZ,sS]
   refine tkE 10 41 (.pointer (some ⟨ly.rb,2,none⟩)) rfl rfl hHeld ?_
   simp only [sZ,sS]
   refine tkE 11 42 (.pointer (some ⟨ly.rb,3,none⟩)) rfl rfl hHeld ?_
   simp only [sZ,sS]
   refine tkE 12 43 (.bool wk) rfl rfl hHeld ?_
   simp only [sZ,sS]
   refine wpAnyH_ready (rs:=[13]) (by kernel_rfl) (by simp) (AllReadyH.cons rfl (fun K hK=>?_) AllReadyH.nil)
   go_simp
   refine HBG.out.mono ?_
   rintro e w6 ⟨rfl,hs6,k6⟩
   have t0:=k6.cell g0 (fun e=>HNE.out e)
   have t1:=k6.cell g1 hn3
   have t2:=k6.cell g2 hns
   have t3:=k6.cell g3 (fun e=>HNE.out e)
   have HS6:=mH (And.intro hs6 k6)
   clear hs6 k6 hHeld
   refine hK.out _ _ ⟨t0,t1,t2,t3⟩ (fun hHeld=>?_)
   clear hK K
   refine wpAnyH_done (by kernel_rfl) ?_ _
   dsimp only [Plain]
   gi_wp2
   have K56:Kept (fun k=>k=ly.sb) w5 w6:=(show Kept (fun k=>k=ly.sb) w5 w5.drew from ⟨rfl,rfl,rfl,Nat.le_refl _,fun _ _ _=>rfl⟩).trans HS6.out.2 (fun _ h=>.inl h)
   have KW6:Kept ly.F W w6:=KW5.out.trans K56 (fun k e=>.inl (.inr (.inl e)))
   have hM6:RvM B w6 ly (rr.beg id h.now wk):=⟨(HS6.out.2.block ly.rb (lOh HX5.out) (fun e=>HNE.out e)).trans HX5.out,HS6.out.1,HI.out.2.2.2.1.b1,HI.out.2.2.2.1.b2,HNE.out,HI.out.2.2.2.1.no,fun p s e=>by
    obtain⟨gb,e1,e2,e3,e4⟩:=HI.out.2.2.2.1.yes p s e
    refine⟨gb,e1,(((e2.below HB4.out).kept K5.out (fun k e f=>e3 (by rw [<- e];exact f))).kept K56 (fun k e f=>e4 (by rw [<- e];exact f))),e3,e4⟩⟩
   have KF:Kept F W w6:=KW6.mono (fun k f=>by rw [hF];exact .inl (HFL.out k f).1)
   refine⟨⟨KW6.size,fun k o hk ho _=>(KW6.block k (lOh ho) (fun f=>by have:=(HFL.out k f).2;omega)).trans ho⟩,KF, ?_,(KW6.block _ (lOh HI.out.2.1) (fun f=>by have:=(HFL.out _ f).2;omega)).trans HI.out.2.1,HI.out.2.2.1.trans KF (fun _ h=>.inl h)⟩
   have:=HI.out.1.one0 hly KW6 hM6
   rw [List.map_append,List.map_singleton,tlR_snoc,begR_at (show tlR h.now h.t.ns h.rv (pre.map Subtype.val) id=some rr from hrr),<- HWK.out]
   exact this
  case done=>
   rintro D ys W hD rfl ⟨hi1,hi2,hi3⟩ hK
   have HI1:=mH hi1
   have HI3:=mH hi3
   clear hi1 hi2 hi3
   gi_wp2
   refine⟨by simp,.inl ⟨_,_,rfl,run_takeDeferred hK, ?_⟩⟩
   refine⟨_,results_none rfl _ _ _,rfl, ?_, ?_⟩
   ·have HF2:=HI1.out
    rw [show tlR h.now h.t.ns h.rv ((upto (bkS ps hz) ps.length).map Subtype.val)=tellR h.now h.t.ns h.rv by rw [bkS_all,tlR_all,HE.out];rfl] at HF2
    exact HF2.kept (Kept.grown (F:=fun k=>k=D) (grownBy_putObj' W D (.deferred none)) (fun k e=>by cases e;rfl)) (fun k e=>.inl (hO0 k (by omega)))
   ·exact((kept_new (F:=fun k=>own k ≠ 0) hb0).trans HI3.out (fun k hk=>by rw [hF] at hk;rcases hk with e | e;exact .inl (by omega);exact .inr (by omega))).trans (Kept.grown (F:=fun k=>k=D) (grownBy_putObj' W D (.deferred none)) (fun k e=>by cases e;rfl)) (fun k e=>.inr (by omega))
  case stop=>
   rintro D cd pre W hD hS hf hK
   exact hf.elim
 ·refine wpIn_rangeFunc_ownH rfl (by omega) (gf:=75) (lb:=#[.pointer (some ⟨w.heap.size+1,0,none⟩)]) rfl trivial (enters_of Tryz.func75 (by kernel_rfl) rfl)
   (back_stops Fence.wide 2 trivial rfl (by omega) (w.heap.size+1) F (.slice a1 ps.length cap) ps hl W0 (by rw [hF];have:=hO0 (w.heap.size+1) (by omega);omega) (cOb k2 rfl) (HR.out.below hb0) (fun b' off c e hp=>by rw [hF];have:=HON.out b' (by rw [e];rfl);have:=(HSZ.out b' (by omega)).2;omega)) (fun h1 h2=>h1.trans h2 (fun _ h=>.inl h)) (keptK_b hFb) (Below.refl _ _) (fun _=>rfl)
   (fun pre W=>HB B own W b mb lay (.slice a1 ps.length cap) gv wv ps qs ⟨h.now,h.t,tlR h.now h.t.ns h.rv pre,h.ws⟩/\W.heap[w.heap.size]?=some (.cells #[pB b] 24 (0,0))/\Kept F W0 W)
   (fun _ _ _=>False)
   (fun s X Y row hs hg hr=>⟨hs.1.kept (Kept.grown hg (F:=fun k=>W0.heap.size<=k) (fun k e=>(hr k e).1)) (fun k hk=>.inl (hO0 k (by omega))),(hg.block _ (lOh hs.2.1) (fun e=>by have:=(hr _ e.symm).1;omega)).trans hs.2.1,hs.2.2.trans (Kept.grown hg (F:=F) (fun k e=>hFb k (hr k e).1)) (fun _ h=>.inl h)⟩)
   (fun cd s X Y row hs hg hr=>hs)
   ⟨HH.out.below hb0,k1,Kept.refl _ _⟩
   (fun x a' W=>∃ Bx,W0.heap.size<=Bx/\W.heap[Bx]?=some (.cells #[.int .i64 x.x.1.id,.int .i64 x.x.1.pa,.int .i64 x.x.1.sv.1,.int .i64 x.x.1.sv.2.1,.int .i64 x.x.1.sv.2.2,.int .i64 x.x.1.po,tvN x.x] 69 (0,0))/\a' = { tmps:=#[pB b,.pointer (some ⟨w.heap.size,0,none⟩),undef,.pointer (some ⟨Bx,0,none⟩),undef,pB b,.pointer (some ⟨b,0,none⟩),.pointer (some ⟨b,1,none⟩),.pointer (some ⟨b,1,none⟩),.slice a1 ps.length cap,.func (.func 75) #[] #[.pointer (some ⟨w.heap.size+1,0,none⟩)],.int .i64 (x.i:Int),vNp x.x,undef,undef,undef,undef,undef,undef,undef,undef,undef,undef,undef,undef,undef,undef,undef,undef,undef,undef,undef,undef,undef,undef,undef,undef,undef,undef,undef,undef,undef,undef,undef,undef],defers:=[] })
   (fun x a' _ X Y row hs hg hr=>by
    obtain⟨Bx,h1,h2,h3⟩:=hs
    exact⟨Bx,h1,(hg.block Bx (lOh h2) (fun e'=>by obtain⟨o,ho,hcs⟩:=(hr _ e'.symm).2;rw [h2] at ho;cases ho;cases hcs)).trans h2,h3⟩)
   ?assign ?body ?done ?stop
  case assign=>
   rintro l pre ⟨xi,⟨id,pa,⟨k,q,T⟩,po,ts⟩,ta,tc⟩ W K ⟨hi1,hi2,hi3⟩ hK
   simp only [encN,vNp,vNd,tvN]
   gi_wp2
   refine hK _ _ ((KeepsOthers.alloc _ _).from _) (Kept.alloc _ _ _) ⟨hi1.below (ba (Below.refl _ W) _),(heap_alloc_old W _ (lOh hi2)).trans hi2,hi3.trans (Kept.alloc F _ _) (fun _ h=>.inl h)⟩ ⟨W.heap.size,hi3.size,heap_alloc_new W _,by simp⟩
  case body=>
   rintro l pre ⟨xi,⟨id,pa,⟨k,q,T⟩,po,ts⟩,ta,tc⟩ a' W hl' ⟨r,hr⟩ ⟨hi1,hi2,hi3⟩ ⟨Bx,hBx,hblk,rfl⟩ hlt
   have hlt:pre.length < ps.length:=hlt
   omega
  case done=>
   rintro D ys W hD rfl ⟨hi1,hi2,hi3⟩ hK
   have HI1:=mH hi1
   have HI3:=mH hi3
   clear hi1 hi2 hi3
   gi_wp2
   refine⟨by simp,.inl ⟨_,_,rfl,run_takeDeferred hK, ?_⟩⟩
   refine⟨_,results_none rfl _ _ _,rfl, ?_, ?_⟩
   ·have HF2:=HI1.out
    rw [show tlR h.now h.t.ns h.rv (upto (bkN ps) ps.length)=tellR h.now h.t.ns h.rv by rw [tlR_all,HE.out];rfl] at HF2
    exact HF2.kept (Kept.grown (F:=fun k=>k=D) (grownBy_putObj' W D (.deferred none)) (fun k e=>by cases e;rfl)) (fun k e=>.inl (hO0 k (by omega)))
   ·exact((kept_new (F:=fun k=>own k ≠ 0) hb0).trans HI3.out (fun k hk=>by rw [hF] at hk;rcases hk with e | e;exact .inl (by omega);exact .inr (by omega))).trans (Kept.grown (F:=fun k=>k=D) (grownBy_putObj' W D (.deferred none)) (fun k e=>by cases e;rfl)) (fun k e=>.inr (by omega))
  case stop=>
   rintro D cd pre W hD hS hf hK
   exact hf.elim
end Go.Proofs.YtpdehdomilnmeaaGreatDoor
