import Derived.Test.YtpdehdomilnmeaaGreatDoorHs0
import Derived.Test.YtpdehdomilnmeaaGreatDoorHm1
import Derived.Test.YtpdehdomilnmeaaGreatDoorGx
import Derived.Test.YtpdehdomilnmeaaGreatDoorHsM
import Derived.Test.YtpdehdomilnmeaaGreatDoorStoreBx
namespace Go.Proofs.YtpdehdomilnmeaaGreatDoor
open Go.ChangeShapes Go.WideShapes Go.ChangeAt Go.RowKit
set_option maxRecDepth 100000
attribute [local go_sem] World.cell?_alloc_some fAs
structure Lay where
 rb:Nat
 sb:Nat
 gb:Option Nat
 tv:Value
 jv:Value
def Lay.F (l:Lay) (k:Nat):Prop:=k=l.rb ∨ k=l.sb ∨ ∃ b,l.gb=some b/\Ft l.tv l.jv b k
def RB (w:World) (l:Lay) (mi:Int) (mw mr:Bool):Prop:=w.heap[l.rb]?=some (.cells #[pB l.sb,pO l.gb,.int .i64 mi,.bool mw,.bool mr] 116 (0,0))
structure RvM (B:Nat) (w:World) (l:Lay) (r:Rv):Prop where
 box:RB w l r.mi r.mw r.mr
 srv:SB w l.sb r.sv r.m r.wk r.x
 b1:B<=l.rb
 b2:B<=l.sb
 ne:l.rb ≠ l.sb
 no:r.g=none->l.gb=none
 yes:∀ p s,r.g=some (p,s)->∃ b,l.gb=some b/\GB B w b p l.tv l.jv s/\¬ Ft l.tv l.jv b l.rb/\¬ Ft l.tv l.jv b l.sb
theorem RB.lt {w:World} {l:Lay} {mi:Int} {mw mr:Bool} (h:RB w l mi mw mr):l.rb < w.heap.size:=lOh h
theorem RvM.foot {B:Nat} {w:World} {l:Lay} {r:Rv} (h:RvM B w l r) {k:Nat} (hk:l.F k):B<=k/\k < w.heap.size:=by
 rcases hk with rfl | rfl | ⟨b,hb,hf⟩
 ·exact⟨h.b1,h.box.lt⟩
 ·exact⟨h.b2,h.srv.lt⟩
 ·cases hg:r.g with
  |none=>rw [h.no hg] at hb;cases hb
  |some x=>
   obtain⟨b',e,g,_⟩:=h.yes x.1 x.2 hg
   rw [hb] at e
   cases e
   exact g.foot hf
theorem RvM.kept {B:Nat} {G:Nat->Prop} {w w':World} {l:Lay} {r:Rv} (h:RvM B w l r) (hk:Kept G w w') (hn:∀ k,l.F k->¬ G k):RvM B w' l r:=
 ⟨(hk.block _ h.box.lt (hn _ (.inl rfl))).trans h.box,h.srv.kept hk (hn _ (.inr (.inl rfl))),h.b1,h.b2,h.ne,h.no,fun p s e=>by
  obtain⟨b,e1,e2,e3,e4⟩:=h.yes p s e
  exact⟨b,e1,e2.kept hk (fun k f hf=>hn k (.inr (.inr ⟨b,e1,hf⟩)) f),e3,e4⟩⟩
theorem Tks.kept {G:Nat->Prop} {w w':World} {v:Value} {xs:List Tk} (h:Tks w v xs) (hk:Kept G w w') (hn:∀ k,v.ownBlock=some k->0 < xs.length->¬ G k):Tks w' v xs:=by
 obtain⟨a,cap,rfl,hl,hr⟩:=h
 refine⟨a,cap,rfl,hl,fun hp=>?_⟩
 obtain⟨b,off,rfl,hc⟩:=hr hp
 have nb:=hn b rfl hp
 refine⟨b,off,rfl,fun i x hi=>?_⟩
 obtain⟨h0,h1,h2,h3⟩:=hc i x hi
 exact⟨hk.cell h0 nb,hk.cell h1 nb,hk.cell h2 nb,hk.cell h3 nb⟩
theorem Tks.lt {w:World} {v:Value} {xs:List Tk} (h:Tks w v xs) {k:Nat} (hk:v.ownBlock=some k) (hp:0 < xs.length):k < w.heap.size:=by
 obtain⟨a,cap,rfl,hl,hr⟩:=h
 obtain⟨b,off,rfl,hc⟩:=hr hp
 cases hk
 obtain⟨x,hx⟩:∃ x,xs[0]?=some x:=⟨_,List.getElem?_eq_getElem hp⟩
 exact World.block_lt_of_cell? w _ (hc 0 x hx).1
structure OqM (w:World) (own:Nat->Int) (q:Op):Prop where
 ts:Tks w (tvO q) q.1.ts
 cap:q.1.ts.length<=q.2.2
 sm:smallO q
 o:∀ k,(tvO q).ownBlock=some k->0 < q.1.ts.length->own k = -4
structure HB (B:Nat) (own:Nat->Int) (w:World) (b mb:Nat) (lay:Int->Option Lay) (nv gv wv:Value) (ps:List Np) (qs:List Op) (h:Hs):Prop where
 blk:w.heap[b]?=some (.cells #[.int .i64 h.now,nv,gv,.int .i64 h.t.last,.int .i64 h.t.now,.map (some mb),wv] 87 (0,0))
 tr:TrO B w nv gv ps h.t.gs
 te:nds ps=h.t.ns
 mp:Mj w mb (fun i=>(lay i).map Lay.rb)
 dm:∀ i,lay i=none ↔ h.rv i=none
 rm:∀ i l r,lay i=some l->h.rv i=some r->RvM B w l r
 ws:RO w wv qs
 wq:∀ q ∈ qs,OqM w own q
 we:qs.map (·.1)=h.ws
 ob:own b = -1
 om:own mb = -2
 ol:∀ i l,lay i=some l->1<=i/\∀ k,l.F k->own k=i
 ow:∀ k,wv.ownBlock=some k->own k = -3
 on:∀ k,nv.ownBlock=some k->own k = -4
 og:∀ k,gv.ownBlock=some k->own k = -4
 ot:∀ t ∈ ps,∀ k,(tvN t).ownBlock=some k->own k = -4
 sz:∀ k,own k ≠ 0->B<=k/\k < w.heap.size
theorem HB.kept {B:Nat} {own:Nat->Int} {w w':World} {b mb:Nat} {lay:Int->Option Lay} {nv gv wv:Value} {ps:List Np} {qs:List Op} {h:Hs} {G:Nat->Prop} (H:HB B own w b mb lay nv gv wv ps qs h) (hk:Kept G w w') (hG:∀ k,G k->own k=0 ∨ w.heap.size<=k):HB B own w' b mb lay nv gv wv ps qs h:=by
 have nG:∀ k,own k ≠ 0->¬ G k:=fun k hn g=>by
  rcases hG k g with e | e
  ·exact hn e
  ·have:=(H.sz k hn).2;omega
 refine⟨(hk.block b (lOh H.blk) (nG b (by rw [H.ob];decide))).trans H.blk,H.tr.kept hk (fun k g=>.inl ⟨fun e=>nG k (by rw [H.on k e];decide) g,fun e=>nG k (by rw [H.og k e];decide) g,fun t ht e=>nG k (by rw [H.ot t ht k e];decide) g⟩),H.te,H.mp.kept hk (nG mb (by rw [H.om];decide)),H.dm,fun i l r h1 h2=>(H.rm i l r h1 h2).kept hk (fun k f=>nG k ?_),H.ws.kept hk (fun k e=>nG k (by rw [H.ow k e];decide)),fun q hq=>?_,H.we,H.ob,H.om,H.ol,H.ow,H.on,H.og,H.ot,fun k hn=>⟨(H.sz k hn).1,Nat.lt_of_lt_of_le (H.sz k hn).2 hk.size⟩⟩
 ·have:=(H.ol i l h1).2 k f
  have:=(H.ol i l h1).1
  omega
 ·have q1:=H.wq q hq
  exact⟨q1.ts.kept hk (fun k e hp=>nG k (by rw [q1.o k e hp];decide)),q1.cap,q1.sm,q1.o⟩
theorem HB.below {B:Nat} {own:Nat->Int} {w w':World} {b mb:Nat} {lay:Int->Option Lay} {nv gv wv:Value} {ps:List Np} {qs:List Op} {h:Hs} (H:HB B own w b mb lay nv gv wv ps qs h) (hb:Below w.heap.size w w'):HB B own w' b mb lay nv gv wv ps qs h:=
 H.kept (kept_of_below hb) (fun _ hk=>.inr hk)
theorem HB.lt {B:Nat} {own:Nat->Int} {w:World} {b mb:Nat} {lay:Int->Option Lay} {nv gv wv:Value} {ps:List Np} {qs:List Op} {h:Hs} (H:HB B own w b mb lay nv gv wv ps qs h):b < w.heap.size:=lOh H.blk
theorem HB.c {B:Nat} {own:Nat->Int} {w:World} {b mb:Nat} {lay:Int->Option Lay} {nv gv wv:Value} {ps:List Np} {qs:List Op} {h:Hs} (H:HB B own w b mb lay nv gv wv ps qs h):w.cell? ⟨b,0,none⟩=some (.int .i64 h.now)/\w.cell? ⟨b,1,none⟩=some nv/\w.cell? ⟨b,2,none⟩=some gv/\w.cell? ⟨b,3,none⟩=some (.int .i64 h.t.last)/\w.cell? ⟨b,4,none⟩=some (.int .i64 h.t.now)/\w.cell? ⟨b,5,none⟩=some (.map (some mb))/\w.cell? ⟨b,6,none⟩=some wv:=
 ⟨cOb H.blk rfl,cOb H.blk rfl,cOb H.blk rfl,cOb H.blk rfl,cOb H.blk rfl,cOb H.blk rfl,cOb H.blk rfl⟩
theorem HB.fz {B:Nat} {own:Nat->Int} {w:World} {b mb:Nat} {lay:Int->Option Lay} {nv gv wv:Value} {ps:List Np} {qs:List Op} {h:Hs} (H:HB B own w b mb lay nv gv wv ps qs h) (i:Nat):w.frozen? ⟨b,i,none⟩=false:=fOb H.blk
def HO (B:Nat) (own:Nat->Int) (w:World) (b mb:Nat) (h:Hs) (w':World):Prop:=∃ own' lay nv gv wv ps qs,HB B own' w' b mb lay nv gv wv ps qs h/\(∀ k,k < w.heap.size->own' k=own k)/\Kept (fun k=>own k ≠ 0) w w'
theorem HO.mk {B:Nat} {own own':Nat->Int} {w w':World} {b mb:Nat} {lay:Int->Option Lay} {nv gv wv:Value} {ps:List Np} {qs:List Op} {h:Hs} (H:HB B own' w' b mb lay nv gv wv ps qs h) (h1:∀ k,k < w.heap.size->own' k=own k) (h2:Kept (fun k=>own k ≠ 0) w w'):HO B own w b mb h w':=⟨own',lay,nv,gv,wv,ps,qs,H,h1,h2⟩
theorem HB.one {B:Nat} {own:Nat->Int} {w w':World} {b mb:Nat} {lay:Int->Option Lay} {nv gv wv:Value} {ps:List Np} {qs:List Op} {h:Hs} (H:HB B own w b mb lay nv gv wv ps qs h) {i:Int} {l l':Lay} {r':Rv} (hl:lay i=some l) (hrb:l'.rb=l.rb) (hk:Kept l.F w w') (hm:RvM B w' l' r') (hF:∀ k,l'.F k->l.F k ∨ w.heap.size<=k) :
  ∃ own',HB B own' w' b mb (fun j=>if j=i then some l' else lay j) nv gv wv ps qs ⟨h.now,h.t,upR h.rv i (some r'),h.ws⟩/\∀ k,k < w.heap.size->own' k=own k:=by
 have hi:=(H.ol i l hl).1
 have hown:=(H.ol i l hl).2
 refine⟨fun k=>if k < w.heap.size then own k else if k < w'.heap.size then i else 0, ?_,fun k hk'=>if_pos hk'⟩
 have nF:∀ k,own k ≠ i->¬ l.F k:=fun k e f=>e (hown k f)
 have old:∀ k,own k ≠ 0->(if k < w.heap.size then own k else if k < w'.heap.size then i else 0)=own k:=fun k hn=>if_pos (H.sz k hn).2
 refine⟨(hk.block b H.lt (nF b (by rw [H.ob];omega))).trans H.blk,H.tr.kept hk (fun k g=>.inl ⟨fun e=>nF k (by rw [H.on k e];omega) g,fun e=>nF k (by rw [H.og k e];omega) g,fun t ht e=>nF k (by rw [H.ot t ht k e];omega) g⟩),H.te, ?_, ?_, ?_,H.ws.kept hk (fun k e=>nF k (by rw [H.ow k e];omega)),fun q hq=>?_,H.we, ?_, ?_, ?_, ?_, ?_, ?_, ?_, ?_⟩
 ·have e:(fun j=>((fun j=>if j=i then some l' else lay j) j).map Lay.rb)=(fun j=>(lay j).map Lay.rb):=by
   funext j
   show (if j=i then some l' else lay j).map Lay.rb=_
   split
   ·rename_i e;subst e;rw [hl];simp [hrb]
   ·rfl
  rw [e];exact H.mp.kept hk (nF mb (by rw [H.om];omega))
 ·intro j
  show (if j=i then some l' else lay j)=none ↔ upR h.rv i (some r') j=none
  unfold upR
  split
  ·simp
  ·exact H.dm j
 ·intro j lj rj h1 h2
  simp only [upR] at h1 h2
  by_cases e:j=i
  ·rw [if_pos e] at h1 h2
   cases h1;cases h2
   exact hm
  ·rw [if_neg e] at h1 h2
   exact(H.rm j lj rj h1 h2).kept hk (fun k f g=>by have:=(H.ol j lj h1).2 k f;have:=hown k g;omega)
 ·have q1:=H.wq q hq
  exact⟨q1.ts.kept hk (fun k e hp=>nF k (by rw [q1.o k e hp];omega)),q1.cap,q1.sm,fun k e hp=>by rw [old k (by rw [q1.o k e hp];decide)];exact q1.o k e hp⟩
 ·show (if b < w.heap.size then own b else _)=_
  rw [old b (by rw [H.ob];decide)];exact H.ob
 ·show (if mb < w.heap.size then own mb else _)=_
  rw [old mb (by rw [H.om];decide)];exact H.om
 ·intro j lj h1
  have h1:(if j=i then some l' else lay j)=some lj:=h1
  by_cases e:j=i
  ·rw [if_pos e] at h1
   cases h1
   refine⟨by omega,fun k f=>?_⟩
   have k1:=(hm.foot f).2
   by_cases e2:k < w.heap.size
   ·rw [if_pos e2,e]
    rcases hF k f with f | f
    ·exact hown k f
    ·omega
   ·rw [if_neg e2,if_pos k1,e]
  ·rw [if_neg e] at h1
   refine⟨(H.ol j lj h1).1,fun k f=>?_⟩
   have:=(H.ol j lj h1).2 k f
   have:=(H.ol j lj h1).1
   rw [old k (by omega)];omega
 ·intro k e
  rw [old k (by rw [H.ow k e];decide)];exact H.ow k e
 ·intro k e
  rw [old k (by rw [H.on k e];decide)];exact H.on k e
 ·intro k e
  rw [old k (by rw [H.og k e];decide)];exact H.og k e
 ·intro t ht k e
  rw [old k (by rw [H.ot t ht k e];decide)];exact H.ot t ht k e
 ·intro k hn
  have hs:=hk.size
  by_cases e:k < w.heap.size
  ·rw [if_pos e] at hn
   have:=H.sz k hn
   omega
  ·rw [if_neg e] at hn
   have hB:=(H.sz b (by rw [H.ob];decide))
   split at hn
   ·omega
   ·exact absurd rfl hn
def tag (own:Nat->Int) (n n':Nat) (v:Int):Nat->Int:=fun k=>if k < n then own k else if k < n' then v else 0
theorem tag_old {own:Nat->Int} {n n':Nat} {v:Int} {k:Nat} (h:k < n):tag own n n' v k=own k:=if_pos h
theorem tag_new {own:Nat->Int} {n n':Nat} {v:Int} {k:Nat} (h:n<=k) (h2:k < n'):tag own n n' v k=v:=by unfold tag;rw [if_neg (by omega),if_pos h2]
theorem HB.tree {B:Nat} {own:Nat->Int} {w w1 w2:World} {b mb:Nat} {lay:Int->Option Lay} {nv gv wv nv' gv':Value} {ps ps':List Np} {qs:List Op} {h:Hs} {t':Tr} (H:HB B own w b mb lay nv gv wv ps qs h) (hb1:Below w.heap.size w w1) (ho:TrO w.heap.size w1 nv' gv' ps' t'.gs) (he:nds ps'=t'.ns) (hk:Kept (fun k=>k=b) w1 w2)
  (hblk:w2.heap[b]?=some (.cells #[.int .i64 h.now,nv',gv',.int .i64 t'.last,.int .i64 t'.now,.map (some mb),wv] 87 (0,0))) :
  HB B (tag own w.heap.size w1.heap.size (-4)) w2 b mb lay nv' gv' wv ps' qs ⟨h.now,t',h.rv,h.ws⟩:=by
 have H1:=H.below hb1
 have hs1:=hb1.size
 have hs2:=hk.size
 have hbl:=H.lt
 have hBw:=(H.sz b (by rw [H.ob];decide)).1
 have old:∀ k,own k ≠ 0->tag own w.heap.size w1.heap.size (-4) k=own k:=fun k hn=>tag_old (H.sz k hn).2
 have nF:∀ k,own k ≠ -1->¬ k=b:=fun k e f=>e (by rw [f];exact H.ob)
 have ho2:TrO B w2 nv' gv' ps' t'.gs:=by
  have:=ho.kept hk (fun k g=>.inl ⟨fun e=>by have:=(ho.nown.lt k e).1;omega,fun e=>by have:=(ho.gown.lt k e).1;omega,fun t ht e=>by have:=((ho.tk t ht).lt k e).1;omega⟩)
  exact⟨own_lower this.nown (by omega),fun t ht=>own_lower (this.tk t ht) (by omega),own_lower this.gown (by omega),this.tn,this.tg,this.ng⟩
 refine⟨hblk,ho2,he,H1.mp.kept hk (nF mb (by rw [H.om];decide)),H.dm,fun i l r h1 h2=>(H1.rm i l r h1 h2).kept hk (fun k f=>nF k (by have:=(H.ol i l h1).2 k f;have:=(H.ol i l h1).1;omega)),H1.ws.kept hk (fun k e=>nF k (by rw [H.ow k e];decide)),fun q hq=>?_,H.we, ?_, ?_,fun i l h1=>⟨(H.ol i l h1).1,fun k f=>?_⟩,fun k e=>?_,fun k e=>?_,fun k e=>?_,fun t ht k e=>?_,fun k hn=>?_⟩
 ·have q1:=H1.wq q hq
  exact⟨q1.ts.kept hk (fun k e hp=>nF k (by rw [q1.o k e hp];decide)),q1.cap,q1.sm,fun k e hp=>by rw [old k (by rw [q1.o k e hp];decide)];exact q1.o k e hp⟩
 ·rw [old b (by rw [H.ob];decide)];exact H.ob
 ·rw [old mb (by rw [H.om];decide)];exact H.om
 ·have e1:=(H.ol i l h1).2 k f
  have:=(H.ol i l h1).1
  rw [old k (by omega)];exact e1
 ·rw [old k (by rw [H.ow k e];decide)];exact H.ow k e
 ·have:=ho.nown.lt k e;exact tag_new this.1 this.2
 ·have:=ho.gown.lt k e;exact tag_new this.1 this.2
 ·have:=(ho.tk t ht).lt k e;exact tag_new this.1 this.2
 ·by_cases e:k < w.heap.size
  ·rw [tag_old e] at hn
   have:=H.sz k hn;omega
  ·unfold tag at hn
   rw [if_neg e] at hn
   split at hn
   ·omega
   ·exact absurd rfl hn
theorem HB.box {B:Nat} {own:Nat->Int} {w w2:World} {b mb:Nat} {lay:Int->Option Lay} {nv gv wv:Value} {ps:List Np} {qs:List Op} {h:Hs} {now':Int} (H:HB B own w b mb lay nv gv wv ps qs h) (hk:Kept (fun k=>k=b) w w2)
  (hblk:w2.heap[b]?=some (.cells #[.int .i64 now',nv,gv,.int .i64 h.t.last,.int .i64 h.t.now,.map (some mb),wv] 87 (0,0))):HB B own w2 b mb lay nv gv wv ps qs ⟨now',h.t,h.rv,h.ws⟩:=by
 have hs2:=hk.size
 have nF:∀ k,own k ≠ -1->¬ k=b:=fun k e f=>e (by rw [f];exact H.ob)
 refine⟨hblk,H.tr.kept hk (fun k g=>.inl ⟨fun e=>nF k (by rw [H.on k e];decide) g,fun e=>nF k (by rw [H.og k e];decide) g,fun t ht e=>nF k (by rw [H.ot t ht k e];decide) g⟩),H.te,H.mp.kept hk (nF mb (by rw [H.om];decide)),H.dm,fun i l r h1 h2=>(H.rm i l r h1 h2).kept hk (fun k f=>nF k (by have:=(H.ol i l h1).2 k f;have:=(H.ol i l h1).1;omega)),H.ws.kept hk (fun k e=>nF k (by rw [H.ow k e];decide)),fun q hq=>?_,H.we,H.ob,H.om,H.ol,H.ow,H.on,H.og,H.ot,fun k hn=>⟨(H.sz k hn).1,by have:=(H.sz k hn).2;omega⟩⟩
 have q1:=H.wq q hq
 exact⟨q1.ts.kept hk (fun k e hp=>nF k (by rw [q1.o k e hp];decide)),q1.cap,q1.sm,q1.o⟩
theorem HB.cut {B:Nat} {own:Nat->Int} {w w2:World} {b mb:Nat} {lay:Int->Option Lay} {nv gv wv wv':Value} {ps:List Np} {qs:List Op} {h:Hs} (n:Nat) (H:HB B own w b mb lay nv gv wv ps qs h) (hk:Kept (fun k=>k=b) w w2) (hr:RO w wv' (qs.drop n)) (hv:wv'.ownBlock=wv.ownBlock)
  (hblk:w2.heap[b]?=some (.cells #[.int .i64 h.now,nv,gv,.int .i64 h.t.last,.int .i64 h.t.now,.map (some mb),wv'] 87 (0,0))):HB B own w2 b mb lay nv gv wv' ps (qs.drop n) ⟨h.now,h.t,h.rv,h.ws.drop n⟩:=by
 have hs2:=hk.size
 have nF:∀ k,own k ≠ -1->¬ k=b:=fun k e f=>e (by rw [f];exact H.ob)
 refine⟨hblk,H.tr.kept hk (fun k g=>.inl ⟨fun e=>nF k (by rw [H.on k e];decide) g,fun e=>nF k (by rw [H.og k e];decide) g,fun t ht e=>nF k (by rw [H.ot t ht k e];decide) g⟩),H.te,H.mp.kept hk (nF mb (by rw [H.om];decide)),H.dm,fun i l r h1 h2=>(H.rm i l r h1 h2).kept hk (fun k f=>nF k (by have:=(H.ol i l h1).2 k f;have:=(H.ol i l h1).1;omega)),hr.kept hk (fun k e=>nF k (by rw [H.ow k (by rw [<- hv];exact e)];decide)),fun q hq=>?_,by rw [List.map_drop,H.we],H.ob,H.om,H.ol,fun k e=>H.ow k (by rw [<- hv];exact e),H.on,H.og,H.ot,fun k hn=>⟨(H.sz k hn).1,by have:=(H.sz k hn).2;omega⟩⟩
 have q1:=H.wq q (List.mem_of_mem_drop hq)
 exact⟨q1.ts.kept hk (fun k e hp=>nF k (by rw [q1.o k e hp];decide)),q1.cap,q1.sm,q1.o⟩
theorem HB.push {B:Nat} {own:Nat->Int} {w w1 w2 w3:World} {b mb:Nat} {lay:Int->Option Lay} {nv gv wv wv':Value} {ps:List Np} {qs:List Op} {h:Hs} {q:Op} (H:HB B own w b mb lay nv gv wv ps qs h) (hb1:Below w.heap.size w w1) (hq:Tks w1 (tvO q) q.1.ts) (hqc:q.1.ts.length<=q.2.2) (hqs:smallO q) (hqb:∀ k,(tvO q).ownBlock=some k->0 < q.1.ts.length->w.heap.size<=k)
  (hk:Kept (fun k=>wv.ownBlock=some k) w1 w2) (hr:RO w2 wv' (qs ++ [q])) (hv:wv'.ownBlock=wv.ownBlock ∨ wv'.ownBlock=some w1.heap.size) (hk3:Kept (fun k=>k=b) w2 w3)
  (hblk:w3.heap[b]?=some (.cells #[.int .i64 h.now,nv,gv,.int .i64 h.t.last,.int .i64 h.t.now,.map (some mb),wv'] 87 (0,0))) :
  HB B (fun k=>if k=w1.heap.size/\w1.heap.size < w3.heap.size then -3 else tag own w.heap.size w3.heap.size (-4) k) w3 b mb lay nv gv wv' ps (qs ++ [q]) ⟨h.now,h.t,h.rv,h.ws ++ [q.1]⟩:=by
 have H1:=H.below hb1
 have s1:=hb1.size
 have s2:=hk.size
 have s3:=hk3.size
 have hbl:=H.lt
 have hBw:=(H.sz b (by rw [H.ob];decide)).1
 have old:∀ k,own k ≠ 0->(if k=w1.heap.size/\w1.heap.size < w3.heap.size then -3 else tag own w.heap.size w3.heap.size (-4) k)=own k:=fun k hn=>by
  have:=(H.sz k hn).2
  rw [if_neg (by omega),tag_old this]
 have n2:∀ k,own k ≠ -3->¬ wv.ownBlock=some k:=fun k e f=>e (H.ow k f)
 have n3:∀ k,own k ≠ -1->¬ k=b:=fun k e f=>e (by rw [f];exact H.ob)
 have hwl:∀ k,wv'.ownBlock=some k->k < w2.heap.size:=fun k e=>hr.lt e
 refine⟨hblk,(H1.tr.kept hk (fun k g=>.inl ⟨fun e=>n2 k (by rw [H.on k e];decide) g,fun e=>n2 k (by rw [H.og k e];decide) g,fun t ht e=>n2 k (by rw [H.ot t ht k e];decide) g⟩)).kept hk3 (fun k g=>.inl ⟨fun e=>n3 k (by rw [H.on k e];decide) g,fun e=>n3 k (by rw [H.og k e];decide) g,fun t ht e=>n3 k (by rw [H.ot t ht k e];decide) g⟩),H.te,(H1.mp.kept hk (n2 mb (by rw [H.om];decide))).kept hk3 (n3 mb (by rw [H.om];decide)),H.dm,fun i l r h1 h2=>((H1.rm i l r h1 h2).kept hk (fun k f=>n2 k (by have:=(H.ol i l h1).2 k f;have:=(H.ol i l h1).1;omega))).kept hk3 (fun k f=>n3 k (by have:=(H.ol i l h1).2 k f;have:=(H.ol i l h1).1;omega)),hr.kept hk3 (fun k e=>?_),fun x hx=>?_,by rw [List.map_append,H.we];rfl, ?_, ?_,fun i l h1=>⟨(H.ol i l h1).1,fun k f=>?_⟩,fun k e=>?_,fun k e=>?_,fun k e=>?_,fun t ht k e=>?_,fun k hn=>?_⟩
 ·rcases hv with e2 | e2
  ·exact n3 k (by rw [H.ow k (by rw [<- e2];exact e)];decide)
  ·rw [e2] at e;cases e;omega
 ·rcases List.mem_append.mp hx with hx | hx
  ·have q1:=H1.wq x hx
   exact⟨(q1.ts.kept hk (fun k e hp=>n2 k (by rw [q1.o k e hp];decide))).kept hk3 (fun k e hp=>n3 k (by rw [q1.o k e hp];decide)),q1.cap,q1.sm,fun k e hp=>by rw [old k (by rw [q1.o k e hp];decide)];exact q1.o k e hp⟩
  ·simp at hx
   subst hx
   have lt1:∀ k,(tvO x).ownBlock=some k->0 < x.1.ts.length->k < w1.heap.size:=fun k e hp=>hq.lt e hp
   refine⟨(hq.kept hk (fun k e hp g=>?_)).kept hk3 (fun k e hp g=>?_),hqc,hqs,fun k e hp=>?_⟩
   ·have:=hqb k e hp
    have:=(H.sz k (by rw [H.ow k g];decide)).2
    omega
   ·have:=hqb k e hp;omega
   ·have k1:=hqb k e hp
    have k2:=lt1 k e hp
    rw [if_neg (by omega)]
    exact tag_new k1 (by omega)
 ·rw [old b (by rw [H.ob];decide)];exact H.ob
 ·rw [old mb (by rw [H.om];decide)];exact H.om
 ·have e1:=(H.ol i l h1).2 k f
  have:=(H.ol i l h1).1
  rw [old k (by omega)];exact e1
 ·have hl:=hwl k e
  rcases hv with e2 | e2
  ·have e3:=H.ow k (by rw [<- e2];exact e)
   rw [old k (by rw [e3];decide)];exact e3
  ·rw [e2] at e
   cases e
   rw [if_pos ⟨rfl,by omega⟩]
 ·rw [old k (by rw [H.on k e];decide)];exact H.on k e
 ·rw [old k (by rw [H.og k e];decide)];exact H.og k e
 ·rw [old k (by rw [H.ot t ht k e];decide)];exact H.ot t ht k e
 ·have hn:(if k=w1.heap.size/\w1.heap.size < w3.heap.size then -3 else tag own w.heap.size w3.heap.size (-4) k) ≠ 0:=hn
  by_cases e:k < w.heap.size
  ·rw [if_neg (by omega),tag_old e] at hn
   have:=H.sz k hn;omega
  ·split at hn
   ·omega
   ·unfold tag at hn
    rw [if_neg e] at hn
    split at hn
    ·omega
    ·exact absurd rfl hn
theorem HB.fresh {B:Nat} {own:Nat->Int} {w w1 w2:World} {b mb:Nat} {lay:Int->Option Lay} {nv gv wv:Value} {ps:List Np} {qs:List Op} {h:Hs} {i:Int} {l':Lay} {r':Rv} (H:HB B own w b mb lay nv gv wv ps qs h) (hi:1<=i) (hb1:Below w.heap.size w w1) (hm:RvM B w1 l' r') (hF:∀ k,l'.F k->w.heap.size<=k) (hk:Kept (fun k=>k=mb) w1 w2) (hmp:Mj w2 mb (upn (fun i=>(lay i).map Lay.rb) i l'.rb)) :
  HB B (tag own w.heap.size w2.heap.size i) w2 b mb (fun j=>if j=i then some l' else lay j) nv gv wv ps qs ⟨h.now,h.t,upR h.rv i (some r'),h.ws⟩:=by
 have H1:=H.below hb1
 have s1:=hb1.size
 have s2:=hk.size
 have hbl:=H.lt
 have hBw:=(H.sz b (by rw [H.ob];decide)).1
 have hml:=(H.sz mb (by rw [H.om];decide)).2
 have old:∀ k,own k ≠ 0->tag own w.heap.size w2.heap.size i k=own k:=fun k hn=>tag_old (H.sz k hn).2
 have nF:∀ k,own k ≠ -2->¬ k=mb:=fun k e f=>e (by rw [f];exact H.om)
 refine⟨(hk.block b (by omega) (nF b (by rw [H.ob];decide))).trans H1.blk,H1.tr.kept hk (fun k g=>.inl ⟨fun e=>nF k (by rw [H.on k e];decide) g,fun e=>nF k (by rw [H.og k e];decide) g,fun t ht e=>nF k (by rw [H.ot t ht k e];decide) g⟩),H.te, ?_, ?_, ?_,H1.ws.kept hk (fun k e=>nF k (by rw [H.ow k e];decide)),fun q hq=>?_,H.we, ?_, ?_, ?_,fun k e=>?_,fun k e=>?_,fun k e=>?_,fun t ht k e=>?_,fun k hn=>?_⟩
 ·have e:(fun j=>((fun j=>if j=i then some l' else lay j) j).map Lay.rb)=upn (fun i=>(lay i).map Lay.rb) i l'.rb:=by
   funext j
   show (if j=i then some l' else lay j).map Lay.rb=_
   unfold upn
   split <;> rfl
  rw [e];exact hmp
 ·intro j
  show (if j=i then some l' else lay j)=none ↔ upR h.rv i (some r') j=none
  unfold upR
  split
  ·simp
  ·exact H.dm j
 ·intro j lj rj h1 h2
  simp only [upR] at h1 h2
  by_cases e:j=i
  ·rw [if_pos e] at h1 h2
   cases h1;cases h2
   exact hm.kept hk (fun k f g=>by have:=hF k f;omega)
  ·rw [if_neg e] at h1 h2
   exact(H1.rm j lj rj h1 h2).kept hk (fun k f=>nF k (by have:=(H.ol j lj h1).2 k f;have:=(H.ol j lj h1).1;omega))
 ·have q1:=H1.wq q hq
  exact⟨q1.ts.kept hk (fun k e hp=>nF k (by rw [q1.o k e hp];decide)),q1.cap,q1.sm,fun k e hp=>by rw [old k (by rw [q1.o k e hp];decide)];exact q1.o k e hp⟩
 ·rw [old b (by rw [H.ob];decide)];exact H.ob
 ·rw [old mb (by rw [H.om];decide)];exact H.om
 ·intro j lj h1
  have h1:(if j=i then some l' else lay j)=some lj:=h1
  by_cases e:j=i
  ·rw [if_pos e] at h1
   cases h1
   exact⟨by omega,fun k f=>by rw [e];exact tag_new (hF k f) (by have:=(hm.foot f).2;omega)⟩
  ·rw [if_neg e] at h1
   refine⟨(H.ol j lj h1).1,fun k f=>?_⟩
   have e1:=(H.ol j lj h1).2 k f
   have:=(H.ol j lj h1).1
   rw [old k (by omega)];exact e1
 ·rw [old k (by rw [H.ow k e];decide)];exact H.ow k e
 ·rw [old k (by rw [H.on k e];decide)];exact H.on k e
 ·rw [old k (by rw [H.og k e];decide)];exact H.og k e
 ·rw [old k (by rw [H.ot t ht k e];decide)];exact H.ot t ht k e
 ·by_cases e:k < w.heap.size
  ·rw [tag_old e] at hn
   have:=H.sz k hn;omega
  ·unfold tag at hn
   rw [if_neg e] at hn
   split at hn
   ·omega
   ·exact absurd rfl hn
theorem HB.gone {B:Nat} {own:Nat->Int} {w w2:World} {b mb:Nat} {lay:Int->Option Lay} {nv gv wv:Value} {ps:List Np} {qs:List Op} {h:Hs} {i:Int} (H:HB B own w b mb lay nv gv wv ps qs h) (hk:Kept (fun k=>k=mb) w w2) (hmp:Mj w2 mb (del (fun i=>(lay i).map Lay.rb) i)) :
  HB B own w2 b mb (fun j=>if j=i then none else lay j) nv gv wv ps qs ⟨h.now,h.t,upR h.rv i none,h.ws⟩:=by
 have s2:=hk.size
 have nF:∀ k,own k ≠ -2->¬ k=mb:=fun k e f=>e (by rw [f];exact H.om)
 refine⟨(hk.block b H.lt (nF b (by rw [H.ob];decide))).trans H.blk,H.tr.kept hk (fun k g=>.inl ⟨fun e=>nF k (by rw [H.on k e];decide) g,fun e=>nF k (by rw [H.og k e];decide) g,fun t ht e=>nF k (by rw [H.ot t ht k e];decide) g⟩),H.te, ?_, ?_, ?_,H.ws.kept hk (fun k e=>nF k (by rw [H.ow k e];decide)),fun q hq=>?_,H.we,H.ob,H.om, ?_,H.ow,H.on,H.og,H.ot,fun k hn=>⟨(H.sz k hn).1,by have:=(H.sz k hn).2;omega⟩⟩
 ·have e:(fun j=>((fun j=>if j=i then none else lay j) j).map Lay.rb)=del (fun i=>(lay i).map Lay.rb) i:=by
   funext j
   show (if j=i then none else lay j).map Lay.rb=_
   unfold del
   split <;> rfl
  rw [e];exact hmp
 ·intro j
  show (if j=i then none else lay j)=none ↔ upR h.rv i none j=none
  unfold upR
  split
  ·simp
  ·exact H.dm j
 ·intro j lj rj h1 h2
  simp only [upR] at h1 h2
  by_cases e:j=i
  ·rw [if_pos e] at h1;cases h1
  ·rw [if_neg e] at h1 h2
   exact(H.rm j lj rj h1 h2).kept hk (fun k f=>nF k (by have:=(H.ol j lj h1).2 k f;have:=(H.ol j lj h1).1;omega))
 ·have q1:=H.wq q hq
  exact⟨q1.ts.kept hk (fun k e hp=>nF k (by rw [q1.o k e hp];decide)),q1.cap,q1.sm,q1.o⟩
 ·intro j lj h1
  have h1:(if j=i then none else lay j)=some lj:=h1
  by_cases e:j=i
  ·rw [if_pos e] at h1;cases h1
  ·rw [if_neg e] at h1
   exact H.ol j lj h1
def hs0:Hs:=⟨0,⟨[],[],0,0⟩,fun _=>none,[]⟩
def own0 (n:Nat):Nat->Int:=fun k=>if k=n+1 then -1 else if k=n then -2 else 0
theorem hnew_is (w:World):Calls Tryz.prog 10 #[] w fun e w'=>e=.returned (pB (w.heap.size+1))/\HB w.heap.size (own0 w.heap.size) w' (w.heap.size+1) w.heap.size (fun _=>none) (.slice none 0 0) (.slice none 0 0) (.slice none 0 0) [] [] hs0/\Below w.heap.size w w':=by
 have hmm:=@run_makeMap Tryz.prog
 go_enter Tryz.func10,Tryz.ntmps10
 go_wp2
 go_ret
 refine⟨by simp [pB],⟨?_, ?_,rfl, ?_,fun i=>by simp [hs0],fun i l r h=>by simp at h,RO.nil _,fun q hq=>by simp at hq,rfl, ?_, ?_,fun i l h=>by simp at h,fun k h=>by simp [Value.ownBlock] at h,fun k h=>by simp [Value.ownBlock] at h,fun k h=>by simp [Value.ownBlock] at h,fun t ht=>by simp at ht,fun k hk=>?_⟩,ba (ba (Below.refl _ w) _) _⟩
 ·have:=heap_alloc_new (w.alloc (.map #[] 0)) (.cells #[.int .i64 0,.slice none 0 0,.slice none 0 0,.int .i64 0,.int .i64 0,.map (some w.heap.size),.slice none 0 0] 87)
  simpa [hs0] using this
 ·exact⟨World.ownsRow_nil _ _ _ _,fun t ht=>by simp at ht,World.ownsRow_nil _ _ _ _,fun t ht=>by simp at ht,fun t ht=>by simp at ht,fun k h=>by simp [Value.ownBlock] at h⟩
 ·refine⟨#[],0, ?_,by intro e he;simp at he,by simp,⟨by intro e he;simp at he,by simp⟩,fun k=>by simp [look]⟩
  rw [heap_alloc_old _ _ (by simp)]
  exact heap_alloc_new w _
 ·simp [own0]
 ·simp [own0]
 ·unfold own0 at hk
  simp only [World.size_alloc] at *
  split at hk
  ·omega
  ·split at hk
   ·omega
   ·exact absurd rfl hk
theorem hnow_is {B:Nat} {own:Nat->Int} {w:World} {b mb:Nat} {lay:Int->Option Lay} {nv gv wv:Value} {ps:List Np} {qs:List Op} {h:Hs} (H:HB B own w b mb lay nv gv wv ps qs h):Calls Tryz.prog 20 #[pB b] w fun e w'=>e=.returned (.int .i64 h.now)/\w'=w:=by
 obtain⟨c0,_⟩:=H.c
 clear H
 go_enter Tryz.func20,Tryz.ntmps20
 go_wp2
 go_ret
 exact⟨rfl,rfl⟩
theorem RO.shape {w:World} {v:Value} {l:List Op} (h:RO w v l):∃ a cap,v=.slice a l.length cap/\l.length<=cap:=RowIn.shape h.1
theorem hwait_is {B:Nat} {own:Nat->Int} {w:World} {b mb:Nat} {lay:Int->Option Lay} {nv gv wv:Value} {ps:List Np} {qs:List Op} {h:Hs} (H:HB B own w b mb lay nv gv wv ps qs h):Calls Tryz.prog 21 #[pB b] w fun e w'=>e=.returned (.int .i64 (h.ws.length:Int))/\w'=w:=by
 obtain⟨_,_,_,_,_,_,c6⟩:=H.c
 obtain⟨a,cap,rfl,_⟩:=H.ws.shape
 have hl:h.ws.length=qs.length:=by rw [<- H.we,List.length_map]
 rw [hl]
 clear H hl
 go_enter Tryz.func21,Tryz.ntmps21
 go_wp2
 go_ret
 exact⟨rfl,rfl⟩
theorem waitsOn_is {B:Nat} {own:Nat->Int} {w:World} {b mb:Nat} {lay:Int->Option Lay} {nv gv wv:Value} {ps:List Np} {qs:List Op} {h:Hs} (H:HB B own w b mb lay nv gv wv ps qs h) (c:Int):Calls Tryz.prog 50 #[pB b,.int .i64 c] w fun e w'=>e=.returned (.bool (won h.t c))/\w'=w:=by
 obtain⟨_,_,c2,_⟩:=H.c
 obtain⟨a,cap,rfl,_⟩:=own_sh H.tr.gown
 clear H
 have hc:c=4 ∨ c=5 ∨ c=2 ∨ (¬ c=4/\¬ c=5/\¬ c=2):=by omega
 rcases hc with rfl | rfl | rfl | ⟨h1,h2,h3⟩
 ·go_enter Tryz.func50,Tryz.ntmps50
  go_wp2
  go_ret
  exact⟨by simp [won,wc],rfl⟩
 ·go_enter Tryz.func50,Tryz.ntmps50
  go_wp2
  go_ret
  exact⟨by simp [won,wc],rfl⟩
 ·go_enter Tryz.func50,Tryz.ntmps50
  go_wp2
  go_ret
  exact⟨by simp [won,wc],rfl⟩
 ·go_enter Tryz.func50,Tryz.ntmps50
  go_wp2
  go_ret
  exact⟨by simp [won,wc,h1,h2,h3],rfl⟩
def bxO (lay:Int->Option Lay) (o:Option Int):Option Nat:=o.bind (fun i=>(lay i).map Lay.rb)
theorem HB.at {B:Nat} {own:Nat->Int} {w:World} {b mb:Nat} {lay:Int->Option Lay} {nv gv wv:Value} {ps:List Np} {qs:List Op} {h:Hs} (H:HB B own w b mb lay nv gv wv ps qs h) {i:Int} {r:Rv} (hr:h.rv i=some r):∃ l,lay i=some l/\RvM B w l r:=by
 cases hl:lay i with
 |none=>rw [(H.dm i).mp hl] at hr;cases hr
 |some l=>exact⟨l,rfl,H.rm i l r hl hr⟩
theorem RvM.cells {B:Nat} {w:World} {l:Lay} {r:Rv} (h:RvM B w l r):w.cell? ⟨l.rb,0,none⟩=some (pB l.sb)/\w.cell? ⟨l.rb,1,none⟩=some (pO l.gb)/\w.cell? ⟨l.rb,2,none⟩=some (.int .i64 r.mi)/\w.cell? ⟨l.rb,3,none⟩=some (.bool r.mw)/\w.cell? ⟨l.rb,4,none⟩=some (.bool r.mr):=
 ⟨cOb h.box rfl,cOb h.box rfl,cOb h.box rfl,cOb h.box rfl,cOb h.box rfl⟩
def gbO (lay:Int->Option Lay) (i:Int):Option Nat:=(lay i).bind Lay.gb
theorem guestOf_is {B:Nat} {own:Nat->Int} {w:World} {b mb:Nat} {lay:Int->Option Lay} {nv gv wv:Value} {ps:List Np} {qs:List Op} {h:Hs} (H:HB B own w b mb lay nv gv wv ps qs h) (i:Int):Calls Tryz.prog 29 #[pB b,.int .i64 i] w fun e w'=>e=.returned (pO (gbO lay i))/\w'=w:=by
 obtain⟨_,_,_,_,_,c5,_⟩:=H.c
 have hlk:=H.mp.get i
 unfold gbO
 cases hl:lay i with
 |none=>
  rw [hl] at hlk
  simp only [Option.map_none,Option.isSome_none,pO] at hlk
  clear H
  go_enter Tryz.func29,Tryz.ntmps29
  go_wp2
  go_ret
  exact⟨rfl,rfl⟩
 |some l=>
  rw [hl] at hlk
  simp only [Option.map_some,Option.isSome_some,pO,pB] at hlk
  obtain⟨r,hr⟩:∃ r,h.rv i=some r:=by
   cases hr:h.rv i with
   |none=>rw [(H.dm i).mpr hr] at hl;cases hl
   |some r=>exact⟨r,rfl⟩
  obtain⟨_,d1,_⟩:=(H.rm i l r hl hr).cells
  clear H hr
  obtain⟨rb,sb,gb,tv,jv⟩:=l
  simp only [Option.bind_some] at *
  cases gb with
  |none=>
   simp only [pO] at d1
   go_enter Tryz.func29,Tryz.ntmps29
   go_wp2
   go_ret
   exact⟨rfl,rfl⟩
  |some g=>
   simp only [pO,pB] at d1
   go_enter Tryz.func29,Tryz.ntmps29
   go_wp2
   go_ret
   exact⟨rfl,rfl⟩
def bstN (rv:Int->Option Rv) (ns:List Nd) (p:Int) (j:Nat):Option Int:=bestR rv (ns.take j) p
theorem bstN_step {rv:Int->Option Rv} {ns:List Nd} {p:Int} {j:Nat} {n:Nd} (h:ns[j]?=some n):bstN rv ns p (j+1)=bstF rv p (bstN rv ns p j) n:=by
 unfold bstN bestR
 rw [List.take_add_one,h,List.foldl_append];rfl
theorem bstN_all (rv:Int->Option Rv) (ns:List Nd) (p:Int):bstN rv ns p ns.length=bestR rv ns p:=by unfold bstN;rw [List.take_length]
theorem bstF_some {rv:Int->Option Rv} {p:Int} {b:Option Int} {n:Nd} {i:Int} (h:bstF rv p b n=some i):b=some i ∨ (n.id=i/\n.pa=p/\∃ r,rv i=some r/\rdyR r=true):=by
 unfold bstF at h
 split at h
 ·rename_i hp
  split at h
  ·rename_i r hr
   split at h
   ·rename_i hc
    cases h
    simp only [Bool.and_eq_true] at hc
    exact .inr ⟨rfl,hp,r,hr,hc.1⟩
   ·exact .inl h
  ·exact .inl h
 ·exact .inl h
theorem bstN_some {rv:Int->Option Rv} {ns:List Nd} {p:Int} {i:Int}:∀ j,bstN rv ns p j=some i->∃ n ∈ ns,n.id=i/\n.pa=p/\∃ r,rv i=some r/\rdyR r=true
 |0,h=>by simp [bstN,bestR] at h
 |j+1,h=>by
  cases hn:ns[j]? with
  |none=>
   have:bstN rv ns p (j+1)=bstN rv ns p j:=by
    unfold bstN;rw [List.take_add_one,hn];simp
   rw [this] at h
   exact bstN_some j h
  |some n=>
   rw [bstN_step hn] at h
   rcases bstF_some h with h | ⟨h1,h2,h3⟩
   ·exact bstN_some j h
   ·exact⟨n,List.mem_of_getElem? hn,h1,h2,h3⟩
theorem bestR_some {rv:Int->Option Rv} {ns:List Nd} {p:Int} {i:Int} (h:bestR rv ns p=some i):∃ n ∈ ns,n.id=i/\n.pa=p/\∃ r,rv i=some r/\rdyR r=true:=by
 rw [<- bstN_all] at h;exact bstN_some _ h
theorem kept_drewN (F:Nat->Prop) (w:World) (n:Nat):Kept F w (w.drewN n):=⟨rfl,rfl,rfl,Nat.le_refl _,fun _ _ _=>rfl⟩
set_option maxHeartbeats 12800000 in
theorem soonest_is {B:Nat} {own:Nat->Int} {w:World} {b mb:Nat} {lay:Int->Option Lay} {nv gv wv:Value} {ps:List Np} {qs:List Op} {h:Hs} (p:Int) (H:HB B own w b mb lay nv gv wv ps qs h) (hdm:∀ n ∈ h.t.ns,∃ r,h.rv n.id=some r) (hl:ps.length<=1000) :
  Calls Tryz.prog 55 #[pB b,.int .i64 p] w fun e w'=>e=.returned (pO (bxO lay (bestR h.rv h.t.ns p)))/\Below w.heap.size w w':=by
 have HH:=mH H
 have HD:=mH hdm
 have HE:=mH H.te
 have HR:Hid (RowIn 7 c7 w nv ps):=mH (RowIn.of_owns c7_len (by omega) H.tr.nown)
 obtain⟨_,c1,_⟩:=H.c
 obtain⟨a,cap,rfl,_⟩:=own_sh H.tr.nown
 have hll:(ps.length:Int)<=9223372036854775807:=by omega
 have HF:Hid (bxO lay (bestR h.rv h.t.ns p)=bxO lay (bstN h.rv (nds ps) p ps.length)):=mH (by rw [<- bstN_all,<- H.te,List.length_map])
 clear H hdm
 go_enter Tryz.func55,Tryz.ntmps55
 go_wp2
 go_loopw [5,15] (fun bv iv wr=>∃ (j:Nat),iv=.int .i64 (j:Int)/\j<=ps.length/\bv=pO (bxO lay (bstN h.rv (nds ps) p j))/\Hid (Below w.heap.size w wr)) (fun _ iv _=>ps.length - (intOf iv).toNat)
 case atStart=>exact⟨0,rfl,Nat.zero_le _,by simp [bstN,bestR,bxO,pO],mH (Below.refl _ _)⟩
 case round=>
  obtain⟨j,rfl,hj,rfl,HB1⟩:=hrel
  clear c1
  by_cases hlt:j < ps.length
  ·obtain⟨nb,off,x,rfl,hxj,hat⟩:=HR.out.at HB1.out j hlt
   obtain⟨q0,q1,q2,q3,q4,q5,q6⟩:=seven hat
   have hxn:=nds_at hxj
   have hxm:=List.mem_of_getElem? hxn
   obtain⟨⟨id,pa,⟨k,q,T⟩,po,ts⟩,ta,tc⟩:=x
   simp only [tvN] at q0 q1 q2 q3 q4 q5 q6
   have hji:(j:Int) < ps.length:=by omega
   have HST:=mH (bstN_step (rv:=h.rv) (p:=p) hxn)
   simp only at HST
   by_cases hpi:pa=p
   ·subst hpi
    obtain⟨r,hr⟩:=HD.out _ (by rw [<- HE.out];exact hxm)
    simp only at hr
    obtain⟨W,hW⟩:∃ W,W=wr.alloc (.cells #[.int .i64 id,.int .i64 pa,.int .i64 k,.int .i64 q,.int .i64 T,.int .i64 po,.slice ta ts.length tc] 69):=⟨_,rfl⟩
    have HBW:Hid (Below w.heap.size w W):=mH (by rw [hW];exact ba HB1.out _)
    have hnb:W.heap[wr.heap.size]?=some (.cells #[.int .i64 id,.int .i64 pa,.int .i64 k,.int .i64 q,.int .i64 T,.int .i64 po,.slice ta ts.length tc] 69 (0,0)):=by rw [hW];exact heap_alloc_new wr _
    have e0:W.cell? ⟨wr.heap.size,0,none⟩=some (.int .i64 id):=cOb hnb rfl
    have e1:W.cell? ⟨wr.heap.size,1,none⟩=some (.int .i64 pa):=cOb hnb rfl
    have Hw:=HH.out.below HBW.out
    obtain⟨l,hl2,hm⟩:=Hw.at hr
    obtain⟨_,_,_,_,_,d5,_⟩:=Hw.c
    obtain⟨m0,_⟩:=hm.cells
    have HLK:Hid (∀ n,(Instr.lookup 85 (.map (some mb)) (.int .i64 id) false).run Tryz.prog (W.drewN n)=.ok (pB l.rb) (W.drewN n)):=mH (fun n=>by
     have:=(show Mj (W.drewN n) mb _ from Hw.mp).get1 id
     rw [hl2] at this
     exact this)
    have HM:=mH (And.intro Hw (And.intro hl2 hm))
    clear hxj hat hxn hxm hj Hw hm hnb
    go_wp2
    rw [<- hW]
    clear hW
    have hlk:=HLK.out
    go_quiet (fail)
    clear hlk HLK
    obtain⟨W2,hW2⟩:∃ W2,W2=W.drewN nq:=⟨_,rfl⟩
    have HB2:Hid (Below w.heap.size w W2):=mH (by rw [hW2];exact below_drewN HBW.out nq)
    have HM2:Hid (HB B own W2 b mb lay (Value.slice (some ⟨nb,off,none⟩) ps.length cap) gv wv ps qs h/\lay id=some l/\RvM B W2 l r):=mH (by rw [hW2];exact⟨HM.out.1.kept (kept_drewN (fun _=>False) W nq) (fun _ f=>f.elim),HM.out.2.1,HM.out.2.2.kept (kept_drewN (fun _=>False) W nq) (fun _ _ f=>f)⟩)
    have m0:W2.cell? ⟨l.rb,0,none⟩=some (pB l.sb):=HM2.out.2.2.cells.1
    rw [<- hW2]
    clear hW2 HM HBW d5 e0 e1
    by_cases hrd:rdyR r=true
    ·have HRD:Hid (∀ n,Calls Tryz.prog 77 #[pB l.sb] (W2.drewN n) fun e w'=>e=.returned (.bool true)/\w'=W2.drewN n):=mH (fun n=>by
      have:=ready_is (W2.drewN n) l.sb r.sv r.m r.wk r.x HM2.out.2.2.srv
      rwa [show rdyS r.wk r.x=true from hrd] at this)
     cases hbj:bstN h.rv (nds ps) pa j with
     |none=>
      have HS3:Hid (bxO lay (bstN h.rv (nds ps) pa (j+1))=some l.rb):=mH (by
       rw [HST.out,hbj]
       unfold bstF
       rw [if_pos rfl]
       simp only [hr,hrd,sooner,Option.bind_none,Bool.and_self,if_true,bxO,Option.bind_some,HM2.out.2.1,Option.map_some])
      simp only [bxO,Option.bind_none,pO]
      clear hrd hbj hr
      go_wp2
      go_quiet (first | (go_at_call 77;exact Calls.quiet_of_same (HRD.out _)))
      go_wp2
      go_roundw
      case rel=>exact⟨j+1,by go_num,hlt,by rw [HS3.out];rfl,mH (below_drewN HB2.out _)⟩
      case measure=>simp [intOf];omega
     |some i2=>
      obtain⟨n2,hn2,hi2,_,r2,hr2,_⟩:=bstN_some j hbj
      obtain⟨l2,hl3,hm2⟩:=HM2.out.1.at hr2
      have m2:W2.cell? ⟨l2.rb,0,none⟩=some (pB l2.sb):=hm2.cells.1
      have HDL:Hid (∀ n,Calls Tryz.prog 78 #[pB l.sb] (W2.drewN n) fun e w'=>e=.returned (.int .i64 r.x.dl)/\w'=W2.drewN n):=mH (fun n=>sdl_is (W2.drewN n) l.sb r.sv r.m r.wk r.x HM2.out.2.2.srv)
      have HDL2:Hid (∀ n,Calls Tryz.prog 78 #[pB l2.sb] (W2.drewN n) fun e w'=>e=.returned (.int .i64 r2.x.dl)/\w'=W2.drewN n):=mH (fun n=>sdl_is (W2.drewN n) l2.sb r2.sv r2.m r2.wk r2.x hm2.srv)
      have hbx:bxO lay (some i2)=some l2.rb:=by simp only [bxO,Option.bind_some,hl3,Option.map_some]
      by_cases hs:r.x.dl < r2.x.dl
      ·have HS3:Hid (bxO lay (bstN h.rv (nds ps) pa (j+1))=some l.rb):=mH (by
        rw [HST.out,hbj]
        unfold bstF
        rw [if_pos rfl]
        simp only [hr,hrd,sooner,Option.bind_some,hr2,hs,decide_true,Bool.and_self,if_true,bxO,HM2.out.2.1,Option.map_some])
       rw [hbx]
       simp only [pO]
       clear hrd hbj hr hbx hm2 hr2 hn2 hi2 hl3
       go_wp2
       go_quiet (first | (go_at_call 77;exact Calls.quiet_of_same (HRD.out _)) | (go_at_call 78;first | (with_reducible exact Calls.quiet_of_same (HDL.out _)) | (with_reducible exact Calls.quiet_of_same (HDL2.out _))))
       go_wp2
       go_roundw
       case rel=>exact⟨j+1,by go_num,hlt,by rw [HS3.out];rfl,mH (below_drewN HB2.out _)⟩
       case measure=>simp [intOf];omega
      ·have HS3:Hid (bxO lay (bstN h.rv (nds ps) pa (j+1))=some l2.rb):=mH (by
        rw [HST.out,hbj]
        unfold bstF
        rw [if_pos rfl]
        simp only [hr,hrd,sooner,Option.bind_some,hr2,hs,decide_false,Bool.and_false,Bool.false_eq_true,if_false]
        exact hbx)
       rw [hbx]
       simp only [pO]
       clear hrd hbj hr hbx hm2 hr2 hn2 hi2 hl3
       have hs':decide (r.x.dl < r2.x.dl)=false:=decide_eq_false hs
       go_wp2
       go_quiet (first | (go_at_call 77;exact Calls.quiet_of_same (HRD.out _)) | (go_at_call 78;first | (with_reducible exact Calls.quiet_of_same (HDL.out _)) | (with_reducible exact Calls.quiet_of_same (HDL2.out _))))
       go_wp2
       go_roundw
       case rel=>exact⟨j+1,by go_num,hlt,by rw [HS3.out];rfl,mH (below_drewN HB2.out _)⟩
       case measure=>simp [intOf];omega
    ·have HRD:Hid (∀ n,Calls Tryz.prog 77 #[pB l.sb] (W2.drewN n) fun e w'=>e=.returned (.bool false)/\w'=W2.drewN n):=mH (fun n=>by
      have:=ready_is (W2.drewN n) l.sb r.sv r.m r.wk r.x HM2.out.2.2.srv
      rwa [show rdyS r.wk r.x=false by simpa [rdyR] using hrd] at this)
     have HS3:Hid (bstN h.rv (nds ps) pa (j+1)=bstN h.rv (nds ps) pa j):=mH (by
      rw [HST.out]
      unfold bstF
      rw [if_pos rfl]
      simp only [hr,hrd,Bool.false_and,Bool.false_eq_true,if_false])
     clear hrd hr
     go_wp2
     go_quiet (first | (go_at_call 77;exact Calls.quiet_of_same (HRD.out _)))
     go_wp2
     go_roundw
     case rel=>exact⟨j+1,by go_num,hlt,by rw [HS3.out],mH (below_drewN HB2.out _)⟩
     case measure=>simp [intOf];omega
   ·have hpi':(pa == p)=false:=by simpa using hpi
    have HST2:Hid (bstN h.rv (nds ps) p (j+1)=bstN h.rv (nds ps) p j):=mH (by rw [HST.out];unfold bstF;rw [if_neg hpi])
    clear hxj hat hxn hxm hj hpi
    go_wp2
    go_roundw
    case rel=>exact⟨j+1,by go_num,hlt,by rw [HST2.out],mH (ba HB1.out _)⟩
    case measure=>simp [intOf];omega
  ·obtain rfl:j=ps.length:=by omega
   go_wp2
   go_ret
   exact⟨by rw [HF.out];rfl,HB1.out⟩
theorem bxO_some {B:Nat} {own:Nat->Int} {w:World} {b mb:Nat} {lay:Int->Option Lay} {nv gv wv:Value} {ps:List Np} {qs:List Op} {h:Hs} (H:HB B own w b mb lay nv gv wv ps qs h) {p i:Int} (hb:bestR h.rv h.t.ns p=some i):∃ r l,h.rv i=some r/\rdyR r=true/\lay i=some l/\RvM B w l r/\bxO lay (bestR h.rv h.t.ns p)=some l.rb:=by
 obtain⟨n,_,_,_,r,hr,hrd⟩:=bestR_some hb
 obtain⟨l,hl,hm⟩:=H.at hr
 exact⟨r,l,hr,hrd,hl,hm,by rw [hb];simp only [bxO,Option.bind_some,hl,Option.map_some]⟩
theorem hasWork_is {B:Nat} {own:Nat->Int} {w:World} {b mb:Nat} {lay:Int->Option Lay} {nv gv wv:Value} {ps:List Np} {qs:List Op} {h:Hs} {i:Int} {r:Rv} {l:Lay} (H:HB B own w b mb lay nv gv wv ps qs h) (hdm:∀ n ∈ h.t.ns,∃ r,h.rv n.id=some r) (hl:ps.length<=1000) (hli:lay i=some l) (hri:h.rv i=some r) :
  Calls Tryz.prog 53 #[pB b,.int .i64 i,pB l.rb] w fun e w'=>e=.returned (.bool (wrkR h.rv h.t.ns i r))/\Below w.heap.size w w':=by
 have hm:=H.rm i l r hli hri
 obtain⟨_,m1,_⟩:=hm.cells
 have HH:=mH H
 have HD:=mH hdm
 cases hg:r.g with
 |none=>
  rw [hm.no hg] at m1
  simp only [pO] at m1
  have e1:wrkR h.rv h.t.ns i r=(bestR h.rv h.t.ns i).isSome:=by unfold wrkR;rw [hg]
  rw [e1]
  clear e1 hm H hdm
  cases hb:bestR h.rv h.t.ns i with
  |none=>
   have HC:Hid (Calls Tryz.prog 55 #[pB b,.int .i64 i] w fun e w'=>e=.returned (.pointer none)/\Below w.heap.size w w'):=mH (by
    have:=soonest_is i HH.out HD.out hl
    rw [hb] at this;exact this)
   go_enter Tryz.func53,Tryz.ntmps53
   go_wp2_with (go_at_call 55;refine HC.out.mono ?_;rintro e w1 ⟨rfl,hb1⟩;have HB1:=mH hb1;clear hb1)
   go_ret
   exact⟨by simp,HB1.out⟩
  |some j=>
   obtain⟨r2,l2,_,_,_,_,hx⟩:=bxO_some HH.out hb
   have HC:Hid (Calls Tryz.prog 55 #[pB b,.int .i64 i] w fun e w'=>e=.returned (pB l2.rb)/\Below w.heap.size w w'):=mH (by
    have:=soonest_is i HH.out HD.out hl
    rw [hx] at this;exact this)
   clear hx
   go_enter Tryz.func53,Tryz.ntmps53
   go_wp2_with (go_at_call 55;refine HC.out.mono ?_;rintro e w1 ⟨rfl,hb1⟩;have HB1:=mH hb1;clear hb1)
   go_ret
   exact⟨by simp,HB1.out⟩
 |some x=>
  obtain⟨p,s⟩:=x
  obtain⟨gb,hgb,hG,_⟩:=hm.yes p s hg
  rw [hgb] at m1
  simp only [pO] at m1
  have HC:Hid (Calls Tryz.prog 76 #[pB gb] w fun e w'=>e=.returned (.bool (decide (0 < (s.js.length:Int))))/\w'=w):=mH (work_is B w gb p l.tv l.jv s hG)
  have e1:wrkR h.rv h.t.ns i r=decide (0 < (s.js.length:Int)):=by
   unfold wrkR;rw [hg]
   simp
  rw [e1]
  clear e1 hm H hdm hG
  go_enter Tryz.func53,Tryz.ntmps53
  go_wp2_with (go_at_call 76;refine HC.out.mono ?_;rintro e w1 ⟨rfl,hw⟩;rw [hw];clear hw)
  go_ret
  exact⟨by simp,Below.refl _ _⟩
end Go.Proofs.YtpdehdomilnmeaaGreatDoor
