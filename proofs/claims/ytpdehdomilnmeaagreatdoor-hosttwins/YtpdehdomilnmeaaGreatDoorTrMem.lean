import Derived.Test.YtpdehdomilnmeaaGreatDoorTrM
import Derived.Test.YtpdehdomilnmeaaGreatDoorTk
import Derived.Test.YtpdehdomilnmeaaGreatDoorSx
namespace Go.Proofs.YtpdehdomilnmeaaGreatDoor
open Go.ChangeShapes Go.WideShapes Go.ChangeAt Go.RowKit
set_option maxRecDepth 100000
def RowIn {α:Type} (n:Nat) (f:α->List Value) (w:World) (v:Value) (xs:List α):Prop:=
 ∃ a cap,v=.slice a xs.length cap/\xs.length<=cap/\(xs.length:Int)<=9223372036854775807/\(0 < xs.length->∃ b off,a=some ⟨b,off,none⟩/\∀ i x,xs[i]?=some x->∀ r u,r < n->(f x)[r]?=some u->w.cell? ⟨b,off+i * n+r,none⟩=some u)
theorem RowIn.below {α:Type} {n:Nat} {f:α->List Value} {w w':World} {v:Value} {xs:List α} (h:RowIn n f w v xs) (hb:Below w.heap.size w w'):RowIn n f w' v xs:=by
 obtain⟨a,cap,rfl,hc,hl,hr⟩:=h
 refine⟨a,cap,rfl,hc,hl,fun hp=>?_⟩
 obtain⟨b,off,rfl,hx⟩:=hr hp
 exact⟨b,off,rfl,fun i x hi r u hr hu=>kc (hx i x hi r u hr hu) hb⟩
theorem RowIn.shape {α:Type} {n:Nat} {f:α->List Value} {w:World} {v:Value} {xs:List α} (h:RowIn n f w v xs):∃ a cap,v=.slice a xs.length cap/\xs.length<=cap:=by
 obtain⟨a,cap,rfl,hc,hl,hr⟩:=h
 exact⟨a,cap,rfl,hc⟩
theorem RowIn.at {α:Type} {n:Nat} {f:α->List Value} {w w':World} {a:Option Addr} {l cap:Nat} {xs:List α} (h:RowIn n f w (.slice a l cap) xs) (hb:Below w.heap.size w w') (i:Nat) (hi:i < xs.length):∃ b off x,a=some ⟨b,off,none⟩/\xs[i]?=some x/\∀ r u,r < n->(f x)[r]?=some u->w'.cell? ⟨b,off+i * n+r,none⟩=some u:=by
 obtain⟨a',cap',e,_,_,hr⟩:=h.below hb
 simp at e
 obtain⟨rfl,rfl,rfl⟩:=e
 obtain⟨b,off,rfl,hc⟩:=hr (by omega)
 obtain⟨x,hx⟩:∃ x,xs[i]?=some x:=⟨_,List.getElem?_eq_getElem hi⟩
 exact⟨b,off,x,rfl,hx,hc i x hx⟩
theorem RowIn.src {α:Type} {n:Nat} {f:α->List Value} {w:World} {v:Value} {xs:List α} {ty e:TypeId} (hu:Tryz.prog.underlying ty=some (.slice e)) (hn:0 < n) (hf:∀ x,(f x).length=n) (h1:∀ x,∀ u ∈ f x,u.oneCell'=true) (h:RowIn n f w v xs):Src Tryz.prog n ty v xs.length (xs.flatMap f) w:=by
 obtain⟨a,cap,rfl,_,_,hr⟩:=h
 have hl:=fl_len f n hf xs
 cases a with
 |none=>
  have hv:xs=[]:=by
   by_cases hp:0 < xs.length
   ·obtain⟨b,off,e,_⟩:=hr hp
    simp at e
   ·exact List.length_eq_zero_iff.mp (by omega)
  subst hv
  exact Src.ofNil w hu cap
 |some ad=>
  refine Src.ofSlice w hu ad _ cap _ hl (fun j u hj=>?_) (fun u hm=>?_)
  ·have hjl:j < xs.length * n:=by rw [<- hl];exact(List.getElem?_eq_some_iff.mp hj).1
   have hp:0 < xs.length:=Nat.pos_of_ne_zero (fun e=>by rw [e,Nat.zero_mul] at hjl;omega)
   obtain⟨b,off,e,hcell⟩:=hr hp
   simp at e
   subst e
   have hi:j / n < xs.length:=Nat.div_lt_of_lt_mul (by rw [Nat.mul_comm];exact hjl)
   have hjn:j / n * n+j % n=j:=by rw [Nat.mul_comm];exact Nat.div_add_mod j n
   obtain⟨x,hx⟩:∃ x,xs[j / n]?=some x:=⟨_,List.getElem?_eq_getElem hi⟩
   have hr4:=Nat.mod_lt j hn
   rw [<- hjn,fl_get f n hf xs (j / n) (j % n) x hx hr4] at hj
   have:=hcell (j / n) x hx (j % n) u hr4 hj
   rw [add_none]
   rw [Nat.add_assoc,hjn] at this
   exact this
  ·obtain⟨x,_,hx⟩:=List.mem_flatMap.mp hm
   exact h1 x u hx
theorem RowIn.of_owns {α:Type} {n:Nat} {f:α->List Value} {w:World} {base:Nat} {v:Value} {xs:List α} {e:TypeId} (hf:∀ x,(f x).length=n) (hl:(xs.length:Int)<=9223372036854775807) (h:w.ownsRow base e n v xs.length (xs.flatMap f)):RowIn n f w v xs:=by
 obtain⟨_,⟨rfl,hn⟩ | ⟨g,cap,cur,rfl,hbg,hg,hnc,hcm,hcs,htake⟩⟩:=id h
 ·have:xs=[]:=List.eq_nil_of_length_eq_zero hn
  subst this
  exact⟨none,0,rfl,Nat.le_refl _,by simp,fun hp=>by simp at hp⟩
 ·refine⟨_,_,rfl,hnc,hl,fun hp=>⟨g,0,rfl,fun i x hx r u hr hu=>?_⟩⟩
  have hc:=h.cells (g:=g) rfl
  have:=hc (i * n+r) u (by rw [fl_get f n hf xs i r x hx hr];exact hu)
  rw [add_none] at this
  rw [Nat.add_assoc]
  exact this
abbrev Np:=Nd × Option Addr × Nat
abbrev tvN (t:Np):Value:=.slice t.2.1 t.1.ts.length t.2.2
abbrev vNd (n:Nd) (tv:Value):Value:=.agg #[.int .i64 n.id,.int .i64 n.pa,.int .i64 n.sv.1,.int .i64 n.sv.2.1,.int .i64 n.sv.2.2,.int .i64 n.po,tv]
abbrev vNp (t:Np):Value:=vNd t.1 (tvN t)
def c7 (t:Np):List Value:=[.int .i64 t.1.id,.int .i64 t.1.pa,.int .i64 t.1.sv.1,.int .i64 t.1.sv.2.1,.int .i64 t.1.sv.2.2,.int .i64 t.1.po,tvN t]
abbrev vGh (g:Gh):Value:=.agg #[.int .i64 g.pa,.int .i64 g.sv.1,.int .i64 g.sv.2.1,.int .i64 g.sv.2.2,.int .i64 g.un]
def c5 (g:Gh):List Value:=[.int .i64 g.pa,.int .i64 g.sv.1,.int .i64 g.sv.2.1,.int .i64 g.sv.2.2,.int .i64 g.un]
abbrev vOd (o:Od) (tv:Value):Value:=.agg #[.int .i64 o.ki,.int .i64 o.id,.int .i64 o.sv.1,.int .i64 o.sv.2.1,.int .i64 o.sv.2.2,.int .i64 o.po,tv,.int .i64 o.tm]
abbrev vTr (nv gv:Value) (t:Tr):Value:=.agg #[nv,gv,.int .i64 t.last,.int .i64 t.now]
abbrev vRs (r:Rs):Value:=.agg #[.int .i64 r.1,.int .i64 r.2]
theorem c7_len (t:Np):(c7 t).length=7:=rfl
theorem c5_len (g:Gh):(c5 g).length=5:=rfl
theorem one7 (t:Np):∀ u ∈ c7 t,u.oneCell'=true:=by
 intro u hx
 simp only [c7,List.mem_cons,List.not_mem_nil,or_false] at hx
 rcases hx with rfl | rfl | rfl | rfl | rfl | rfl | rfl <;> rfl
theorem one5 (g:Gh):∀ u ∈ c5 g,u.oneCell'=true:=by
 intro u hx
 simp only [c5,List.mem_cons,List.not_mem_nil,or_false] at hx
 rcases hx with rfl | rfl | rfl | rfl | rfl <;> rfl
theorem seven {w:World} {b o:Nat} {t:Np} (h:∀ r u,r < 7->(c7 t)[r]?=some u->w.cell? ⟨b,o+r,none⟩=some u):w.cell? ⟨b,o,none⟩=some (.int .i64 t.1.id)/\w.cell? ⟨b,o+1,none⟩=some (.int .i64 t.1.pa)/\w.cell? ⟨b,o+2,none⟩=some (.int .i64 t.1.sv.1)/\w.cell? ⟨b,o+3,none⟩=some (.int .i64 t.1.sv.2.1)/\w.cell? ⟨b,o+4,none⟩=some (.int .i64 t.1.sv.2.2)/\w.cell? ⟨b,o+5,none⟩=some (.int .i64 t.1.po)/\w.cell? ⟨b,o+6,none⟩=some (tvN t):=
 ⟨h 0 _ (by omega) rfl,h 1 _ (by omega) rfl,h 2 _ (by omega) rfl,h 3 _ (by omega) rfl,h 4 _ (by omega) rfl,h 5 _ (by omega) rfl,h 6 _ (by omega) rfl⟩
theorem five {w:World} {b o:Nat} {g:Gh} (h:∀ r u,r < 5->(c5 g)[r]?=some u->w.cell? ⟨b,o+r,none⟩=some u):w.cell? ⟨b,o,none⟩=some (.int .i64 g.pa)/\w.cell? ⟨b,o+1,none⟩=some (.int .i64 g.sv.1)/\w.cell? ⟨b,o+2,none⟩=some (.int .i64 g.sv.2.1)/\w.cell? ⟨b,o+3,none⟩=some (.int .i64 g.sv.2.2)/\w.cell? ⟨b,o+4,none⟩=some (.int .i64 g.un):=
 ⟨h 0 _ (by omega) rfl,h 1 _ (by omega) rfl,h 2 _ (by omega) rfl,h 3 _ (by omega) rfl,h 4 _ (by omega) rfl⟩
structure Nds (w:World) (v:Value) (ps:List Np):Prop where
 row:RowIn 7 c7 w v ps
 tk:∀ t ∈ ps,Tks w (tvN t) t.1.ts/\t.1.ts.length<=t.2.2
abbrev Ghs (w:World) (v:Value) (gs:List Gh):Prop:=RowIn 5 c5 w v gs
theorem Nds.below {w w':World} {v:Value} {ps:List Np} (h:Nds w v ps) (hb:Below w.heap.size w w'):Nds w' v ps:=⟨h.row.below hb,fun t ht=>⟨(h.tk t ht).1.below hb,(h.tk t ht).2⟩⟩
abbrev nds (ps:List Np):List Nd:=ps.map (·.1)
structure TrW (w:World) (nv gv:Value) (ps:List Np) (t:Tr):Prop where
 n:Nds w nv ps
 g:Ghs w gv t.gs
 e:nds ps=t.ns
theorem TrW.below {w w':World} {nv gv:Value} {ps:List Np} {t:Tr} (h:TrW w nv gv ps t) (hb:Below w.heap.size w w'):TrW w' nv gv ps t:=⟨h.n.below hb,h.g.below hb,h.e⟩
theorem nds_at {ps:List Np} {i:Nat} {t:Np} (h:ps[i]?=some t):(nds ps)[i]?=some t.1:=by rw [nds,List.getElem?_map,h];rfl
theorem oNk {G:Nat->Prop} {w w':World} {b n0:Nat} {e:TypeId} {v:Value} {n:Nat} {xs:List Value} (h:w.ownsRow b e n0 v n xs) (hk:Kept G w w') (hn:∀ k,v.ownBlock=some k->¬ G k):w'.ownsRow b e n0 v n xs:=by
 refine⟨h.1, ?_⟩
 rcases h.2 with h1 | ⟨g,cap,cur,rfl,hbg,hg,rest⟩
 ·exact .inl h1
 ·exact .inr ⟨g,cap,cur,rfl,hbg,by rw [hk.block g (by have:=(h.lt g rfl).2;exact this) (hn g rfl)];exact hg,rest⟩
theorem own_lower {w:World} {b b' n0:Nat} {e:TypeId} {v:Value} {n:Nat} {xs:List Value} (h:w.ownsRow b e n0 v n xs) (hb:b'<=b):w.ownsRow b' e n0 v n xs:=by
 refine⟨h.1, ?_⟩
 rcases h.2 with h1 | ⟨g,cap,cur,rfl,hbg,rest⟩
 ·exact .inl h1
 ·exact .inr ⟨g,cap,cur,rfl,Nat.le_trans hb hbg,rest⟩
theorem own_sh {w:World} {base n0:Nat} {e:TypeId} {v:Value} {n:Nat} {xs:List Value} (h:w.ownsRow base e n0 v n xs):∃ a c,v=.slice a n c/\n<=c:=by
 rcases h.2 with ⟨rfl,rfl⟩ | ⟨g,cap,cur,rfl,_,_,hn,_⟩
 ·exact⟨none,0,rfl,Nat.le_refl _⟩
 ·exact⟨_,cap,rfl,hn⟩
structure TrO (base:Nat) (w:World) (nv gv:Value) (ps:List Np) (gs:List Gh):Prop where
 nown:w.ownsRow base 69 7 nv ps.length (ps.flatMap c7)
 tk:∀ t ∈ ps,w.ownsRow base 45 4 (tvN t) t.1.ts.length (t.1.ts.flatMap c4)
 gown:w.ownsRow base 111 5 gv gs.length (gs.flatMap c5)
 tn:∀ t ∈ ps,∀ k,(tvN t).ownBlock=some k->nv.ownBlock ≠ some k
 tg:∀ t ∈ ps,∀ k,(tvN t).ownBlock=some k->gv.ownBlock ≠ some k
 ng:∀ k,nv.ownBlock=some k->gv.ownBlock ≠ some k
theorem TrO.trw {base:Nat} {w:World} {nv gv:Value} {ps:List Np} {t:Tr} (h:TrO base w nv gv ps t.gs) (hs:t.Sm 1000) (e:nds ps=t.ns):TrW w nv gv ps t:=by
 have hl:ps.length<=1000:=by have:=hs.n;rw [<- e,List.length_map] at this;exact this
 have hg:=hs.g
 refine⟨⟨RowIn.of_owns c7_len (by omega) h.nown,fun x hx=>?_⟩,RowIn.of_owns c5_len (by omega) h.gown,e⟩
 have h8:=hs.s x.1 (by rw [<- e];exact List.mem_map.mpr ⟨x,hx,rfl⟩)
 obtain⟨a,c,e2,ht⟩:=tks_of_owns (by omega) (h.tk x hx)
 obtain⟨a',c',e3,hc⟩:=own_sh (h.tk x hx)
 simp only [tvN,Value.slice.injEq] at e2 e3
 obtain⟨e4,_,e5⟩:=e2
 obtain⟨e6,_,e7⟩:=e3
 refine⟨?_,by rw [e7];exact hc⟩
 rw [tvN,e4,e5];exact ht
theorem TrO.kept {G:Nat->Prop} {base:Nat} {w w':World} {nv gv:Value} {ps:List Np} {gs:List Gh} (h:TrO base w nv gv ps gs) (hk:Kept G w w') (hG:∀ k,G k->(nv.ownBlock ≠ some k/\gv.ownBlock ≠ some k/\∀ t ∈ ps,(tvN t).ownBlock ≠ some k) ∨ w.heap.size<=k):TrO base w' nv gv ps gs:=
 ⟨oNk h.nown hk (fun k e g=>by rcases hG k g with ⟨a,_⟩ | a;exact a e;have:=(h.nown.lt k e).2;omega),fun t ht=>oNk (h.tk t ht) hk (fun k e g=>by rcases hG k g with ⟨_,_,a⟩ | a;exact a t ht e;have:=((h.tk t ht).lt k e).2;omega),oNk h.gown hk (fun k e g=>by rcases hG k g with ⟨_,a,_⟩ | a;exact a e;have:=(h.gown.lt k e).2;omega),h.tn,h.tg,h.ng⟩
theorem TrO.below {base:Nat} {w w':World} {nv gv:Value} {ps:List Np} {gs:List Gh} (h:TrO base w nv gv ps gs) (hb:Below w.heap.size w w'):TrO base w' nv gv ps gs:=h.kept (kept_of_below hb) (fun _ hk=>.inr hk)
structure TrP (base:Nat) (w:World) (p:Nat) (nv gv:Value) (ps:List Np) (t:Tr):Prop where
 blk:w.heap[p]?=some (.cells #[nv,gv,.int .i64 t.last,.int .i64 t.now] 30 (0,0))
 o:TrO base w nv gv ps t.gs
 e:nds ps=t.ns
 bp:base<=p
 pn:nv.ownBlock ≠ some p
 pg:gv.ownBlock ≠ some p
 pt:∀ t ∈ ps,(tvN t).ownBlock ≠ some p
theorem TrP.below {base:Nat} {w w':World} {p:Nat} {nv gv:Value} {ps:List Np} {t:Tr} (h:TrP base w p nv gv ps t) (hb:Below w.heap.size w w'):TrP base w' p nv gv ps t:=
 ⟨by rw [hb.block p (Array.getElem?_eq_some_iff.mp h.blk).1];exact h.blk,h.o.below hb,h.e,h.bp,h.pn,h.pg,h.pt⟩
theorem TrP.cells {base:Nat} {w:World} {p:Nat} {nv gv:Value} {ps:List Np} {t:Tr} (h:TrP base w p nv gv ps t):w.cell? ⟨p,0,none⟩=some nv/\w.cell? ⟨p,1,none⟩=some gv/\w.cell? ⟨p,2,none⟩=some (.int .i64 t.last)/\w.cell? ⟨p,3,none⟩=some (.int .i64 t.now):=⟨cOb h.blk rfl,cOb h.blk rfl,cOb h.blk rfl,cOb h.blk rfl⟩
theorem TrP.frozen {base:Nat} {w:World} {p:Nat} {nv gv:Value} {ps:List Np} {t:Tr} (h:TrP base w p nv gv ps t) (i:Nat):w.frozen? ⟨p,i,none⟩=false:=fOb h.blk
theorem info_node:(Tryz.prog.info? 69).map (fun i=>(i.zero,i.size,i.bytes))=some (some (.agg #[.int .i64 0,.int .i64 0,.int .i64 0,.int .i64 0,.int .i64 0,.int .i64 0,.slice none 0 0]),7,72):=by kernel_rfl
theorem info_ghost:(Tryz.prog.info? 111).map (fun i=>(i.zero,i.size,i.bytes))=some (some (.agg #[.int .i64 0,.int .i64 0,.int .i64 0,.int .i64 0,.int .i64 0]),5,40):=by kernel_rfl
end Go.Proofs.YtpdehdomilnmeaaGreatDoor
