import Derived.Test.YtpdehdomilnmeaaGreatDoorAdB
namespace Go.Proofs.YtpdehdomilnmeaaGreatDoor
structure Nd where
 id:Int
 pa:Int
 sv:Sv
 po:Int
 ts:List Tk
structure Gh where
 pa:Int
 sv:Sv
 un:Int
structure Tr where
 ns:List Nd
 gs:List Gh
 last:Int
 now:Int
structure Od where
 ki:Int
 id:Int
 sv:Sv
 po:Int
 ts:List Tk
 tm:Int
structure Ops where
 k:Sv->List Sv->Int
 d:Sv->List Sv->Int
 g:Sv->Int->List Tk->Int
 ok:Sv->Bool
 okg:Int->List Tk->Bool
 hk:∀ s xs,KC s xs (k s xs)
 hd:∀ s xs,∃ n,DC s xs (d s xs) n
 hg:∀ s p xs,GC s p xs (g s p xs)
 hok:∀ s,ok s=true ↔ okS s
 hokg:∀ p xs,okg p xs=true ↔ okG p xs
theorem ops_ex:∃ _:Ops,True:=by
 obtain⟨k,hk⟩:=Classical.axiomOfChoice (r:=fun (x:Sv × List Sv) n=>KC x.1 x.2 n) (fun x=>kc_ex x.1 x.2)
 obtain⟨d,hd⟩:=Classical.axiomOfChoice (r:=fun (x:Sv × List Sv) r=>∃ n,DC x.1 x.2 r n) (fun x=>dc_ex x.1 x.2)
 obtain⟨g,hg⟩:=Classical.axiomOfChoice (r:=fun (x:Sv × Int × List Tk) n=>GC x.1 x.2.1 x.2.2 n) (fun x=>gc_ex x.1 x.2.1 x.2.2)
 obtain⟨o,ho⟩:=Classical.axiomOfChoice (r:=fun (x:Sv) (b:Bool)=>b=true ↔ okS x) (fun x=>by
  by_cases h:okS x
  ·exact⟨true,by simp [h]⟩
  ·exact⟨false,by simp [h]⟩)
 obtain⟨p,hp⟩:=Classical.axiomOfChoice (r:=fun (x:Int × List Tk) (b:Bool)=>b=true ↔ okG x.1 x.2) (fun x=>by
  by_cases h:okG x.1 x.2
  ·exact⟨true,by simp [h]⟩
  ·exact⟨false,by simp [h]⟩)
 exact⟨⟨fun s xs=>k (s,xs),fun s xs=>d (s,xs),fun s q xs=>g (s,q,xs),o,fun q xs=>p (q,xs),fun s xs=>hk (s,xs),fun s xs=>hd (s,xs),fun s q xs=>hg (s,q,xs),ho,fun q xs=>hp (q,xs)⟩,trivial⟩
def bel (i:Int) (n:Nd):Bool:=decide (n.pa=i)
def belG (i:Int) (g:Gh):Bool:=decide (g.pa=i)
def isId (i:Int) (n:Nd):Bool:=decide (n.id=i)
def Tr.cnt (t:Tr) (i:Int):List Sv:=(t.ns.filter (bel i)).map Nd.sv ++ (t.gs.filter (belG i)).map Gh.sv
def Tr.nd (t:Tr) (i:Int):Option Nd:=t.ns.find? (isId i)
def Tr.srv (t:Tr) (i:Int):Sv:=if i=0 then (0,0,0) else ((t.nd i).map Nd.sv).getD (0,0,0)
def up (n:Nd) (p:Int × Int):Int × Int:=if n.id=p.2 then (p.1+1,n.pa) else p
def Tr.dw (t:Tr) (i:Int):Int × Int:=t.ns.foldr up (0,i)
def Tr.dep (t:Tr) (i:Int):Int:=if (t.dw i).2=0 then (t.dw i).1 else -1
def Tr.bnd (t:Tr) (i:Int):Bool:=((t.nd i).map (fun n=>decide (¬ n.po=0))).getD false
def Tr.fr (A:Ops) (t:Tr) (i:Int):Int:=t.now+A.d (t.srv i) (t.cnt i)
def hold1 (i u:Int) (g:Gh):Gh:=if g.pa=i then ⟨g.pa,g.sv,max g.un u⟩ else g
def Tr.hold (A:Ops) (t:Tr) (i:Int):Tr:=⟨t.ns,t.gs.map (hold1 i (t.fr A i)),t.last,t.now⟩
def over (now:Int) (g:Gh):Bool:=decide (g.un<=now)
def Tr.pass (t:Tr) (at_:Int):Tr:=⟨t.ns,t.gs.filter (fun g=>! over (max t.now at_) g),t.last,max t.now at_⟩
def Tr.fits (A:Ops) (t:Tr) (i:Int) (s:Sv):Bool:=decide (A.k (t.srv i) (t.cnt i ++ [s])=0)
def Tr.full (t:Tr) (i:Int):Bool:=decide (8<=(t.cnt i).length)
def Tr.crC (A:Ops) (t:Tr) (o:Od):Int:=
 if A.ok o.sv=false then 7 else if t.dep o.id < 0 then 1 else if t.bnd o.id=true then 3 else if 4<=t.dep o.id then 6 else if 64<=t.ns.length then 5 else if t.full o.id=true then 5 else if t.fits A o.id o.sv=false then 4 else 0
def Tr.leafC (t:Tr) (i:Int):Int:=if t.nd i=none then 1 else if 0 < (t.cnt i).length then 2 else 0
def Tr.idleC (t:Tr) (i:Int):Int:=if ¬ t.leafC i=0 then t.leafC i else if t.bnd i=true then 3 else 0
def Tr.par (t:Tr) (i:Int):Int:=((t.nd i).map Nd.pa).getD 0
def Tr.own (t:Tr) (i:Int):Sv:=((t.nd i).map Nd.sv).getD (0,0,0)
def Tr.rsC (A:Ops) (t:Tr) (o:Od):Int:=
 if A.ok o.sv=false then 7 else if ¬ t.idleC o.id=0 then t.idleC o.id else if t.full (t.par o.id)=true then 5 else if t.fits A (t.par o.id) o.sv=false then 4 else 0
def Tr.bdC (A:Ops) (t:Tr) (o:Od):Int:=
 if A.okg o.po o.ts=false then 8 else if ¬ t.idleC o.id=0 then t.idleC o.id else if ¬ A.g (t.own o.id) o.po o.ts=0 then 4 else 0
abbrev Rs:=Int × Int
def Tr.create (A:Ops) (t:Tr) (o:Od):Tr × Rs:=
 if ¬ t.crC A o=0 then (t,t.crC A o,0) else (Tr.hold A ⟨t.ns ++ [⟨t.last+1,o.id,o.sv,0,[]⟩],t.gs,t.last+1,t.now⟩ o.id,0,t.last+1)
def setAtL (ns:List Nd) (i:Int) (f:Nd->Nd):List Nd:=match ns with
 |[]=>[]
 |n :: r=>if n.id=i then f n :: r else n :: setAtL r i f
def dropL (ns:List Nd) (i:Int):List Nd:=match ns with
 |[]=>[]
 |n :: r=>if n.id=i then r else n :: dropL r i
def Tr.resize (A:Ops) (t:Tr) (o:Od):Tr × Rs:=
 if ¬ t.rsC A o=0 then (t,t.rsC A o,0) else (Tr.hold A ⟨setAtL t.ns o.id (fun n=>⟨n.id,n.pa,o.sv,n.po,n.ts⟩),t.gs ++ [⟨t.par o.id,t.own o.id,0⟩],t.last,t.now⟩ (t.par o.id),0,o.id)
def Tr.remove (A:Ops) (t:Tr) (o:Od):Tr × Rs:=
 if ¬ t.leafC o.id=0 then (t,t.leafC o.id,0) else (⟨dropL t.ns o.id,t.gs ++ [⟨t.par o.id,t.own o.id,t.fr A (t.par o.id)⟩],t.last,t.now⟩,0,o.id)
def Tr.bind (A:Ops) (t:Tr) (o:Od):Tr × Rs:=
 if ¬ t.bdC A o=0 then (t,t.bdC A o,0) else (⟨setAtL t.ns o.id (fun n=>⟨n.id,n.pa,n.sv,o.po,o.ts⟩),t.gs,t.last,t.now⟩,0,o.id)
def Tr.app (A:Ops) (t:Tr) (o:Od):Tr × Rs:=
 if o.ki < 1 ∨ 4 < o.ki ∨ o.tm < 0 ∨ 1099511627776 < o.tm then (t,7,0)
 else if o.ki=1 then (t.pass o.tm).create A o else if o.ki=2 then (t.pass o.tm).resize A o else if o.ki=3 then (t.pass o.tm).remove A o else (t.pass o.tm).bind A o
theorem kc_one {s:Sv} {xs:List Sv} {n m:Int} (h:KC s xs n) (h':KC s xs m):n=m:=by
 cases h with
 |parent h1=>cases h' with
  |parent _=>rfl
  |server k _=>exact absurd k h1
  |full k _ _=>exact absurd k h1
  |tight k _ _ _=>exact absurd k h1
  |fits k _ _ _=>exact absurd k h1
 |server h1 h2=>obtain⟨x,hx,hk⟩:=h2;cases h' with
  |parent k=>exact absurd h1 k
  |server _ _=>rfl
  |full _ k _=>exact absurd (k x hx) hk
  |tight _ k _ _=>exact absurd (k x hx) hk
  |fits _ k _ _=>exact absurd (k x hx) hk
 |full h1 h2 h3=>cases h' with
  |parent k=>exact absurd h1 k
  |server _ k=>obtain⟨x,hx,hk⟩:=k;exact absurd (h2 x hx) hk
  |full _ _ _=>rfl
  |tight _ _ k _=>omega
  |fits _ _ k _=>omega
 |tight h1 h2 h3 h4=>cases h' with
  |parent k=>exact absurd h1 k
  |server _ k=>obtain⟨x,hx,hk⟩:=k;exact absurd (h2 x hx) hk
  |full _ _ k=>omega
  |tight _ _ _ _=>rfl
  |fits _ _ _ k=>exact absurd k h4
 |fits h1 h2 h3 h4=>cases h' with
  |parent k=>exact absurd h1 k
  |server _ k=>obtain⟨x,hx,hk⟩:=k;exact absurd (h2 x hx) hk
  |full _ _ k=>omega
  |tight _ _ _ k=>exact absurd h4 k
  |fits _ _ _ _=>rfl
theorem KC.perm {s:Sv} {xs ys:List Sv} (h:KC s xs 0) (hp:xs.Perm ys):KC s ys 0:=by
 obtain⟨h1,h2,h3,h4⟩:=h.zero rfl
 exact .fits h1 (fun x hx=>h2 x (hp.mem_iff.mpr hx)) (by rw [<- hp.length_eq];exact h3) (fitK_perm hp h4)
theorem KC.less {s:Sv} {xs ys:List Sv} (h:KC s (xs ++ ys) 0):KC s xs 0:=by
 revert h
 refine snoc_ind (M:=fun ys=>KC s (xs ++ ys) 0->KC s xs 0) ?_ ?_ ys
 ·intro h;simpa using h
 ·intro l x ih h
  refine ih ?_
  obtain⟨h1,h2,h3,h4⟩:=h.zero rfl
  obtain⟨n1,n2,n3,n4,n5⟩:=h1.nums
  rw [<- List.append_assoc] at h2 h4 h3
  refine .fits h1 (fun y hy=>h2 y (by simp at hy ⊢;rcases hy with hy | hy <;> simp [hy])) (by simp at h3 ⊢;omega) (fitK_less n2 n3 h2 h4)
theorem sub_perm {α:Type} {xs ys:List α} (h:xs.Sublist ys):∃ zs,ys.Perm (xs ++ zs):=by
 induction h with
 |slnil=>exact⟨[],List.Perm.refl _⟩
 |cons a _ ih=>obtain⟨zs,hz⟩:=ih;exact⟨a :: zs,(hz.cons a).trans (List.perm_middle.symm)⟩
 |cons_cons a _ ih=>obtain⟨zs,hz⟩:=ih;exact⟨zs,hz.cons a⟩
theorem KC.sub {s:Sv} {xs ys:List Sv} (h:KC s ys 0) (hs:xs.Sublist ys):KC s xs 0:=by
 obtain⟨zs,hz⟩:=sub_perm hs
 exact(h.perm hz).less
theorem KC.nil {s:Sv} (h:okW s):KC s [] 0:=by
 obtain⟨n1,n2,n3,n4,n5⟩:=h.nums
 refine .fits h (by simp) (by simp) ⟨?_, ?_,fun l l1 l2=>?_⟩
 ·simp [sh];omega
 ·have:=Int.mul_nonneg (show 0<=qS s by omega) (show 0<=4096 - (gS s+dS s) by omega)
  simpa [sh,tot] using this
 ·have:=sb_nonneg (g:=gS s) (l:=l) (by omega) n2 n3
  simpa [tot] using this
theorem d_some {A:Ops} {s:Sv} {xs:List Sv} (h:KC s xs 0):Drn (gS s) (dS s) (qS s) xs (A.d s xs)/\1<=A.d s xs/\DC s xs (A.d s xs) 0:=by
 obtain⟨n,hn⟩:=A.hd s xs
 obtain⟨rfl,h2,h3⟩:=hn.fits h
 refine⟨h2, ?_,hn⟩
 rcases h2 with ⟨e,_⟩ | ⟨e,_⟩
 ·exact absurd e h3
 ·exact e
theorem d_range {A:Ops} (s:Sv) (xs:List Sv):0<=A.d s xs/\A.d s xs<=4096:=by
 obtain⟨n,hn⟩:=A.hd s xs
 have hl:∀ r,Drn (gS s) (dS s) (qS s) xs r->0<=r/\r<=4096:=by
  intro r h
  rcases h with ⟨rfl,_⟩ | ⟨a,b,_⟩ <;> omega
 generalize A.d s xs=r at *
 cases hn with
 |no n _ _=>omega
 |none _ _=>omega
 |yes r _ h _=>exact hl _ h
def Tr.has (t:Tr) (i:Int):Prop:=i=0 ∨ ∃ n ∈ t.ns,n.id=i
theorem nd_some {t:Tr} {i:Int} {n:Nd} (h:t.nd i=some n):n ∈ t.ns/\n.id=i:=⟨List.mem_of_find?_eq_some h,by have:=List.find?_some h;simpa [isId] using this⟩
theorem nd_none {t:Tr} {i:Int} (h:t.nd i=none):∀ n ∈ t.ns,¬ n.id=i:=by
 intro n hn e
 have:=List.find?_eq_none.mp h n hn
 simp [isId,e] at this
theorem nd_split {t:Tr} {i:Int} {n:Nd} (h:t.nd i=some n):∃ la lb,t.ns=la ++ n :: lb/\∀ a ∈ la,¬ a.id=i:=by
 obtain⟨_,la,lb,e,ha⟩:=List.find?_eq_some_iff_append.mp h
 exact⟨la,lb,e,fun a hm=>by have:=ha a hm;simpa [isId] using this⟩
theorem setAtL_split {la lb:List Nd} {n:Nd} {i:Int} (f:Nd->Nd) (hn:n.id=i) (ha:∀ a ∈ la,¬ a.id=i):setAtL (la ++ n :: lb) i f=la ++ f n :: lb:=by
 induction la with
 |nil=>simp [setAtL,hn]
 |cons a l ih=>simp only [List.cons_append,setAtL];rw [if_neg (ha a (by simp)),ih (fun x hx=>ha x (by simp [hx]))]
theorem dropL_split {la lb:List Nd} {n:Nd} {i:Int} (hn:n.id=i) (ha:∀ a ∈ la,¬ a.id=i):dropL (la ++ n :: lb) i=la ++ lb:=by
 induction la with
 |nil=>simp [dropL,hn]
 |cons a l ih=>simp only [List.cons_append,dropL];rw [if_neg (ha a (by simp)),ih (fun x hx=>ha x (by simp [hx]))]
theorem up_add (ns:List Nd) (d i:Int):ns.foldr up (d,i)=(d+(ns.foldr up (0,i)).1,(ns.foldr up (0,i)).2):=by
 induction ns with
 |nil=>simp
 |cons n l ih=>
  simp only [List.foldr_cons]
  rw [ih]
  generalize l.foldr up (0,i)=p
  simp only [up]
  split <;> simp <;> omega
structure Tr.Good (t:Tr):Prop where
 now0:0<=t.now
 now1:t.now<=1099511627776
 last0:0<=t.last
 rise:t.ns.Pairwise (fun a b=>a.id < b.id)
 ids:∀ n ∈ t.ns,1<=n.id/\n.id<=t.last
 par:∀ n ∈ t.ns,t.has n.pa
 lt:∀ n ∈ t.ns,n.pa < n.id
 gpar:∀ g ∈ t.gs,t.has g.pa
 fit:∀ i,t.has i->KC (t.srv i) (t.cnt i) 0
 gst:∀ n ∈ t.ns,n.po=0 ∨ (GC n.sv n.po n.ts 0/\t.cnt n.id=[])
 dp:∀ n ∈ t.ns,1<=t.dep n.id/\t.dep n.id<=4
theorem Tr.Good.zero:Tr.Good ⟨[],[],0,0⟩:=by
 refine⟨by decide,by decide,by decide,List.Pairwise.nil, ?_, ?_, ?_, ?_, ?_, ?_, ?_⟩
 all_goals try (intro n hn;simp at hn;done)
 intro i hi
 rcases hi with rfl | ⟨n,hn,_⟩
 ·exact KC.nil (.inl rfl)
 ·simp at hn
theorem Tr.Good.nd {t:Tr} (h:t.Good) {n:Nd} (hn:n ∈ t.ns):t.nd n.id=some n:=by
 obtain⟨la,lb,e⟩:=List.append_of_mem hn
 unfold Tr.nd
 rw [e,List.find?_append]
 have hr:=h.rise
 rw [e] at hr
 have:la.find? (isId n.id)=none:=by
  rw [List.find?_eq_none]
  intro a ha
  have:=(List.pairwise_append.mp hr).2.2 a ha n (by simp)
  simp [isId];omega
 rw [this]
 simp [isId]
theorem Tr.Good.pos {t:Tr} (h:t.Good) {i:Int} (hi:t.has i):0<=i/\i<=t.last:=by
 rcases hi with rfl | ⟨n,hn,rfl⟩
 ·exact⟨by omega,h.last0⟩
 ·have:=h.ids n hn;omega
theorem cnt_ns (t t':Tr) (hn:t.ns=t'.ns) (hg:t.gs.map (fun g=>(g.pa,g.sv))=t'.gs.map (fun g=>(g.pa,g.sv))) (i:Int):t.cnt i=t'.cnt i:=by
 have e:∀ gs:List Gh,(gs.filter (belG i)).map Gh.sv=((gs.map (fun g=>(g.pa,g.sv))).filter (fun x=>decide (x.1=i))).map Prod.snd:=by
  intro gs
  induction gs with
  |nil=>rfl
  |cons g l ih=>
   simp only [List.map_cons,List.filter_cons,belG]
   by_cases h:g.pa=i
   ·simp only [h,decide_true,if_true,List.map_cons];rw [<- ih]
   ·simp only [h,decide_false];exact ih
 unfold Tr.cnt
 rw [hn,e,e,hg]
theorem hold_keeps (gs:List Gh) (i u:Int):(gs.map (hold1 i u)).map (fun g=>(g.pa,g.sv))=gs.map (fun g=>(g.pa,g.sv)):=by
 rw [List.map_map]
 refine List.map_congr_left fun g _=>?_
 simp only [Function.comp,hold1]
 split <;> rfl
theorem hold_cnt (A:Ops) (t:Tr) (i j:Int):(t.hold A i).cnt j=t.cnt j:=cnt_ns (t.hold A i) t rfl (hold_keeps _ _ _) j
theorem Tr.Good.hold {A:Ops} {t:Tr} (h:t.Good) (i:Int):(t.hold A i).Good:=by
 obtain⟨h1,h2,h3,h4,h5,h6,h7,h8,h9,h10,h11⟩:=h
 refine⟨h1,h2,h3,h4,h5,h6,h7,fun g hg=>?_,fun j hj=>?_,fun n hn=>?_,h11⟩
 ·obtain⟨x,hx,rfl⟩:=List.mem_map.mp hg
  have:=h8 x hx
  unfold hold1
  split <;> exact this
 ·rw [hold_cnt];exact h9 j hj
 ·rw [hold_cnt];exact h10 n hn
theorem pass_cnt (t:Tr) (a j:Int):((t.pass a).cnt j).Sublist (t.cnt j):=by
 unfold Tr.cnt Tr.pass
 exact List.Sublist.append (List.Sublist.refl _) ((List.Sublist.filter _ List.filter_sublist).map _)
theorem Tr.Good.pass {t:Tr} (h:t.Good) {a:Int} (ha:0<=a) (hb:a<=1099511627776):(t.pass a).Good:=by
 obtain⟨h1,h2,h3,h4,h5,h6,h7,h8,h9,h10,h11⟩:=h
 refine⟨by show 0<=max t.now a;omega,by show max t.now a<=_;omega,h3,h4,h5,h6,h7,fun g hg=>h8 g (List.mem_filter.mp hg).1,fun j hj=>(h9 j hj).sub (pass_cnt t a j),fun n hn=>?_,h11⟩
 rcases h10 n hn with e | ⟨e1,e2⟩
 ·exact .inl e
 ·exact .inr ⟨e1,by have:=pass_cnt t a n.id;rw [e2] at this;exact List.sublist_nil.mp this⟩
theorem k_zero {A:Ops} {s:Sv} {xs:List Sv} (h:A.k s xs=0):KC s xs 0:=by have:=A.hk s xs;rwa [h] at this
theorem k_of {A:Ops} {s:Sv} {xs:List Sv} (h:KC s xs 0):A.k s xs=0:=kc_one (A.hk s xs) h
theorem g_zero {A:Ops} {s:Sv} {p:Int} {xs:List Tk} (h:A.g s p xs=0):GC s p xs 0:=by have:=A.hg s p xs;rwa [h] at this
theorem find_skip {la lb:List Nd} {m:Nd} {j:Int} (h:¬ m.id=j):(la ++ m :: lb).find? (isId j)=(la ++ lb).find? (isId j):=by
 simp [List.find?_append,isId,h]
theorem filt_skip {la lb:List Nd} {m:Nd} {j:Int} (h:¬ m.pa=j):(la ++ m :: lb).filter (bel j)=(la ++ lb).filter (bel j):=by
 simp [List.filter_append,bel,h]
theorem up_no {n:Nd} {p:Int × Int} (h:¬ n.id=p.2):up n p=p:=if_neg h
theorem dw_id (l:List Nd) (d j:Int):(l.foldr up (d,j)).2=j ∨ ∃ m ∈ l,(l.foldr up (d,j)).2=m.pa:=by
 induction l with
 |nil=>exact .inl rfl
 |cons n l ih=>
  simp only [List.foldr_cons]
  rcases ih with e | ⟨m,hm,e⟩
  ·by_cases c:n.id=(l.foldr up (d,j)).2
   ·refine .inr ⟨n,by simp, ?_⟩
    simp [up,c]
   ·exact .inl (by rw [up_no c];exact e)
  ·by_cases c:n.id=(l.foldr up (d,j)).2
   ·refine .inr ⟨n,by simp, ?_⟩
    simp [up,c]
   ·exact .inr ⟨m,by simp [hm],by rw [up_no c];exact e⟩
theorem dw_none {l:List Nd} {j:Int} (h:∀ n ∈ l,¬ n.id=j) (d:Int):l.foldr up (d,j)=(d,j):=by
 induction l with
 |nil=>rfl
 |cons n l ih=>
  rw [List.foldr_cons,ih (fun x hx=>h x (by simp [hx]))]
  simp [up,h n (by simp)]
theorem dep_gone {t:Tr} {i:Int} (h0:¬ i=0) (h:∀ n ∈ t.ns,¬ n.id=i):t.dep i = -1:=by
 unfold Tr.dep Tr.dw
 rw [dw_none h]
 simp [h0]
theorem dep_has {t:Tr} {i:Int} (h:0<=t.dep i):t.has i:=by
 by_cases h0:i=0
 ·exact .inl h0
 ·cases e:t.nd i with
  |some n=>exact .inr ⟨n,nd_some e⟩
  |none=>have:=dep_gone h0 (nd_none e);omega
theorem filtG_snoc (gs:List Gh) (g:Gh) (j:Int):((gs ++ [g]).filter (belG j)).map Gh.sv=(gs.filter (belG j)).map Gh.sv ++ if g.pa=j then [g.sv] else []:=by
 rw [List.filter_append,List.map_append]
 by_cases h:g.pa=j <;> simp [belG,h]
theorem Tr.Good.bndOf {t:Tr} (h:t.Good) {n:Nd} (hn:n ∈ t.ns) (hb:t.bnd n.id=false):n.po=0:=by
 unfold Tr.bnd at hb
 rw [h.nd hn] at hb
 simpa using hb
theorem Tr.Good.unbound {t:Tr} (h:t.Good) {n:Nd} (hn:n ∈ t.ns) (hc:¬ t.cnt n.id=[]):n.po=0:=by
 rcases h.gst n hn with e | ⟨_,e⟩
 ·exact e
 ·exact absurd e hc
set_option maxHeartbeats 1600000 in
theorem Tr.Good.grow {t:Tr} (h:t.Good) {i:Int} {s:Sv} (hs:okS s) (hd:0<=t.dep i) (hd4:t.dep i < 4) (hb:t.bnd i=false) (hk:KC (t.srv i) (t.cnt i ++ [s]) 0):Tr.Good ⟨t.ns ++ [⟨t.last+1,i,s,0,[]⟩],t.gs,t.last+1,t.now⟩:=by
 have hi:=dep_has hd
 obtain⟨i0,i1⟩:=h.pos hi
 have hnew:∀ n ∈ t.ns,¬ n.id=t.last+1:=fun n hn e=>by have:=(h.ids n hn).2;omega
 have hup:∀ j,t.has j->(Tr.mk (t.ns ++ [⟨t.last+1,i,s,0,[]⟩]) t.gs (t.last+1) t.now).has j:=fun j hj=>by
  rcases hj with e | ⟨n,hn,e⟩
  ·exact .inl e
  ·exact .inr ⟨n,by simp [hn],e⟩
 have hsrv:∀ j,t.has j->(Tr.mk (t.ns ++ [⟨t.last+1,i,s,0,[]⟩]) t.gs (t.last+1) t.now).srv j=t.srv j:=fun j hj=>by
  have:=(h.pos hj).2
  unfold Tr.srv Tr.nd
  rw [find_skip (lb:=[]) (by show ¬ t.last+1=j;omega),List.append_nil]
 have hcnt:∀ j,¬ j=i->(Tr.mk (t.ns ++ [⟨t.last+1,i,s,0,[]⟩]) t.gs (t.last+1) t.now).cnt j=t.cnt j:=fun j hj=>by
  unfold Tr.cnt
  rw [filt_skip (lb:=[]) (by show ¬ i=j;omega),List.append_nil]
 have hcnt0:(Tr.mk (t.ns ++ [⟨t.last+1,i,s,0,[]⟩]) t.gs (t.last+1) t.now).cnt (t.last+1)=[]:=by
  rw [hcnt _ (by omega)]
  unfold Tr.cnt
  have e1:t.ns.filter (bel (t.last+1))=[]:=List.filter_eq_nil_iff.mpr (fun n hn=>by have:=(h.pos (h.par n hn)).2;simp [bel];omega)
  have e2:t.gs.filter (belG (t.last+1))=[]:=List.filter_eq_nil_iff.mpr (fun n hn=>by have:=(h.pos (h.gpar n hn)).2;simp [belG];omega)
  rw [e1,e2];rfl
 have hcnti:(t.cnt i ++ [s]).Perm ((Tr.mk (t.ns ++ [⟨t.last+1,i,s,0,[]⟩]) t.gs (t.last+1) t.now).cnt i):=by
  unfold Tr.cnt
  rw [List.filter_append,List.map_append]
  simp only [List.filter_cons,bel,decide_true,if_true,List.filter_nil,List.map_cons,List.map_nil,List.append_assoc]
  exact List.Perm.append_left _ List.perm_append_comm
 have hdep:∀ j,¬ j=t.last+1->(Tr.mk (t.ns ++ [⟨t.last+1,i,s,0,[]⟩]) t.gs (t.last+1) t.now).dep j=t.dep j:=fun j hj=>by
  unfold Tr.dep Tr.dw
  rw [List.foldr_append]
  have:List.foldr up (0,j) [⟨t.last+1,i,s,0,[]⟩]=(0,j):=by simp [up];omega
  rw [this]
 refine⟨h.now0,h.now1,by show 0<=t.last+1;have:=h.last0;omega, ?_, ?_, ?_, ?_,fun g hg=>hup _ (h.gpar g hg), ?_, ?_, ?_⟩
 ·exact List.pairwise_append.mpr ⟨h.rise,by simp,fun a ha b hb=>by simp at hb;subst hb;show a.id < t.last+1;have:=(h.ids a ha).2;omega⟩
 ·intro n hn
  rcases List.mem_append.mp hn with m | m
  ·have:=h.ids n m;show 1<=n.id/\n.id<=t.last+1;omega
  ·simp at m;subst m;show 1<=t.last+1/\t.last+1<=t.last+1;have:=h.last0;omega
 ·intro n hn
  rcases List.mem_append.mp hn with m | m
  ·exact hup _ (h.par n m)
  ·simp at m;subst m;exact hup _ hi
 ·intro n hn
  rcases List.mem_append.mp hn with m | m
  ·exact h.lt n m
  ·simp at m;subst m;show i < t.last+1;omega
 ·intro j hj
  by_cases e:j=t.last+1
  ·subst e
   rw [hcnt0]
   refine KC.nil (.inr ?_)
   unfold Tr.srv Tr.nd
   rw [if_neg (by have:=h.last0;omega),List.find?_append]
   have:t.ns.find? (isId (t.last+1))=none:=List.find?_eq_none.mpr (fun n hn=>by simp [isId];exact hnew n hn)
   rw [this]
   simpa [isId] using hs
  ·have hj':t.has j:=by
    rcases hj with e2 | ⟨n,hn,e2⟩
    ·exact .inl e2
    ·rcases List.mem_append.mp hn with m | m
     ·exact .inr ⟨n,m,e2⟩
     ·simp at m;subst m;exact absurd e2.symm e
   rw [hsrv j hj']
   by_cases e2:j=i
   ·subst e2;exact hk.perm hcnti
   ·rw [hcnt j e2];exact h.fit j hj'
 ·intro n hn
  rcases List.mem_append.mp hn with m | m
  ·by_cases e:n.id=i
   ·exact .inl (h.bndOf m (by rw [e];exact hb))
   ·rw [hcnt _ e];exact h.gst n m
  ·simp at m;subst m;exact .inl rfl
 ·intro n hn
  rcases List.mem_append.mp hn with m | m
  ·rw [hdep _ (hnew n m)];exact h.dp n m
  ·simp at m;subst m
   show 1<=Tr.dep _ (t.last+1)/\Tr.dep _ (t.last+1)<=4
   have e:(Tr.mk (t.ns ++ [⟨t.last+1,i,s,0,[]⟩]) t.gs (t.last+1) t.now).dep (t.last+1)=1+t.dep i:=by
    unfold Tr.dep Tr.dw at hd ⊢
    rw [List.foldr_append]
    have:List.foldr up (0,t.last+1) [⟨t.last+1,i,s,0,[]⟩]=(1,i):=by simp [up]
    rw [this,up_add]
    simp only
    split at hd
    ·rename_i c;rw [if_pos c,if_pos c]
    ·omega
   rw [e];omega
theorem leaf_facts {t:Tr} {i:Int} (h:t.leafC i=0):(∃ n,t.nd i=some n)/\t.cnt i=[]:=by
 unfold Tr.leafC at h
 split at h
 ·omega
 ·rename_i c
  split at h
  ·omega
  ·rename_i c2
   refine⟨?_,List.eq_nil_of_length_eq_zero (by omega)⟩
   cases e:t.nd i with
   |none=>exact absurd e c
   |some n=>exact⟨n,rfl⟩
theorem cnt_nil {t:Tr} {i:Int} (h:t.cnt i=[]):(∀ n ∈ t.ns,¬ n.pa=i)/\∀ g ∈ t.gs,¬ g.pa=i:=by
 unfold Tr.cnt at h
 obtain⟨h1,h2⟩:=List.append_eq_nil_iff.mp h
 rw [List.map_eq_nil_iff,List.filter_eq_nil_iff] at h1 h2
 exact⟨fun n hn e=>h1 n hn (by simp [bel,e]),fun g hg e=>h2 g hg (by simp [belG,e])⟩
theorem Tr.Good.split {t:Tr} (h:t.Good) {i:Int} {n:Nd} (hn:t.nd i=some n):∃ la lb,t.ns=la ++ n :: lb/\(∀ a ∈ la,¬ a.id=i)/\(∀ b ∈ lb,¬ b.id=i)/\n.id=i:=by
 obtain⟨la,lb,e,ha⟩:=nd_split hn
 have hi:=(nd_some hn).2
 refine⟨la,lb,e,ha,fun b hb e2=>?_,hi⟩
 have hr:=h.rise
 rw [e] at hr
 have:=(List.pairwise_cons.mp (List.pairwise_append.mp hr).2.1).1 b hb
 omega
theorem rise_same {la lb:List Nd} {n n':Nd} (h:(la ++ n :: lb).Pairwise (fun a b=>a.id < b.id)) (e:n'.id=n.id):(la ++ n' :: lb).Pairwise (fun a b=>a.id < b.id):=by
 obtain⟨h1,h2,h3⟩:=List.pairwise_append.mp h
 obtain⟨h4,h5⟩:=List.pairwise_cons.mp h2
 refine List.pairwise_append.mpr ⟨h1,List.pairwise_cons.mpr ⟨fun b hb=>by rw [e];exact h4 b hb,h5⟩,fun a ha b hb=>?_⟩
 rcases List.mem_cons.mp hb with rfl | hb
 ·rw [e];exact h3 a ha n (by simp)
 ·exact h3 a ha b (by simp [hb])
theorem dw_same {la lb:List Nd} {n n':Nd} (e:n'.id=n.id) (e2:n'.pa=n.pa) (p:Int × Int):(la ++ n' :: lb).foldr up p=(la ++ n :: lb).foldr up p:=by
 rw [List.foldr_append,List.foldr_append,List.foldr_cons,List.foldr_cons]
 have:∀ q,up n' q=up n q:=fun q=>by unfold up;rw [e,e2]
 rw [this]
theorem dw_less {la lb:List Nd} {n:Nd} {j:Int} (hb:∀ b ∈ lb,¬ b.pa=n.id) (hj:¬ j=n.id) (d:Int):(la ++ n :: lb).foldr up (d,j)=(la ++ lb).foldr up (d,j):=by
 rw [List.foldr_append,List.foldr_append,List.foldr_cons]
 have:up n (lb.foldr up (d,j))=lb.foldr up (d,j):=by
  have:¬ n.id=(lb.foldr up (d,j)).2:=by
   rcases dw_id lb d j with e | ⟨m,hm,e⟩
   ·rw [e];exact fun x=>hj x.symm
   ·rw [e];exact fun x=>hb m hm x.symm
  simp [up,this]
 rw [this]
set_option maxHeartbeats 1600000 in
theorem Tr.Good.swap {t:Tr} (h:t.Good) {i:Int} {n n':Nd} {gs:List Gh} (hn:t.nd i=some n) (hc:t.cnt i=[]) (e1:n'.id=n.id) (e2:n'.pa=n.pa) (hs:okW n'.sv) (hg:∀ g ∈ gs,t.has g.pa)
  (hgs:∀ j,¬ j=n.pa->(gs.filter (belG j)).map Gh.sv=(t.gs.filter (belG j)).map Gh.sv) (hpar:KC (t.srv n.pa) ((Tr.mk (setAtL t.ns i (fun _=>n')) gs t.last t.now).cnt n.pa) 0) (hb:n'.po=0 ∨ GC n'.sv n'.po n'.ts 0):Tr.Good ⟨setAtL t.ns i (fun _=>n'),gs,t.last,t.now⟩:=by
 obtain⟨la,lb,e,ha,hbs,hi⟩:=h.split hn
 have hset:setAtL t.ns i (fun _=>n')=la ++ n' :: lb:=by rw [e];exact setAtL_split _ hi ha
 rw [hset] at hpar ⊢
 have hmem:n ∈ t.ns:=(nd_some hn).1
 have hlt:=h.lt n hmem
 have hid:=h.ids n hmem
 have hm:∀ m,m ∈ la ++ n' :: lb->m=n' ∨ (m ∈ t.ns/\¬ m.id=i):=fun m hm=>by
  rcases List.mem_append.mp hm with x | x
  ·exact .inr ⟨by rw [e];simp [x],ha m x⟩
  ·rcases List.mem_cons.mp x with x | x
   ·exact .inl x
   ·exact .inr ⟨by rw [e];simp [x],hbs m x⟩
 have hhas:∀ j,(Tr.mk (la ++ n' :: lb) gs t.last t.now).has j ↔ t.has j:=fun j=>by
  unfold Tr.has
  rw [e]
  simp only [List.mem_append,List.mem_cons]
  constructor
  ·rintro (x | ⟨m,x | rfl | x,y⟩)
   ·exact .inl x
   ·exact .inr ⟨m,.inl x,y⟩
   ·exact .inr ⟨n,.inr (.inl rfl),by rw [<- e1];exact y⟩
   ·exact .inr ⟨m,.inr (.inr x),y⟩
  ·rintro (x | ⟨m,x | rfl | x,y⟩)
   ·exact .inl x
   ·exact .inr ⟨m,.inl x,y⟩
   ·exact .inr ⟨n',.inr (.inl rfl),by rw [e1];exact y⟩
   ·exact .inr ⟨m,.inr (.inr x),y⟩
 have hsrv:∀ j,¬ j=i->(Tr.mk (la ++ n' :: lb) gs t.last t.now).srv j=t.srv j:=fun j hj=>by
  unfold Tr.srv Tr.nd
  rw [e,find_skip (by rw [e1];omega),find_skip (by omega)]
 have hcnt:∀ j,¬ j=n.pa->(Tr.mk (la ++ n' :: lb) gs t.last t.now).cnt j=t.cnt j:=fun j hj=>by
  unfold Tr.cnt
  rw [e,filt_skip (by rw [e2];omega),filt_skip (by omega),hgs j hj]
 have hdep:∀ j,(Tr.mk (la ++ n' :: lb) gs t.last t.now).dep j=t.dep j:=fun j=>by
  unfold Tr.dep Tr.dw
  rw [e,dw_same e1 e2]
 have hcp:¬ t.cnt n.pa=[]:=fun x=>(cnt_nil x).1 n hmem rfl
 refine⟨h.now0,h.now1,h.last0, ?_, ?_, ?_, ?_,fun g x=>(hhas _).mpr (hg g x), ?_, ?_, ?_⟩
 ·have:=h.rise;rw [e] at this;exact rise_same this e1
 ·intro m x
  rcases hm m x with rfl | ⟨y,_⟩
  ·rw [e1];exact hid
  ·exact h.ids m y
 ·intro m x
  rw [hhas]
  rcases hm m x with rfl | ⟨y,_⟩
  ·rw [e2];exact h.par n hmem
  ·exact h.par m y
 ·intro m x
  rcases hm m x with rfl | ⟨y,_⟩
  ·rw [e1,e2];exact hlt
  ·exact h.lt m y
 ·intro j hj
  rw [hhas] at hj
  by_cases c:j=i
  ·subst c
   rw [hcnt _ (by omega),hc]
   refine KC.nil ?_
   unfold Tr.srv Tr.nd
   rw [if_neg (by omega),List.find?_append,List.find?_eq_none.mpr (fun a x=>by simp [isId];exact ha a x)]
   simpa [isId,e1,hi] using hs
  ·rw [hsrv j c]
   by_cases c2:j=n.pa
   ·subst c2;exact hpar
   ·rw [hcnt j c2];exact h.fit j hj
 ·intro m x
  rcases hm m x with rfl | ⟨y,hy⟩
  ·rcases hb with z | z
   ·exact .inl z
   ·exact .inr ⟨z,by rw [e1,hi,hcnt _ (by omega)];exact hc⟩
  ·by_cases c:m.id=n.pa
   ·exact .inl (h.unbound y (by rw [c];exact hcp))
   ·rw [hcnt _ c];exact h.gst m y
 ·intro m x
  rw [hdep]
  rcases hm m x with rfl | ⟨y,_⟩
  ·rw [e1];exact h.dp n hmem
  ·exact h.dp m y
set_option maxHeartbeats 1600000 in
theorem Tr.Good.drop {t:Tr} (h:t.Good) {i u:Int} {n:Nd} (hn:t.nd i=some n) (hc:t.cnt i=[]):Tr.Good ⟨dropL t.ns i,t.gs ++ [⟨n.pa,n.sv,u⟩],t.last,t.now⟩/\(t.cnt n.pa).Perm ((Tr.mk (dropL t.ns i) (t.gs ++ [⟨n.pa,n.sv,u⟩]) t.last t.now).cnt n.pa)/\(Tr.mk (dropL t.ns i) (t.gs ++ [⟨n.pa,n.sv,u⟩]) t.last t.now).srv n.pa=t.srv n.pa:=by
 obtain⟨la,lb,e,ha,hbs,hi⟩:=h.split hn
 have hset:dropL t.ns i=la ++ lb:=by rw [e];exact dropL_split hi ha
 rw [hset]
 have hmem:n ∈ t.ns:=(nd_some hn).1
 have hlt:=h.lt n hmem
 have hid:=h.ids n hmem
 obtain⟨hc1,hc2⟩:=cnt_nil hc
 have hm:∀ m,m ∈ la ++ lb->m ∈ t.ns/\¬ m.id=i:=fun m hm=>by
  rcases List.mem_append.mp hm with x | x
  ·exact⟨by rw [e];simp [x],ha m x⟩
  ·exact⟨by rw [e];simp [x],hbs m x⟩
 have hhas:∀ j,¬ j=i->t.has j->(Tr.mk (la ++ lb) (t.gs ++ [⟨n.pa,n.sv,u⟩]) t.last t.now).has j:=fun j hj x=>by
  rcases x with x | ⟨m,x,y⟩
  ·exact .inl x
  ·rw [e] at x
   rcases List.mem_append.mp x with x | x
   ·exact .inr ⟨m,by simp [x],y⟩
   ·rcases List.mem_cons.mp x with rfl | x
    ·omega
    ·exact .inr ⟨m,by simp [x],y⟩
 have hback:∀ j,(Tr.mk (la ++ lb) (t.gs ++ [⟨n.pa,n.sv,u⟩]) t.last t.now).has j->t.has j/\¬ j=i:=fun j x=>by
  rcases x with x | ⟨m,x,y⟩
  ·exact⟨.inl x,by omega⟩
  ·obtain⟨z1,z2⟩:=hm m x
   exact⟨.inr ⟨m,z1,y⟩,by omega⟩
 have hsrv:∀ j,¬ j=i->(Tr.mk (la ++ lb) (t.gs ++ [⟨n.pa,n.sv,u⟩]) t.last t.now).srv j=t.srv j:=fun j hj=>by
  unfold Tr.srv Tr.nd
  rw [e,find_skip (by omega)]
 have hcnt:∀ j,¬ j=n.pa->(Tr.mk (la ++ lb) (t.gs ++ [⟨n.pa,n.sv,u⟩]) t.last t.now).cnt j=t.cnt j:=fun j hj=>by
  unfold Tr.cnt
  rw [e,filt_skip (by omega),filtG_snoc,if_neg (by simp;omega),List.append_nil]
 have hperm:(t.cnt n.pa).Perm ((Tr.mk (la ++ lb) (t.gs ++ [⟨n.pa,n.sv,u⟩]) t.last t.now).cnt n.pa):=by
  unfold Tr.cnt
  rw [e,filtG_snoc,if_pos rfl,List.filter_append,List.filter_append,List.filter_cons,if_pos (by simp [bel]),List.map_append,List.map_append,List.map_cons]
  simp only [List.append_assoc,List.cons_append]
  refine List.Perm.append_left _ ?_
  rw [<- List.append_assoc]
  exact(List.perm_append_singleton _ _).symm
 have hdep:∀ j,¬ j=i->(Tr.mk (la ++ lb) (t.gs ++ [⟨n.pa,n.sv,u⟩]) t.last t.now).dep j=t.dep j:=fun j hj=>by
  unfold Tr.dep Tr.dw
  rw [e,dw_less (fun b x=>by rw [hi];exact hc1 b (by rw [e];simp [x])) (by omega)]
 have hcp:¬ t.cnt n.pa=[]:=fun x=>(cnt_nil x).1 n hmem rfl
 refine⟨⟨h.now0,h.now1,h.last0, ?_,fun m x=>h.ids m (hm m x).1,fun m x=>hhas _ (hc1 m (hm m x).1) (h.par m (hm m x).1),fun m x=>h.lt m (hm m x).1, ?_, ?_, ?_,fun m x=>by rw [hdep _ (hm m x).2];exact h.dp m (hm m x).1⟩,hperm,hsrv _ (by omega)⟩
 ·have:=h.rise
  rw [e] at this
  obtain⟨h1,h2,h3⟩:=List.pairwise_append.mp this
  exact List.pairwise_append.mpr ⟨h1,(List.pairwise_cons.mp h2).2,fun a x b y=>h3 a x b (by simp [y])⟩
 ·intro g x
  rcases List.mem_append.mp x with x | x
  ·exact hhas _ (hc2 g x) (h.gpar g x)
  ·simp at x;subst x;exact hhas _ (by show ¬ n.pa=i;omega) (h.par n hmem)
 ·intro j hj
  obtain⟨z1,z2⟩:=hback j hj
  rw [hsrv j z2]
  by_cases c:j=n.pa
  ·subst c;exact(h.fit _ z1).perm hperm
  ·rw [hcnt j c];exact h.fit j z1
 ·intro m x
  obtain⟨z1,z2⟩:=hm m x
  by_cases c:m.id=n.pa
  ·exact .inl (h.unbound z1 (by rw [c];exact hcp))
  ·rw [hcnt _ c];exact h.gst m z1
structure Tr.Sm (t:Tr) (k:Nat):Prop where
 n:t.ns.length<=k
 g:t.gs.length<=k
 l:t.last<=k
 s:∀ x ∈ t.ns,x.ts.length<=8
def Tr.Liv (t:Tr):Prop:=∀ g ∈ t.gs,t.now < g.un
theorem crC_zero {A:Ops} {t:Tr} {o:Od} (h:t.crC A o=0):okS o.sv/\0<=t.dep o.id/\t.dep o.id < 4/\t.bnd o.id=false/\t.ns.length < 64/\KC (t.srv o.id) (t.cnt o.id ++ [o.sv]) 0:=by
 unfold Tr.crC at h
 split at h;· omega
 rename_i c1
 split at h;· omega
 rename_i c2
 split at h;· omega
 rename_i c3
 split at h;· omega
 rename_i c4
 split at h;· omega
 rename_i c5
 split at h;· omega
 rename_i c6
 split at h;· omega
 rename_i c7
 refine⟨(A.hok _).mp (by simpa using c1),by omega,by omega,by simpa using c3,by omega, ?_⟩
 simp only [Tr.fits,decide_eq_false_iff_not,Decidable.not_not] at c7
 exact k_zero c7
theorem idleC_zero {t:Tr} {i:Int} (h:t.idleC i=0):t.leafC i=0/\t.bnd i=false:=by
 unfold Tr.idleC at h
 split at h
 ·rename_i c;exact absurd h c
 ·rename_i c
  split at h
  ·omega
  ·rename_i c2;exact⟨by omega,by simpa using c2⟩
theorem rsC_zero {A:Ops} {t:Tr} {o:Od} (h:t.rsC A o=0):okS o.sv/\t.leafC o.id=0/\t.bnd o.id=false/\KC (t.srv (t.par o.id)) (t.cnt (t.par o.id) ++ [o.sv]) 0:=by
 unfold Tr.rsC at h
 split at h;· omega
 rename_i c1
 split at h
 ·rename_i c;exact absurd h c
 rename_i c2
 split at h;· omega
 split at h;· omega
 rename_i c7
 simp only [Tr.fits,decide_eq_false_iff_not,Decidable.not_not] at c7
 obtain⟨e1,e2⟩:=idleC_zero (t:=t) (i:=o.id) (by omega)
 exact⟨(A.hok _).mp (by simpa using c1),e1,e2,k_zero c7⟩
theorem bdC_zero {A:Ops} {t:Tr} {o:Od} (h:t.bdC A o=0):okG o.po o.ts/\t.leafC o.id=0/\t.bnd o.id=false/\GC (t.own o.id) o.po o.ts 0:=by
 unfold Tr.bdC at h
 split at h;· omega
 rename_i c1
 split at h
 ·rename_i c;exact absurd h c
 rename_i c2
 split at h;· omega
 rename_i c7
 obtain⟨e1,e2⟩:=idleC_zero (t:=t) (i:=o.id) (by omega)
 exact⟨(A.hokg _ _).mp (by simpa using c1),e1,e2,g_zero (A:=A) (by omega)⟩
theorem par_of {t:Tr} {i:Int} {n:Nd} (h:t.nd i=some n):t.par i=n.pa:=by unfold Tr.par;rw [h];rfl
theorem own_of {t:Tr} {i:Int} {n:Nd} (h:t.nd i=some n):t.own i=n.sv:=by unfold Tr.own;rw [h];rfl
theorem setAtL_congr (ns:List Nd) (i:Int) (f g:Nd->Nd) (h:∀ n ∈ ns,n.id=i->f n=g n):setAtL ns i f=setAtL ns i g:=by
 induction ns with
 |nil=>rfl
 |cons n l ih=>
  simp only [setAtL]
  split
  ·rename_i c;rw [h n (by simp) c]
  ·rw [ih (fun x hx=>h x (by simp [hx]))]
theorem setAtL_mem {ns:List Nd} {i:Int} {f:Nd->Nd} {x:Nd} (h:x ∈ setAtL ns i f):x ∈ ns ∨ ∃ n ∈ ns,n.id=i/\x=f n:=by
 induction ns with
 |nil=>simp [setAtL] at h
 |cons n l ih=>
  simp only [setAtL] at h
  split at h
  ·rename_i c
   rcases List.mem_cons.mp h with e | e
   ·exact .inr ⟨n,by simp,c,e⟩
   ·exact .inl (by simp [e])
  ·rcases List.mem_cons.mp h with e | e
   ·exact .inl (by simp [e])
   ·rcases ih e with e | ⟨m,hm,e1,e2⟩
    ·exact .inl (by simp [e])
    ·exact .inr ⟨m,by simp [hm],e1,e2⟩
theorem setAtL_len (ns:List Nd) (i:Int) (f:Nd->Nd):(setAtL ns i f).length=ns.length:=by
 induction ns with
 |nil=>rfl
 |cons n l ih=>simp only [setAtL];split <;> simp [ih]
theorem dropL_sub (ns:List Nd) (i:Int):(dropL ns i).Sublist ns:=by
 induction ns with
 |nil=>exact List.Sublist.refl _
 |cons n l ih=>
  simp only [dropL]
  split
  ·exact List.sublist_cons_self _ _
  ·exact ih.cons_cons n
def Tr.rs1 (t:Tr) (o:Od):Tr:=⟨setAtL t.ns o.id (fun n=>⟨n.id,n.pa,o.sv,n.po,n.ts⟩),t.gs ++ [⟨t.par o.id,t.own o.id,0⟩],t.last,t.now⟩
theorem Tr.Good.rs1 {A:Ops} {t:Tr} {o:Od} (h:t.Good) (hc:t.rsC A o=0):(t.rs1 o).Good/\(t.rs1 o).has (t.par o.id):=by
 obtain⟨h1,h2,h3,h4⟩:=rsC_zero hc
 obtain⟨⟨n,hn⟩,hl⟩:=leaf_facts h2
 obtain⟨hm,hi⟩:=nd_some hn
 have e:setAtL t.ns o.id (fun n=>⟨n.id,n.pa,o.sv,n.po,n.ts⟩)=setAtL t.ns o.id (fun _=>⟨n.id,n.pa,o.sv,n.po,n.ts⟩):=setAtL_congr _ _ _ _ (fun m x y=>by
  have:=h.nd x
  rw [y,hn] at this
  cases this;rfl)
 have hlt:=h.lt n hm
 unfold Tr.rs1
 rw [e,par_of hn,own_of hn]
 rw [par_of hn] at h4
 obtain⟨la,lb,e2,ha,hb,_⟩:=h.split hn
 have hset:setAtL t.ns o.id (fun _=>(⟨n.id,n.pa,o.sv,n.po,n.ts⟩:Nd))=la ++ ⟨n.id,n.pa,o.sv,n.po,n.ts⟩ :: lb:=by rw [e2];exact setAtL_split _ hi ha
 refine⟨h.swap (n':=⟨n.id,n.pa,o.sv,n.po,n.ts⟩) hn hl rfl rfl (.inr h1) ?_ ?_ ?_ ?_, ?_⟩
 ·intro g hg
  rcases List.mem_append.mp hg with x | x
  ·exact h.gpar g x
  ·simp at x;subst x;exact h.par n hm
 ·intro j hj
  rw [filtG_snoc,if_neg (by show ¬ n.pa=j;omega),List.append_nil]
 ·refine h4.perm ?_
  rw [hset]
  unfold Tr.cnt
  simp only
  rw [e2,filtG_snoc,if_pos rfl,List.filter_append,List.filter_append,List.filter_cons,List.filter_cons,if_pos (by simp [bel]),if_pos (by simp [bel]),List.map_append,List.map_append,List.map_cons,List.map_cons]
  simp only [List.append_assoc,List.cons_append]
  refine List.Perm.append_left _ ?_
  have p1:(n.sv :: ((lb.filter (bel n.pa)).map Nd.sv ++ ((t.gs.filter (belG n.pa)).map Gh.sv ++ [o.sv]))).Perm (n.sv :: o.sv :: ((lb.filter (bel n.pa)).map Nd.sv ++ (t.gs.filter (belG n.pa)).map Gh.sv)):=by
   rw [<- List.append_assoc]
   exact(List.perm_append_singleton _ _).cons _
  have p2:(o.sv :: ((lb.filter (bel n.pa)).map Nd.sv ++ ((t.gs.filter (belG n.pa)).map Gh.sv ++ [n.sv]))).Perm (o.sv :: n.sv :: ((lb.filter (bel n.pa)).map Nd.sv ++ (t.gs.filter (belG n.pa)).map Gh.sv)):=by
   rw [<- List.append_assoc]
   exact(List.perm_append_singleton _ _).cons _
  exact p1.trans ((List.Perm.swap _ _ _).trans p2.symm)
 ·exact .inl (show n.po=0 from h.bndOf hm (by rw [hi];exact h3))
 ·rw [hset]
  rcases h.par n hm with x | ⟨m,x,y⟩
  ·exact .inl x
  ·refine .inr ?_
   rw [e2] at x
   rcases List.mem_append.mp x with x | x
   ·exact⟨m,by simp [x],y⟩
   ·rcases List.mem_cons.mp x with rfl | x
    ·omega
    ·exact⟨m,by simp [x],y⟩
def Tr.cr1 (t:Tr) (o:Od):Tr:=⟨t.ns ++ [⟨t.last+1,o.id,o.sv,0,[]⟩],t.gs,t.last+1,t.now⟩
theorem Tr.Good.cr1 {A:Ops} {t:Tr} {o:Od} (h:t.Good) (hc:t.crC A o=0):(t.cr1 o).Good/\(t.cr1 o).has o.id:=by
 obtain⟨h1,h2,h3,h4,_,h5⟩:=crC_zero hc
 refine⟨h.grow h1 h2 h3 h4 h5, ?_⟩
 rcases dep_has h2 with x | ⟨m,x,y⟩
 ·exact .inl x
 ·exact .inr ⟨m,by simp [Tr.cr1,x],y⟩
def Tr.rm1 (A:Ops) (t:Tr) (o:Od):Tr:=⟨dropL t.ns o.id,t.gs ++ [⟨t.par o.id,t.own o.id,t.fr A (t.par o.id)⟩],t.last,t.now⟩
theorem Tr.Good.rm1 {A:Ops} {t:Tr} {o:Od} (h:t.Good) (hc:t.leafC o.id=0):(t.rm1 A o).Good/\t.has (t.par o.id)/\(t.rm1 A o).has (t.par o.id)/\(t.cnt (t.par o.id)).Perm ((t.rm1 A o).cnt (t.par o.id))/\(t.rm1 A o).srv (t.par o.id)=t.srv (t.par o.id):=by
 obtain⟨⟨n,hn⟩,hl⟩:=leaf_facts hc
 obtain⟨hm,hi⟩:=nd_some hn
 have hlt:=h.lt n hm
 unfold Tr.rm1
 rw [par_of hn,own_of hn]
 obtain⟨g1,g2,g3⟩:=h.drop (u:=t.fr A n.pa) hn hl
 obtain⟨la,lb,e2,ha,hb,_⟩:=h.split hn
 refine⟨g1,h.par n hm, ?_,g2,g3⟩
 rcases h.par n hm with x | ⟨m,x,y⟩
 ·exact .inl x
 ·refine .inr ⟨m, ?_,y⟩
  show m ∈ dropL t.ns o.id
  rw [e2,dropL_split hi ha]
  rw [e2] at x
  rcases List.mem_append.mp x with x | x
  ·simp [x]
  ·rcases List.mem_cons.mp x with rfl | x
   ·omega
   ·simp [x]
def Tr.bd1 (t:Tr) (o:Od):Tr:=⟨setAtL t.ns o.id (fun n=>⟨n.id,n.pa,n.sv,o.po,o.ts⟩),t.gs,t.last,t.now⟩
theorem Tr.Good.bd1 {A:Ops} {t:Tr} {o:Od} (h:t.Good) (hc:t.bdC A o=0):(t.bd1 o).Good:=by
 obtain⟨h1,h2,h3,h4⟩:=bdC_zero hc
 obtain⟨⟨n,hn⟩,hl⟩:=leaf_facts h2
 obtain⟨hm,hi⟩:=nd_some hn
 have e:setAtL t.ns o.id (fun n=>⟨n.id,n.pa,n.sv,o.po,o.ts⟩)=setAtL t.ns o.id (fun _=>⟨n.id,n.pa,n.sv,o.po,o.ts⟩):=setAtL_congr _ _ _ _ (fun m x y=>by
  have:=h.nd x
  rw [y,hn] at this
  cases this;rfl)
 unfold Tr.bd1
 rw [e]
 rw [own_of hn] at h4
 obtain⟨la,lb,e2,ha,hb,_⟩:=h.split hn
 have hset:setAtL t.ns o.id (fun _=>(⟨n.id,n.pa,n.sv,o.po,o.ts⟩:Nd))=la ++ ⟨n.id,n.pa,n.sv,o.po,o.ts⟩ :: lb:=by rw [e2];exact setAtL_split _ hi ha
 have hw:okW n.sv:=by
  have:=(h.fit n.id (.inr ⟨n,hm,rfl⟩)).zero rfl
  have e3:t.srv n.id=n.sv:=by
   unfold Tr.srv
   rw [if_neg (by have:=h.ids n hm;omega),h.nd hm];rfl
  rw [e3] at this
  exact this.1
 refine h.swap (n':=⟨n.id,n.pa,n.sv,o.po,o.ts⟩) hn hl rfl rfl hw h.gpar (fun _ _=>rfl) ?_ (.inr h4)
 have:=h.fit n.pa (h.par n hm)
 have e4:(Tr.mk (setAtL t.ns o.id (fun _=>(⟨n.id,n.pa,n.sv,o.po,o.ts⟩:Nd))) t.gs t.last t.now).cnt n.pa=t.cnt n.pa:=by
  rw [hset]
  unfold Tr.cnt
  simp only
  rw [e2,List.filter_append,List.filter_append,List.filter_cons,List.filter_cons,if_pos (by simp [bel]),if_pos (by simp [bel]),List.map_append,List.map_append,List.map_cons,List.map_cons]
 rw [e4];exact this
inductive Ap (A:Ops) (t:Tr) (o:Od):Tr->Rs->Prop where
 |bad:(o.ki < 1 ∨ 4 < o.ki ∨ o.tm < 0 ∨ 1099511627776 < o.tm)->Ap A t o t (7,0)
 |no (c:Int):1<=o.ki->o.ki<=4->0<=o.tm->o.tm<=1099511627776->¬ c=0->Ap A t o (t.pass o.tm) (c,0)
 |create:o.ki=1->0<=o.tm->o.tm<=1099511627776->(t.pass o.tm).crC A o=0->Ap A t o (((t.pass o.tm).cr1 o).hold A o.id) (0,t.last+1)
 |resize:o.ki=2->0<=o.tm->o.tm<=1099511627776->(t.pass o.tm).rsC A o=0->Ap A t o (((t.pass o.tm).rs1 o).hold A ((t.pass o.tm).par o.id)) (0,o.id)
 |remove:o.ki=3->0<=o.tm->o.tm<=1099511627776->(t.pass o.tm).leafC o.id=0->Ap A t o ((t.pass o.tm).rm1 A o) (0,o.id)
 |bind:o.ki=4->0<=o.tm->o.tm<=1099511627776->(t.pass o.tm).bdC A o=0->Ap A t o ((t.pass o.tm).bd1 o) (0,o.id)
theorem app_ap (A:Ops) (t:Tr) (o:Od):Ap A t o (t.app A o).1 (t.app A o).2:=by
 unfold Tr.app
 split
 ·rename_i c;exact .bad c
 ·rename_i c
  have c1:1<=o.ki:=by omega
  have c2:o.ki<=4:=by omega
  have c3:0<=o.tm:=by omega
  have c4:o.tm<=1099511627776:=by omega
  split
  ·unfold Tr.create
   split
   ·rename_i c5;exact .no _ c1 c2 c3 c4 c5
   ·rename_i c6 c5;exact .create c6 c3 c4 (by omega)
  ·split
   ·unfold Tr.resize
    split
    ·rename_i c5;exact .no _ c1 c2 c3 c4 c5
    ·rename_i c6 c5;exact .resize c6 c3 c4 (by omega)
   ·split
    ·unfold Tr.remove
     split
     ·rename_i c5;exact .no _ c1 c2 c3 c4 c5
     ·rename_i c6 c5;exact .remove c6 c3 c4 (by omega)
    ·unfold Tr.bind
     split
     ·rename_i c5;exact .no _ c1 c2 c3 c4 c5
     ·rename_i c5;exact .bind (by omega) c3 c4 (by omega)
theorem Ap.good {A:Ops} {t u:Tr} {o:Od} {r:Rs} (h:Ap A t o u r) (hg:t.Good):u.Good:=by
 cases h with
 |bad _=>exact hg
 |no _ _ _ h1 h2 _=>exact hg.pass h1 h2
 |create _ h1 h2 h3=>exact((hg.pass h1 h2).cr1 h3).1.hold _
 |resize _ h1 h2 h3=>exact((hg.pass h1 h2).rs1 h3).1.hold _
 |remove _ h1 h2 h3=>exact((hg.pass h1 h2).rm1 h3).1
 |bind _ h1 h2 h3=>exact(hg.pass h1 h2).bd1 h3
theorem pass_sm {t:Tr} {k:Nat} (h:t.Sm k) (a:Int):(t.pass a).Sm k:=⟨h.n,Nat.le_trans (List.length_filter_le _ _) h.g,h.l,h.s⟩
theorem Ap.sm {A:Ops} {t u:Tr} {o:Od} {r:Rs} {k:Nat} (h:Ap A t o u r) (hs:t.Sm k):u.Sm (k+1):=by
 cases h with
 |bad _=>exact⟨by have:=hs.n;omega,by have:=hs.g;omega,by have:=hs.l;omega,hs.s⟩
 |no _ _ _ h1 h2 _=>have hs:=pass_sm hs o.tm;exact⟨by have:=hs.n;omega,by have:=hs.g;omega,by have:=hs.l;omega,hs.s⟩
 |create _ h1 h2 h3=>
  have hs:=pass_sm hs o.tm
  refine⟨by have:=hs.n;simp [Tr.hold,Tr.cr1];omega,by have:=hs.g;simp [Tr.hold,Tr.cr1];omega,by have:=hs.l;simp [Tr.hold,Tr.cr1];omega,fun x hx=>?_⟩
  simp only [Tr.hold,Tr.cr1] at hx
  rcases List.mem_append.mp hx with y | y
  ·exact hs.s x y
  ·simp at y;subst y;simp
 |resize _ h1 h2 h3=>
  have hs:=pass_sm hs o.tm
  refine⟨by have:=hs.n;simp [Tr.hold,Tr.rs1,setAtL_len];omega,by have:=hs.g;simp [Tr.hold,Tr.rs1];omega,by have:=hs.l;simp [Tr.hold,Tr.rs1];omega,fun x hx=>?_⟩
  simp only [Tr.hold,Tr.rs1] at hx
  rcases setAtL_mem hx with y | ⟨m,y,_,rfl⟩
  ·exact hs.s x y
  ·exact hs.s m y
 |remove _ h1 h2 h3=>
  have hs:=pass_sm hs o.tm
  refine⟨by have:=hs.n;have:=(dropL_sub (t.pass o.tm).ns o.id).length_le;simp only [Tr.rm1];omega,by have:=hs.g;simp [Tr.rm1];omega,by have:=hs.l;simp only [Tr.rm1];omega,fun x hx=>hs.s x ((dropL_sub _ _).subset hx)⟩
 |bind _ h1 h2 h3=>
  have hs:=pass_sm hs o.tm
  have hl:=(bdC_zero h3).1.2.2.1
  refine⟨by have:=hs.n;simp [Tr.bd1,setAtL_len];omega,by have:=hs.g;simp only [Tr.bd1];omega,by have:=hs.l;simp only [Tr.bd1];omega,fun x hx=>?_⟩
  simp only [Tr.bd1] at hx
  rcases setAtL_mem hx with y | ⟨m,y,_,rfl⟩
  ·exact hs.s x y
  ·exact hl
theorem pass_liv (t:Tr) (a:Int):(t.pass a).Liv:=by
 intro g hg
 have:=(List.mem_filter.mp hg).2
 show max t.now a < g.un
 simpa [over] using this
theorem hold_un {A:Ops} {t:Tr} {i:Int} {g:Gh} (hg:g ∈ (t.hold A i).gs):∃ x ∈ t.gs,g.pa=x.pa/\g.sv=x.sv/\x.un<=g.un/\(x.pa=i->t.fr A i<=g.un):=by
 obtain⟨x,hx,rfl⟩:=List.mem_map.mp hg
 refine⟨x,hx, ?_⟩
 unfold hold1
 split
 ·exact⟨rfl,rfl,by simp only;omega,fun _=>by simp only;omega⟩
 ·rename_i c;exact⟨rfl,rfl,Int.le_refl _,fun e=>absurd e c⟩
theorem Ap.liv {A:Ops} {t u:Tr} {o:Od} {r:Rs} (h:Ap A t o u r) (hg:t.Good) (hl:t.Liv):u.Liv:=by
 cases h with
 |bad _=>exact hl
 |no _ _ _ h1 h2 _=>exact pass_liv _ _
 |create _ h1 h2 h3=>
  intro g x
  obtain⟨y,hy,_,_,e,_⟩:=hold_un x
  have:=pass_liv t o.tm y hy
  simp only [Tr.hold,Tr.cr1];omega
 |resize _ h1 h2 h3=>
  intro g x
  obtain⟨y,hy,_,_,e,e2⟩:=hold_un x
  have hf:=((hg.pass h1 h2).rs1 h3)
  rcases List.mem_append.mp hy with z | z
  ·have:=pass_liv t o.tm y z
   simp only [Tr.hold,Tr.rs1];omega
  ·simp at z
   have e3:=e2 (by rw [z])
   have:=(d_some (A:=A) (hf.1.fit _ hf.2)).2.1
   simp only [Tr.fr,Tr.hold,Tr.rs1] at e3 this ⊢
   omega
 |remove _ h1 h2 h3=>
  intro g x
  obtain⟨k1,k2,_⟩:=(hg.pass h1 h2).rm1 (A:=A) h3
  rcases List.mem_append.mp x with z | z
  ·exact pass_liv t o.tm g z
  ·simp at z
   subst z
   have:=(d_some (A:=A) ((hg.pass h1 h2).fit _ k2)).2.1
   simp only [Tr.fr,Tr.rm1] at this ⊢
   omega
 |bind _ h1 h2 h3=>exact pass_liv t o.tm
theorem leaf_id {t:Tr} (hg:t.Good) {i:Int} (h:t.leafC i=0):1<=i/\i<=t.last:=by
 obtain⟨⟨n,hn⟩,_⟩:=leaf_facts h
 obtain⟨h1,h2⟩:=nd_some hn
 have:=hg.ids n h1
 omega
theorem Ap.done {A:Ops} {t u:Tr} {o:Od} {r:Rs} (h:Ap A t o u r) (hg:t.Good) (h0:r.1=0):1<=r.2/\r.2<=t.last+1:=by
 cases h with
 |bad _=>simp at h0
 |no _ _ _ _ _ h=>exact absurd h0 h
 |create _ _ _ _=>have:=hg.last0;simp only;omega
 |resize _ h1 h2 h3=>have:=leaf_id (hg.pass h1 h2) (rsC_zero h3).2.1;simp only [Tr.pass] at this;simp only;omega
 |remove _ h1 h2 h3=>have:=leaf_id (hg.pass h1 h2) h3;simp only [Tr.pass] at this;simp only;omega
 |bind _ h1 h2 h3=>have:=leaf_id (hg.pass h1 h2) (bdC_zero h3).2.1;simp only [Tr.pass] at this;simp only;omega
end Go.Proofs.YtpdehdomilnmeaaGreatDoor
