import Derived.Test.YtpdehdomilnmeaaGreatDoorHsE
namespace Go.Proofs.YtpdehdomilnmeaaGreatDoor
def mrO (rv:Int->Option Rv) (i:Int):Bool:=((rv i).map (fun r=>r.mr)).getD false
theorem bstF_congr {rv rv':Int->Option Rv} {p:Int} {ns:List Nd} (h:∀ m ∈ ns,m.pa=p->rv m.id=rv' m.id):∀ (l:List Nd),(∀ m ∈ l,m ∈ ns)->∀ b:Option Int,(∀ i,b=some i->rv i=rv' i)->l.foldl (bstF rv p) b=l.foldl (bstF rv' p) b
 |[],_,b,_=>rfl
 |a :: l,hl,b,hb=>by
  have ha:=hl a (by simp)
  have hbb:b.bind rv=b.bind rv':=by
   cases b with
   |none=>rfl
   |some i=>exact hb i rfl
  have e:bstF rv p b a=bstF rv' p b a:=by
   unfold bstF
   by_cases c:a.pa=p
   ·rw [if_pos c,if_pos c,h a ha c,hbb]
   ·rw [if_neg c,if_neg c]
  rw [List.foldl_cons,List.foldl_cons,e]
  refine bstF_congr h l (fun m hm=>hl m (by simp [hm])) _ (fun i hi=>?_)
  unfold bstF at hi
  by_cases c:a.pa=p
  ·rw [if_pos c] at hi
   cases hr:rv' a.id with
   |none=>rw [hr] at hi;exact hb i hi
   |some r=>
    rw [hr] at hi
    simp only at hi
    split at hi
    ·cases hi;exact h a ha c
    ·exact hb i hi
  ·rw [if_neg c] at hi
   exact hb i hi
theorem bestR_congr {rv rv':Int->Option Rv} {p:Int} {ns:List Nd} (h:∀ m ∈ ns,m.pa=p->rv m.id=rv' m.id):bestR rv ns p=bestR rv' ns p:=
 bstF_congr h ns (fun _ h=>h) none (fun i hi=>by cases hi)
inductive Way (ns:List Nd):Int->List Int->Prop
 |nil {p}:Way ns p []
 |cons {p l} (n:Nd):n ∈ ns->n.pa=p->Way ns n.id l->Way ns p (n.id :: l)
theorem Way.gt {ns:List Nd} (hlt:∀ n ∈ ns,n.pa < n.id) {p:Int} {l:List Int} (h:Way ns p l):∀ i ∈ l,p < i:=by
 induction h with
 |nil=>intro i hi;simp at hi
 |cons n hn hp _ ih=>
  intro i hi
  have h1:=hlt n hn
  rcases List.mem_cons.mp hi with rfl | h2
  ·omega
  ·have:=ih i h2;omega
theorem Down.way {ns:List Nd} (hlt:∀ n ∈ ns,n.pa < n.id) {rv rv':Int->Option Rv} {p:Int} {out:Option (Int × Jb × Bool)} (h:Down ns rv p rv' out):(∀ i,p < i->mrO rv i=false) ->
  ∃ l,Way ns p l/\(∀ i,p < i->(mrO rv' i=true ↔ i ∈ l))/\(∀ i,i<=p->rv' i=rv i)/\(∀ i ∈ l,∃ r,rv i=some r/\rdyR r=true)/\(∀ i j e,out=some (i,j,e)->l.getLast?=some i/\∃ r pol s,rv i=some r/\r.g=some (pol,s)):=by
 induction h with
 |stop hb=>
  intro h0
  exact⟨[],.nil,fun i hi=>by simp [h0 i hi],fun _ _=>rfl,fun i hi=>by simp at hi,fun i j e h=>by cases h⟩
 |@leaf rv p i r pol s j hb hr hg hj=>
  intro h0
  obtain⟨n,hn,e,hp,r',hr',hd⟩:=bestR_some hb
  have hi:=hlt n hn
  rw [hr] at hr'
  cases hr'
  refine⟨[i],by rw [<- e];exact .cons n hn hp .nil,fun k hk=>?_,fun k hk=>upR_other _ _ (by omega),fun k hk=>?_,fun k j' e' h=>?_⟩
  ·by_cases c:k=i
   ·subst c
    simp only [mrO,upR_same,Option.map_some,Option.getD_some,List.mem_singleton]
    simp [Rv.jobs,Rv.charge,hd]
   ·have:mrO (upR rv i (some (r.charge.jobs (runL (nx pol s.ts s.js) j s.js)))) k=mrO rv k:=by unfold mrO;rw [upR_other _ _ c]
    rw [this,h0 k hk]
    simp [c]
  ·simp only [List.mem_singleton] at hk
   subst hk
   exact⟨r,hr,hd⟩
  ·cases h
   exact⟨rfl,r,pol,s,hr,hg⟩
 |@step rv p i r rv' out hb hr hg _ ih=>
  intro h0
  obtain⟨n,hn,e,hp,r',hr',hd⟩:=bestR_some hb
  have hi:=hlt n hn
  rw [hr] at hr'
  cases hr'
  have hz:∀ k,i < k->mrO (upR rv i (some r.charge)) k=false:=fun k hk=>by
   have:mrO (upR rv i (some r.charge)) k=mrO rv k:=by unfold mrO;rw [upR_other _ _ (by omega)]
   rw [this]
   exact h0 k (by omega)
  obtain⟨l,hw,h1,h2,h3,h4⟩:=ih hz
  have hgt:=hw.gt hlt
  refine⟨i :: l,by rw [<- e] at hw ⊢;exact .cons n hn hp hw,fun k hk=>?_,fun k hk=>?_,fun k hk=>?_,fun k j' e' ho=>?_⟩
  ·by_cases c:i < k
   ·rw [h1 k c]
    simp
    omega
   ·have hk2:=h2 k (by omega)
    by_cases d:k=i
    ·subst d
     simp only [mrO,hk2,upR_same,Option.map_some,Option.getD_some]
     simp [Rv.charge,hd]
    ·have:mrO rv' k=mrO rv k:=by unfold mrO;rw [hk2,upR_other _ _ d]
     rw [this,h0 k hk]
     simp only [Bool.false_eq_true,List.mem_cons,false_iff,not_or]
     exact⟨d,fun hm=>by have:=hgt k hm;omega⟩
  ·rw [h2 k (by omega),upR_other _ _ (by omega)]
  ·rcases List.mem_cons.mp hk with rfl | hm
   ·exact⟨r,hr,hd⟩
   ·obtain⟨r2,hr2,hd2⟩:=h3 k hm
    rw [upR_other _ _ (by have:=hgt k hm;omega)] at hr2
    exact⟨r2,hr2,hd2⟩
  ·obtain⟨g1,r2,pol,s,hr2,hg2⟩:=h4 k j' e' ho
   have hm:k ∈ l:=List.mem_of_getLast? g1
   rw [upR_other _ _ (by have:=hgt k hm;omega)] at hr2
   refine⟨?_,r2,pol,s,hr2,hg2⟩
   rw [List.getLast?_cons,g1]
   rfl
def HW (ns:List Nd) (rv:Int->Option Rv) (p:Int):Prop:=∀ n ∈ ns,p < n.id->∀ r,rv n.id=some r->rdyR r=true->r.g=none->¬ bestR rv ns n.id=none
theorem HW.up {ns:List Nd} (hlt:∀ n ∈ ns,n.pa < n.id) {rv:Int->Option Rv} {p i:Int} (h:HW ns rv p) (hp:p < i) (q:Option Rv):HW ns (upR rv i q) i:=by
 intro n hn hi r hr hd hg
 rw [upR_other _ _ (by omega)] at hr
 rw [bestR_congr (rv':=rv) (fun m hm hmp=>upR_other _ _ (by have:=hlt m hm;omega))]
 exact h n hn (by omega) r hr hd hg
theorem Down.none {ns:List Nd} (hlt:∀ n ∈ ns,n.pa < n.id) {rv rv':Int->Option Rv} {p:Int} {out:Option (Int × Jb × Bool)} (h:Down ns rv p rv' out):HW ns rv p->out=none->bestR rv ns p=none/\rv'=rv:=by
 induction h with
 |stop hb=>intro _ _;exact⟨hb,rfl⟩
 |leaf hb hr hg hj=>intro _ h;cases h
 |@step rv p i r rv' out hb hr hg _ ih=>
  intro hw ho
  obtain⟨n,hn,e,hp,r',hr',hd⟩:=bestR_some hb
  have hi:=hlt n hn
  rw [hr] at hr'
  cases hr'
  have h1:=(ih (hw.up hlt (by omega) _) ho).1
  rw [bestR_congr (rv':=rv) (fun m hm hmp=>upR_other _ _ (by have:=hlt m hm;omega))] at h1
  subst e
  exact absurd h1 (hw n hn (by omega) r hr hd hg)
theorem tell_hw {now:Int} {ns:List Nd} (hrise:ns.Pairwise (fun a b=>a.id < b.id)) (hlt:∀ n ∈ ns,n.pa < n.id) {rv:Int->Option Rv} (hat:∀ n ∈ ns,∃ r,rv n.id=some r) (p:Int):HW ns (tellR now ns rv) p:=by
 intro n hn _ r hr hd hg hb
 obtain⟨r0,hr0⟩:=hat n hn
 obtain⟨rvb,h1,h2⟩:=tell_at (now:=now) hrise hn hr0
 rw [hr] at h2
 cases h2
 have hw:wrkR rvb ns n.id r0=true:=by
  unfold rdyR rdyS at hd
  rw [Bool.and_eq_true] at hd
  exact hd.1
 have hg0:r0.g=none:=hg
 unfold wrkR at hw
 rw [hg0] at hw
 simp only at hw
 rw [bestR_congr (rv':=tellR now ns rv) (fun m hm hmp=>h1 m hm (by have:=hlt m hm;omega)),hb] at hw
 simp at hw
theorem tell_mr {now:Int} {ns:List Nd} (hrise:ns.Pairwise (fun a b=>a.id < b.id)) {rv:Int->Option Rv} (hat:∀ n ∈ ns,∃ r,rv n.id=some r) (hdom:∀ i r,rv i=some r->∃ n ∈ ns,n.id=i) (i:Int):mrO (tellR now ns rv) i=false:=by
 by_cases c:∃ n ∈ ns,n.id=i
 ·obtain⟨n,hn,rfl⟩:=c
  obtain⟨r0,hr0⟩:=hat n hn
  obtain⟨rvb,_,h2⟩:=tell_at (now:=now) hrise hn hr0
  simp [mrO,h2,Rv.beg]
 ·have h0:rv i=none:=by
   cases hr:rv i with
   |none=>rfl
   |some r=>exact absurd (hdom i r hr) c
  have h1:tellR now ns rv i=rv i:=foldr_other now ns rv ns (fun n hn e=>c ⟨n,hn,e⟩)
  simp [mrO,h1,h0]
def wcnt:Int->List Int->Int->Nat
 |_,[],_=>0
 |p,i :: l,q=>(if q=p then 1 else 0)+wcnt i l q
theorem one_cnt {ns:List Nd} (hr:ns.Pairwise (fun a b=>a.id < b.id)) {n:Nd} (hn:n ∈ ns) (q:Int):ns.countP (fun k=>decide (k.pa=q) && decide (k.id=n.id))=if q=n.pa then 1 else 0:=by
 induction ns with
 |nil=>simp at hn
 |cons a r ih=>
  obtain⟨h1,h2⟩:=List.pairwise_cons.mp hr
  rw [List.countP_cons]
  rcases List.mem_cons.mp hn with rfl | hm
  ·have hz:r.countP (fun k=>decide (k.pa=q) && decide (k.id=n.id))=0:=by
    rw [List.countP_eq_zero]
    intro k hk
    have:=h1 k hk
    have hne:¬ k.id=n.id:=by omega
    simp [hne]
   rw [hz]
   by_cases c:n.pa=q
   ·simp [c]
   ·have c':¬ q=n.pa:=fun e=>c e.symm
    simp [c,c']
  ·rw [ih h2 hm]
   have:=h1 n hm
   have hne:¬ a.id=n.id:=by omega
   simp [hne]
theorem Way.cnt {ns:List Nd} (hr:ns.Pairwise (fun a b=>a.id < b.id)) (hlt:∀ n ∈ ns,n.pa < n.id) {p:Int} {l:List Int} (h:Way ns p l) (q:Int):ns.countP (fun k=>decide (k.pa=q) && decide (k.id ∈ l))=wcnt p l q:=by
 induction h with
 |nil=>simp [wcnt]
 |@cons p l n hn hp hw ih=>
  have hgt:=hw.gt hlt
  have hs:∀ xs:List Nd,xs.countP (fun k=>decide (k.pa=q) && decide (k.id ∈ n.id :: l))=xs.countP (fun k=>decide (k.pa=q) && decide (k.id=n.id))+xs.countP (fun k=>decide (k.pa=q) && decide (k.id ∈ l)):=by
   intro xs
   induction xs with
   |nil=>rfl
   |cons a r ih2=>
    rw [List.countP_cons,List.countP_cons,List.countP_cons,ih2]
    by_cases c1:a.pa=q
    ·by_cases c2:a.id=n.id
     ·have c3:¬ a.id ∈ l:=fun hm=>by have:=hgt _ hm;omega
      have c4:¬ n.id ∈ l:=fun hm=>by have:=hgt _ hm;omega
      simp [c1,c2,c4]
      omega
     ·by_cases c3:a.id ∈ l
      ·simp [c1,c2,c3]
       omega
      ·simp [c1,c2,c3]
    ·simp [c1]
  rw [hs ns,one_cnt hr hn q,ih,hp]
  rfl
theorem wcnt_out {ns:List Nd} (hlt:∀ n ∈ ns,n.pa < n.id) {p:Int} {l:List Int} (h:Way ns p l) {q:Int} (hq:q < p):wcnt p l q=0:=by
 induction h with
 |nil=>rfl
 |@cons p l n hn hp hw ih=>
  have h1:=hlt n hn
  have:¬ q=p:=by omega
  simp [wcnt,this,ih (by omega)]
theorem wcnt_is {ns:List Nd} (hlt:∀ n ∈ ns,n.pa < n.id) {p:Int} {l:List Int} (h:Way ns p l) (q:Int):wcnt p l q=if (q=p/\¬ l=[]) ∨ (q ∈ l/\¬ l.getLast?=some q) then 1 else 0:=by
 induction h with
 |nil=>simp [wcnt]
 |@cons p l n hn hp hw ih=>
  have h1:=hlt n hn
  have hgt:=hw.gt hlt
  by_cases c:q=p
  ·subst c
   rw [if_pos (.inl ⟨rfl,by simp⟩)]
   simp [wcnt,wcnt_out hlt hw (q:=q) (by omega)]
  ·simp only [wcnt,c,if_false,Nat.zero_add,false_and,false_or]
   rw [ih]
   have hiff:((q=n.id/\¬ l=[]) ∨ (q ∈ l/\¬ l.getLast?=some q)) ↔ (q ∈ n.id :: l/\¬ (n.id :: l).getLast?=some q):=by
    cases l with
    |nil=>simp;intro e;exact e.symm
    |cons a r=>
     rw [List.getLast?_cons_cons]
     constructor
     ·rintro (⟨e,_⟩ | ⟨e,e2⟩)
      ·refine⟨by simp [e],fun hl=>?_⟩
       have:=hgt q (List.mem_of_getLast? hl)
       omega
      ·exact⟨List.mem_cons_of_mem _ e,e2⟩
     ·rintro ⟨e,e2⟩
      rcases List.mem_cons.mp e with e | e
      ·exact .inl ⟨e,by simp⟩
      ·exact .inr ⟨e,e2⟩
   by_cases d:(q=n.id/\¬ l=[]) ∨ (q ∈ l/\¬ l.getLast?=some q)
   ·rw [if_pos d,if_pos (hiff.mp d)]
   ·rw [if_neg d,if_neg (fun x=>d (hiff.mpr x))]
def MkI (rv:Int->Option Rv):Prop:=∀ i r,rv i=some r->r.mw=r.wk/\(r.mr=true->r.mw=true)/\r.mi=i
theorem MkI.charge {rv:Int->Option Rv} (h:MkI rv) {i:Int} {r:Rv} (hr:rv i=some r):r.charge.mw=r.charge.wk/\(r.charge.mr=true->r.charge.mw=true)/\r.charge.mi=i:=by
 obtain⟨h1,_,h3⟩:=h i r hr
 refine⟨h1,fun e=>?_,h3⟩
 have e2:rdyR r=true:=e
 unfold rdyR rdyS at e2
 rw [Bool.and_eq_true] at e2
 show r.mw=true
 rw [h1];exact e2.1
theorem MkI.down {ns:List Nd} {rv rv':Int->Option Rv} {p:Int} {out:Option (Int × Jb × Bool)} (h:Down ns rv p rv' out):MkI rv->MkI rv':=by
 induction h with
 |stop _=>exact fun h=>h
 |@leaf rv p i r pol s j hb hr hg hj=>
  intro h k q hq
  unfold upR at hq
  by_cases c:k=i
  ·rw [if_pos c] at hq
   cases hq
   subst c
   exact h.charge hr
  ·rw [if_neg c] at hq
   exact h k q hq
 |@step rv p i r rv' out hb hr hg _ ih=>
  intro h
  refine ih (fun k q hq=>?_)
  unfold upR at hq
  by_cases c:k=i
  ·rw [if_pos c] at hq
   cases hq
   subst c
   exact h.charge hr
  ·rw [if_neg c] at hq
   exact h k q hq
theorem MkI.tell {now:Int} {ns:List Nd} (hrise:ns.Pairwise (fun a b=>a.id < b.id)) {rv:Int->Option Rv} (hat:∀ n ∈ ns,∃ r,rv n.id=some r) (hdom:∀ i r,rv i=some r->∃ n ∈ ns,n.id=i):MkI (tellR now ns rv):=by
 intro i r hr
 by_cases c:∃ n ∈ ns,n.id=i
 ·obtain⟨n,hn,rfl⟩:=c
  obtain⟨r0,hr0⟩:=hat n hn
  obtain⟨rvb,_,h2⟩:=tell_at (now:=now) hrise hn hr0
  rw [hr] at h2
  cases h2
  exact⟨rfl,fun e=>(by cases e),rfl⟩
 ·have h1:tellR now ns rv i=rv i:=foldr_other now ns rv ns (fun n hn e=>c ⟨n,hn,e⟩)
  rw [h1] at hr
  exact absurd (hdom i r hr) c
def kidN (ns:List Nd) (f:Nd->Mk) (q:Int):Nat:=ns.countP (fun k=>decide (k.pa=q) && (f k).2.2)
structure PathOk (ns:List Nd) (f:Nd->Mk) (G:Int):Prop where
 each:∀ n ∈ ns,(f n).1=n.id/\((f n).2.2=true->(f n).2.1=true)/\((¬ n.po=0/\G=n.id/\kidN ns f n.id=0/\(f n).2.2=true) ∨ (¬ (¬ n.po=0/\G=n.id)/\kidN ns f n.id=1/\(f n).2.2=true) ∨ (¬ (¬ n.po=0/\G=n.id)/\kidN ns f n.id=0/\(f n).2.2=false))
 top:(kidN ns f 0=1/\¬ G=0) ∨ (kidN ns f 0=0/\G=0)
def gO:Option (Int × Jb × Bool)->Int
 |none=>0
 |some (i,_,_)=>i
theorem TickR.pathOk {A:Ops} {h h':Hs} {rs:List Rs} {ms:List Mk} {out:Option (Int × Jb × Bool)} {K0:Nat} (r:TickR A h h' rs ms out) (hok:TOk K0 h.now h.t h.rv) (n0:0<=h.now) (hok':∀ n ∈ h'.t.ns,∃ q,h'.rv n.id=some q):PathOk h'.t.ns (mkOf h'.rv) (gO out):=by
 have h1:=(takeH_ok A n0 h.ws K0 h.t h.rv hok).1
 rw [<- r.te] at h1
 have hat:∀ n ∈ h'.t.ns,∃ q,(takeH A h.now h.t h.rv h.ws).2.1 n.id=some q:=fun n hn=>by
  obtain⟨q,hq,_⟩:=h1.at_ n hn
  exact⟨q,hq⟩
 have hmr:=tell_mr (now:=h.now) h1.good.rise hat h1.dom
 have hw:=tell_hw (now:=h.now) h1.good.rise h1.good.lt hat 0
 have hmi:=(MkI.tell (now:=h.now) h1.good.rise hat h1.dom).down r.dn
 obtain⟨l,w1,w2,_,_,w5⟩:=r.dn.way h1.good.lt (fun i _=>hmr i)
 have hl0:out=none->l=[]:=fun ho=>by
  obtain⟨_,e2⟩:=r.dn.none h1.good.lt hw ho
  cases l with
  |nil=>rfl
  |cons i l'=>
   have hi:=w1.gt h1.good.lt i (by simp)
   have h3:=(w2 i hi).mpr (by simp)
   rw [e2,hmr i] at h3
   cases h3
 have hpos:∀ n ∈ h'.t.ns,0 < n.id:=fun n hn=>(by have:=(h1.good.ids n hn).1;omega)
 have hmk:∀ n ∈ h'.t.ns,(mkOf h'.rv n).1=n.id/\((mkOf h'.rv n).2.2=true->(mkOf h'.rv n).2.1=true)/\((mkOf h'.rv n).2.2=true ↔ n.id ∈ l):=fun n hn=>by
  obtain⟨q,hq⟩:=hok' n hn
  have h3:=hmi _ _ hq
  have h4:=w2 n.id (hpos n hn)
  unfold mrO at h4
  unfold mkOf
  rw [hq] at h4 ⊢
  exact⟨h3.2.2,h3.2.1,h4⟩
 have hkid:∀ q,kidN h'.t.ns (mkOf h'.rv) q=wcnt 0 l q:=fun q=>by
  rw [<- w1.cnt h1.good.rise h1.good.lt q]
  unfold kidN
  refine List.countP_congr (fun k hk=>?_)
  have h5:=(hmk k hk).2.2
  by_cases c:k.id ∈ l
  ·rw [h5.mpr c];simp [c]
  ·have:(mkOf h'.rv k).2.2=false:=by
    cases e:(mkOf h'.rv k).2.2
    ·rfl
    ·exact absurd (h5.mp e) c
   rw [this];simp [c]
 have hlast:∀ q,l.getLast?=some q->gO out=q/\∃ r2 pol s,tellR h.now h'.t.ns (takeH A h.now h.t h.rv h.ws).2.1 q=some r2/\r2.g=some (pol,s):=fun q hq=>by
  cases ho:out with
  |none=>rw [hl0 ho] at hq;simp at hq
  |some x=>
   obtain⟨i,j,e⟩:=x
   obtain⟨h5,h6⟩:=w5 i j e ho
   rw [hq] at h5
   cases h5
   exact⟨rfl,h6⟩
 have hg0:∀ q,0 < q->gO out=q->l.getLast?=some q:=fun q h0 hq=>by
  cases ho:out with
  |none=>rw [ho] at hq;simp only [gO] at hq;omega
  |some x=>
   obtain⟨i,j,e⟩:=x
   rw [ho] at hq
   simp only [gO] at hq
   rw [(w5 i j e ho).1,hq]
 refine⟨fun n hn=>⟨(hmk n hn).1,(hmk n hn).2.1, ?_⟩, ?_⟩
 ·have hp:=hpos n hn
  have h5:=(hmk n hn).2.2
  rw [hkid,wcnt_is h1.good.lt w1]
  by_cases hL:l.getLast?=some n.id
  ·have hm:n.id ∈ l:=List.mem_of_getLast? hL
   obtain⟨e1,r2,pol,s,hr2,hg2⟩:=hlast _ hL
   refine .inl ⟨fun hpo=>?_,e1,if_neg (by rintro (⟨e,_⟩ | ⟨_,e⟩);omega;exact e hL),h5.mpr hm⟩
   obtain⟨q,hq,hqk⟩:=h1.at_ n hn
   obtain⟨rvb,_,h6⟩:=tell_at (now:=h.now) h1.good.rise hn hq
   rw [hr2] at h6
   cases h6
   have h7:q.g=some (pol,s):=hg2
   rw [hqk.no hpo] at h7
   cases h7
  ·have hng:¬ (¬ n.po=0/\gO out=n.id):=fun e=>hL (hg0 _ hp e.2)
   by_cases hm:n.id ∈ l
   ·exact .inr (.inl ⟨hng,if_pos (.inr ⟨hm,hL⟩),h5.mpr hm⟩)
   ·refine .inr (.inr ⟨hng,if_neg (by rintro (⟨e,_⟩ | ⟨e,_⟩);omega;exact hm e), ?_⟩)
    cases e:(mkOf h'.rv n).2.2
    ·rfl
    ·exact absurd (h5.mp e) hm
 ·rw [hkid,wcnt_is h1.good.lt w1]
  have h00:¬ (0:Int) ∈ l:=fun e=>by have:=w1.gt h1.good.lt 0 e;omega
  by_cases hn:l=[]
  ·refine .inr ⟨if_neg (by rintro (⟨_,e⟩ | ⟨e,_⟩);exact e hn;exact h00 e), ?_⟩
   cases ho:out with
   |none=>rfl
   |some x=>
    obtain⟨i,j,e⟩:=x
    have:=(w5 i j e ho).1
    rw [hn] at this
    simp at this
  ·refine .inl ⟨if_pos (.inl ⟨rfl,hn⟩),fun e=>?_⟩
   cases hq:l.getLast? with
   |none=>rw [List.getLast?_eq_none_iff] at hq;exact hn hq
   |some q=>
    have h8:=(hlast q hq).1
    have:=w1.gt h1.good.lt q (List.mem_of_getLast? hq)
    omega
theorem kid_step {ns:List Nd} {f:Nd->Mk} {q:Int} {j:Nat} {n:Nd} (h:ns[j]?=some n):kidN (ns.take (j+1)) f q=kidN (ns.take j) f q+(if n.pa=q/\(f n).2.2=true then 1 else 0):=by
 unfold kidN
 rw [List.take_add_one,h,List.countP_append]
 by_cases c:n.pa=q
 ·cases e:(f n).2.2 <;> simp [c,e]
 ·simp [c]
theorem kid_le (ns:List Nd) (f:Nd->Mk) (q:Int):kidN ns f q<=ns.length:=List.countP_le_length
end Go.Proofs.YtpdehdomilnmeaaGreatDoor
