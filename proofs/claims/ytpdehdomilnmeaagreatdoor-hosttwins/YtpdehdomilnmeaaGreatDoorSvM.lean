import Derived.Test.YtpdehdomilnmeaaGreatDoorM1
namespace Go.Proofs.YtpdehdomilnmeaaGreatDoor
structure Jb where
 tk:Nat
 rl:Int
 dl:Int
 lf:Int
 dn:Int
abbrev Tq:=Tk × Int
structure Gt where
 xs:List Tq
 js:List Jb
abbrev Gt.ts (s:Gt):List Tk:=s.xs.map (·.1)
def tkS (ts:List Tk) (k:Nat):Int:=((ts[k]?).map (·.2.2.2)).getD 0
theorem tkS_at {ts:List Tk} {k:Nat} {t:Tk} (h:ts[k]?=some t):tkS ts k=t.2.2.2:=by simp [tkS,h]
def hol (ts:List Tk) (j:Jb):Bool:=decide (0 < j.dn) && decide (j.dn < tkS ts j.tk)
def ahd (p:Int) (a b:Jb):Bool:=if p=1/\¬ a.dl=b.dl then decide (a.dl < b.dl) else decide (a.tk < b.tk)
theorem ahd_irrefl (p:Int) (a:Jb):ahd p a a=false:=by
 unfold ahd
 split <;> simp
theorem ahd_not {p:Int} {a b c:Jb} (h1:ahd p a b=false) (h2:ahd p c b=true):ahd p a c=false:=by
 unfold ahd at *
 split at h1 <;> split at h2 <;> split <;> simp at * <;> omega
def bst (p:Int) (js:List Jb):Nat->Nat
 |0=>0
 |k+1=>match js[k]?,js[bst p js k]? with
  |some a,some b=>if ahd p a b then k else bst p js k
  |_,_=>bst p js k
theorem bst_step {p:Int} {js:List Jb} {k:Nat} {a b:Jb} (ha:js[k]?=some a) (hb:js[bst p js k]?=some b):bst p js (k+1)=if ahd p a b then k else bst p js k:=by
 simp [bst,ha,hb]
theorem bst_lt (p:Int) (js:List Jb) (h:0 < js.length):∀ k,k<=js.length->bst p js k < js.length
 |0,_=>h
 |k+1,hk=>by
  have ih:=bst_lt p js h k (by omega)
  rw [bst_step (List.getElem?_eq_getElem (show k < js.length by omega)) (List.getElem?_eq_getElem ih)]
  split <;> omega
theorem bst_spec (p:Int) (js:List Jb):∀ k,k<=js.length->∀ b,js[bst p js k]?=some b->(∀ m a,m < k->js[m]?=some a->ahd p a b=false)/\(∀ m a,m < bst p js k->js[m]?=some a->ahd p b a=true)
 |0,_,b,_=>⟨fun m a hm=>by omega,fun m a hm=>by simp [bst] at hm⟩
 |k+1,hk,b,hb=>by
  have hlt:=bst_lt p js (by omega) k (by omega)
  have hc:=List.getElem?_eq_getElem hlt
  have ha:=List.getElem?_eq_getElem (show k < js.length by omega)
  obtain⟨h1,h2⟩:=bst_spec p js k (by omega) _ hc
  rw [bst_step ha hc] at hb ⊢
  by_cases hq:ahd p js[k] js[bst p js k]=true
  ·rw [if_pos hq] at hb ⊢
   rw [ha] at hb
   have hb:=Option.some.inj hb
   rw [<- hb]
   have hall:∀ m a,m < k->js[m]?=some a->ahd p js[k] a=true:=by
    intro m a hm hma
    by_cases e:ahd p js[k] a=true
    ·exact e
    ·have e1:=h1 m a hm hma
     refine Decidable.byContradiction fun hn=>?_
     have e2:ahd p js[k] a=false:=by simpa using hn
     have:=ahd_not e1 hq
     have e3:ahd p js[k] a=true ∨ ahd p js[k] a=false:=by simp
     unfold ahd at hq e1 e2
     split at hq <;> split at e1 <;> split at e2 <;> simp at * <;> omega
   refine⟨fun m a hm hma=>?_,hall⟩
   by_cases e:m=k
   ·subst e
    rw [ha] at hma
    rw [<- Option.some.inj hma]
    exact ahd_irrefl _ _
   ·exact ahd_not (h1 m a (by omega) hma) hq
  ·rw [if_neg hq] at hb ⊢
   rw [hc] at hb
   have hb:=Option.some.inj hb
   rw [<- hb]
   refine⟨fun m a hm hma=>?_,h2⟩
   by_cases e:m=k
   ·subst e
    rw [ha] at hma
    rw [<- Option.some.inj hma]
    simpa using hq
   ·exact h1 m a (by omega) hma
def nx (p:Int) (ts:List Tk) (js:List Jb):Nat:=match js.findIdx? (hol ts) with
 |some i=>i
 |none=>bst p js js.length
theorem nx_hol {p:Int} {ts:List Tk} {js:List Jb} {i:Nat} {j:Jb} (h:js[i]?=some j) (hh:hol ts j=true) (hn:∀ (k:Nat) (x:Jb),k < i->js[k]?=some x->hol ts x=false):nx p ts js=i:=by
 have hi:=(List.getElem?_eq_some_iff.mp h)
 have:js.findIdx? (hol ts)=some i:=by
  rw [List.findIdx?_eq_some_iff_getElem]
  refine⟨hi.1,by rw [hi.2];exact hh,fun k hk=>?_⟩
  have:=hn k _ hk (List.getElem?_eq_getElem (by have:=hi.1;omega))
  simp [this]
 unfold nx
 rw [this]
theorem nx_none {p:Int} {ts:List Tk} {js:List Jb} (hn:∀ (k:Nat) (x:Jb),js[k]?=some x->hol ts x=false):nx p ts js=bst p js js.length:=by
 have:js.findIdx? (hol ts)=none:=by
  rw [List.findIdx?_eq_none_iff]
  intro x hx
  obtain⟨k,hk,rfl⟩:=List.getElem_of_mem hx
  exact hn k _ (List.getElem?_eq_getElem hk)
 unfold nx
 rw [this]
theorem nx_cases (p:Int) (ts:List Tk) (js:List Jb):(∃ (i:Nat) (j:Jb),js[i]?=some j/\hol ts j=true/\(∀ (k:Nat) (x:Jb),k < i->js[k]?=some x->hol ts x=false)/\nx p ts js=i) ∨ ((∀ (k:Nat) (x:Jb),js[k]?=some x->hol ts x=false)/\nx p ts js=bst p js js.length):=by
 cases e:js.findIdx? (hol ts) with
 |some i=>
  obtain⟨hi,h1,h2⟩:=List.findIdx?_eq_some_iff_getElem.mp e
  have h3:∀ (k:Nat) (x:Jb),k < i->js[k]?=some x->hol ts x=false:=by
   intro k x hk hx
   have hx:=(List.getElem?_eq_some_iff.mp hx)
   have:=h2 k hk
   rw [hx.2] at this
   simpa using this
  exact .inl ⟨i,js[i],List.getElem?_eq_getElem hi,h1,h3,nx_hol (List.getElem?_eq_getElem hi) h1 h3⟩
 |none=>
  have h3:∀ (k:Nat) (x:Jb),js[k]?=some x->hol ts x=false:=fun k x hx=>List.findIdx?_eq_none_iff.mp e x (List.mem_of_getElem? hx)
  exact .inr ⟨h3,nx_none h3⟩
theorem nx_lt (p:Int) (ts:List Tk) (js:List Jb) (h:0 < js.length):nx p ts js < js.length:=by
 rcases nx_cases p ts js with ⟨i,j,h1,_,_,e⟩ | ⟨_,e⟩
 ·rw [e];exact(List.getElem?_eq_some_iff.mp h1).1
 ·rw [e];exact bst_lt p js h _ (Nat.le_refl _)
def Jb.ran (j:Jb):Jb:=⟨j.tk,j.rl,j.dl,j.lf - 1,j.dn+1⟩
def runL (i:Nat) (j:Jb) (js:List Jb):List Jb:=if j.lf=1 then js.eraseIdx i else js.set i j.ran
def newJ (t:Tk) (k:Nat) (now ticks:Int):Jb:=⟨k,now,now+t.2.2.1,min (max ticks 1) t.1,0⟩
def relC (s:Gt) (k now:Int):Int:=if k < 0 ∨ (s.xs.length:Int)<=k ∨ now < 0 ∨ 1099511627776 < now then 1 else match s.xs[k.toNat]? with
 |some x=>if now < x.2 then 14 else if 64<=s.js.length then 7 else 0
 |none=>1
def Gt.put (s:Gt) (k:Nat) (x:Tq) (now ticks:Int):Gt:=⟨s.xs.set k (x.1,now+x.1.2.1),s.js ++ [newJ x.1 k now ticks]⟩
def Gt.rel (s:Gt) (k now ticks:Int):Gt:=if relC s k now=0 then (match s.xs[k.toNat]? with
 |some x=>s.put k.toNat x now ticks
 |none=>s) else s
theorem relC_cases (s:Gt) (k now:Int):(relC s k now=1/\(k < 0 ∨ (0<=k/\(s.xs.length:Int)<=k) ∨ (0<=k/\k < s.xs.length/\now < 0) ∨ (0<=k/\k < s.xs.length/\0<=now/\1099511627776 < now))) ∨ (0<=now/\now<=1099511627776/\∃ (i:Nat) (x:Tq),k=(i:Int)/\i < s.xs.length/\s.xs[i]?=some x/\((relC s k now=14/\now < x.2) ∨ (relC s k now=7/\x.2<=now/\64<=s.js.length) ∨ (relC s k now=0/\x.2<=now/\s.js.length < 64))):=by
 by_cases h:k < 0 ∨ (s.xs.length:Int)<=k ∨ now < 0 ∨ 1099511627776 < now
 ·exact .inl ⟨if_pos h,by omega⟩
 ·right
  obtain⟨i,rfl⟩:∃ i:Nat,k=(i:Int):=⟨k.toNat,by omega⟩
  have hi:i < s.xs.length:=by omega
  have hx:=List.getElem?_eq_getElem hi
  refine⟨by omega,by omega,i,_,rfl,hi,hx, ?_⟩
  have e:relC s i now=if now < (s.xs[i]).2 then 14 else if 64<=s.js.length then 7 else 0:=by
   unfold relC
   rw [if_neg h]
   simp only [Int.toNat_natCast,hx]
  rw [e]
  split
  ·exact .inl ⟨rfl,by assumption⟩
  ·split
   ·exact .inr (.inl ⟨rfl,by omega,by assumption⟩)
   ·exact .inr (.inr ⟨rfl,by omega,by omega⟩)
theorem rel_no {s:Gt} {k now ticks:Int} (h:¬ relC s k now=0):s.rel k now ticks=s:=if_neg h
theorem rel_yes {s:Gt} {i:Nat} {x:Tq} {now ticks:Int} (h:relC s i now=0) (hx:s.xs[i]?=some x):s.rel i now ticks=s.put i x now ticks:=by
 unfold Gt.rel
 rw [if_pos h]
 simp only [Int.toNat_natCast,hx]
theorem Gt.put_ts {s:Gt} {i:Nat} {x:Tq} {now ticks:Int} (hx:s.xs[i]?=some x):(s.put i x now ticks).ts=s.ts:=by
 unfold Gt.put Gt.ts
 simp only [List.map_set]
 have hi:=(List.getElem?_eq_some_iff.mp hx)
 apply List.ext_getElem?
 intro n
 rw [List.getElem?_set]
 split
 ·rename_i e
  subst e
  rw [List.length_map]
  rw [if_pos hi.1,List.getElem?_map,hx];rfl
 ·rfl
theorem rel_ts (s:Gt) (k now ticks:Int):(s.rel k now ticks).ts=s.ts:=by
 rcases relC_cases s k now with ⟨e,_⟩ | ⟨_,_,i,x,rfl,hi,hx,⟨e,_⟩ | ⟨e,_⟩ | ⟨e,_⟩⟩
 ·rw [rel_no (by omega)]
 ·rw [rel_no (by omega)]
 ·rw [rel_no (by omega)]
 ·rw [rel_yes e hx];exact Gt.put_ts hx
structure JbOk (t:Tk) (j:Jb):Prop where
 r0:0<=j.rl
 r1:j.rl<=1099511627776
 d:j.dl=j.rl+t.2.2.1
 l:1<=j.lf
 n:0<=j.dn
 c:j.lf+j.dn<=t.1
structure Gt.Ok (p:Int) (s:Gt):Prop where
 pol:p=1 ∨ p=2
 len1:1<=s.xs.length
 len8:s.xs.length<=8
 ok:∀ x ∈ s.xs,okT x.1
 ag:∀ x ∈ s.xs,0<=x.2/\x.2<=1099511628032
 l:s.js.length<=64
 j:∀ (i:Nat) (j:Jb),s.js[i]?=some j->∃ x:Tq,s.xs[j.tk]?=some x/\JbOk x.1 j/\j.rl+x.1.2.1<=x.2
 o:∀ (i k:Nat) (a b:Jb) (x:Tq),i < k->s.js[i]?=some a->s.js[k]?=some b->a.tk=b.tk->s.xs[a.tk]?=some x->a.rl+x.1.2.1<=b.rl/\b.dn=0
 h:∀ (i k:Nat) (a b:Jb),s.js[i]?=some a->s.js[k]?=some b->hol s.ts a=true->hol s.ts b=true->i=k
theorem ts_at {s:Gt} {k:Nat} {x:Tq} (h:s.xs[k]?=some x):s.ts[k]?=some x.1:=by rw [Gt.ts,List.getElem?_map,h];rfl
theorem Gt.Ok.first {p:Int} {s:Gt} (h:s.Ok p) {b:Jb} (hb:s.js[nx p s.ts s.js]?=some b):∀ (m:Nat) (a:Jb),m < nx p s.ts s.js->s.js[m]?=some a->¬ a.tk=b.tk:=by
 intro m a hm ha e
 obtain⟨x,hx,jo,hr⟩:=h.j _ _ ha
 obtain⟨o1,o2⟩:=h.o m _ a b x hm ha hb e hx
 rcases nx_cases p s.ts s.js with ⟨i,j,h1,h2,h3,en⟩ | ⟨h3,en⟩
 ·rw [en,h1] at hb
  rw [Option.some.inj hb] at h2
  unfold hol at h2
  simp at h2
  omega
 ·rw [en] at hb hm
  have hs:=(bst_spec p s.js _ (Nat.le_refl _) b hb).2 m a hm ha
  obtain⟨y,hy,jo2,_⟩:=h.j _ _ hb
  rw [<- e,hx] at hy
  have hy:=Option.some.inj hy
  subst hy
  have:=jo.d
  have:=jo2.d
  obtain⟨k1,k2,k3,k4,k5,k6⟩:=h.ok x (List.mem_of_getElem? hx)
  unfold ahd at hs
  split at hs <;> simp at hs <;> omega
theorem start_ok {p:Int} {ts:List Tk} (hp:p=1 ∨ p=2) (h1:1<=ts.length) (h8:ts.length<=8) (hk:∀ x ∈ ts,okT x):Gt.Ok p ⟨ts.map (fun t=>(t,0)),[]⟩:=by
 refine⟨hp,by simpa using h1,by simpa using h8,fun x hx=>?_,fun x hx=>?_,by simp,fun i j h=>by simp at h,fun i k a b x _ h=>by simp at h,fun i k a b h=>by simp at h⟩
 ·obtain⟨t,ht,rfl⟩:=List.mem_map.mp hx;exact hk t ht
 ·obtain⟨t,ht,rfl⟩:=List.mem_map.mp hx;simp
theorem start_ts (ts:List Tk):Gt.ts ⟨ts.map (fun t=>(t,(0:Int))),[]⟩=ts:=by
 rw [Gt.ts,List.map_map]
 exact List.map_id ts
theorem snoc_at {α:Type} {l:List α} {y:α} {i:Nat} {a:α} (h:(l ++ [y])[i]?=some a):l[i]?=some a ∨ (i=l.length/\a=y):=by
 by_cases hi:i < l.length
 ·rw [List.getElem?_append_left hi] at h;exact .inl h
 ·rw [List.getElem?_append_right (by omega)] at h
  have:i - l.length=0:=by
   refine Decidable.byContradiction fun hn=>?_
   rw [List.getElem?_eq_none (by simp;omega)] at h
   cases h
  rw [this] at h
  simp at h
  exact .inr ⟨by omega,h.symm⟩
theorem Gt.Ok.put {p:Int} {s:Gt} (h:s.Ok p) {i:Nat} {x:Tq} {now ticks:Int} (hx:s.xs[i]?=some x) (n0:0<=now) (n1:now<=1099511627776) (hb:x.2<=now) (hl:s.js.length < 64):(s.put i x now ticks).Ok p:=by
 have hi:=(List.getElem?_eq_some_iff.mp hx)
 have hts:=Gt.put_ts (now:=now) (ticks:=ticks) hx
 have hk:=h.ok x (List.mem_of_getElem? hx)
 obtain⟨k1,k2,k3,k4,k5,k6⟩:=id hk
 have hset:∀ m,(s.xs.set i (x.1,now+x.1.2.1))[m]?=if m=i then some (x.1,now+x.1.2.1) else s.xs[m]?:=by
  intro m
  rw [List.getElem?_set]
  by_cases e:i=m
  ·subst e;simp [hi.1]
  ·rw [if_neg e,if_neg (fun q=>e q.symm)]
 refine⟨h.pol,by simpa [Gt.put] using h.len1,by simpa [Gt.put] using h.len8,fun y hy=>?_,fun y hy=>?_, ?_,fun m j hm=>?_,fun m k a b y hmk ha hb' e hy=>?_,fun m k a b ha hb' h1 h2=>?_⟩
 ·rcases List.mem_or_eq_of_mem_set hy with hy | rfl
  ·exact h.ok y hy
  ·exact hk
 ·rcases List.mem_or_eq_of_mem_set hy with hy | rfl
  ·exact h.ag y hy
  ·exact⟨by show 0<=now+x.1.2.1;omega,by show now+x.1.2.1<=_;omega⟩
 ·simp [Gt.put];omega
 ·rcases snoc_at hm with hm | ⟨_,rfl⟩
  ·obtain⟨y,hy,jo,hr⟩:=h.j m j hm
   by_cases e:j.tk=i
   ·rw [e,hx] at hy
    have hy:=Option.some.inj hy
    subst hy
    exact⟨(x.1,now+x.1.2.1),by show (s.xs.set i _)[_]?=_;rw [hset,if_pos e],jo,by show j.rl+x.1.2.1<=now+x.1.2.1;omega⟩
   ·exact⟨y,by show (s.xs.set i _)[_]?=_;rw [hset,if_neg e];exact hy,jo,hr⟩
  ·refine⟨(x.1,now+x.1.2.1),by show (s.xs.set i _)[i]?=_;rw [hset,if_pos rfl],⟨n0,n1,rfl, ?_,Int.le_refl _, ?_⟩,Int.le_refl _⟩
   ·show 1<=min (max ticks 1) x.1.1;omega
   ·show min (max ticks 1) x.1.1+0<=x.1.1;omega
 ·obtain⟨y0,hy0,hyy⟩:∃ y0,s.xs[a.tk]?=some y0/\y0.1=y.1:=by
   have hy:(s.xs.set i (x.1,now+x.1.2.1))[a.tk]?=some y:=hy
   rw [hset] at hy
   split at hy
   ·rename_i e2
    rw [e2]
    exact⟨x,hx,by rw [<- Option.some.inj hy]⟩
   ·exact⟨y,hy,rfl⟩
  rcases snoc_at ha with ha | ⟨e1,rfl⟩
  ·rcases snoc_at hb' with hb' | ⟨e2,rfl⟩
   ·have:=h.o m k a b y0 hmk ha hb' e hy0
    rwa [hyy] at this
   ·obtain⟨z,hz,_,hr⟩:=h.j m a ha
    have e:a.tk=i:=e
    rw [hy0] at hz
    have hz:=Option.some.inj hz
    subst hz
    rw [e,hx] at hy0
    have hy0:=Option.some.inj hy0
    subst hy0
    rw [<- hyy]
    exact⟨by show a.rl+x.1.2.1<=now;omega,rfl⟩
  ·have:=(List.getElem?_eq_some_iff.mp hb').1
   simp [Gt.put] at this
   omega
 ·rw [hts] at h1 h2
  have hz:hol s.ts (newJ x.1 i now ticks)=false:=by simp [hol,newJ]
  rcases snoc_at ha with ha | ⟨e1,rfl⟩
  ·rcases snoc_at hb' with hb' | ⟨e2,rfl⟩
   ·exact h.h m k a b ha hb' h1 h2
   ·rw [hz] at h2;cases h2
  ·rw [hz] at h1;cases h1
theorem Gt.Ok.rel {p:Int} {s:Gt} (h:s.Ok p) (k now ticks:Int):(s.rel k now ticks).Ok p:=by
 rcases relC_cases s k now with ⟨e,_⟩ | ⟨n0,n1,i,x,rfl,hi,hx,⟨e,_⟩ | ⟨e,_⟩ | ⟨e,e1,e2⟩⟩
 ·rw [rel_no (by omega)];exact h
 ·rw [rel_no (by omega)];exact h
 ·rw [rel_no (by omega)];exact h
 ·rw [rel_yes e hx];exact h.put hx n0 n1 e1 e2
theorem runL_at {i:Nat} {j:Jb} {js:List Jb} (hj:js[i]?=some j) {m:Nat} {a:Jb} (h:(runL i j js)[m]?=some a):(¬ j.lf=1/\m=i/\a=j.ran) ∨ ∃ m',js[m']?=some a/\¬ m'=i/\m'=(if j.lf=1/\i<=m then m+1 else m):=by
 have hi:=(List.getElem?_eq_some_iff.mp hj).1
 unfold runL at h
 by_cases e:j.lf=1
 ·rw [if_pos e,List.getElem?_eraseIdx] at h
  right
  split at h
  ·exact⟨m,h,by omega,by rw [if_neg (by omega)]⟩
  ·exact⟨m+1,h,by omega,by rw [if_pos ⟨e,by omega⟩]⟩
 ·rw [if_neg e,List.getElem?_set] at h
  split at h
  ·rename_i e2
   subst e2
   exact .inl ⟨e,rfl,(Option.some.inj h).symm⟩
  ·rename_i e2
   exact .inr ⟨m,h,fun q=>e2 q.symm,by rw [if_neg (fun q=>e q.1)]⟩
theorem Gt.Ok.run {p:Int} {s:Gt} (h:s.Ok p) {j:Jb} (hj:s.js[nx p s.ts s.js]?=some j):Gt.Ok p ⟨s.xs,runL (nx p s.ts s.js) j s.js⟩:=by
 obtain⟨I,hI⟩:∃ I,I=nx p s.ts s.js:=⟨_,rfl⟩
 have hfirst:=h.first hj
 rw [<- hI] at hj hfirst ⊢
 have hi:=(List.getElem?_eq_some_iff.mp hj).1
 have hlen:(runL I j s.js).length<=s.js.length:=by
  unfold runL
  split
  ·rw [List.length_eraseIdx];split <;> omega
  ·simp
 obtain⟨xj,hxj,joj,hrj⟩:=h.j I j hj
 refine⟨h.pol,h.len1,h.len8,h.ok,h.ag,Nat.le_trans hlen h.l,fun m a hm=>?_,fun m k a b y hmk ha hb e hy=>?_,fun m k a b ha hb h1 h2=>?_⟩
 ·rcases runL_at hj hm with ⟨e,_,rfl⟩ | ⟨m',hm',_⟩
  ·exact⟨xj,hxj,⟨joj.r0,joj.r1,joj.d,by have:=joj.l;show 1<=j.lf - 1;omega,by have:=joj.n;show 0<=j.dn+1;omega,by have:=joj.c;show j.lf - 1+(j.dn+1)<=_;omega⟩,hrj⟩
  ·exact h.j m' a hm'
 ·rcases runL_at hj ha with ⟨e1,rfl,rfl⟩ | ⟨m',hm',hn1,em⟩
  ·rcases runL_at hj hb with ⟨_,rfl,rfl⟩ | ⟨k',hk',hn2,ek⟩
   ·omega
   ·rw [if_neg (fun q=>e1 q.1)] at ek
    subst ek
    exact h.o m k' j b y hmk hj hk' e hy
  ·rcases runL_at hj hb with ⟨e2,rfl,rfl⟩ | ⟨k',hk',hn2,ek⟩
   ·rw [if_neg (fun q=>e2 q.1)] at em
    subst em
    exact absurd e (hfirst m' a hmk hm')
   ·refine h.o m' k' a b y ?_ hm' hk' e hy
    subst em
    subst ek
    split <;> split <;> omega
 ·have ets:Gt.ts ⟨s.xs,runL I j s.js⟩=s.ts:=rfl
  rw [ets] at h1 h2
  have hothers:∀ (m':Nat) (b:Jb),s.js[m']?=some b->¬ m'=I->hol s.ts b=false:=by
   intro m' b hb hm'
   rcases nx_cases p s.ts s.js with ⟨i2,j2,q1,q2,q3,en⟩ | ⟨q3,en⟩
   ·refine Decidable.byContradiction fun hn=>?_
    have:=h.h m' i2 b j2 hb q1 (by simpa using hn) q2
    omega
   ·exact q3 m' b hb
  rcases runL_at hj ha with ⟨e1,rfl,rfl⟩ | ⟨m',hm',hn1,em⟩
  ·rcases runL_at hj hb with ⟨_,rfl,rfl⟩ | ⟨k',hk',hn2,ek⟩
   ·rfl
   ·rw [hothers k' b hk' hn2] at h2;cases h2
  ·rw [hothers m' a hm' hn1] at h1;cases h1
structure Ss where
 on:Bool
 bud:Int
 dl:Int
def fillS (s:Sv) (now:Int):Ss:=⟨true,s.2.1,now+s.2.2⟩
def dropS (x:Ss):Ss:=⟨false,0,x.dl⟩
def chS (x:Ss):Ss:=⟨x.on,x.bud - 1,x.dl⟩
def flS (s:Sv) (m now:Int) (work:Bool) (x:Ss):Bool:=
 if s.1=3 then decide ((now - m) % s.2.2=0) else if s.1=1 then work && decide ((now - m) % s.2.2=0) else work && decide (x.dl<=now)
def begS (s:Sv) (m now:Int) (work:Bool) (x:Ss):Ss:=if flS s m now work x then fillS s now else if work=false/\¬ s.1=3 then dropS x else x
def rdyS (work:Bool) (x:Ss):Bool:=work && decide (¬ x.bud=0)
structure GI (s:Sv) (m now:Int) (x:Ss):Prop where
 b0:0<=x.bud
 b1:x.bud<=s.2.1
 d0:m<=x.dl
 d1:x.dl<=now - 1+s.2.2
 d2:¬ s.1=2->∃ k,x.dl=m+k * s.2.2
 d3:s.1=3->now<=x.dl/\s.2.1 - s.2.2+x.dl - now<=x.bud
 d4:0 < x.bud->now<=x.dl
 o:x.on=false->x.bud=0
structure GM (s:Sv) (m now:Int) (work:Bool) (x:Ss):Prop where
 b0:0<=x.bud
 b1:x.bud<=s.2.1
 d0:m<=x.dl
 d1:x.dl<=now+s.2.2
 d2:¬ s.1=2->∃ k,x.dl=m+k * s.2.2
 d3:s.1=3->now < x.dl/\s.2.1 - s.2.2+x.dl - now<=x.bud
 d4:0 < x.bud->now < x.dl
 o:x.on=false->x.bud=0
 nw:work=false->¬ s.1=3->x.on=false
theorem kT_le {T k j:Int} (hT:1<=T) (h:k * T<=j * T+(T - 1)):k<=j:=by
 refine Decidable.byContradiction fun hn=>?_
 have:=Int.mul_le_mul_of_nonneg_right (show j+1<=k by omega) (show 0<=T by omega)
 have e:(j+1) * T=j * T+T:=by rw [Int.add_mul];omega
 omega
theorem bound_of {T m now:Int} (hT:1<=T) (h:(now - m) % T=0):∃ k,now=m+k * T:=by
 obtain⟨a,r,h0,h1,h2⟩:=parts (now - m) hT
 have:=(dm h0 h1 h2).2
 exact⟨a,by omega⟩
theorem bound_not {T m now k:Int} (h:¬ (now - m) % T=0):¬ now=m+k * T:=by
 intro e
 apply h
 rw [show now - m=k * T by omega,Int.mul_emod_left]
theorem GI.start {s:Sv} (h:okS s) (m:Int):GI s m m ⟨false,0,m⟩:=by
 obtain⟨h1,h2,h3,h4,h5⟩:=h
 exact⟨Int.le_refl _,by show (0:Int)<=_;omega,Int.le_refl _,by show m<=_;omega,fun _=>⟨0,by show m=_;omega⟩,fun _=>⟨Int.le_refl _,by show s.2.1 - s.2.2+m - m<=0;omega⟩,fun h=>absurd h (by show ¬ (0:Int) < 0;omega),fun _=>rfl⟩
theorem GI.late {s:Sv} {m now:Int} {work:Bool} {x:Ss} (h:okS s) (g:GI s m now x) (hf:flS s m now work x=true):x.dl<=now:=by
 obtain⟨h1,h2,h3,h4,h5⟩:=h
 have hb:¬ s.1=2->(now - m) % s.2.2=0->x.dl<=now:=by
  intro h6 h7
  obtain⟨k,hk⟩:=g.d2 h6
  obtain⟨j,hj⟩:=bound_of (by omega) h7
  have:=g.d1
  have:=kT_le (T:=s.2.2) (k:=k) (j:=j) (by omega) (by omega)
  have:=Int.mul_le_mul_of_nonneg_right this (show 0<=s.2.2 by omega)
  omega
 unfold flS at hf
 split at hf
 ·exact hb (by omega) (of_decide_eq_true hf)
 ·split at hf
  ·exact hb (by omega) (of_decide_eq_true (by simp at hf;simp [hf.2]))
  ·simp at hf;exact hf.2
theorem GI.beg {s:Sv} {m now:Int} {x:Ss} (h:okS s) (g:GI s m now x) (_hm:m<=now) (work:Bool):GM s m now work (begS s m now work x):=by
 have hl:=fun hf=>g.late (work:=work) h hf
 obtain⟨h1,h2,h3,h4,h5⟩:=h
 obtain⟨g1,g2,g3,g4,g5,g6,g7,g8⟩:=g
 unfold begS
 by_cases hf:flS s m now work x=true
 ·rw [if_pos hf]
  refine⟨by show 0<=s.2.1;omega,Int.le_refl _,by show m<=now+s.2.2;omega,Int.le_refl _,fun h6=>?_,fun h6=>⟨by show now < now+s.2.2;omega,by show s.2.1 - s.2.2+(now+s.2.2) - now<=s.2.1;omega⟩,fun _=>by show now < now+s.2.2;omega,fun h6=>by simp [fillS] at h6,fun h6 h7=>?_⟩
  ·have:(now - m) % s.2.2=0:=by
    unfold flS at hf
    split at hf
    ·exact of_decide_eq_true hf
    ·split at hf
     ·simp at hf;exact(by simpa using hf.2)
     ·omega
   obtain⟨k,hk⟩:=bound_of (by omega) this
   exact⟨k+1,by show now+s.2.2=_;rw [Int.add_mul];omega⟩
  ·subst h6
   unfold flS at hf
   rw [if_neg h7] at hf
   split at hf <;> simp at hf
 ·rw [if_neg hf]
  by_cases hd:work=false/\¬ s.1=3
  ·rw [if_pos hd]
   exact⟨Int.le_refl _,by show 0<=s.2.1;omega,g3,by show x.dl<=_;omega,g5,fun h6=>absurd h6 hd.2,fun h6=>absurd h6 (by show ¬ (0:Int) < 0;omega),fun _=>rfl,fun _ _=>rfl⟩
  ·rw [if_neg hd]
   have hk:now<=x.dl->now < x.dl:=by
    intro h6
    unfold flS at hf
    by_cases e3:s.1=3
    ·rw [if_pos e3] at hf
     obtain⟨k,hk⟩:=g5 (by omega)
     have:=bound_not (k:=k) (show ¬ (now - m) % s.2.2=0 by simpa using hf)
     omega
    ·rw [if_neg e3] at hf
     have hw:work=true:=by
      cases work
      ·exact absurd ⟨rfl,e3⟩ hd
      ·rfl
     subst hw
     by_cases e1:s.1=1
     ·rw [if_pos e1] at hf
      obtain⟨k,hk⟩:=g5 (by omega)
      have:=bound_not (k:=k) (show ¬ (now - m) % s.2.2=0 by simpa using hf)
      omega
     ·rw [if_neg e1] at hf
      simp at hf;omega
   refine⟨g1,g2,g3,by omega,g5,fun h6=>⟨hk (g6 h6).1,(g6 h6).2⟩,fun h6=>hk (g7 h6),g8,fun h6 h7=>absurd ⟨h6,h7⟩ hd⟩
theorem GM.stay {s:Sv} {m now:Int} {work:Bool} {x:Ss} (g:GM s m now work x):GI s m (now+1) x:=by
 obtain⟨g1,g2,g3,g4,g5,g6,g7,g8,_⟩:=g
 exact⟨g1,g2,g3,by omega,g5,fun h=>⟨by have:=(g6 h).1;omega,by have:=(g6 h).2;omega⟩,fun h=>by have:=g7 h;omega,g8⟩
theorem GM.charge {s:Sv} {m now:Int} {work:Bool} {x:Ss} (g:GM s m now work x) (hb:¬ x.bud=0):GI s m (now+1) (chS x):=by
 obtain⟨g1,g2,g3,g4,g5,g6,g7,g8,_⟩:=g
 have k1:0<=x.bud - 1:=by clear g5;omega
 have k2:x.bud - 1<=s.2.1:=by clear g5;omega
 have k3:x.dl<=now+1 - 1+s.2.2:=by clear g5;omega
 have k4:s.1=3->now+1<=x.dl/\s.2.1 - s.2.2+x.dl - (now+1)<=x.bud - 1:=fun h=>by have:=g6 h;clear g5;omega
 have k5:0 < x.bud - 1->now+1<=x.dl:=fun h=>by have:=g7 (by clear g5;omega);clear g5;omega
 exact⟨k1,k2,g3,k3,g5,k4,k5,fun h=>absurd (g8 h) hb⟩
theorem rdy_bud {work:Bool} {x:Ss} {b:Bool} (h:(rdyS work x && b)=true):¬ x.bud=0:=by
 simp [rdyS] at h;exact h.1.2
def M2 (s:Sv) (b now c c0:Int) (x:Ss):Prop:=∃ k:Int,0<=k/\x.dl=b+(k+1) * s.2.2/\x.dl - s.2.2<=now/\now < x.dl/\c0+(k+1) * s.2.1<=c+x.bud/\x.bud<=x.dl - now
end Go.Proofs.YtpdehdomilnmeaaGreatDoor
