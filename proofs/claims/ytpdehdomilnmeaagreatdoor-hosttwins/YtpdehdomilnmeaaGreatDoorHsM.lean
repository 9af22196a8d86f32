import Derived.Test.YtpdehdomilnmeaaGreatDoorTrM
import Derived.Test.YtpdehdomilnmeaaGreatDoorSvM
namespace Go.Proofs.YtpdehdomilnmeaaGreatDoor
structure Rv where
 sv:Sv
 m:Int
 wk:Bool
 x:Ss
 g:Option (Int × Gt)
 mi:Int
 mw:Bool
 mr:Bool
structure Hs where
 now:Int
 t:Tr
 rv:Int->Option Rv
 ws:List Od
def Od.att (o:Od) (now:Int):Od:=⟨o.ki,o.id,o.sv,o.po,o.ts,now⟩
def wc (c:Int):Bool:=decide (c=4 ∨ c=5 ∨ c=2)
def won (t:Tr) (c:Int):Bool:=wc c && decide (0 < t.gs.length)
def newR (s:Sv) (now:Int):Rv:=⟨s,now,false,⟨false,0,now⟩,none,0,false,false⟩
def upR (rv:Int->Option Rv) (i:Int) (r:Option Rv):Int->Option Rv:=fun j=>if j=i then r else rv j
def Rv.bind (r:Rv) (o:Od):Rv:=⟨r.sv,r.m,r.wk,r.x,some (o.po,⟨o.ts.map (fun t=>(t,0)),[]⟩),r.mi,r.mw,r.mr⟩
def folR (now:Int) (rv:Int->Option Rv) (o:Od) (i:Int):Int->Option Rv:=
 if o.ki=1 ∨ o.ki=2 then upR rv i (some (newR o.sv now)) else if o.ki=3 then upR rv i none else if o.ki=4 then upR rv i ((rv i).map (fun r=>r.bind o)) else rv
def takeH (A:Ops) (now:Int):Tr->(Int->Option Rv)->List Od->Tr × (Int->Option Rv) × List Rs
 |t,rv,[]=>(t,rv,[])
 |t,rv,o :: os=>
  if won (t.app A (o.att now)).1 (t.app A (o.att now)).2.1=true then ((t.app A (o.att now)).1,rv,[])
  else ((takeH A now (t.app A (o.att now)).1 (if (t.app A (o.att now)).2.1=0 then folR now rv o (t.app A (o.att now)).2.2 else rv) os).1,
   (takeH A now (t.app A (o.att now)).1 (if (t.app A (o.att now)).2.1=0 then folR now rv o (t.app A (o.att now)).2.2 else rv) os).2.1,
   (t.app A (o.att now)).2 :: (takeH A now (t.app A (o.att now)).1 (if (t.app A (o.att now)).2.1=0 then folR now rv o (t.app A (o.att now)).2.2 else rv) os).2.2)
def rdyR (r:Rv):Bool:=rdyS r.wk r.x
def sooner (r:Rv):Option Rv->Bool
 |none=>true
 |some q=>decide (r.x.dl < q.x.dl)
def bstF (rv:Int->Option Rv) (p:Int) (b:Option Int) (n:Nd):Option Int:=
 if n.pa=p then (match rv n.id with
  |some r=>if (rdyR r && sooner r (b.bind rv))=true then some n.id else b
  |none=>b) else b
def bestR (rv:Int->Option Rv) (ns:List Nd) (p:Int):Option Int:=ns.foldl (bstF rv p) none
def wrkR (rv:Int->Option Rv) (ns:List Nd) (i:Int) (r:Rv):Bool:=match r.g with
 |some (_,s)=>decide (0 < s.js.length)
 |none=>(bestR rv ns i).isSome
def Rv.beg (r:Rv) (i now:Int) (wk:Bool):Rv:=⟨r.sv,r.m,wk,begS r.sv r.m now wk r.x,r.g,i,wk,false⟩
def begR (now:Int) (ns:List Nd) (n:Nd) (rv:Int->Option Rv):Int->Option Rv:=upR rv n.id ((rv n.id).map (fun r=>r.beg n.id now (wrkR rv ns n.id r)))
def tellR (now:Int) (ns:List Nd) (rv:Int->Option Rv):Int->Option Rv:=ns.foldr (begR now ns) rv
def Rv.charge (r:Rv):Rv:=⟨r.sv,r.m,r.wk,(if rdyR r=true then chS r.x else r.x),r.g,r.mi,r.mw,rdyR r⟩
def Rv.jobs (r:Rv) (js:List Jb):Rv:=⟨r.sv,r.m,r.wk,r.x,r.g.map (fun p=>(p.1,⟨p.2.xs,js⟩)),r.mi,r.mw,r.mr⟩
structure RvOk (now:Int) (n:Nd) (r:Rv):Prop where
 sv:r.sv=n.sv
 ok:okS r.sv
 m0:0<=r.m
 m1:r.m<=now
 gi:GI r.sv r.m now r.x
 no:n.po=0->r.g=none
 yes:¬ n.po=0->∃ s:Gt,r.g=some (n.po,s)/\s.ts=n.ts/\s.Ok n.po
structure TOk (k:Nat) (now:Int) (t:Tr) (rv:Int->Option Rv):Prop where
 good:t.Good
 liv:t.Liv
 sm:t.Sm k
 tn:t.now<=now
 at_:∀ n ∈ t.ns,∃ r,rv n.id=some r/\RvOk now n r
 dom:∀ i r,rv i=some r->∃ n ∈ t.ns,n.id=i
theorem Ap.sm0 {A:Ops} {t u:Tr} {o:Od} {r:Rs} {k:Nat} (h:Ap A t o u r) (hs:t.Sm k) (h0:¬ r.1=0):u.Sm k:=by
 cases h with
 |bad _=>exact hs
 |no _ _ _ _ _ _=>exact pass_sm hs _
 |create _ _ _ _=>exact absurd rfl h0
 |resize _ _ _ _=>exact absurd rfl h0
 |remove _ _ _ _=>exact absurd rfl h0
 |bind _ _ _ _=>exact absurd rfl h0
theorem Ap.kinds {A:Ops} {t u:Tr} {o:Od} {r:Rs} (h:Ap A t o u r) (h0:r.1=0):o.ki=1 ∨ o.ki=2 ∨ o.ki=3 ∨ o.ki=4:=by
 cases h with
 |bad _=>simp at h0
 |no _ _ _ _ _ h=>exact absurd h0 h
 |create h _ _ _=>omega
 |resize h _ _ _=>omega
 |remove h _ _ _=>omega
 |bind h _ _ _=>omega
theorem upR_same (rv:Int->Option Rv) (i:Int) (r:Option Rv):upR rv i r i=r:=by simp [upR]
theorem upR_other (rv:Int->Option Rv) {i j:Int} (r:Option Rv) (h:¬ j=i):upR rv i r j=rv j:=by simp [upR,h]
structure Fol (now:Int) (rv:Int->Option Rv) (o:Od) (i:Int):Prop where
 i1:1<=i
 ki:o.ki=1 ∨ o.ki=2 ∨ o.ki=3 ∨ o.ki=4
 sv:o.ki=1 ∨ o.ki=2->okS o.sv
 gs:o.ki=4->okG o.po o.ts/\∃ r,rv i=some r
theorem okG_pos {p:Int} {ts:List Tk} (h:okG p ts):¬ p=0:=by have:=h.1;omega
theorem TOk.step {A:Ops} {k:Nat} {now:Int} {t u:Tr} {rv:Int->Option Rv} {o:Od} {r:Rs} (h:TOk k now t rv) (n0:0<=now) (ha:Ap A t (o.att now) u r):TOk (k+1) now u (if r.1=0 then folR now rv o r.2 else rv)/\(¬ r.1=0->u.Sm k)/\(r.1=0->Fol now rv o r.2):=by
 have hg:=ha.good h.good
 have hl:=ha.liv h.good h.liv
 have hs:=ha.sm h.sm
 have tn:u.now<=now:=by
  have hp:(t.pass now).now=now:=by show max t.now now=now;have:=h.tn;omega
  cases ha with
  |bad _=>exact h.tn
  |no _ _ _ _ _ _=>show (t.pass now).now<=now;omega
  |create _ _ _ _=>show (t.pass now).now<=now;omega
  |resize _ _ _ _=>show (t.pass now).now<=now;omega
  |remove _ _ _ _=>show (t.pass now).now<=now;omega
  |bind _ _ _ _=>show (t.pass now).now<=now;omega
 refine⟨?_,ha.sm0 h.sm, ?_⟩
 ·cases ha with
  |bad _=>exact⟨hg,hl,hs,tn,h.at_,h.dom⟩
  |no c _ _ _ _ hc=>rw [if_neg hc];exact⟨hg,hl,hs,tn,h.at_,h.dom⟩
  |create hk h1 h2 h3=>
   have hk':o.ki=1:=hk
   have hok:=(crC_zero h3).1
   have hok':okS o.sv:=hok
   rw [if_pos rfl]
   have e:folR now rv o (t.last+1)=upR rv (t.last+1) (some (newR o.sv now)):=by unfold folR;rw [if_pos (.inl hk')]
   refine⟨hg,hl,hs,tn, ?_, ?_⟩
   ·intro n hn
    show ∃ r,folR now rv o (t.last+1) n.id=some r/\RvOk now n r
    rw [e]
    have hn:n ∈ t.ns ++ [⟨t.last+1,o.id,o.sv,0,[]⟩]:=hn
    rcases List.mem_append.mp hn with x | x
    ·have:=h.good.ids n x
     rw [upR_other _ _ (by omega)]
     exact h.at_ n x
    ·simp at x
     subst x
     rw [upR_same]
     exact⟨_,rfl,rfl,hok',n0,Int.le_refl _,GI.start hok' now,fun _=>rfl,fun hp=>absurd rfl hp⟩
   ·intro i q hq
    have hq:folR now rv o (t.last+1) i=some q:=hq
    rw [e] at hq
    show ∃ n ∈ t.ns ++ [⟨t.last+1,o.id,o.sv,0,[]⟩],n.id=i
    by_cases ei:i=t.last+1
    ·exact⟨⟨t.last+1,o.id,o.sv,0,[]⟩,by simp,by rw [ei]⟩
    ·rw [upR_other _ _ ei] at hq
     obtain⟨n,hn,hi⟩:=h.dom i q hq
     exact⟨n,by simp [hn],hi⟩
  |resize hk h1 h2 h3=>
   have hk':o.ki=2:=hk
   obtain⟨hok,hlf,hbd,_⟩:=rsC_zero h3
   have hok':okS o.sv:=hok
   obtain⟨⟨n,hn⟩,_⟩:=leaf_facts hlf
   have hgp:=h.good.pass h1 h2
   obtain⟨la,lb,e2,hla,hlb,hi⟩:=hgp.split hn
   have hi:n.id=o.id:=hi
   have hla:∀ a ∈ la,¬ a.id=o.id:=hla
   have hlb:∀ a ∈ lb,¬ a.id=o.id:=hlb
   have e3:t.ns=la ++ n :: lb:=e2
   have hpo:n.po=0:=hgp.bndOf (by rw [e2];simp) (by rw [hi];exact hbd)
   rw [if_pos rfl]
   have e:folR now rv o o.id=upR rv o.id (some (newR o.sv now)):=by unfold folR;rw [if_pos (.inr hk')]
   have hset:setAtL t.ns o.id (fun n=>⟨n.id,n.pa,o.sv,n.po,n.ts⟩)=la ++ ⟨n.id,n.pa,o.sv,n.po,n.ts⟩ :: lb:=by rw [e3];exact setAtL_split _ hi hla
   refine⟨hg,hl,hs,tn, ?_, ?_⟩
   ·intro x hx
    show ∃ r,folR now rv o o.id x.id=some r/\RvOk now x r
    rw [e]
    have hx:x ∈ setAtL t.ns o.id (fun n=>⟨n.id,n.pa,o.sv,n.po,n.ts⟩):=hx
    rw [hset] at hx
    rcases List.mem_append.mp hx with y | y
    ·rw [upR_other _ _ (hla x y)]
     exact h.at_ x (by rw [e3];simp [y])
    ·rcases List.mem_cons.mp y with rfl | y
     ·rw [hi,upR_same]
      exact⟨_,rfl,rfl,hok',n0,Int.le_refl _,GI.start hok' now,fun _=>rfl,fun hp=>absurd hpo hp⟩
     ·rw [upR_other _ _ (hlb x y)]
      exact h.at_ x (by rw [e3];simp [y])
   ·intro i q hq
    have hq:folR now rv o o.id i=some q:=hq
    rw [e] at hq
    show ∃ x ∈ setAtL t.ns o.id (fun n=>⟨n.id,n.pa,o.sv,n.po,n.ts⟩),x.id=i
    rw [hset]
    by_cases ei:i=o.id
    ·exact⟨⟨n.id,n.pa,o.sv,n.po,n.ts⟩,by simp,by rw [ei];exact hi⟩
    ·rw [upR_other _ _ ei] at hq
     obtain⟨x,hx,hxi⟩:=h.dom i q hq
     rw [e3] at hx
     rcases List.mem_append.mp hx with y | y
     ·exact⟨x,by simp [y],hxi⟩
     ·rcases List.mem_cons.mp y with rfl | y
      ·exact absurd (hxi.symm.trans hi) ei
      ·exact⟨x,by simp [y],hxi⟩
  |remove hk h1 h2 h3=>
   have hk':o.ki=3:=hk
   obtain⟨⟨n,hn⟩,_⟩:=leaf_facts h3
   have hgp:=h.good.pass h1 h2
   obtain⟨la,lb,e2,hla,hlb,hi⟩:=hgp.split hn
   have hi:n.id=o.id:=hi
   have hla:∀ a ∈ la,¬ a.id=o.id:=hla
   have hlb:∀ a ∈ lb,¬ a.id=o.id:=hlb
   have e3:t.ns=la ++ n :: lb:=e2
   rw [if_pos rfl]
   have e:folR now rv o o.id=upR rv o.id none:=by unfold folR;rw [if_neg (by omega),if_pos hk']
   have hset:dropL t.ns o.id=la ++ lb:=by rw [e3];exact dropL_split hi hla
   refine⟨hg,hl,hs,tn, ?_, ?_⟩
   ·intro x hx
    show ∃ r,folR now rv o o.id x.id=some r/\RvOk now x r
    rw [e]
    have hx:x ∈ dropL t.ns o.id:=hx
    rw [hset] at hx
    rcases List.mem_append.mp hx with y | y
    ·rw [upR_other _ _ (hla x y)]
     exact h.at_ x (by rw [e3];simp [y])
    ·rw [upR_other _ _ (hlb x y)]
     exact h.at_ x (by rw [e3];simp [y])
   ·intro i q hq
    have hq:folR now rv o o.id i=some q:=hq
    rw [e] at hq
    show ∃ x ∈ dropL t.ns o.id,x.id=i
    rw [hset]
    by_cases ei:i=o.id
    ·rw [ei,upR_same] at hq;cases hq
    ·rw [upR_other _ _ ei] at hq
     obtain⟨x,hx,hxi⟩:=h.dom i q hq
     rw [e3] at hx
     rcases List.mem_append.mp hx with y | y
     ·exact⟨x,by simp [y],hxi⟩
     ·rcases List.mem_cons.mp y with rfl | y
      ·exact absurd (hxi.symm.trans hi) ei
      ·exact⟨x,by simp [y],hxi⟩
  |bind hk h1 h2 h3=>
   have hk':o.ki=4:=hk
   obtain⟨hok,hlf,hbd,_⟩:=bdC_zero h3
   have hok':okG o.po o.ts:=hok
   obtain⟨⟨n,hn⟩,_⟩:=leaf_facts hlf
   have hgp:=h.good.pass h1 h2
   obtain⟨la,lb,e2,hla,hlb,hi⟩:=hgp.split hn
   have hi:n.id=o.id:=hi
   have hla:∀ a ∈ la,¬ a.id=o.id:=hla
   have hlb:∀ a ∈ lb,¬ a.id=o.id:=hlb
   have e3:t.ns=la ++ n :: lb:=e2
   rw [if_pos rfl]
   have e:folR now rv o o.id=upR rv o.id ((rv o.id).map (fun r=>r.bind o)):=by unfold folR;rw [if_neg (by omega),if_neg (by omega),if_pos hk']
   have hset:setAtL t.ns o.id (fun n=>⟨n.id,n.pa,n.sv,o.po,o.ts⟩)=la ++ ⟨n.id,n.pa,n.sv,o.po,o.ts⟩ :: lb:=by rw [e3];exact setAtL_split _ hi hla
   obtain⟨r0,hr0,hR0⟩:=h.at_ n (by rw [e3];simp)
   rw [hi] at hr0
   refine⟨hg,hl,hs,tn, ?_, ?_⟩
   ·intro x hx
    show ∃ r,folR now rv o o.id x.id=some r/\RvOk now x r
    rw [e]
    have hx:x ∈ setAtL t.ns o.id (fun n=>⟨n.id,n.pa,n.sv,o.po,o.ts⟩):=hx
    rw [hset] at hx
    rcases List.mem_append.mp hx with y | y
    ·rw [upR_other _ _ (hla x y)]
     exact h.at_ x (by rw [e3];simp [y])
    ·rcases List.mem_cons.mp y with rfl | y
     ·rw [hi,upR_same,hr0]
      exact⟨_,rfl,hR0.sv,hR0.ok,hR0.m0,hR0.m1,hR0.gi,fun hp=>absurd hp (okG_pos hok'),fun _=>⟨_,rfl,start_ts o.ts,start_ok hok'.1 hok'.2.1 hok'.2.2.1 hok'.2.2.2⟩⟩
     ·rw [upR_other _ _ (hlb x y)]
      exact h.at_ x (by rw [e3];simp [y])
   ·intro i q hq
    have hq:folR now rv o o.id i=some q:=hq
    rw [e] at hq
    show ∃ x ∈ setAtL t.ns o.id (fun n=>⟨n.id,n.pa,n.sv,o.po,o.ts⟩),x.id=i
    rw [hset]
    by_cases ei:i=o.id
    ·exact⟨⟨n.id,n.pa,n.sv,o.po,o.ts⟩,by simp,by rw [ei];exact hi⟩
    ·rw [upR_other _ _ ei] at hq
     obtain⟨x,hx,hxi⟩:=h.dom i q hq
     rw [e3] at hx
     rcases List.mem_append.mp hx with y | y
     ·exact⟨x,by simp [y],hxi⟩
     ·rcases List.mem_cons.mp y with rfl | y
      ·exact absurd (hxi.symm.trans hi) ei
      ·exact⟨x,by simp [y],hxi⟩
 ·intro h0
  have hd:=ha.done h.good h0
  refine⟨hd.1,ha.kinds h0,fun hk=>?_,fun hk=>?_⟩
  ·cases ha with
   |bad _=>simp at h0
   |no _ _ _ _ _ h=>exact absurd h0 h
   |create _ _ _ h3=>exact(crC_zero h3).1
   |resize _ _ _ h3=>exact(rsC_zero h3).1
   |remove h3 _ _ _=>have h3:o.ki=3:=h3;omega
   |bind h3 _ _ _=>have h3:o.ki=4:=h3;omega
  ·cases ha with
   |bad _=>simp at h0
   |no _ _ _ _ _ h=>exact absurd h0 h
   |create h3 _ _ _=>have h3:o.ki=1:=h3;omega
   |resize h3 _ _ _=>have h3:o.ki=2:=h3;omega
   |remove h3 _ _ _=>have h3:o.ki=3:=h3;omega
   |bind _ h1 h2 h3=>
    obtain⟨hok,hlf,hbd,_⟩:=bdC_zero h3
    obtain⟨⟨n,hn⟩,_⟩:=leaf_facts hlf
    obtain⟨hm,hi⟩:=nd_some hn
    obtain⟨r0,hr0,_⟩:=h.at_ n hm
    rw [hi] at hr0
    exact⟨hok,r0,hr0⟩
end Go.Proofs.YtpdehdomilnmeaaGreatDoor
