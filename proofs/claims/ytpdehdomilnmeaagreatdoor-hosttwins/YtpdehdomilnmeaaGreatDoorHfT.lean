import Derived.Test.YtpdehdomilnmeaaGreatDoorHsE
import Derived.Test.YtpdehdomilnmeaaGreatDoorHfA
import Derived.Test.YtpdehdomilnmeaaGreatDoorHfE
import Derived.Deep.QuietTactic
import Derived.BigQuiet
namespace Go.Proofs.YtpdehdomilnmeaaGreatDoor
theorem Down.uniq {ns:List Nd} {rv:Int->Option Rv} {p:Int} {r1:Int->Option Rv} {o1:Option (Int × Jb × Bool)} (h1:Down ns rv p r1 o1):∀ {r2:Int->Option Rv} {o2:Option (Int × Jb × Bool)},Down ns rv p r2 o2->r1=r2/\o1=o2:=by
 induction h1 with
 |stop a=>
  intro r2 o2 h2
  cases h2 <;> simp_all
 |leaf a b c d=>
  intro r2 o2 h2
  cases h2 <;> simp_all
 |step a b c d ih=>
  intro r2 o2 h2
  cases h2 with
  |stop a'=>simp_all
  |leaf a' b' c' d'=>simp_all
  |step a' b' c' d'=>
   rw [a] at a'
   cases a'
   rw [b] at b'
   cases b'
   exact ih d'
theorem TickR.uniq {A:Ops} {h h1 h2:Hs} {rs1 rs2:List Rs} {ms1 ms2:List Mk} {o1 o2:Option (Int × Jb × Bool)} (a:TickR A h h1 rs1 ms1 o1) (b:TickR A h h2 rs2 ms2 o2):h1=h2/\rs1=rs2/\ms1=ms2/\o1=o2:=by
 have er:rs1=rs2:=a.re.trans b.re.symm
 have et:h1.t=h2.t:=a.te.trans b.te.symm
 have en:h1.now=h2.now:=a.nw.trans b.nw.symm
 have ew:h1.ws=h2.ws:=by rw [a.we,b.we,er]
 have d1:=a.dn
 rw [et] at d1
 obtain⟨ev,eo⟩:=d1.uniq b.dn
 have em:ms1=ms2:=by rw [a.me,b.me,et,ev]
 obtain⟨n1,t1,v1,w1⟩:=h1
 obtain⟨n2,t2,v2,w2⟩:=h2
 simp only at et en ew ev
 subst et en ew ev
 exact⟨rfl,er,em,eo⟩
def relH (h:Hs) (i k tc:Int):Hs:=match (h.rv i).bind (fun r=>r.g.map (fun p=>(r,p))) with
 |some (r,pol,s)=>⟨h.now,h.t,upR h.rv i (some (r.rel s pol k h.now tc)),h.ws⟩
 |none=>h
theorem relH_some {h:Hs} {i:Int} {r:Rv} {pol:Int} {s:Gt} (hr:h.rv i=some r) (hg:r.g=some (pol,s)) (k tc:Int):relH h i k tc=⟨h.now,h.t,upR h.rv i (some (r.rel s pol k h.now tc)),h.ws⟩:=by
 unfold relH
 rw [hr]
 simp [hg]
theorem relH_none {h:Hs} {i:Int} (hr:h.rv i=none) (k tc:Int):relH h i k tc=h:=by
 unfold relH
 rw [hr]
 rfl
theorem relH_no {h:Hs} {i:Int} {r:Rv} (hr:h.rv i=some r) (hg:r.g=none) (k tc:Int):relH h i k tc=h:=by
 unfold relH
 rw [hr]
 simp [hg]
def relN (h:Hs) (n:Nd):Nat->Hs
 |0=>h
 |l+1=>match n.ts[l]? with
  |some x=>relH (relN h n l) n.id (l:Int) x.1
  |none=>relN h n l
theorem relN_step {h:Hs} {n:Nd} {l:Nat} {x:Tk} (hx:n.ts[l]?=some x):relN h n (l+1)=relH (relN h n l) n.id (l:Int) x.1:=by
 show (match n.ts[l]? with | some x=>relH (relN h n l) n.id (l:Int) x.1 | none=>relN h n l)=_
 rw [hx]
def flN (h:Hs) (ns:List Nd):Nat->Hs
 |0=>h
 |j+1=>match ns[j]? with
  |some n=>relN (flN h ns j) n n.ts.length
  |none=>flN h ns j
theorem flN_step {h:Hs} {ns:List Nd} {j:Nat} {n:Nd} (hn:ns[j]?=some n):flN h ns (j+1)=relN (flN h ns j) n n.ts.length:=by
 show (match ns[j]? with | some n=>relN (flN h ns j) n n.ts.length | none=>flN h ns j)=_
 rw [hn]
abbrev Stt:=Hs × Nat × List Sp
inductive TN (A:Ops) (fl:Bool):Nat->Stt->Stt->Prop
 |zero {s}:TN A fl 0 s s
 |step {i s h tk ss h' rs ms out}:TN A fl i s (h,tk,ss)->tk < 900->TickR A (if fl then flN h h.t.ns h.t.ns.length else h) h' rs ms out->TN A fl (i+1) s (h',tk+1,tickS h'.t.ns rs ms ss)
theorem TN.uniq {A:Ops} {fl:Bool} {i:Nat} {s s1:Stt} (a:TN A fl i s s1):∀ {s2:Stt},TN A fl i s s2->s1=s2:=by
 induction a with
 |zero=>intro s2 b;cases b;rfl
 |step a hlt hr ih=>
  intro s2 b
  cases b with
  |step a' hlt' hr'=>
   have e:=ih a'
   simp only [Prod.mk.injEq] at e
   obtain⟨rfl,rfl,rfl⟩:=e
   obtain⟨rfl,rfl,rfl,_⟩:=hr.uniq hr'
   rfl
theorem TN.tk {A:Ops} {fl:Bool} {i:Nat} {s s1:Stt} (a:TN A fl i s s1):s1.2.1=s.2.1+i:=by
 induction a with
 |zero=>rfl
 |step a hlt hr ih=>simp only at ih ⊢;omega
theorem TN.lt9 {A:Ops} {fl:Bool} {i:Nat} {s s1:Stt} (a:TN A fl i s s1):∀ j,j < i->s.2.1+j < 900:=by
 induction a with
 |zero=>intro j hj;omega
 |step a hlt hr ih=>
  intro j hj
  have h1:=a.tk
  simp only at h1
  rename_i i s h tk ss h' rs ms out
  by_cases c:j < i
  ·exact ih j c
  ·omega
def DoR (A:Ops) (ki ci ct cn:Int) (q:Od) (s s':Stt):Prop:=
 if ki=1 then s'=(⟨s.1.now,s.1.t,s.1.rv,s.1.ws ++ [q]⟩,s.2.1,s.2.2)
 else if ki=2 then s'=(relH s.1 ci ct cn,s.2.1,s.2.2)
 else if ki=3 ∨ ki=4 then ∃ i:Nat,TN A (decide (ki=4)) i s s'/\i<=(min (max cn 1) 50).toNat/\(i=(min (max cn 1) 50).toNat ∨ 900<=s'.2.1)
 else s'=s
theorem DoR.uniq {A:Ops} {ki ci ct cn:Int} {q:Od} {s s1 s2:Stt} (a:DoR A ki ci ct cn q s s1) (b:DoR A ki ci ct cn q s s2):s1=s2:=by
 unfold DoR at a b
 by_cases k1:ki=1
 ·rw [if_pos k1] at a b
  exact a.trans b.symm
 ·rw [if_neg k1] at a b
  by_cases k2:ki=2
  ·rw [if_pos k2] at a b
   exact a.trans b.symm
  ·rw [if_neg k2] at a b
   by_cases k3:ki=3 ∨ ki=4
   ·rw [if_pos k3] at a b
    obtain⟨i,a1,a2,a3⟩:=a
    obtain⟨j,b1,b2,b3⟩:=b
    have h1:=a1.tk
    have h2:=b1.tk
    have h3:=a1.lt9
    have h4:=b1.lt9
    have e:i=j:=by
     rcases Nat.lt_trichotomy i j with c | c | c
     ·have:=h4 i c
      rcases a3 with a3 | a3 <;> omega
     ·exact c
     ·have:=h3 j c
      rcases b3 with b3 | b3 <;> omega
    subst e
    exact a1.uniq b1
   ·rw [if_neg k3] at a b
    exact a.trans b.symm
def LenOk (ss:List Sp):Prop:=∀ s ∈ ss,s.wk.length=s.rn.length
theorem LenOk.adm {ss:List Sp} (h:LenOk ss) (ns:List Nd) (i:Int):LenOk (admS ns i ss):=by
 unfold admS
 split
 ·exact h
 ·intro s hs
  rcases List.mem_append.mp hs with m | m
  ·exact h s m
  ·rw [List.mem_singleton] at m
   subst m
   rfl
theorem LenOk.tel {ss:List Sp} (h:LenOk ss) (m:Mk):LenOk (telS m ss):=by
 intro s hs
 obtain⟨t,ht,rfl⟩:=List.mem_map.mp hs
 split
 ·have:=h t ht
  simp [this]
 ·exact h t ht
theorem LenOk.note {ns:List Nd}:∀ (ms:List Mk) {ss:List Sp},LenOk ss->LenOk (noteS ns ms ss)
 |[],_,h=>h
 |m :: ms,_,h=>LenOk.note ms ((h.adm ns m.1).tel m)
theorem LenOk.tick {ss:List Sp} (h:LenOk ss) (ns:List Nd) (rs:List Rs) (ms:List Mk):LenOk (tickS ns rs ms ss):=
 LenOk.note ms (fun s hs=>h s (List.mem_filter.mp hs).1)
theorem TN.len {A:Ops} {fl:Bool} {i:Nat} {s s1:Stt} (a:TN A fl i s s1) (h:LenOk s.2.2):LenOk s1.2.2:=by
 induction a with
 |zero=>exact h
 |step a hlt hr ih=>exact(ih h).tick _ _ _
theorem DoR.len {A:Ops} {ki ci ct cn:Int} {q:Od} {s s1:Stt} (a:DoR A ki ci ct cn q s s1) (h:LenOk s.2.2):LenOk s1.2.2:=by
 unfold DoR at a
 by_cases k1:ki=1
 ·rw [if_pos k1] at a
  rw [a];exact h
 ·rw [if_neg k1] at a
  by_cases k2:ki=2
  ·rw [if_pos k2] at a
   rw [a];exact h
  ·rw [if_neg k2] at a
   by_cases k3:ki=3 ∨ ki=4
   ·rw [if_pos k3] at a
    obtain⟨i,a1,_⟩:=a
    exact a1.len h
   ·rw [if_neg k3] at a
    rw [a];exact h
end Go.Proofs.YtpdehdomilnmeaaGreatDoor
namespace Go.Proofs.YtpdehdomilnmeaaGreatDoor
open Go.ChangeShapes Go.WideShapes Go.ChangeAt Go.RowKit
set_option maxRecDepth 100000
set_option maxRecDepth 100000
attribute [local go_sem] World.cell?_alloc_some fAs
def KO (own:Nat->Int) (tg:Nat->Int × Int) (fb:Nat) (w:World) (own2:Nat->Int) (tg2:Nat->Int × Int) (w2:World):Prop:=Kept (FBk own tg fb) w w2/\∀ k,k < w.heap.size->FBk own2 tg2 fb k->FBk own tg fb k
theorem KO.refl (own:Nat->Int) (tg:Nat->Int × Int) (fb:Nat) (w:World):KO own tg fb w own tg w:=⟨Kept.refl _ _,fun _ _ e=>e⟩
theorem KO.step {own own2 own4:Nat->Int} {tg tg2 tg4:Nat->Int × Int} {fb:Nat} {w w2 w4:World} (h:KO own tg fb w own2 tg2 w2) (k:KO own2 tg2 fb w2 own4 tg4 w4):KO own tg fb w own4 tg4 w4:=by
 have hs:=h.1.size
 refine⟨h.1.trans k.1 (fun i e=>?_),fun i hi e=>h.2 i hi (k.2 i (by omega) e)⟩
 by_cases c:i < w.heap.size
 ·exact .inl (h.2 i c e)
 ·exact .inr (by omega)
theorem KO.late {own own2:Nat->Int} {tg tg2:Nat->Int × Int} {fb:Nat} {w w2 w4:World} (h:KO own tg fb w own2 tg2 w2) (hb:Below w2.heap.size w2 w4):KO own tg fb w own2 tg2 w4:=h.step ⟨kept_new hb,fun _ _ e=>e⟩
theorem KO.host {own own2:Nat->Int} (tg:Nat->Int × Int) (fb:Nat) {w w2:World} (hk:Kept (fun k=>own k ≠ 0) w w2) (ho:∀ k,k < w.heap.size->own2 k=own k):KO own tg fb w own2 tg w2:=
 ⟨hk.mono (fun k e=>.inl e),fun k hk e=>e.imp (fun e=>by rw [<- ho k hk];exact e) (fun e=>e)⟩
theorem kd1 {F:Nat->Prop} {w w':World} (h:Kept F w.drew w'):Kept F w w':=⟨h.1,h.2,h.3,h.4,h.5⟩
theorem tn_no {A:Ops} {h h':Hs} {g:Hs} {rs:List Rs} {ms:List Mk} {out:Option (Int × Jb × Bool)} (r:TickR A h h' rs ms out):TickR A (if false then g else h) h' rs ms out:=by simpa using r
theorem tn_yes {A:Ops} {h h':Hs} {g k:Hs} {rs:List Rs} {ms:List Mk} {out:Option (Int × Jb × Bool)} (e:h=g) (r:TickR A h h' rs ms out):TickR A (if true then g else k) h' rs ms out:=by subst e;simpa using r
theorem tn_step {A:Ops} {fl:Bool} {i:Nat} {s:Stt} {h h':Hs} {tk:Nat} {ss ss':List Sp} {rs:List Rs} {ms:List Mk} {out:Option (Int × Jb × Bool)} (t:TN A fl i s (h,tk,ss)) (h9:tk < 900) (r:TickR A (if fl then flN h h.t.ns h.t.ns.length else h) h' rs ms out) (hs:ss'=tickS h'.t.ns rs ms ss):TN A fl (i+1) s (h',tk+1,ss'):=by
 subst hs
 exact .step t h9 r
theorem FX.submit2 {B:Nat} {W:World} {own:Nat->Int} {tg:Nat->Int × Int} {w:World} {fb b mb:Nat} {h:Hs} {asks:Int} {tk:Nat} {v:Value} {ps:List Spv} (X:FX B W own tg w fb b mb h asks tk v ps) (q:Op) (hq:Tks w (tvO q) q.1.ts) (hqs:smallO q) (hl:h.ws.length<=63) :
  Calls Tryz.prog 11 #[pB b,vOp q] w fun e w'=>e=.returned (.tuple #[])/\∃ own',FX B W own' tg w' fb b mb ⟨h.now,h.t,h.rv,h.ws ++ [q.1]⟩ asks tk v ps/\Kept (fun k=>own k ≠ 0) w w'/\∀ k,k < w.heap.size->own' k=own k:=by
 refine(X.hx.submit q hq hqs hl).mono ?_
 rintro e w' ⟨rfl,own',hx,ho,hk⟩
 exact⟨rfl,own',X.host hx ho hk,hk,ho⟩
theorem FX.release2 {B:Nat} {W:World} {own:Nat->Int} {tg:Nat->Int × Int} {w:World} {fb b mb:Nat} {h:Hs} {asks:Int} {tk:Nat} {v:Value} {ps:List Spv} (X:FX B W own tg w fb b mb h asks tk v ps) (a2:Nat->Addr) (G:Eg W a2) (ad:Addr) (hgo:W.cell? ⟨4,0,none⟩=some (vE ad)) (hB:16<=B) {K0:Nat} (hok:TOk K0 h.now h.t h.rv) (i k tc:Int) :
  Calls Tryz.prog 13 #[pB b,.int .i64 i,.int .i64 k,.int .i64 tc] w fun e w'=>∃ ev own' h',e=.returned ev/\FX B W own' tg w' fb b mb h' asks tk v ps/\TOk K0 h'.now h'.t h'.rv/\h'.now=h.now/\h'.ws=h.ws/\h'.t=h.t/\Kept (fun k=>own k ≠ 0) w w'/\(∀ k,k < w.heap.size->own' k=own k)/\h'=relH h i k tc:=by
 obtain⟨lay,nv,gv,wv,ps2,qs2,hb⟩:=id X.hx.hb
 have hz:gbO lay i=none->relH h i k tc=h->Calls Tryz.prog 13 #[pB b,.int .i64 i,.int .i64 k,.int .i64 tc] w fun e w'=>∃ ev own' h',e=.returned ev/\FX B W own' tg w' fb b mb h' asks tk v ps/\TOk K0 h'.now h'.t h'.rv/\h'.now=h.now/\h'.ws=h.ws/\h'.t=h.t/\Kept (fun k=>own k ≠ 0) w w'/\(∀ k,k < w.heap.size->own' k=own k)/\h'=relH h i k tc:=fun hg hrl=>by
  refine(release_none hb i k tc ad hg ((X.hx.bl.cell (by show 4 < B;omega)).trans hgo)).mono ?_
  rintro e w' ⟨rfl,rfl⟩
  exact⟨_,own,h,rfl,X,hok,rfl,rfl,rfl,Kept.refl _ _,fun _ _=>rfl,hrl.symm⟩
 cases hr:h.rv i with
 |none=>exact hz (by unfold gbO;rw [(hb.dm i).mpr hr];rfl) (relH_none hr k tc)
 |some r=>
  cases hg:r.g with
  |none=>
   refine hz ?_ (relH_no hr hg k tc)
   cases hl:lay i with
   |none=>unfold gbO;rw [hl];rfl
   |some l=>
    unfold gbO
    rw [hl]
    exact(hb.rm i l r hl hr).no hg
  |some p=>
   obtain⟨pol,s⟩:=p
   refine(release_some hb i k tc a2 r pol s hr hg (hok.gok hr hg) (G.low X.hx.bl hB)).mono ?_
   rintro e w' ⟨rfl,own',lay',hb',ag,kp⟩
   exact⟨_,own',_,rfl,X.host (X.hx.call ⟨_,_,_,_,_,_,hb'⟩ kp) ag kp,hok.rel hr hg k tc,rfl,rfl,rfl,kp,ag,(relH_some hr hg k tc).symm⟩
theorem FL.release2 {B:Nat} {W:World} {tg:Nat->Int × Int} {fb b mb:Nat} {asks:Int} {tk:Nat} {v:Value} {ps:List Spv} {N:Nat} {own2 own5:Nat->Int} {w3 w':World} {h5:Hs} (F:FL B W tg fb b mb asks tk v ps N own2 w3 own5 h5 w') (a2:Nat->Addr) (G:Eg W a2) (ad:Addr) (hgo:W.cell? ⟨4,0,none⟩=some (vE ad)) (hB:16<=B) (i k tc:Int) :
  Calls Tryz.prog 13 #[pB b,.int .i64 i,.int .i64 k,.int .i64 tc] w' fun e w''=>∃ ev own6 h6,e=.returned ev/\FL B W tg fb b mb asks tk v ps N own2 w3 own6 h6 w''/\Kept (fun k=>own5 k ≠ 0) w' w''/\(∀ k,k < w'.heap.size->own6 k=own5 k)/\h6=relH h5 i k tc:=by
 obtain⟨hx,⟨K0,hd1,hd2,hd3⟩,hk,ho⟩:=F
 refine(hx.release2 a2 G ad hgo hB hd1 i k tc).mono ?_
 rintro e w'' ⟨ev,own6,h6,rfl,hx6,hok6,hn6,hw6,_,hk6,ho6,hr6⟩
 have hs:=hk.size
 refine⟨ev,own6,h6,rfl,⟨hx6,⟨K0,hok6,by rw [hw6];exact hd2,by rw [hn6];exact hd3⟩,hk.trans hk6 (fun k e=>?_),fun k hk=>(ho6 k (by omega)).trans (ho k hk)⟩,hk6,ho6,hr6⟩
 by_cases c:k < w3.heap.size
 ·exact .inl (by rw [<- ho k c];exact e)
 ·exact .inr (by omega)
def DoQ (A:Ops) (B:Nat) (W:World) (own:Nat->Int) (tg:Nat->Int × Int) (w:World) (fb b mb:Nat) (hS:Hs) (asks:Int) (tk:Nat) (ps:List Spv) (ki ci ct cn:Int) (q:Od) (N:Nat) (e:Ending) (w':World):Prop:=e=.returned (.bool true)/\∃ own' tg' v' ps' h' tk',FX B W own' tg' w' fb b mb h' asks tk' v' ps'/\DSt N tk' h'/\Bd (1000 * tk') ps'/\tk'<=900/\DoR A ki ci ct cn q (hS,tk,ps.map (·.1)) (h',tk',ps'.map (·.1))/\KO own tg fb w own' tg' w'
set_option maxHeartbeats 51200000 in
theorem do_two (A:Ops) (a a2:Nat->Addr) {B:Nat} {W:World} {own:Nat->Int} {tg:Nat->Int × Int} {w:World} {fb b mb:Nat} {hS:Hs} {asks:Int} {tk:Nat} {v:Value} {ps:List Spv} (X:FX B W own tg w fb b mb hS asks tk v ps) (ha:asks=0 ∨ asks=3) (E:Er6 W a) (G:Eg W a2) (ad:Addr) (hgo:W.cell? ⟨4,0,none⟩=some (vE ad)) (hB:16<=B) (N:Nat) (hd:DSt N tk hS) (hbd:Bd (1000 * tk) ps) (htk:tk<=900) (ki ci ct cn:Int) (q:Op) (hcw:ClW w (ki,ci,ct,cn,q)/\smallC (ki,ci,ct,cn,q)) (hN:N<=60) :
  Calls Tryz.prog 27 #[pB fb,.agg #[.int .i64 ki,.int .i64 ci,.int .i64 ct,.int .i64 cn,.int .i64 q.1.ki,.int .i64 q.1.id,.int .i64 q.1.sv.1,.int .i64 q.1.sv.2.1,.int .i64 q.1.sv.2.2,.int .i64 q.1.po,tvO q,.int .i64 q.1.tm]] w (DoQ A B W own tg w fb b mb hS asks tk ps ki ci ct cn q.1 (if ki=1 then N+1 else N)):=by
 obtain⟨⟨oki,oid,⟨o1,o2,o3⟩,opo,ots,otm⟩,ota,otc⟩:=q
 simp only [tvO]
 have HX0:=mH X
 have HE:=mH E
 have HG:=mH G
 have HGO:=mH hgo
 have HD:=mH hd
 have HBD:=mH hbd
 have HCW:=mH hcw
 have HN60:=mH hN
 obtain⟨x0,x1,x2,x3,f2,f3⟩:=HX0.out.cells
 clear X E G hgo hd hbd hcw hN
 by_cases k1:ki=1
 ·subst k1
  rw [if_pos rfl]
  go_enter Tryz.func27,Tryz.ntmps27
  go_wp2
  have X1:=mH (HX0.out.late (ba (Below.refl _ w) (.cells #[.int .i64 1,.int .i64 ci,.int .i64 ct,.int .i64 cn,.int .i64 oki,.int .i64 oid,.int .i64 o1,.int .i64 o2,.int .i64 o3,.int .i64 opo,.slice ota ots.length otc,.int .i64 otm] 42)))
  have HC1:=mH (heap_alloc_new w (.cells #[.int .i64 1,.int .i64 ci,.int .i64 ct,.int .i64 cn,.int .i64 oki,.int .i64 oid,.int .i64 o1,.int .i64 o2,.int .i64 o3,.int .i64 opo,.slice ota ots.length otc,.int .i64 otm] 42))
  have HNC:Hid (¬ FBk own tg fb w.heap.size):=mH (fun e=>by have:=(HX0.out.lt e).2;omega)
  have HW1:Hid (Below w.heap.size w (w.alloc (.cells #[.int .i64 1,.int .i64 ci,.int .i64 ct,.int .i64 cn,.int .i64 oki,.int .i64 oid,.int .i64 o1,.int .i64 o2,.int .i64 o3,.int .i64 opo,.slice ota ots.length otc,.int .i64 otm] 42))):=mH (ba (Below.refl _ w) _)
  generalize w.alloc (.cells #[.int .i64 1,.int .i64 ci,.int .i64 ct,.int .i64 cn,.int .i64 oki,.int .i64 oid,.int .i64 o1,.int .i64 o2,.int .i64 o3,.int .i64 opo,.slice ota ots.length otc,.int .i64 otm] 42)=W1 at X1 HC1 HW1 ⊢
  generalize w.heap.size=cb at HC1 HNC ⊢
  clear x0 x1 x2 x3 f2 f3
  have d0:=X1.out.cells.1
  have d1:W1.cell? ⟨cb,4,none⟩=some (.int .i64 oki):=cOb HC1.out rfl
  have d2:W1.cell? ⟨cb,5,none⟩=some (.int .i64 oid):=cOb HC1.out rfl
  have d3:W1.cell? ⟨cb,6,none⟩=some (.int .i64 o1):=cOb HC1.out rfl
  have d4:W1.cell? ⟨cb,7,none⟩=some (.int .i64 o2):=cOb HC1.out rfl
  have d5:W1.cell? ⟨cb,8,none⟩=some (.int .i64 o3):=cOb HC1.out rfl
  have d6:W1.cell? ⟨cb,9,none⟩=some (.int .i64 opo):=cOb HC1.out rfl
  have d7:W1.cell? ⟨cb,10,none⟩=some (.slice ota ots.length otc):=cOb HC1.out rfl
  have d8:W1.cell? ⟨cb,11,none⟩=some (.int .i64 otm):=cOb HC1.out rfl
  have hT:W1.drew.cell? ⟨fb,0,none⟩=some (pB b)/\W1.drew.cell? ⟨cb,4,none⟩=some (.int .i64 oki)/\W1.drew.cell? ⟨cb,5,none⟩=some (.int .i64 oid)/\W1.drew.cell? ⟨cb,6,none⟩=some (.int .i64 o1)/\W1.drew.cell? ⟨cb,7,none⟩=some (.int .i64 o2)/\W1.drew.cell? ⟨cb,8,none⟩=some (.int .i64 o3)/\W1.drew.cell? ⟨cb,9,none⟩=some (.int .i64 opo)/\W1.drew.cell? ⟨cb,10,none⟩=some (.slice ota ots.length otc)/\W1.drew.cell? ⟨cb,11,none⟩=some (.int .i64 otm):=⟨d0,d1,d2,d3,d4,d5,d6,d7,d8⟩
  refine wp_region_till (fun w'=>w'.cell? ⟨fb,0,none⟩=some (pB b)/\w'.cell? ⟨cb,4,none⟩=some (.int .i64 oki)/\w'.cell? ⟨cb,5,none⟩=some (.int .i64 oid)/\w'.cell? ⟨cb,6,none⟩=some (.int .i64 o1)/\w'.cell? ⟨cb,7,none⟩=some (.int .i64 o2)/\w'.cell? ⟨cb,8,none⟩=some (.int .i64 o3)/\w'.cell? ⟨cb,9,none⟩=some (.int .i64 opo)/\w'.cell? ⟨cb,10,none⟩=some (.slice ota ots.length otc)/\w'.cell? ⟨cb,11,none⟩=some (.int .i64 otm)) 6 (by kernel_rfl) ?_
  refine frE 0 13 (.pointer (some ⟨fb,0,none⟩)) rfl rfl (fun _=>hT) ?_
  (try simp only [sZ,sS])
  refine frE 1 14 (.pointer (some ⟨fb,0,none⟩)) rfl rfl (fun _=>hT) ?_
  (try simp only [sZ,sS])
  refine frE 2 15 (.pointer (some ⟨fb,0,none⟩)) rfl rfl (fun _=>hT) ?_
  (try simp only [sZ,sS])
  refine fiE 3 16 (pB b) rfl rfl hT ?_
  (try simp only [sZ,sS])
  refine frE 4 17 (.pointer (some ⟨cb,4,none⟩)) rfl rfl (fun _=>hT) ?_
  (try simp only [sZ,sS])
  refine fiE 5 18 (.agg #[.int .i64 oki,.int .i64 oid,.int .i64 o1,.int .i64 o2,.int .i64 o3,.int .i64 opo,.slice ota ots.length otc,.int .i64 otm]) rfl rfl hT ?_
  (try simp only [sZ,sS])
  refine wpT_ready (rs:=[6]) (by kernel_rfl) (by simp) (AllT.cons rfl (fun K2 hK2=>?_) AllT.nil)
  go_simp
  have HN:=(X1.out.late (Below.refl _ W1).drew).submit2 ((⟨oki,oid,(o1,o2,o3),opo,ots,otm⟩:Od),ota,otc) (((HCW.out.1.o.below HW1.out).below (Below.refl _ W1).drew).ts) HCW.out.2 (by obtain⟨K0,_,h1,_⟩:=HD.out;have h2:=HN60.out;omega)
  (with_reducible refine HN.mono ?_)
  clear HN
  rintro e w3 ⟨rfl,own3,hx3,hk3,ho3⟩
  have KK3:=mH (((KO.refl own tg fb w).late HW1.out).step (KO.host tg fb (kd1 hk3) ho3))
  clear hk3 ho3
  have X3:=mH hx3
  have D3:=mH (HD.out.sub (⟨oki,oid,(o1,o2,o3),opo,ots,otm⟩:Od))
  clear hx3 hT d0 d1 d2 d3 d4 d5 d6 d7 d8
  refine hK2.out _ _ (bool_no (by kernel_rfl)) ?_
  clear hK2 K2
  (try simp only [Act.put])
  refine wpT_done (by kernel_rfl) ?_ _
  go_wp2
  go_ret
  exact⟨by simp,_,_,_,_,_,tk,X3.out,D3.out,HBD.out,by omega,by unfold DoR;rw [if_pos rfl],KK3.out⟩
 ·rw [if_neg k1]
  by_cases k2:ki=2
  ·subst k2
   go_enter Tryz.func27,Tryz.ntmps27
   go_wp2
   have X1:=mH (HX0.out.late (ba (Below.refl _ w) (.cells #[.int .i64 2,.int .i64 ci,.int .i64 ct,.int .i64 cn,.int .i64 oki,.int .i64 oid,.int .i64 o1,.int .i64 o2,.int .i64 o3,.int .i64 opo,.slice ota ots.length otc,.int .i64 otm] 42)))
   have HC1:=mH (heap_alloc_new w (.cells #[.int .i64 2,.int .i64 ci,.int .i64 ct,.int .i64 cn,.int .i64 oki,.int .i64 oid,.int .i64 o1,.int .i64 o2,.int .i64 o3,.int .i64 opo,.slice ota ots.length otc,.int .i64 otm] 42))
   have HNC:Hid (¬ FBk own tg fb w.heap.size):=mH (fun e=>by have:=(HX0.out.lt e).2;omega)
   have HW1:Hid (Below w.heap.size w (w.alloc (.cells #[.int .i64 2,.int .i64 ci,.int .i64 ct,.int .i64 cn,.int .i64 oki,.int .i64 oid,.int .i64 o1,.int .i64 o2,.int .i64 o3,.int .i64 opo,.slice ota ots.length otc,.int .i64 otm] 42))):=mH (ba (Below.refl _ w) _)
   generalize w.alloc (.cells #[.int .i64 2,.int .i64 ci,.int .i64 ct,.int .i64 cn,.int .i64 oki,.int .i64 oid,.int .i64 o1,.int .i64 o2,.int .i64 o3,.int .i64 opo,.slice ota ots.length otc,.int .i64 otm] 42)=W1 at X1 HC1 HW1 ⊢
   generalize w.heap.size=cb at HC1 HNC ⊢
   clear x0 x1 x2 x3 f2 f3
   have d0:=X1.out.cells.1
   have d1:W1.cell? ⟨cb,1,none⟩=some (.int .i64 ci):=cOb HC1.out rfl
   have d2:W1.cell? ⟨cb,2,none⟩=some (.int .i64 ct):=cOb HC1.out rfl
   have d3:W1.cell? ⟨cb,3,none⟩=some (.int .i64 cn):=cOb HC1.out rfl
   have hT:W1.drew.cell? ⟨fb,0,none⟩=some (pB b)/\W1.drew.cell? ⟨cb,1,none⟩=some (.int .i64 ci)/\W1.drew.cell? ⟨cb,2,none⟩=some (.int .i64 ct)/\W1.drew.cell? ⟨cb,3,none⟩=some (.int .i64 cn):=⟨d0,d1,d2,d3⟩
   refine wp_region_till (fun w'=>w'.cell? ⟨fb,0,none⟩=some (pB b)/\w'.cell? ⟨cb,1,none⟩=some (.int .i64 ci)/\w'.cell? ⟨cb,2,none⟩=some (.int .i64 ct)/\w'.cell? ⟨cb,3,none⟩=some (.int .i64 cn)) 10 (by kernel_rfl) ?_
   refine frE 0 22 (.pointer (some ⟨fb,0,none⟩)) rfl rfl (fun _=>hT) ?_
   (try simp only [sZ,sS])
   refine frE 1 23 (.pointer (some ⟨fb,0,none⟩)) rfl rfl (fun _=>hT) ?_
   (try simp only [sZ,sS])
   refine frE 2 24 (.pointer (some ⟨fb,0,none⟩)) rfl rfl (fun _=>hT) ?_
   (try simp only [sZ,sS])
   refine fiE 3 25 (pB b) rfl rfl hT ?_
   (try simp only [sZ,sS])
   refine frE 4 26 (.pointer (some ⟨cb,1,none⟩)) rfl rfl (fun _=>hT) ?_
   (try simp only [sZ,sS])
   refine fiE 5 27 (.int .i64 ci) rfl rfl hT ?_
   (try simp only [sZ,sS])
   refine frE 6 28 (.pointer (some ⟨cb,2,none⟩)) rfl rfl (fun _=>hT) ?_
   (try simp only [sZ,sS])
   refine fiE 7 29 (.int .i64 ct) rfl rfl hT ?_
   (try simp only [sZ,sS])
   refine frE 8 30 (.pointer (some ⟨cb,3,none⟩)) rfl rfl (fun _=>hT) ?_
   (try simp only [sZ,sS])
   refine fiE 9 31 (.int .i64 cn) rfl rfl hT ?_
   (try simp only [sZ,sS])
   refine wpT_ready (rs:=[10]) (by kernel_rfl) (by simp) (AllT.cons rfl (fun K2 hK2=>?_) AllT.nil)
   go_simp
   obtain⟨K0,hd1,hd2,hd3⟩:=HD.out
   have HN:=(X1.out.late (Below.refl _ W1).drew).release2 a2 HG.out ad HGO.out hB hd1 ci ct cn
   (with_reducible refine HN.mono ?_)
   clear HN
   rintro e w3 ⟨ev,own3,h3,rfl,hx3,hok3,hn3,hw3,_,hk3,ho3,hrl⟩
   have KK3:=mH (((KO.refl own tg fb w).late HW1.out).step (KO.host tg fb (kd1 hk3) ho3))
   have HRL:=mH hrl
   clear hk3 ho3 hrl
   have X3:=mH hx3
   have D3:Hid (DSt N tk h3):=mH ⟨K0,hok3,by rw [hw3];exact hd2,by rw [hn3];exact hd3⟩
   clear hx3 hT d0 d1 d2 d3 hok3 hn3 hw3 hd1 hd2 hd3
   refine hK2.out _ _ (bool_no (by kernel_rfl)) ?_
   clear hK2 K2
   (try simp only [Act.put])
   refine wpT_done (by kernel_rfl) ?_ _
   go_wp2
   go_ret
   exact⟨by simp,_,_,_,_,_,tk,X3.out,D3.out,HBD.out,by omega,by unfold DoR;rw [if_neg (by decide),if_pos rfl,HRL.out],KK3.out⟩
  ·by_cases k3:ki=3
   ·subst k3
    go_enter Tryz.func27,Tryz.ntmps27
    go_wp2
    ·have X1:=mH (HX0.out.late (ba (Below.refl _ w) (.cells #[.int .i64 3,.int .i64 ci,.int .i64 ct,.int .i64 cn,.int .i64 oki,.int .i64 oid,.int .i64 o1,.int .i64 o2,.int .i64 o3,.int .i64 opo,.slice ota ots.length otc,.int .i64 otm] 42)))
     have HC1:=mH (heap_alloc_new w (.cells #[.int .i64 3,.int .i64 ci,.int .i64 ct,.int .i64 cn,.int .i64 oki,.int .i64 oid,.int .i64 o1,.int .i64 o2,.int .i64 o3,.int .i64 opo,.slice ota ots.length otc,.int .i64 otm] 42))
     have HNC:Hid (¬ FBk own tg fb w.heap.size):=mH (fun e=>by have:=(HX0.out.lt e).2;omega)
     have HW1:Hid (Below w.heap.size w (w.alloc (.cells #[.int .i64 3,.int .i64 ci,.int .i64 ct,.int .i64 cn,.int .i64 oki,.int .i64 oid,.int .i64 o1,.int .i64 o2,.int .i64 o3,.int .i64 opo,.slice ota ots.length otc,.int .i64 otm] 42))):=mH (ba (Below.refl _ w) _)
     generalize w.alloc (.cells #[.int .i64 3,.int .i64 ci,.int .i64 ct,.int .i64 cn,.int .i64 oki,.int .i64 oid,.int .i64 o1,.int .i64 o2,.int .i64 o3,.int .i64 opo,.slice ota ots.length otc,.int .i64 otm] 42)=W1 at X1 HC1 HW1 ⊢
     generalize w.heap.size=cb at HC1 HNC ⊢
     clear x0 x1 x2 x3 f2 f3
     have hM50:1<=50:=by omega
     go_loopw [40] (fun iv wr=>∃ (i:Nat) (own2:Nat->Int) (tg2:Nat->Int × Int) (tk2:Nat) (v2:Value) (ps2:List Spv) (h2:Hs),iv=.int .i64 (i:Int)/\i<=1/\tk2<=900/\Hid (FX B W own2 tg2 wr fb b mb h2 asks tk2 v2 ps2)/\Hid (DSt N tk2 h2)/\Hid (Bd (1000 * tk2) ps2)/\Hid (wr.heap[cb]?=some (.cells #[.int .i64 3,.int .i64 ci,.int .i64 ct,.int .i64 cn,.int .i64 oki,.int .i64 oid,.int .i64 o1,.int .i64 o2,.int .i64 o3,.int .i64 opo,.slice ota ots.length otc,.int .i64 otm] 42)/\¬ FBk own2 tg2 fb cb)/\Hid (TN A false i (hS,tk,ps.map (·.1)) (h2,tk2,ps2.map (·.1)))/\Hid (KO own tg fb w own2 tg2 wr)) (fun iv _=>1 - (intOf iv).toNat)
     case atStart=>exact⟨0,own,tg,tk,v,ps,hS,rfl,Nat.zero_le _,htk,X1,HD,HBD,mH ⟨HC1.out,HNC.out⟩,mH .zero,mH ((KO.refl own tg fb w).late HW1.out)⟩
     case round=>
      clear X1 HC1 HW1 HNC HD HBD
      obtain⟨i,own2,tg2,tk2,v2,ps2,h2,rfl,hi,htk2,X2,D2,HB2,HCB,HTN,HKO⟩:=hrel
      obtain⟨y0,y1,y2,y3,f2,f3⟩:=X2.out.cells
      have v0:=cOb (i:=0) HCB.out.1 rfl
      have v1:=cOb (i:=1) HCB.out.1 rfl
      have v2:=cOb (i:=2) HCB.out.1 rfl
      have v3:=cOb (i:=3) HCB.out.1 rfl
      by_cases hlt:i < 1
      ·have hii:(i:Int) < 1:=by omega
       by_cases h9:tk2 < 900
       ·have h9i:(tk2:Int) < 900:=by omega
        go_wp2_with (first
         |(go_at_call 48;obtain⟨K0,hd1,hd2,hd3⟩:=D2.out;have HN:=ftick_is A a K0 X2.out HE.out hB hd1 (by have:=HN60.out;omega) (by omega) (by omega) (by have:=HN60.out;omega) HB2.out h9;(with_reducible refine HN.mono ?_);clear HN;rintro e w4 ⟨h4,rs,ms,out,ra,rc,ma,mc,own4,tg4,v4,ps4,htr,rfl,_,hrm,hx4,hsp4,hbd4,hk4,ho4⟩;have KO4:=mH (HKO.out.step ⟨hk4,ho4⟩);have TN4:=mH (tn_step HTN.out h9 (tn_no htr) hsp4);obtain⟨hd4,hp4,hs4⟩:=D2.out.tick htr;have X4:=mH hx4;have D4:=mH hd4;have B4:=mH hbd4;have HC4:=mH ((hk4.block _ (lOh HCB.out.1) HCB.out.2).trans HCB.out.1);have HN4:Hid (¬ FBk own4 tg4 fb cb):=mH (fun e=>HCB.out.2 (ho4 cb (lOh HCB.out.1) e));have HEA:=mH (each_path hx4 ha h2.now ra ma rs.length rc mc ms out hrm htr.me hp4 (hs4 HN60.out));clear htr hrm hx4 hsp4 hbd4 hk4 ho4 hd4 hp4 hs4 hd1 hd2 hd3 y0 y1 y2 y3 f2 f3 v0 v1 v2 v3)
         |(go_at_call 47;(with_reducible refine HEA.out.mono ?_);rintro e w5 ⟨rfl,b5⟩;have X5:=mH (X4.out.late b5);have HC5:=mH ((b5.block _ (lOh HC4.out)).trans HC4.out);have KO5:=mH (KO4.out.late b5);clear b5))
        go_roundw
        case rel=>exact⟨i+1,own4,tg4,tk2+1,v4,ps4,h4,by go_num,by omega,by omega,X5,D4,B4,mH ⟨HC5.out,HN4.out⟩,TN4,KO5⟩
        case measure=>simp [intOf];omega
       ·have h9i:¬ (tk2:Int) < 900:=by omega
        go_wp2
        go_ret
        exact⟨by simp,_,_,_,_,_,tk2,X2.out,D2.out,HB2.out,by omega,by unfold DoR;rw [if_neg (by decide),if_neg (by decide),if_pos (.inl rfl)];exact⟨i,HTN.out,by omega,(show i=(min (max cn 1) 50).toNat ∨ 900<=tk2 from by omega)⟩,HKO.out⟩
      ·have hii:¬ (i:Int) < 1:=by omega
       go_wp2
       go_ret
       exact⟨by simp,_,_,_,_,_,tk2,X2.out,D2.out,HB2.out,by omega,by unfold DoR;rw [if_neg (by decide),if_neg (by decide),if_pos (.inl rfl)];exact⟨i,HTN.out,by omega,(show i=(min (max cn 1) 50).toNat ∨ 900<=tk2 from by omega)⟩,HKO.out⟩
    ·have X1:=mH (HX0.out.late (ba (Below.refl _ w) (.cells #[.int .i64 3,.int .i64 ci,.int .i64 ct,.int .i64 cn,.int .i64 oki,.int .i64 oid,.int .i64 o1,.int .i64 o2,.int .i64 o3,.int .i64 opo,.slice ota ots.length otc,.int .i64 otm] 42)))
     have HC1:=mH (heap_alloc_new w (.cells #[.int .i64 3,.int .i64 ci,.int .i64 ct,.int .i64 cn,.int .i64 oki,.int .i64 oid,.int .i64 o1,.int .i64 o2,.int .i64 o3,.int .i64 opo,.slice ota ots.length otc,.int .i64 otm] 42))
     have HNC:Hid (¬ FBk own tg fb w.heap.size):=mH (fun e=>by have:=(HX0.out.lt e).2;omega)
     have HW1:Hid (Below w.heap.size w (w.alloc (.cells #[.int .i64 3,.int .i64 ci,.int .i64 ct,.int .i64 cn,.int .i64 oki,.int .i64 oid,.int .i64 o1,.int .i64 o2,.int .i64 o3,.int .i64 opo,.slice ota ots.length otc,.int .i64 otm] 42))):=mH (ba (Below.refl _ w) _)
     generalize w.alloc (.cells #[.int .i64 3,.int .i64 ci,.int .i64 ct,.int .i64 cn,.int .i64 oki,.int .i64 oid,.int .i64 o1,.int .i64 o2,.int .i64 o3,.int .i64 opo,.slice ota ots.length otc,.int .i64 otm] 42)=W1 at X1 HC1 HW1 ⊢
     generalize w.heap.size=cb at HC1 HNC ⊢
     clear x0 x1 x2 x3 f2 f3
     have hM50:50<=50:=by omega
     go_loopw [40] (fun iv wr=>∃ (i:Nat) (own2:Nat->Int) (tg2:Nat->Int × Int) (tk2:Nat) (v2:Value) (ps2:List Spv) (h2:Hs),iv=.int .i64 (i:Int)/\i<=50/\tk2<=900/\Hid (FX B W own2 tg2 wr fb b mb h2 asks tk2 v2 ps2)/\Hid (DSt N tk2 h2)/\Hid (Bd (1000 * tk2) ps2)/\Hid (wr.heap[cb]?=some (.cells #[.int .i64 3,.int .i64 ci,.int .i64 ct,.int .i64 cn,.int .i64 oki,.int .i64 oid,.int .i64 o1,.int .i64 o2,.int .i64 o3,.int .i64 opo,.slice ota ots.length otc,.int .i64 otm] 42)/\¬ FBk own2 tg2 fb cb)/\Hid (TN A false i (hS,tk,ps.map (·.1)) (h2,tk2,ps2.map (·.1)))/\Hid (KO own tg fb w own2 tg2 wr)) (fun iv _=>50 - (intOf iv).toNat)
     case atStart=>exact⟨0,own,tg,tk,v,ps,hS,rfl,Nat.zero_le _,htk,X1,HD,HBD,mH ⟨HC1.out,HNC.out⟩,mH .zero,mH ((KO.refl own tg fb w).late HW1.out)⟩
     case round=>
      clear X1 HC1 HW1 HNC HD HBD
      obtain⟨i,own2,tg2,tk2,v2,ps2,h2,rfl,hi,htk2,X2,D2,HB2,HCB,HTN,HKO⟩:=hrel
      obtain⟨y0,y1,y2,y3,f2,f3⟩:=X2.out.cells
      have v0:=cOb (i:=0) HCB.out.1 rfl
      have v1:=cOb (i:=1) HCB.out.1 rfl
      have v2:=cOb (i:=2) HCB.out.1 rfl
      have v3:=cOb (i:=3) HCB.out.1 rfl
      by_cases hlt:i < 50
      ·have hii:(i:Int) < 50:=by omega
       by_cases h9:tk2 < 900
       ·have h9i:(tk2:Int) < 900:=by omega
        go_wp2_with (first
         |(go_at_call 48;obtain⟨K0,hd1,hd2,hd3⟩:=D2.out;have HN:=ftick_is A a K0 X2.out HE.out hB hd1 (by have:=HN60.out;omega) (by omega) (by omega) (by have:=HN60.out;omega) HB2.out h9;(with_reducible refine HN.mono ?_);clear HN;rintro e w4 ⟨h4,rs,ms,out,ra,rc,ma,mc,own4,tg4,v4,ps4,htr,rfl,_,hrm,hx4,hsp4,hbd4,hk4,ho4⟩;have KO4:=mH (HKO.out.step ⟨hk4,ho4⟩);have TN4:=mH (tn_step HTN.out h9 (tn_no htr) hsp4);obtain⟨hd4,hp4,hs4⟩:=D2.out.tick htr;have X4:=mH hx4;have D4:=mH hd4;have B4:=mH hbd4;have HC4:=mH ((hk4.block _ (lOh HCB.out.1) HCB.out.2).trans HCB.out.1);have HN4:Hid (¬ FBk own4 tg4 fb cb):=mH (fun e=>HCB.out.2 (ho4 cb (lOh HCB.out.1) e));have HEA:=mH (each_path hx4 ha h2.now ra ma rs.length rc mc ms out hrm htr.me hp4 (hs4 HN60.out));clear htr hrm hx4 hsp4 hbd4 hk4 ho4 hd4 hp4 hs4 hd1 hd2 hd3 y0 y1 y2 y3 f2 f3 v0 v1 v2 v3)
         |(go_at_call 47;(with_reducible refine HEA.out.mono ?_);rintro e w5 ⟨rfl,b5⟩;have X5:=mH (X4.out.late b5);have HC5:=mH ((b5.block _ (lOh HC4.out)).trans HC4.out);have KO5:=mH (KO4.out.late b5);clear b5))
        go_roundw
        case rel=>exact⟨i+1,own4,tg4,tk2+1,v4,ps4,h4,by go_num,by omega,by omega,X5,D4,B4,mH ⟨HC5.out,HN4.out⟩,TN4,KO5⟩
        case measure=>simp [intOf];omega
       ·have h9i:¬ (tk2:Int) < 900:=by omega
        go_wp2
        go_ret
        exact⟨by simp,_,_,_,_,_,tk2,X2.out,D2.out,HB2.out,by omega,by unfold DoR;rw [if_neg (by decide),if_neg (by decide),if_pos (.inl rfl)];exact⟨i,HTN.out,by omega,(show i=(min (max cn 1) 50).toNat ∨ 900<=tk2 from by omega)⟩,HKO.out⟩
      ·have hii:¬ (i:Int) < 50:=by omega
       go_wp2
       go_ret
       exact⟨by simp,_,_,_,_,_,tk2,X2.out,D2.out,HB2.out,by omega,by unfold DoR;rw [if_neg (by decide),if_neg (by decide),if_pos (.inl rfl)];exact⟨i,HTN.out,by omega,(show i=(min (max cn 1) 50).toNat ∨ 900<=tk2 from by omega)⟩,HKO.out⟩
    ·have X1:=mH (HX0.out.late (ba (Below.refl _ w) (.cells #[.int .i64 3,.int .i64 ci,.int .i64 ct,.int .i64 cn,.int .i64 oki,.int .i64 oid,.int .i64 o1,.int .i64 o2,.int .i64 o3,.int .i64 opo,.slice ota ots.length otc,.int .i64 otm] 42)))
     have HC1:=mH (heap_alloc_new w (.cells #[.int .i64 3,.int .i64 ci,.int .i64 ct,.int .i64 cn,.int .i64 oki,.int .i64 oid,.int .i64 o1,.int .i64 o2,.int .i64 o3,.int .i64 opo,.slice ota ots.length otc,.int .i64 otm] 42))
     have HNC:Hid (¬ FBk own tg fb w.heap.size):=mH (fun e=>by have:=(HX0.out.lt e).2;omega)
     have HW1:Hid (Below w.heap.size w (w.alloc (.cells #[.int .i64 3,.int .i64 ci,.int .i64 ct,.int .i64 cn,.int .i64 oki,.int .i64 oid,.int .i64 o1,.int .i64 o2,.int .i64 o3,.int .i64 opo,.slice ota ots.length otc,.int .i64 otm] 42))):=mH (ba (Below.refl _ w) _)
     generalize w.alloc (.cells #[.int .i64 3,.int .i64 ci,.int .i64 ct,.int .i64 cn,.int .i64 oki,.int .i64 oid,.int .i64 o1,.int .i64 o2,.int .i64 o3,.int .i64 opo,.slice ota ots.length otc,.int .i64 otm] 42)=W1 at X1 HC1 HW1 ⊢
     generalize w.heap.size=cb at HC1 HNC ⊢
     clear x0 x1 x2 x3 f2 f3
     have hM50:cn.toNat<=50:=by omega
     go_loopw [40] (fun iv wr=>∃ (i:Nat) (own2:Nat->Int) (tg2:Nat->Int × Int) (tk2:Nat) (v2:Value) (ps2:List Spv) (h2:Hs),iv=.int .i64 (i:Int)/\i<=cn.toNat/\tk2<=900/\Hid (FX B W own2 tg2 wr fb b mb h2 asks tk2 v2 ps2)/\Hid (DSt N tk2 h2)/\Hid (Bd (1000 * tk2) ps2)/\Hid (wr.heap[cb]?=some (.cells #[.int .i64 3,.int .i64 ci,.int .i64 ct,.int .i64 cn,.int .i64 oki,.int .i64 oid,.int .i64 o1,.int .i64 o2,.int .i64 o3,.int .i64 opo,.slice ota ots.length otc,.int .i64 otm] 42)/\¬ FBk own2 tg2 fb cb)/\Hid (TN A false i (hS,tk,ps.map (·.1)) (h2,tk2,ps2.map (·.1)))/\Hid (KO own tg fb w own2 tg2 wr)) (fun iv _=>cn.toNat - (intOf iv).toNat)
     case atStart=>exact⟨0,own,tg,tk,v,ps,hS,rfl,Nat.zero_le _,htk,X1,HD,HBD,mH ⟨HC1.out,HNC.out⟩,mH .zero,mH ((KO.refl own tg fb w).late HW1.out)⟩
     case round=>
      clear X1 HC1 HW1 HNC HD HBD
      obtain⟨i,own2,tg2,tk2,v2,ps2,h2,rfl,hi,htk2,X2,D2,HB2,HCB,HTN,HKO⟩:=hrel
      obtain⟨y0,y1,y2,y3,f2,f3⟩:=X2.out.cells
      have v0:=cOb (i:=0) HCB.out.1 rfl
      have v1:=cOb (i:=1) HCB.out.1 rfl
      have v2:=cOb (i:=2) HCB.out.1 rfl
      have v3:=cOb (i:=3) HCB.out.1 rfl
      by_cases hlt:i < cn.toNat
      ·have hii:(i:Int) < cn:=by omega
       by_cases h9:tk2 < 900
       ·have h9i:(tk2:Int) < 900:=by omega
        go_wp2_with (first
         |(go_at_call 48;obtain⟨K0,hd1,hd2,hd3⟩:=D2.out;have HN:=ftick_is A a K0 X2.out HE.out hB hd1 (by have:=HN60.out;omega) (by omega) (by omega) (by have:=HN60.out;omega) HB2.out h9;(with_reducible refine HN.mono ?_);clear HN;rintro e w4 ⟨h4,rs,ms,out,ra,rc,ma,mc,own4,tg4,v4,ps4,htr,rfl,_,hrm,hx4,hsp4,hbd4,hk4,ho4⟩;have KO4:=mH (HKO.out.step ⟨hk4,ho4⟩);have TN4:=mH (tn_step HTN.out h9 (tn_no htr) hsp4);obtain⟨hd4,hp4,hs4⟩:=D2.out.tick htr;have X4:=mH hx4;have D4:=mH hd4;have B4:=mH hbd4;have HC4:=mH ((hk4.block _ (lOh HCB.out.1) HCB.out.2).trans HCB.out.1);have HN4:Hid (¬ FBk own4 tg4 fb cb):=mH (fun e=>HCB.out.2 (ho4 cb (lOh HCB.out.1) e));have HEA:=mH (each_path hx4 ha h2.now ra ma rs.length rc mc ms out hrm htr.me hp4 (hs4 HN60.out));clear htr hrm hx4 hsp4 hbd4 hk4 ho4 hd4 hp4 hs4 hd1 hd2 hd3 y0 y1 y2 y3 f2 f3 v0 v1 v2 v3)
         |(go_at_call 47;(with_reducible refine HEA.out.mono ?_);rintro e w5 ⟨rfl,b5⟩;have X5:=mH (X4.out.late b5);have HC5:=mH ((b5.block _ (lOh HC4.out)).trans HC4.out);have KO5:=mH (KO4.out.late b5);clear b5))
        go_roundw
        case rel=>exact⟨i+1,own4,tg4,tk2+1,v4,ps4,h4,by go_num,by omega,by omega,X5,D4,B4,mH ⟨HC5.out,HN4.out⟩,TN4,KO5⟩
        case measure=>simp [intOf];omega
       ·have h9i:¬ (tk2:Int) < 900:=by omega
        go_wp2
        go_ret
        exact⟨by simp,_,_,_,_,_,tk2,X2.out,D2.out,HB2.out,by omega,by unfold DoR;rw [if_neg (by decide),if_neg (by decide),if_pos (.inl rfl)];exact⟨i,HTN.out,by omega,(show i=(min (max cn 1) 50).toNat ∨ 900<=tk2 from by omega)⟩,HKO.out⟩
      ·have hii:¬ (i:Int) < cn:=by omega
       go_wp2
       go_ret
       exact⟨by simp,_,_,_,_,_,tk2,X2.out,D2.out,HB2.out,by omega,by unfold DoR;rw [if_neg (by decide),if_neg (by decide),if_pos (.inl rfl)];exact⟨i,HTN.out,by omega,(show i=(min (max cn 1) 50).toNat ∨ 900<=tk2 from by omega)⟩,HKO.out⟩
   ·by_cases k4:ki=4
    ·subst k4
     go_enter Tryz.func27,Tryz.ntmps27
     go_wp2
     ·have X1:=mH (HX0.out.late (ba (Below.refl _ w) (.cells #[.int .i64 4,.int .i64 ci,.int .i64 ct,.int .i64 cn,.int .i64 oki,.int .i64 oid,.int .i64 o1,.int .i64 o2,.int .i64 o3,.int .i64 opo,.slice ota ots.length otc,.int .i64 otm] 42)))
      have HC1:=mH (heap_alloc_new w (.cells #[.int .i64 4,.int .i64 ci,.int .i64 ct,.int .i64 cn,.int .i64 oki,.int .i64 oid,.int .i64 o1,.int .i64 o2,.int .i64 o3,.int .i64 opo,.slice ota ots.length otc,.int .i64 otm] 42))
      have HNC:Hid (¬ FBk own tg fb w.heap.size):=mH (fun e=>by have:=(HX0.out.lt e).2;omega)
      have HW1:Hid (Below w.heap.size w (w.alloc (.cells #[.int .i64 4,.int .i64 ci,.int .i64 ct,.int .i64 cn,.int .i64 oki,.int .i64 oid,.int .i64 o1,.int .i64 o2,.int .i64 o3,.int .i64 opo,.slice ota ots.length otc,.int .i64 otm] 42))):=mH (ba (Below.refl _ w) _)
      generalize w.alloc (.cells #[.int .i64 4,.int .i64 ci,.int .i64 ct,.int .i64 cn,.int .i64 oki,.int .i64 oid,.int .i64 o1,.int .i64 o2,.int .i64 o3,.int .i64 opo,.slice ota ots.length otc,.int .i64 otm] 42)=W1 at X1 HC1 HW1 ⊢
      generalize w.heap.size=cb at HC1 HNC ⊢
      clear x0 x1 x2 x3 f2 f3
      have hM50:1<=50:=by omega
      go_loopw [40] (fun iv wr=>∃ (i:Nat) (own2:Nat->Int) (tg2:Nat->Int × Int) (tk2:Nat) (v2:Value) (ps2:List Spv) (h2:Hs),iv=.int .i64 (i:Int)/\i<=1/\tk2<=900/\Hid (FX B W own2 tg2 wr fb b mb h2 asks tk2 v2 ps2)/\Hid (DSt N tk2 h2)/\Hid (Bd (1000 * tk2) ps2)/\Hid (wr.heap[cb]?=some (.cells #[.int .i64 4,.int .i64 ci,.int .i64 ct,.int .i64 cn,.int .i64 oki,.int .i64 oid,.int .i64 o1,.int .i64 o2,.int .i64 o3,.int .i64 opo,.slice ota ots.length otc,.int .i64 otm] 42)/\¬ FBk own2 tg2 fb cb)/\Hid (TN A true i (hS,tk,ps.map (·.1)) (h2,tk2,ps2.map (·.1)))/\Hid (KO own tg fb w own2 tg2 wr)) (fun iv _=>1 - (intOf iv).toNat)
      case atStart=>exact⟨0,own,tg,tk,v,ps,hS,rfl,Nat.zero_le _,htk,X1,HD,HBD,mH ⟨HC1.out,HNC.out⟩,mH .zero,mH ((KO.refl own tg fb w).late HW1.out)⟩
      case round=>
       clear X1 HC1 HW1 HNC HD HBD
       obtain⟨i,own2,tg2,tk2,v2,ps2,h2,rfl,hi,htk2,X2,D2,HB2,HCB,HTN,HKO⟩:=hrel
       obtain⟨y0,y1,y2,y3,f2,f3⟩:=X2.out.cells
       have v0:=cOb (i:=0) HCB.out.1 rfl
       have v1:=cOb (i:=1) HCB.out.1 rfl
       have v2:=cOb (i:=2) HCB.out.1 rfl
       have v3:=cOb (i:=3) HCB.out.1 rfl
       by_cases hlt:i < 1
       ·have hii:(i:Int) < 1:=by omega
        by_cases h9:tk2 < 900
        ·have h9i:(tk2:Int) < 900:=by omega
         obtain⟨K0,hd1,hd2,hd3⟩:=D2.out
         have hsm:h2.t.Sm 1000:=⟨by have:=hd1.sm.n;have:=HN60.out;omega,by have:=hd1.sm.g;have:=HN60.out;omega,by have:=hd1.sm.l;have:=HN60.out;omega,hd1.sm.s⟩
         have HSM:=mH hsm
         clear hsm hd1 hd2 hd3
         go_wp2_with (go_at_call 18;have HN:=HX.tree X2.out.hx HSM.out;(with_reducible refine HN.mono ?_);clear HN;rintro e w3 ⟨nv,gv,qs,rfl,hto,hnd,hx3,b3⟩;obtain⟨na,nc,rfl,_⟩:=own_sh hto.nown;have hfr:∀ W',(Instr.field 30 (vTr (.slice na qs.length nc) gv h2.t) 0).run Tryz.prog W'=.ok (.slice na qs.length nc) W':=fun W'=>field_tree _ _ _ W';have X3:=mH (X2.out.late b3);have HTO:=mH hto;have HND:=mH hnd;have HC3:=mH ((b3.block _ (lOh HCB.out.1)).trans HCB.out.1);have HB3:=mH b3;have HZ3:=mH (fun k (hk:wr.heap.size<=k)=>X2.out.hx.zero hk);clear hto hnd hx3 b3 y0 y1 y2 y3 f2 f3 v0 v1 v2 v3)
         have hql:qs.length<=1000:=by have h1:=HSM.out.n;rw [<- HND.out,List.length_map] at h1;exact h1
         have hqli:(qs.length:Int)<=1000:=by omega
         clear hfr
         have HQ3:Hid (RowIn 7 c7 w3 (.slice na qs.length nc) qs):=mH (RowIn.of_owns (n:=7) (f:=c7) (fun _=>rfl) (by omega) HTO.out.nown)
         have HNB:Hid (∀ k,(Value.slice na qs.length nc).ownBlock=some k->own2 k=0):=mH (fun k e=>HZ3.out k (HTO.out.nown.lt k e).1)
         have HTK:Hid (∀ t ∈ qs,Tks w3 (tvN t) t.1.ts/\(∀ k,(tvN t).ownBlock=some k->own2 k=0)/\t.1.ts.length<=8):=mH (fun t ht=>by
          have h8:=HSM.out.s t.1 (by rw [<- HND.out];exact List.mem_map.mpr ⟨t,ht,rfl⟩)
          obtain⟨a9,c9,e9,h9t⟩:=tks_of_owns (by omega) (HTO.out.tk t ht)
          exact⟨by rw [e9];exact h9t,fun k e=>HZ3.out k ((HTO.out.tk t ht).lt k e).1,h8⟩)
         go_loopw [57] (fun jv w5=>∃ (j:Nat) (own5:Nat->Int) (h5:Hs),jv=.int .i64 (j:Int)/\j<=qs.length/\Hid (FL B W tg2 fb b mb asks tk2 v2 ps2 N own2 w3 own5 h5 w5/\h5=flN h2 (nds qs) j)) (fun jv _=>qs.length - (intOf jv).toNat)
         case atStart=>exact⟨0,own2,h2,rfl,Nat.zero_le _,mH ⟨⟨X3.out,D2.out,Kept.refl _ _,fun _ _=>rfl⟩,rfl⟩⟩
         case round=>
          rename World=>w5
          clear X3
          obtain⟨j,own5,h5,rfl,hj,HF⟩:=hrel
          by_cases hlt2:j < qs.length
          ·have HQ5:=HQ3.out.kept HF.out.1.2.2.1 (fun k e f=>f (HNB.out k e))
           obtain⟨b7,o7,x,hna,hx,hat⟩:=HQ5.at (Below.refl _ _) j hlt2
           subst hna
           obtain⟨q0,q1,q2,q3,q4,q5,q6⟩:=seven hat
           have HXT:=mH (HTK.out x (List.mem_of_getElem? hx))
           have HXN:=mH (flN_step (h:=h2) (nds_at hx))
           clear hat hx HQ5
           obtain⟨⟨nid,npa,⟨nk,nq,nt⟩,npo,nts⟩,nta,ntc⟩:=x
           simp only [tvN] at q0 q1 q2 q3 q4 q5 q6
           simp only at HXN
           have hjj:(j:Int) < qs.length:=by omega
           have hts:nts.length<=8:=HXT.out.2.2
           have htsi:(nts.length:Int)<=8:=by omega
           go_wp2
           have HF7:=mH (And.intro (HF.out.1.late (ba (Below.refl _ w5) (.cells #[.int .i64 nid,.int .i64 npa,.int .i64 nk,.int .i64 nq,.int .i64 nt,.int .i64 npo,.slice nta nts.length ntc] 69))) HF.out.2)
           have HB7:Hid ((w5.alloc (.cells #[.int .i64 nid,.int .i64 npa,.int .i64 nk,.int .i64 nq,.int .i64 nt,.int .i64 npo,.slice nta nts.length ntc] 69)).heap[w5.heap.size]?=some (.cells #[.int .i64 nid,.int .i64 npa,.int .i64 nk,.int .i64 nq,.int .i64 nt,.int .i64 npo,.slice nta nts.length ntc] 69)/\own5 w5.heap.size=0/\w3.heap.size<=w5.heap.size):=mH ⟨heap_alloc_new w5 _,HF.out.1.1.hx.zero (Nat.le_refl _),HF.out.1.2.2.1.size⟩
           generalize w5.alloc (.cells #[.int .i64 nid,.int .i64 npa,.int .i64 nk,.int .i64 nq,.int .i64 nt,.int .i64 npo,.slice nta nts.length ntc] 69)=w7 at HF7 HB7 ⊢
           generalize w5.heap.size=bn at HB7 ⊢
           clear q0 q1 q2 q3 q4 q5 q6 HF
           go_loopw [64] (fun lv w6=>∃ (l:Nat) (own6:Nat->Int) (h6:Hs),lv=.int .i64 (l:Int)/\l<=nts.length/\Hid (FL B W tg2 fb b mb asks tk2 v2 ps2 N own2 w3 own6 h6 w6/\h6=relN (flN h2 (nds qs) j) (⟨nid,npa,(nk,nq,nt),npo,nts⟩:Nd) l)/\Hid (w6.heap[bn]?=some (.cells #[.int .i64 nid,.int .i64 npa,.int .i64 nk,.int .i64 nq,.int .i64 nt,.int .i64 npo,.slice nta nts.length ntc] 69)/\own6 bn=0/\w3.heap.size<=bn)) (fun lv _=>nts.length - (intOf lv).toNat)
           case atStart=>exact⟨0,own5,h5,rfl,Nat.zero_le _,mH ⟨HF7.out.1,HF7.out.2⟩,HB7⟩
           case round=>
            rename World=>w8
            clear HF7 HB7
            obtain⟨l,own6,h6,rfl,hl,HF8,HB8⟩:=hrel
            by_cases hlt3:l < nts.length
            ·have HT8:=HXT.out.1.kept HF8.out.1.2.2.1 (fun k e _ f=>f (HXT.out.2.1 k e))
             obtain⟨b9,o9,tc0,tp,td,tsl,hta,htx,p0,p1,p2,p3⟩:=HT8.at (Below.refl _ _) l hlt3
             subst hta
             have HRS:=mH (relN_step (h:=flN h2 (nds qs) j) (n:=(⟨nid,npa,(nk,nq,nt),npo,nts⟩:Nd)) (show (⟨nid,npa,(nk,nq,nt),npo,nts⟩:Nd).ts[l]?=some (tc0,tp,td,tsl) from htx))
             clear htx HT8
             have hll:(l:Int) < nts.length:=by omega
             go_wp2
             have HF9:=mH (HF8.out.1.late (ba (Below.refl _ w8) (.cells #[.int .i64 tc0,.int .i64 tp,.int .i64 td,.int .i64 tsl] 45)))
             have HE8:=mH HF8.out.2
             have HB9:Hid ((w8.alloc (.cells #[.int .i64 tc0,.int .i64 tp,.int .i64 td,.int .i64 tsl] 45)).heap[bn]?=some (.cells #[.int .i64 nid,.int .i64 npa,.int .i64 nk,.int .i64 nq,.int .i64 nt,.int .i64 npo,.slice (some ⟨b9,o9,none⟩) nts.length ntc] 69)/\own6 bn=0/\w3.heap.size<=bn):=mH ⟨(heap_alloc_old _ _ (lOh HB8.out.1)).trans HB8.out.1,HB8.out.2⟩
             have HT9:=mH (heap_alloc_new w8 (.cells #[.int .i64 tc0,.int .i64 tp,.int .i64 td,.int .i64 tsl] 45))
             generalize w8.alloc (.cells #[.int .i64 tc0,.int .i64 tp,.int .i64 td,.int .i64 tsl] 45)=w9 at HF9 HB9 HT9 ⊢
             generalize w8.heap.size=bt at HT9 ⊢
             clear p0 p1 p2 p3 HF8 HB8
             have d0:=HF9.out.1.cells.1
             have d1:w9.cell? ⟨bn,0,none⟩=some (.int .i64 nid):=cOb HB9.out.1 rfl
             have d2:w9.cell? ⟨bt,0,none⟩=some (.int .i64 tc0):=cOb HT9.out rfl
             have hT:w9.drew.cell? ⟨fb,0,none⟩=some (pB b)/\w9.drew.cell? ⟨bn,0,none⟩=some (.int .i64 nid)/\w9.drew.cell? ⟨bt,0,none⟩=some (.int .i64 tc0):=⟨d0,d1,d2⟩
             refine wp_region_till (fun w'=>w'.cell? ⟨fb,0,none⟩=some (pB b)/\w'.cell? ⟨bn,0,none⟩=some (.int .i64 nid)/\w'.cell? ⟨bt,0,none⟩=some (.int .i64 tc0)) 9 (by kernel_rfl) ?_
             refine frE 0 69 (.pointer (some ⟨fb,0,none⟩)) rfl rfl (fun _=>hT) ?_
             (try simp only [sZ,sS])
             refine frE 1 70 (.pointer (some ⟨fb,0,none⟩)) rfl rfl (fun _=>hT) ?_
             (try simp only [sZ,sS])
             refine frE 2 71 (.pointer (some ⟨fb,0,none⟩)) rfl rfl (fun _=>hT) ?_
             (try simp only [sZ,sS])
             refine fiE 3 72 (pB b) rfl rfl hT ?_
             (try simp only [sZ,sS])
             refine frE 4 73 (.pointer (some ⟨bn,0,none⟩)) rfl rfl (fun _=>hT) ?_
             (try simp only [sZ,sS])
             refine fiE 5 74 (.int .i64 nid) rfl rfl hT ?_
             (try simp only [sZ,sS])
             refine frE 6 75 (.int .i64 (l:Int)) rfl rfl (fun _=>hT) ?_
             (try simp only [sZ,sS])
             refine frE 7 76 (.pointer (some ⟨bt,0,none⟩)) rfl rfl (fun _=>hT) ?_
             (try simp only [sZ,sS])
             refine fiE 8 77 (.int .i64 tc0) rfl rfl hT ?_
             (try simp only [sZ,sS])
             refine wpT_ready (rs:=[9]) (by kernel_rfl) (by simp) (AllT.cons rfl (fun K2 hK2=>?_) AllT.nil)
             go_simp
             have HN:=(HF9.out.late (Below.refl _ w9).drew).release2 a2 HG.out ad HGO.out hB nid (l:Int) tc0
             (with_reducible refine HN.mono ?_)
             clear HN
             rintro e w10 ⟨ev,own7,h7,rfl,hf7,hk7,ho7,hr7⟩
             have HF10:Hid (FL B W tg2 fb b mb asks tk2 v2 ps2 N own2 w3 own7 h7 w10/\h7=relN (flN h2 (nds qs) j) (⟨nid,npa,(nk,nq,nt),npo,nts⟩:Nd) (l+1)):=mH ⟨hf7,by rw [hr7,HE8.out];exact HRS.out.symm⟩
             clear hr7
             have HB10:Hid (w10.heap[bn]?=some (.cells #[.int .i64 nid,.int .i64 npa,.int .i64 nk,.int .i64 nq,.int .i64 nt,.int .i64 npo,.slice (some ⟨b9,o9,none⟩) nts.length ntc] 69)/\own7 bn=0/\w3.heap.size<=bn):=mH ⟨(hk7.block bn (lOh HB9.out.1) (fun e=>e HB9.out.2.1)).trans HB9.out.1,(ho7 bn (lOh HB9.out.1)).trans HB9.out.2.1,HB9.out.2.2⟩
             clear hf7 hk7 ho7 hT d0 d1 d2
             refine hK2.out _ _ (bool_no (by kernel_rfl)) ?_
             clear hK2 K2
             (try simp only [Act.put])
             refine wpT_done (by kernel_rfl) ?_ _
             go_wp2
             go_roundw
             case rel=>exact⟨l+1,own7,h7,by go_num,by omega,HF10,HB10⟩
             case measure=>simp [intOf];omega
            ·have hll:¬ (l:Int) < nts.length:=by omega
             obtain rfl:l=nts.length:=by omega
             go_wp2
             go_roundw
             case rel=>exact⟨j+1,own6,h6,by go_num,by omega,mH ⟨HF8.out.1,by rw [HF8.out.2];exact HXN.out.symm⟩⟩
             case measure=>simp [intOf];omega
          ·obtain rfl:j=qs.length:=by omega
           have X9:=mH HF.out.1.1
           have D9:=mH HF.out.1.2.1
           have HFL:Hid (h5=flN h2 h2.t.ns h2.t.ns.length):=mH (by rw [HF.out.2,HND.out];rw [<- HND.out,List.length_map])
           have HKO:=mH ((HKO.out.late HB3.out).step (KO.host tg2 fb HF.out.1.2.2.1 HF.out.1.2.2.2))
           have hcb2:own2 cb=0:=Decidable.byContradiction fun e=>HCB.out.2 (.inl e)
           have HCB:=mH (And.intro ((HF.out.1.2.2.1.block cb (lOh HC3.out) (fun e=>e hcb2)).trans HC3.out) (show ¬ FBk own5 tg2 fb cb from fun e=>by
            rcases e with e | e
            ·exact e ((HF.out.1.2.2.2 cb (lOh HC3.out)).trans hcb2)
            ·exact HCB.out.2 (.inr e)))
           clear HF X2 D2 hcb2
           obtain⟨y0,y1,y2,y3,f2,f3⟩:=X9.out.cells
           have v0:=cOb (i:=0) HCB.out.1 rfl
           have v1:=cOb (i:=1) HCB.out.1 rfl
           have v2:=cOb (i:=2) HCB.out.1 rfl
           have v3:=cOb (i:=3) HCB.out.1 rfl
           go_wp2_with (first
            |(go_at_call 48;obtain⟨K0,hd1,hd2,hd3⟩:=D9.out;have HN:=ftick_is A a K0 X9.out HE.out hB hd1 (by have:=HN60.out;omega) (by omega) (by omega) (by have:=HN60.out;omega) HB2.out h9;(with_reducible refine HN.mono ?_);clear HN;rintro e w4 ⟨h4,rs,ms,out,ra,rc,ma,mc,own4,tg4,v4,ps4,htr,rfl,_,hrm,hx4,hsp4,hbd4,hk4,ho4⟩;have KO4:=mH (HKO.out.step ⟨hk4,ho4⟩);have TN4:=mH (tn_step HTN.out h9 (tn_yes HFL.out htr) hsp4);obtain⟨hd4,hp4,hs4⟩:=D9.out.tick htr;have X4:=mH hx4;have D4:=mH hd4;have B4:=mH hbd4;have HC4:=mH ((hk4.block _ (lOh HCB.out.1) HCB.out.2).trans HCB.out.1);have HN4:Hid (¬ FBk own4 tg4 fb cb):=mH (fun e=>HCB.out.2 (ho4 cb (lOh HCB.out.1) e));have HEA:=mH (each_path hx4 ha h5.now ra ma rs.length rc mc ms out hrm htr.me hp4 (hs4 HN60.out));clear htr hrm hx4 hsp4 hbd4 hk4 ho4 hd4 hp4 hs4 hd1 hd2 hd3 y0 y1 y2 y3 f2 f3 v0 v1 v2 v3)
            |(go_at_call 47;(with_reducible refine HEA.out.mono ?_);rintro e w5 ⟨rfl,b5⟩;have X5:=mH (X4.out.late b5);have HC5:=mH ((b5.block _ (lOh HC4.out)).trans HC4.out);have KO5:=mH (KO4.out.late b5);clear b5))
           go_roundw
           case rel=>exact⟨i+1,own4,tg4,tk2+1,v4,ps4,h4,by go_num,by omega,by omega,X5,D4,B4,mH ⟨HC5.out,HN4.out⟩,TN4,KO5⟩
           case measure=>simp [intOf];omega
        ·have h9i:¬ (tk2:Int) < 900:=by omega
         go_wp2
         go_ret
         exact⟨by simp,_,_,_,_,_,tk2,X2.out,D2.out,HB2.out,by omega,by unfold DoR;rw [if_neg (by decide),if_neg (by decide),if_pos (.inr rfl)];exact⟨i,HTN.out,by omega,(show i=(min (max cn 1) 50).toNat ∨ 900<=tk2 from by omega)⟩,HKO.out⟩
       ·have hii:¬ (i:Int) < 1:=by omega
        go_wp2
        go_ret
        exact⟨by simp,_,_,_,_,_,tk2,X2.out,D2.out,HB2.out,by omega,by unfold DoR;rw [if_neg (by decide),if_neg (by decide),if_pos (.inr rfl)];exact⟨i,HTN.out,by omega,(show i=(min (max cn 1) 50).toNat ∨ 900<=tk2 from by omega)⟩,HKO.out⟩
     ·have X1:=mH (HX0.out.late (ba (Below.refl _ w) (.cells #[.int .i64 4,.int .i64 ci,.int .i64 ct,.int .i64 cn,.int .i64 oki,.int .i64 oid,.int .i64 o1,.int .i64 o2,.int .i64 o3,.int .i64 opo,.slice ota ots.length otc,.int .i64 otm] 42)))
      have HC1:=mH (heap_alloc_new w (.cells #[.int .i64 4,.int .i64 ci,.int .i64 ct,.int .i64 cn,.int .i64 oki,.int .i64 oid,.int .i64 o1,.int .i64 o2,.int .i64 o3,.int .i64 opo,.slice ota ots.length otc,.int .i64 otm] 42))
      have HNC:Hid (¬ FBk own tg fb w.heap.size):=mH (fun e=>by have:=(HX0.out.lt e).2;omega)
      have HW1:Hid (Below w.heap.size w (w.alloc (.cells #[.int .i64 4,.int .i64 ci,.int .i64 ct,.int .i64 cn,.int .i64 oki,.int .i64 oid,.int .i64 o1,.int .i64 o2,.int .i64 o3,.int .i64 opo,.slice ota ots.length otc,.int .i64 otm] 42))):=mH (ba (Below.refl _ w) _)
      generalize w.alloc (.cells #[.int .i64 4,.int .i64 ci,.int .i64 ct,.int .i64 cn,.int .i64 oki,.int .i64 oid,.int .i64 o1,.int .i64 o2,.int .i64 o3,.int .i64 opo,.slice ota ots.length otc,.int .i64 otm] 42)=W1 at X1 HC1 HW1 ⊢
      generalize w.heap.size=cb at HC1 HNC ⊢
      clear x0 x1 x2 x3 f2 f3
      have hM50:50<=50:=by omega
      go_loopw [40] (fun iv wr=>∃ (i:Nat) (own2:Nat->Int) (tg2:Nat->Int × Int) (tk2:Nat) (v2:Value) (ps2:List Spv) (h2:Hs),iv=.int .i64 (i:Int)/\i<=50/\tk2<=900/\Hid (FX B W own2 tg2 wr fb b mb h2 asks tk2 v2 ps2)/\Hid (DSt N tk2 h2)/\Hid (Bd (1000 * tk2) ps2)/\Hid (wr.heap[cb]?=some (.cells #[.int .i64 4,.int .i64 ci,.int .i64 ct,.int .i64 cn,.int .i64 oki,.int .i64 oid,.int .i64 o1,.int .i64 o2,.int .i64 o3,.int .i64 opo,.slice ota ots.length otc,.int .i64 otm] 42)/\¬ FBk own2 tg2 fb cb)/\Hid (TN A true i (hS,tk,ps.map (·.1)) (h2,tk2,ps2.map (·.1)))/\Hid (KO own tg fb w own2 tg2 wr)) (fun iv _=>50 - (intOf iv).toNat)
      case atStart=>exact⟨0,own,tg,tk,v,ps,hS,rfl,Nat.zero_le _,htk,X1,HD,HBD,mH ⟨HC1.out,HNC.out⟩,mH .zero,mH ((KO.refl own tg fb w).late HW1.out)⟩
      case round=>
       clear X1 HC1 HW1 HNC HD HBD
       obtain⟨i,own2,tg2,tk2,v2,ps2,h2,rfl,hi,htk2,X2,D2,HB2,HCB,HTN,HKO⟩:=hrel
       obtain⟨y0,y1,y2,y3,f2,f3⟩:=X2.out.cells
       have v0:=cOb (i:=0) HCB.out.1 rfl
       have v1:=cOb (i:=1) HCB.out.1 rfl
       have v2:=cOb (i:=2) HCB.out.1 rfl
       have v3:=cOb (i:=3) HCB.out.1 rfl
       by_cases hlt:i < 50
       ·have hii:(i:Int) < 50:=by omega
        by_cases h9:tk2 < 900
        ·have h9i:(tk2:Int) < 900:=by omega
         obtain⟨K0,hd1,hd2,hd3⟩:=D2.out
         have hsm:h2.t.Sm 1000:=⟨by have:=hd1.sm.n;have:=HN60.out;omega,by have:=hd1.sm.g;have:=HN60.out;omega,by have:=hd1.sm.l;have:=HN60.out;omega,hd1.sm.s⟩
         have HSM:=mH hsm
         clear hsm hd1 hd2 hd3
         go_wp2_with (go_at_call 18;have HN:=HX.tree X2.out.hx HSM.out;(with_reducible refine HN.mono ?_);clear HN;rintro e w3 ⟨nv,gv,qs,rfl,hto,hnd,hx3,b3⟩;obtain⟨na,nc,rfl,_⟩:=own_sh hto.nown;have hfr:∀ W',(Instr.field 30 (vTr (.slice na qs.length nc) gv h2.t) 0).run Tryz.prog W'=.ok (.slice na qs.length nc) W':=fun W'=>field_tree _ _ _ W';have X3:=mH (X2.out.late b3);have HTO:=mH hto;have HND:=mH hnd;have HC3:=mH ((b3.block _ (lOh HCB.out.1)).trans HCB.out.1);have HB3:=mH b3;have HZ3:=mH (fun k (hk:wr.heap.size<=k)=>X2.out.hx.zero hk);clear hto hnd hx3 b3 y0 y1 y2 y3 f2 f3 v0 v1 v2 v3)
         have hql:qs.length<=1000:=by have h1:=HSM.out.n;rw [<- HND.out,List.length_map] at h1;exact h1
         have hqli:(qs.length:Int)<=1000:=by omega
         clear hfr
         have HQ3:Hid (RowIn 7 c7 w3 (.slice na qs.length nc) qs):=mH (RowIn.of_owns (n:=7) (f:=c7) (fun _=>rfl) (by omega) HTO.out.nown)
         have HNB:Hid (∀ k,(Value.slice na qs.length nc).ownBlock=some k->own2 k=0):=mH (fun k e=>HZ3.out k (HTO.out.nown.lt k e).1)
         have HTK:Hid (∀ t ∈ qs,Tks w3 (tvN t) t.1.ts/\(∀ k,(tvN t).ownBlock=some k->own2 k=0)/\t.1.ts.length<=8):=mH (fun t ht=>by
          have h8:=HSM.out.s t.1 (by rw [<- HND.out];exact List.mem_map.mpr ⟨t,ht,rfl⟩)
          obtain⟨a9,c9,e9,h9t⟩:=tks_of_owns (by omega) (HTO.out.tk t ht)
          exact⟨by rw [e9];exact h9t,fun k e=>HZ3.out k ((HTO.out.tk t ht).lt k e).1,h8⟩)
         go_loopw [57] (fun jv w5=>∃ (j:Nat) (own5:Nat->Int) (h5:Hs),jv=.int .i64 (j:Int)/\j<=qs.length/\Hid (FL B W tg2 fb b mb asks tk2 v2 ps2 N own2 w3 own5 h5 w5/\h5=flN h2 (nds qs) j)) (fun jv _=>qs.length - (intOf jv).toNat)
         case atStart=>exact⟨0,own2,h2,rfl,Nat.zero_le _,mH ⟨⟨X3.out,D2.out,Kept.refl _ _,fun _ _=>rfl⟩,rfl⟩⟩
         case round=>
          rename World=>w5
          clear X3
          obtain⟨j,own5,h5,rfl,hj,HF⟩:=hrel
          by_cases hlt2:j < qs.length
          ·have HQ5:=HQ3.out.kept HF.out.1.2.2.1 (fun k e f=>f (HNB.out k e))
           obtain⟨b7,o7,x,hna,hx,hat⟩:=HQ5.at (Below.refl _ _) j hlt2
           subst hna
           obtain⟨q0,q1,q2,q3,q4,q5,q6⟩:=seven hat
           have HXT:=mH (HTK.out x (List.mem_of_getElem? hx))
           have HXN:=mH (flN_step (h:=h2) (nds_at hx))
           clear hat hx HQ5
           obtain⟨⟨nid,npa,⟨nk,nq,nt⟩,npo,nts⟩,nta,ntc⟩:=x
           simp only [tvN] at q0 q1 q2 q3 q4 q5 q6
           simp only at HXN
           have hjj:(j:Int) < qs.length:=by omega
           have hts:nts.length<=8:=HXT.out.2.2
           have htsi:(nts.length:Int)<=8:=by omega
           go_wp2
           have HF7:=mH (And.intro (HF.out.1.late (ba (Below.refl _ w5) (.cells #[.int .i64 nid,.int .i64 npa,.int .i64 nk,.int .i64 nq,.int .i64 nt,.int .i64 npo,.slice nta nts.length ntc] 69))) HF.out.2)
           have HB7:Hid ((w5.alloc (.cells #[.int .i64 nid,.int .i64 npa,.int .i64 nk,.int .i64 nq,.int .i64 nt,.int .i64 npo,.slice nta nts.length ntc] 69)).heap[w5.heap.size]?=some (.cells #[.int .i64 nid,.int .i64 npa,.int .i64 nk,.int .i64 nq,.int .i64 nt,.int .i64 npo,.slice nta nts.length ntc] 69)/\own5 w5.heap.size=0/\w3.heap.size<=w5.heap.size):=mH ⟨heap_alloc_new w5 _,HF.out.1.1.hx.zero (Nat.le_refl _),HF.out.1.2.2.1.size⟩
           generalize w5.alloc (.cells #[.int .i64 nid,.int .i64 npa,.int .i64 nk,.int .i64 nq,.int .i64 nt,.int .i64 npo,.slice nta nts.length ntc] 69)=w7 at HF7 HB7 ⊢
           generalize w5.heap.size=bn at HB7 ⊢
           clear q0 q1 q2 q3 q4 q5 q6 HF
           go_loopw [64] (fun lv w6=>∃ (l:Nat) (own6:Nat->Int) (h6:Hs),lv=.int .i64 (l:Int)/\l<=nts.length/\Hid (FL B W tg2 fb b mb asks tk2 v2 ps2 N own2 w3 own6 h6 w6/\h6=relN (flN h2 (nds qs) j) (⟨nid,npa,(nk,nq,nt),npo,nts⟩:Nd) l)/\Hid (w6.heap[bn]?=some (.cells #[.int .i64 nid,.int .i64 npa,.int .i64 nk,.int .i64 nq,.int .i64 nt,.int .i64 npo,.slice nta nts.length ntc] 69)/\own6 bn=0/\w3.heap.size<=bn)) (fun lv _=>nts.length - (intOf lv).toNat)
           case atStart=>exact⟨0,own5,h5,rfl,Nat.zero_le _,mH ⟨HF7.out.1,HF7.out.2⟩,HB7⟩
           case round=>
            rename World=>w8
            clear HF7 HB7
            obtain⟨l,own6,h6,rfl,hl,HF8,HB8⟩:=hrel
            by_cases hlt3:l < nts.length
            ·have HT8:=HXT.out.1.kept HF8.out.1.2.2.1 (fun k e _ f=>f (HXT.out.2.1 k e))
             obtain⟨b9,o9,tc0,tp,td,tsl,hta,htx,p0,p1,p2,p3⟩:=HT8.at (Below.refl _ _) l hlt3
             subst hta
             have HRS:=mH (relN_step (h:=flN h2 (nds qs) j) (n:=(⟨nid,npa,(nk,nq,nt),npo,nts⟩:Nd)) (show (⟨nid,npa,(nk,nq,nt),npo,nts⟩:Nd).ts[l]?=some (tc0,tp,td,tsl) from htx))
             clear htx HT8
             have hll:(l:Int) < nts.length:=by omega
             go_wp2
             have HF9:=mH (HF8.out.1.late (ba (Below.refl _ w8) (.cells #[.int .i64 tc0,.int .i64 tp,.int .i64 td,.int .i64 tsl] 45)))
             have HE8:=mH HF8.out.2
             have HB9:Hid ((w8.alloc (.cells #[.int .i64 tc0,.int .i64 tp,.int .i64 td,.int .i64 tsl] 45)).heap[bn]?=some (.cells #[.int .i64 nid,.int .i64 npa,.int .i64 nk,.int .i64 nq,.int .i64 nt,.int .i64 npo,.slice (some ⟨b9,o9,none⟩) nts.length ntc] 69)/\own6 bn=0/\w3.heap.size<=bn):=mH ⟨(heap_alloc_old _ _ (lOh HB8.out.1)).trans HB8.out.1,HB8.out.2⟩
             have HT9:=mH (heap_alloc_new w8 (.cells #[.int .i64 tc0,.int .i64 tp,.int .i64 td,.int .i64 tsl] 45))
             generalize w8.alloc (.cells #[.int .i64 tc0,.int .i64 tp,.int .i64 td,.int .i64 tsl] 45)=w9 at HF9 HB9 HT9 ⊢
             generalize w8.heap.size=bt at HT9 ⊢
             clear p0 p1 p2 p3 HF8 HB8
             have d0:=HF9.out.1.cells.1
             have d1:w9.cell? ⟨bn,0,none⟩=some (.int .i64 nid):=cOb HB9.out.1 rfl
             have d2:w9.cell? ⟨bt,0,none⟩=some (.int .i64 tc0):=cOb HT9.out rfl
             have hT:w9.drew.cell? ⟨fb,0,none⟩=some (pB b)/\w9.drew.cell? ⟨bn,0,none⟩=some (.int .i64 nid)/\w9.drew.cell? ⟨bt,0,none⟩=some (.int .i64 tc0):=⟨d0,d1,d2⟩
             refine wp_region_till (fun w'=>w'.cell? ⟨fb,0,none⟩=some (pB b)/\w'.cell? ⟨bn,0,none⟩=some (.int .i64 nid)/\w'.cell? ⟨bt,0,none⟩=some (.int .i64 tc0)) 9 (by kernel_rfl) ?_
             refine frE 0 69 (.pointer (some ⟨fb,0,none⟩)) rfl rfl (fun _=>hT) ?_
             (try simp only [sZ,sS])
             refine frE 1 70 (.pointer (some ⟨fb,0,none⟩)) rfl rfl (fun _=>hT) ?_
             (try simp only [sZ,sS])
             refine frE 2 71 (.pointer (some ⟨fb,0,none⟩)) rfl rfl (fun _=>hT) ?_
             (try simp only [sZ,sS])
             refine fiE 3 72 (pB b) rfl rfl hT ?_
             (try simp only [sZ,sS])
             refine frE 4 73 (.pointer (some ⟨bn,0,none⟩)) rfl rfl (fun _=>hT) ?_
             (try simp only [sZ,sS])
             refine fiE 5 74 (.int .i64 nid) rfl rfl hT ?_
             (try simp only [sZ,sS])
             refine frE 6 75 (.int .i64 (l:Int)) rfl rfl (fun _=>hT) ?_
             (try simp only [sZ,sS])
             refine frE 7 76 (.pointer (some ⟨bt,0,none⟩)) rfl rfl (fun _=>hT) ?_
             (try simp only [sZ,sS])
             refine fiE 8 77 (.int .i64 tc0) rfl rfl hT ?_
             (try simp only [sZ,sS])
             refine wpT_ready (rs:=[9]) (by kernel_rfl) (by simp) (AllT.cons rfl (fun K2 hK2=>?_) AllT.nil)
             go_simp
             have HN:=(HF9.out.late (Below.refl _ w9).drew).release2 a2 HG.out ad HGO.out hB nid (l:Int) tc0
             (with_reducible refine HN.mono ?_)
             clear HN
             rintro e w10 ⟨ev,own7,h7,rfl,hf7,hk7,ho7,hr7⟩
             have HF10:Hid (FL B W tg2 fb b mb asks tk2 v2 ps2 N own2 w3 own7 h7 w10/\h7=relN (flN h2 (nds qs) j) (⟨nid,npa,(nk,nq,nt),npo,nts⟩:Nd) (l+1)):=mH ⟨hf7,by rw [hr7,HE8.out];exact HRS.out.symm⟩
             clear hr7
             have HB10:Hid (w10.heap[bn]?=some (.cells #[.int .i64 nid,.int .i64 npa,.int .i64 nk,.int .i64 nq,.int .i64 nt,.int .i64 npo,.slice (some ⟨b9,o9,none⟩) nts.length ntc] 69)/\own7 bn=0/\w3.heap.size<=bn):=mH ⟨(hk7.block bn (lOh HB9.out.1) (fun e=>e HB9.out.2.1)).trans HB9.out.1,(ho7 bn (lOh HB9.out.1)).trans HB9.out.2.1,HB9.out.2.2⟩
             clear hf7 hk7 ho7 hT d0 d1 d2
             refine hK2.out _ _ (bool_no (by kernel_rfl)) ?_
             clear hK2 K2
             (try simp only [Act.put])
             refine wpT_done (by kernel_rfl) ?_ _
             go_wp2
             go_roundw
             case rel=>exact⟨l+1,own7,h7,by go_num,by omega,HF10,HB10⟩
             case measure=>simp [intOf];omega
            ·have hll:¬ (l:Int) < nts.length:=by omega
             obtain rfl:l=nts.length:=by omega
             go_wp2
             go_roundw
             case rel=>exact⟨j+1,own6,h6,by go_num,by omega,mH ⟨HF8.out.1,by rw [HF8.out.2];exact HXN.out.symm⟩⟩
             case measure=>simp [intOf];omega
          ·obtain rfl:j=qs.length:=by omega
           have X9:=mH HF.out.1.1
           have D9:=mH HF.out.1.2.1
           have HFL:Hid (h5=flN h2 h2.t.ns h2.t.ns.length):=mH (by rw [HF.out.2,HND.out];rw [<- HND.out,List.length_map])
           have HKO:=mH ((HKO.out.late HB3.out).step (KO.host tg2 fb HF.out.1.2.2.1 HF.out.1.2.2.2))
           have hcb2:own2 cb=0:=Decidable.byContradiction fun e=>HCB.out.2 (.inl e)
           have HCB:=mH (And.intro ((HF.out.1.2.2.1.block cb (lOh HC3.out) (fun e=>e hcb2)).trans HC3.out) (show ¬ FBk own5 tg2 fb cb from fun e=>by
            rcases e with e | e
            ·exact e ((HF.out.1.2.2.2 cb (lOh HC3.out)).trans hcb2)
            ·exact HCB.out.2 (.inr e)))
           clear HF X2 D2 hcb2
           obtain⟨y0,y1,y2,y3,f2,f3⟩:=X9.out.cells
           have v0:=cOb (i:=0) HCB.out.1 rfl
           have v1:=cOb (i:=1) HCB.out.1 rfl
           have v2:=cOb (i:=2) HCB.out.1 rfl
           have v3:=cOb (i:=3) HCB.out.1 rfl
           go_wp2_with (first
            |(go_at_call 48;obtain⟨K0,hd1,hd2,hd3⟩:=D9.out;have HN:=ftick_is A a K0 X9.out HE.out hB hd1 (by have:=HN60.out;omega) (by omega) (by omega) (by have:=HN60.out;omega) HB2.out h9;(with_reducible refine HN.mono ?_);clear HN;rintro e w4 ⟨h4,rs,ms,out,ra,rc,ma,mc,own4,tg4,v4,ps4,htr,rfl,_,hrm,hx4,hsp4,hbd4,hk4,ho4⟩;have KO4:=mH (HKO.out.step ⟨hk4,ho4⟩);have TN4:=mH (tn_step HTN.out h9 (tn_yes HFL.out htr) hsp4);obtain⟨hd4,hp4,hs4⟩:=D9.out.tick htr;have X4:=mH hx4;have D4:=mH hd4;have B4:=mH hbd4;have HC4:=mH ((hk4.block _ (lOh HCB.out.1) HCB.out.2).trans HCB.out.1);have HN4:Hid (¬ FBk own4 tg4 fb cb):=mH (fun e=>HCB.out.2 (ho4 cb (lOh HCB.out.1) e));have HEA:=mH (each_path hx4 ha h5.now ra ma rs.length rc mc ms out hrm htr.me hp4 (hs4 HN60.out));clear htr hrm hx4 hsp4 hbd4 hk4 ho4 hd4 hp4 hs4 hd1 hd2 hd3 y0 y1 y2 y3 f2 f3 v0 v1 v2 v3)
            |(go_at_call 47;(with_reducible refine HEA.out.mono ?_);rintro e w5 ⟨rfl,b5⟩;have X5:=mH (X4.out.late b5);have HC5:=mH ((b5.block _ (lOh HC4.out)).trans HC4.out);have KO5:=mH (KO4.out.late b5);clear b5))
           go_roundw
           case rel=>exact⟨i+1,own4,tg4,tk2+1,v4,ps4,h4,by go_num,by omega,by omega,X5,D4,B4,mH ⟨HC5.out,HN4.out⟩,TN4,KO5⟩
           case measure=>simp [intOf];omega
        ·have h9i:¬ (tk2:Int) < 900:=by omega
         go_wp2
         go_ret
         exact⟨by simp,_,_,_,_,_,tk2,X2.out,D2.out,HB2.out,by omega,by unfold DoR;rw [if_neg (by decide),if_neg (by decide),if_pos (.inr rfl)];exact⟨i,HTN.out,by omega,(show i=(min (max cn 1) 50).toNat ∨ 900<=tk2 from by omega)⟩,HKO.out⟩
       ·have hii:¬ (i:Int) < 50:=by omega
        go_wp2
        go_ret
        exact⟨by simp,_,_,_,_,_,tk2,X2.out,D2.out,HB2.out,by omega,by unfold DoR;rw [if_neg (by decide),if_neg (by decide),if_pos (.inr rfl)];exact⟨i,HTN.out,by omega,(show i=(min (max cn 1) 50).toNat ∨ 900<=tk2 from by omega)⟩,HKO.out⟩
     ·have X1:=mH (HX0.out.late (ba (Below.refl _ w) (.cells #[.int .i64 4,.int .i64 ci,.int .i64 ct,.int .i64 cn,.int .i64 oki,.int .i64 oid,.int .i64 o1,.int .i64 o2,.int .i64 o3,.int .i64 opo,.slice ota ots.length otc,.int .i64 otm] 42)))
      have HC1:=mH (heap_alloc_new w (.cells #[.int .i64 4,.int .i64 ci,.int .i64 ct,.int .i64 cn,.int .i64 oki,.int .i64 oid,.int .i64 o1,.int .i64 o2,.int .i64 o3,.int .i64 opo,.slice ota ots.length otc,.int .i64 otm] 42))
      have HNC:Hid (¬ FBk own tg fb w.heap.size):=mH (fun e=>by have:=(HX0.out.lt e).2;omega)
      have HW1:Hid (Below w.heap.size w (w.alloc (.cells #[.int .i64 4,.int .i64 ci,.int .i64 ct,.int .i64 cn,.int .i64 oki,.int .i64 oid,.int .i64 o1,.int .i64 o2,.int .i64 o3,.int .i64 opo,.slice ota ots.length otc,.int .i64 otm] 42))):=mH (ba (Below.refl _ w) _)
      generalize w.alloc (.cells #[.int .i64 4,.int .i64 ci,.int .i64 ct,.int .i64 cn,.int .i64 oki,.int .i64 oid,.int .i64 o1,.int .i64 o2,.int .i64 o3,.int .i64 opo,.slice ota ots.length otc,.int .i64 otm] 42)=W1 at X1 HC1 HW1 ⊢
      generalize w.heap.size=cb at HC1 HNC ⊢
      clear x0 x1 x2 x3 f2 f3
      have hM50:cn.toNat<=50:=by omega
      go_loopw [40] (fun iv wr=>∃ (i:Nat) (own2:Nat->Int) (tg2:Nat->Int × Int) (tk2:Nat) (v2:Value) (ps2:List Spv) (h2:Hs),iv=.int .i64 (i:Int)/\i<=cn.toNat/\tk2<=900/\Hid (FX B W own2 tg2 wr fb b mb h2 asks tk2 v2 ps2)/\Hid (DSt N tk2 h2)/\Hid (Bd (1000 * tk2) ps2)/\Hid (wr.heap[cb]?=some (.cells #[.int .i64 4,.int .i64 ci,.int .i64 ct,.int .i64 cn,.int .i64 oki,.int .i64 oid,.int .i64 o1,.int .i64 o2,.int .i64 o3,.int .i64 opo,.slice ota ots.length otc,.int .i64 otm] 42)/\¬ FBk own2 tg2 fb cb)/\Hid (TN A true i (hS,tk,ps.map (·.1)) (h2,tk2,ps2.map (·.1)))/\Hid (KO own tg fb w own2 tg2 wr)) (fun iv _=>cn.toNat - (intOf iv).toNat)
      case atStart=>exact⟨0,own,tg,tk,v,ps,hS,rfl,Nat.zero_le _,htk,X1,HD,HBD,mH ⟨HC1.out,HNC.out⟩,mH .zero,mH ((KO.refl own tg fb w).late HW1.out)⟩
      case round=>
       clear X1 HC1 HW1 HNC HD HBD
       obtain⟨i,own2,tg2,tk2,v2,ps2,h2,rfl,hi,htk2,X2,D2,HB2,HCB,HTN,HKO⟩:=hrel
       obtain⟨y0,y1,y2,y3,f2,f3⟩:=X2.out.cells
       have v0:=cOb (i:=0) HCB.out.1 rfl
       have v1:=cOb (i:=1) HCB.out.1 rfl
       have v2:=cOb (i:=2) HCB.out.1 rfl
       have v3:=cOb (i:=3) HCB.out.1 rfl
       by_cases hlt:i < cn.toNat
       ·have hii:(i:Int) < cn:=by omega
        by_cases h9:tk2 < 900
        ·have h9i:(tk2:Int) < 900:=by omega
         obtain⟨K0,hd1,hd2,hd3⟩:=D2.out
         have hsm:h2.t.Sm 1000:=⟨by have:=hd1.sm.n;have:=HN60.out;omega,by have:=hd1.sm.g;have:=HN60.out;omega,by have:=hd1.sm.l;have:=HN60.out;omega,hd1.sm.s⟩
         have HSM:=mH hsm
         clear hsm hd1 hd2 hd3
         go_wp2_with (go_at_call 18;have HN:=HX.tree X2.out.hx HSM.out;(with_reducible refine HN.mono ?_);clear HN;rintro e w3 ⟨nv,gv,qs,rfl,hto,hnd,hx3,b3⟩;obtain⟨na,nc,rfl,_⟩:=own_sh hto.nown;have hfr:∀ W',(Instr.field 30 (vTr (.slice na qs.length nc) gv h2.t) 0).run Tryz.prog W'=.ok (.slice na qs.length nc) W':=fun W'=>field_tree _ _ _ W';have X3:=mH (X2.out.late b3);have HTO:=mH hto;have HND:=mH hnd;have HC3:=mH ((b3.block _ (lOh HCB.out.1)).trans HCB.out.1);have HB3:=mH b3;have HZ3:=mH (fun k (hk:wr.heap.size<=k)=>X2.out.hx.zero hk);clear hto hnd hx3 b3 y0 y1 y2 y3 f2 f3 v0 v1 v2 v3)
         have hql:qs.length<=1000:=by have h1:=HSM.out.n;rw [<- HND.out,List.length_map] at h1;exact h1
         have hqli:(qs.length:Int)<=1000:=by omega
         clear hfr
         have HQ3:Hid (RowIn 7 c7 w3 (.slice na qs.length nc) qs):=mH (RowIn.of_owns (n:=7) (f:=c7) (fun _=>rfl) (by omega) HTO.out.nown)
         have HNB:Hid (∀ k,(Value.slice na qs.length nc).ownBlock=some k->own2 k=0):=mH (fun k e=>HZ3.out k (HTO.out.nown.lt k e).1)
         have HTK:Hid (∀ t ∈ qs,Tks w3 (tvN t) t.1.ts/\(∀ k,(tvN t).ownBlock=some k->own2 k=0)/\t.1.ts.length<=8):=mH (fun t ht=>by
          have h8:=HSM.out.s t.1 (by rw [<- HND.out];exact List.mem_map.mpr ⟨t,ht,rfl⟩)
          obtain⟨a9,c9,e9,h9t⟩:=tks_of_owns (by omega) (HTO.out.tk t ht)
          exact⟨by rw [e9];exact h9t,fun k e=>HZ3.out k ((HTO.out.tk t ht).lt k e).1,h8⟩)
         go_loopw [57] (fun jv w5=>∃ (j:Nat) (own5:Nat->Int) (h5:Hs),jv=.int .i64 (j:Int)/\j<=qs.length/\Hid (FL B W tg2 fb b mb asks tk2 v2 ps2 N own2 w3 own5 h5 w5/\h5=flN h2 (nds qs) j)) (fun jv _=>qs.length - (intOf jv).toNat)
         case atStart=>exact⟨0,own2,h2,rfl,Nat.zero_le _,mH ⟨⟨X3.out,D2.out,Kept.refl _ _,fun _ _=>rfl⟩,rfl⟩⟩
         case round=>
          rename World=>w5
          clear X3
          obtain⟨j,own5,h5,rfl,hj,HF⟩:=hrel
          by_cases hlt2:j < qs.length
          ·have HQ5:=HQ3.out.kept HF.out.1.2.2.1 (fun k e f=>f (HNB.out k e))
           obtain⟨b7,o7,x,hna,hx,hat⟩:=HQ5.at (Below.refl _ _) j hlt2
           subst hna
           obtain⟨q0,q1,q2,q3,q4,q5,q6⟩:=seven hat
           have HXT:=mH (HTK.out x (List.mem_of_getElem? hx))
           have HXN:=mH (flN_step (h:=h2) (nds_at hx))
           clear hat hx HQ5
           obtain⟨⟨nid,npa,⟨nk,nq,nt⟩,npo,nts⟩,nta,ntc⟩:=x
           simp only [tvN] at q0 q1 q2 q3 q4 q5 q6
           simp only at HXN
           have hjj:(j:Int) < qs.length:=by omega
           have hts:nts.length<=8:=HXT.out.2.2
           have htsi:(nts.length:Int)<=8:=by omega
           go_wp2
           have HF7:=mH (And.intro (HF.out.1.late (ba (Below.refl _ w5) (.cells #[.int .i64 nid,.int .i64 npa,.int .i64 nk,.int .i64 nq,.int .i64 nt,.int .i64 npo,.slice nta nts.length ntc] 69))) HF.out.2)
           have HB7:Hid ((w5.alloc (.cells #[.int .i64 nid,.int .i64 npa,.int .i64 nk,.int .i64 nq,.int .i64 nt,.int .i64 npo,.slice nta nts.length ntc] 69)).heap[w5.heap.size]?=some (.cells #[.int .i64 nid,.int .i64 npa,.int .i64 nk,.int .i64 nq,.int .i64 nt,.int .i64 npo,.slice nta nts.length ntc] 69)/\own5 w5.heap.size=0/\w3.heap.size<=w5.heap.size):=mH ⟨heap_alloc_new w5 _,HF.out.1.1.hx.zero (Nat.le_refl _),HF.out.1.2.2.1.size⟩
           generalize w5.alloc (.cells #[.int .i64 nid,.int .i64 npa,.int .i64 nk,.int .i64 nq,.int .i64 nt,.int .i64 npo,.slice nta nts.length ntc] 69)=w7 at HF7 HB7 ⊢
           generalize w5.heap.size=bn at HB7 ⊢
           clear q0 q1 q2 q3 q4 q5 q6 HF
           go_loopw [64] (fun lv w6=>∃ (l:Nat) (own6:Nat->Int) (h6:Hs),lv=.int .i64 (l:Int)/\l<=nts.length/\Hid (FL B W tg2 fb b mb asks tk2 v2 ps2 N own2 w3 own6 h6 w6/\h6=relN (flN h2 (nds qs) j) (⟨nid,npa,(nk,nq,nt),npo,nts⟩:Nd) l)/\Hid (w6.heap[bn]?=some (.cells #[.int .i64 nid,.int .i64 npa,.int .i64 nk,.int .i64 nq,.int .i64 nt,.int .i64 npo,.slice nta nts.length ntc] 69)/\own6 bn=0/\w3.heap.size<=bn)) (fun lv _=>nts.length - (intOf lv).toNat)
           case atStart=>exact⟨0,own5,h5,rfl,Nat.zero_le _,mH ⟨HF7.out.1,HF7.out.2⟩,HB7⟩
           case round=>
            rename World=>w8
            clear HF7 HB7
            obtain⟨l,own6,h6,rfl,hl,HF8,HB8⟩:=hrel
            by_cases hlt3:l < nts.length
            ·have HT8:=HXT.out.1.kept HF8.out.1.2.2.1 (fun k e _ f=>f (HXT.out.2.1 k e))
             obtain⟨b9,o9,tc0,tp,td,tsl,hta,htx,p0,p1,p2,p3⟩:=HT8.at (Below.refl _ _) l hlt3
             subst hta
             have HRS:=mH (relN_step (h:=flN h2 (nds qs) j) (n:=(⟨nid,npa,(nk,nq,nt),npo,nts⟩:Nd)) (show (⟨nid,npa,(nk,nq,nt),npo,nts⟩:Nd).ts[l]?=some (tc0,tp,td,tsl) from htx))
             clear htx HT8
             have hll:(l:Int) < nts.length:=by omega
             go_wp2
             have HF9:=mH (HF8.out.1.late (ba (Below.refl _ w8) (.cells #[.int .i64 tc0,.int .i64 tp,.int .i64 td,.int .i64 tsl] 45)))
             have HE8:=mH HF8.out.2
             have HB9:Hid ((w8.alloc (.cells #[.int .i64 tc0,.int .i64 tp,.int .i64 td,.int .i64 tsl] 45)).heap[bn]?=some (.cells #[.int .i64 nid,.int .i64 npa,.int .i64 nk,.int .i64 nq,.int .i64 nt,.int .i64 npo,.slice (some ⟨b9,o9,none⟩) nts.length ntc] 69)/\own6 bn=0/\w3.heap.size<=bn):=mH ⟨(heap_alloc_old _ _ (lOh HB8.out.1)).trans HB8.out.1,HB8.out.2⟩
             have HT9:=mH (heap_alloc_new w8 (.cells #[.int .i64 tc0,.int .i64 tp,.int .i64 td,.int .i64 tsl] 45))
             generalize w8.alloc (.cells #[.int .i64 tc0,.int .i64 tp,.int .i64 td,.int .i64 tsl] 45)=w9 at HF9 HB9 HT9 ⊢
             generalize w8.heap.size=bt at HT9 ⊢
             clear p0 p1 p2 p3 HF8 HB8
             have d0:=HF9.out.1.cells.1
             have d1:w9.cell? ⟨bn,0,none⟩=some (.int .i64 nid):=cOb HB9.out.1 rfl
             have d2:w9.cell? ⟨bt,0,none⟩=some (.int .i64 tc0):=cOb HT9.out rfl
             have hT:w9.drew.cell? ⟨fb,0,none⟩=some (pB b)/\w9.drew.cell? ⟨bn,0,none⟩=some (.int .i64 nid)/\w9.drew.cell? ⟨bt,0,none⟩=some (.int .i64 tc0):=⟨d0,d1,d2⟩
             refine wp_region_till (fun w'=>w'.cell? ⟨fb,0,none⟩=some (pB b)/\w'.cell? ⟨bn,0,none⟩=some (.int .i64 nid)/\w'.cell? ⟨bt,0,none⟩=some (.int .i64 tc0)) 9 (by kernel_rfl) ?_
             refine frE 0 69 (.pointer (some ⟨fb,0,none⟩)) rfl rfl (fun _=>hT) ?_
             (try simp only [sZ,sS])
             refine frE 1 70 (.pointer (some ⟨fb,0,none⟩)) rfl rfl (fun _=>hT) ?_
             (try simp only [sZ,sS])
             refine frE 2 71 (.pointer (some ⟨fb,0,none⟩)) rfl rfl (fun _=>hT) ?_
             (try simp only [sZ,sS])
             refine fiE 3 72 (pB b) rfl rfl hT ?_
             (try simp only [sZ,sS])
             refine frE 4 73 (.pointer (some ⟨bn,0,none⟩)) rfl rfl (fun _=>hT) ?_
             (try simp only [sZ,sS])
             refine fiE 5 74 (.int .i64 nid) rfl rfl hT ?_
             (try simp only [sZ,sS])
             refine frE 6 75 (.int .i64 (l:Int)) rfl rfl (fun _=>hT) ?_
             (try simp only [sZ,sS])
             refine frE 7 76 (.pointer (some ⟨bt,0,none⟩)) rfl rfl (fun _=>hT) ?_
             (try simp only [sZ,sS])
             refine fiE 8 77 (.int .i64 tc0) rfl rfl hT ?_
             (try simp only [sZ,sS])
             refine wpT_ready (rs:=[9]) (by kernel_rfl) (by simp) (AllT.cons rfl (fun K2 hK2=>?_) AllT.nil)
             go_simp
             have HN:=(HF9.out.late (Below.refl _ w9).drew).release2 a2 HG.out ad HGO.out hB nid (l:Int) tc0
             (with_reducible refine HN.mono ?_)
             clear HN
             rintro e w10 ⟨ev,own7,h7,rfl,hf7,hk7,ho7,hr7⟩
             have HF10:Hid (FL B W tg2 fb b mb asks tk2 v2 ps2 N own2 w3 own7 h7 w10/\h7=relN (flN h2 (nds qs) j) (⟨nid,npa,(nk,nq,nt),npo,nts⟩:Nd) (l+1)):=mH ⟨hf7,by rw [hr7,HE8.out];exact HRS.out.symm⟩
             clear hr7
             have HB10:Hid (w10.heap[bn]?=some (.cells #[.int .i64 nid,.int .i64 npa,.int .i64 nk,.int .i64 nq,.int .i64 nt,.int .i64 npo,.slice (some ⟨b9,o9,none⟩) nts.length ntc] 69)/\own7 bn=0/\w3.heap.size<=bn):=mH ⟨(hk7.block bn (lOh HB9.out.1) (fun e=>e HB9.out.2.1)).trans HB9.out.1,(ho7 bn (lOh HB9.out.1)).trans HB9.out.2.1,HB9.out.2.2⟩
             clear hf7 hk7 ho7 hT d0 d1 d2
             refine hK2.out _ _ (bool_no (by kernel_rfl)) ?_
             clear hK2 K2
             (try simp only [Act.put])
             refine wpT_done (by kernel_rfl) ?_ _
             go_wp2
             go_roundw
             case rel=>exact⟨l+1,own7,h7,by go_num,by omega,HF10,HB10⟩
             case measure=>simp [intOf];omega
            ·have hll:¬ (l:Int) < nts.length:=by omega
             obtain rfl:l=nts.length:=by omega
             go_wp2
             go_roundw
             case rel=>exact⟨j+1,own6,h6,by go_num,by omega,mH ⟨HF8.out.1,by rw [HF8.out.2];exact HXN.out.symm⟩⟩
             case measure=>simp [intOf];omega
          ·obtain rfl:j=qs.length:=by omega
           have X9:=mH HF.out.1.1
           have D9:=mH HF.out.1.2.1
           have HFL:Hid (h5=flN h2 h2.t.ns h2.t.ns.length):=mH (by rw [HF.out.2,HND.out];rw [<- HND.out,List.length_map])
           have HKO:=mH ((HKO.out.late HB3.out).step (KO.host tg2 fb HF.out.1.2.2.1 HF.out.1.2.2.2))
           have hcb2:own2 cb=0:=Decidable.byContradiction fun e=>HCB.out.2 (.inl e)
           have HCB:=mH (And.intro ((HF.out.1.2.2.1.block cb (lOh HC3.out) (fun e=>e hcb2)).trans HC3.out) (show ¬ FBk own5 tg2 fb cb from fun e=>by
            rcases e with e | e
            ·exact e ((HF.out.1.2.2.2 cb (lOh HC3.out)).trans hcb2)
            ·exact HCB.out.2 (.inr e)))
           clear HF X2 D2 hcb2
           obtain⟨y0,y1,y2,y3,f2,f3⟩:=X9.out.cells
           have v0:=cOb (i:=0) HCB.out.1 rfl
           have v1:=cOb (i:=1) HCB.out.1 rfl
           have v2:=cOb (i:=2) HCB.out.1 rfl
           have v3:=cOb (i:=3) HCB.out.1 rfl
           go_wp2_with (first
            |(go_at_call 48;obtain⟨K0,hd1,hd2,hd3⟩:=D9.out;have HN:=ftick_is A a K0 X9.out HE.out hB hd1 (by have:=HN60.out;omega) (by omega) (by omega) (by have:=HN60.out;omega) HB2.out h9;(with_reducible refine HN.mono ?_);clear HN;rintro e w4 ⟨h4,rs,ms,out,ra,rc,ma,mc,own4,tg4,v4,ps4,htr,rfl,_,hrm,hx4,hsp4,hbd4,hk4,ho4⟩;have KO4:=mH (HKO.out.step ⟨hk4,ho4⟩);have TN4:=mH (tn_step HTN.out h9 (tn_yes HFL.out htr) hsp4);obtain⟨hd4,hp4,hs4⟩:=D9.out.tick htr;have X4:=mH hx4;have D4:=mH hd4;have B4:=mH hbd4;have HC4:=mH ((hk4.block _ (lOh HCB.out.1) HCB.out.2).trans HCB.out.1);have HN4:Hid (¬ FBk own4 tg4 fb cb):=mH (fun e=>HCB.out.2 (ho4 cb (lOh HCB.out.1) e));have HEA:=mH (each_path hx4 ha h5.now ra ma rs.length rc mc ms out hrm htr.me hp4 (hs4 HN60.out));clear htr hrm hx4 hsp4 hbd4 hk4 ho4 hd4 hp4 hs4 hd1 hd2 hd3 y0 y1 y2 y3 f2 f3 v0 v1 v2 v3)
            |(go_at_call 47;(with_reducible refine HEA.out.mono ?_);rintro e w5 ⟨rfl,b5⟩;have X5:=mH (X4.out.late b5);have HC5:=mH ((b5.block _ (lOh HC4.out)).trans HC4.out);have KO5:=mH (KO4.out.late b5);clear b5))
           go_roundw
           case rel=>exact⟨i+1,own4,tg4,tk2+1,v4,ps4,h4,by go_num,by omega,by omega,X5,D4,B4,mH ⟨HC5.out,HN4.out⟩,TN4,KO5⟩
           case measure=>simp [intOf];omega
        ·have h9i:¬ (tk2:Int) < 900:=by omega
         go_wp2
         go_ret
         exact⟨by simp,_,_,_,_,_,tk2,X2.out,D2.out,HB2.out,by omega,by unfold DoR;rw [if_neg (by decide),if_neg (by decide),if_pos (.inr rfl)];exact⟨i,HTN.out,by omega,(show i=(min (max cn 1) 50).toNat ∨ 900<=tk2 from by omega)⟩,HKO.out⟩
       ·have hii:¬ (i:Int) < cn:=by omega
        go_wp2
        go_ret
        exact⟨by simp,_,_,_,_,_,tk2,X2.out,D2.out,HB2.out,by omega,by unfold DoR;rw [if_neg (by decide),if_neg (by decide),if_pos (.inr rfl)];exact⟨i,HTN.out,by omega,(show i=(min (max cn 1) 50).toNat ∨ 900<=tk2 from by omega)⟩,HKO.out⟩
    ·skip
     go_enter Tryz.func27,Tryz.ntmps27
     go_wp2
     have X1:=mH (HX0.out.late (ba (Below.refl _ w) (.cells #[.int .i64 ki,.int .i64 ci,.int .i64 ct,.int .i64 cn,.int .i64 oki,.int .i64 oid,.int .i64 o1,.int .i64 o2,.int .i64 o3,.int .i64 opo,.slice ota ots.length otc,.int .i64 otm] 42)))
     have HC1:=mH (heap_alloc_new w (.cells #[.int .i64 ki,.int .i64 ci,.int .i64 ct,.int .i64 cn,.int .i64 oki,.int .i64 oid,.int .i64 o1,.int .i64 o2,.int .i64 o3,.int .i64 opo,.slice ota ots.length otc,.int .i64 otm] 42))
     have HNC:Hid (¬ FBk own tg fb w.heap.size):=mH (fun e=>by have:=(HX0.out.lt e).2;omega)
     have HW1:Hid (Below w.heap.size w (w.alloc (.cells #[.int .i64 ki,.int .i64 ci,.int .i64 ct,.int .i64 cn,.int .i64 oki,.int .i64 oid,.int .i64 o1,.int .i64 o2,.int .i64 o3,.int .i64 opo,.slice ota ots.length otc,.int .i64 otm] 42))):=mH (ba (Below.refl _ w) _)
     generalize w.alloc (.cells #[.int .i64 ki,.int .i64 ci,.int .i64 ct,.int .i64 cn,.int .i64 oki,.int .i64 oid,.int .i64 o1,.int .i64 o2,.int .i64 o3,.int .i64 opo,.slice ota ots.length otc,.int .i64 otm] 42)=W1 at X1 HC1 HW1 ⊢
     generalize w.heap.size=cb at HC1 HNC ⊢
     clear x0 x1 x2 x3 f2 f3
     have v0:=cOb (i:=0) HC1.out rfl
     have v1:=cOb (i:=1) HC1.out rfl
     have v2:=cOb (i:=2) HC1.out rfl
     have v3:=cOb (i:=3) HC1.out rfl
     go_wp2
     go_ret
     exact⟨by simp,_,_,_,_,_,tk,X1.out,HD.out,HBD.out,by omega,by unfold DoR;rw [if_neg k1,if_neg k2,if_neg (fun e=>e.elim k3 k4)],(KO.refl own tg fb w).late HW1.out⟩
end Go.Proofs.YtpdehdomilnmeaaGreatDoor
namespace Go.Proofs.YtpdehdomilnmeaaGreatDoor
open Go.ChangeShapes Go.WideShapes Go.ChangeAt Go.RowKit
set_option maxRecDepth 100000
set_option maxRecDepth 100000
theorem hx_second {w2 w4 w5:World} {lay:Int->Option Lay} (hl:∀ i,lay i=none) (H:HB w4.heap.size (own0 w4.heap.size) w5 (w4.heap.size+1) w4.heap.size lay (.slice none 0 0) (.slice none 0 0) (.slice none 0 0) [] [] hs0) (b1:Below w2.heap.size w2 w4) (b2:Below w4.heap.size w4 w5):HX w2.heap.size w2 (own0 w4.heap.size) w5 (w4.heap.size+1) w4.heap.size hs0:=by
 have hs:=b1.size
 refine⟨⟨lay,.slice none 0 0,.slice none 0 0,.slice none 0 0,[],[],⟨H.blk,⟨World.ownsRow_nil _ _ _ _,fun t h=>(by simp at h),World.ownsRow_nil _ _ _ _,fun t h=>(by simp at h),fun t h=>(by simp at h),fun k e=>(by simp [Value.ownBlock] at e)⟩,H.te,H.mp,H.dm,fun i l r h=>(by rw [hl i] at h;cases h),H.ws,H.wq,H.we,H.ob,H.om,H.ol,H.ow,H.on,H.og,H.ot,fun k e=>⟨(by have:=(H.sz k e).1;omega),(H.sz k e).2⟩⟩⟩,bt b1 b2⟩
theorem two_step {B:Nat} {W:World} {own1 own1' own2:Nat->Int} {tg1 tg1' tg2:Nat->Int × Int} {w w':World} {fb1 b1 mb1 fb2 b2 mb2:Nat} {h1 h2:Hs} {asks:Int} {tk1 tk2:Nat} {v1 v2:Value} {ps1 ps2:List Spv} (X1:FX B W own1 tg1 w fb1 b1 mb1 h1 asks tk1 v1 ps1) (X2:FX B W own2 tg2 w fb2 b2 mb2 h2 asks tk2 v2 ps2) (dj:∀ k,FBk own1 tg1 fb1 k->¬ FBk own2 tg2 fb2 k) (K:KO own1 tg1 fb1 w own1' tg1' w'):FX B W own2 tg2 w' fb2 b2 mb2 h2 asks tk2 v2 ps2/\∀ k,FBk own1' tg1' fb1 k->¬ FBk own2 tg2 fb2 k:=
 ⟨X2.kept K.1 dj (fun _ e=>(X1.lt e).1),fun k e f=>dj k (K.2 k (X2.lt f).2 e) f⟩
end Go.Proofs.YtpdehdomilnmeaaGreatDoor
namespace Go.Proofs.YtpdehdomilnmeaaGreatDoor
open Go.ChangeShapes Go.WideShapes Go.ChangeAt Go.RowKit
set_option maxRecDepth 100000
set_option maxRecDepth 100000
attribute [local go_sem] World.cell?_alloc_some fAs
theorem bit_at {w:World} {base c n:Nat} {e:TypeId} {a:Option Addr} {xs:List Bool} (h:w.ownsRow base e 1 (.slice a n c) n (xs.map Value.bool)) {l:Nat} (hl:l < xs.length):∃ g c' x,a=some ⟨g,0,none⟩/\xs[l]?=some x/\w.cell? ⟨g,l,none⟩=some (.bool x)/\c'=c:=by
 have hn:n=xs.length:=by have:=h.1;rw [List.length_map] at this;omega
 obtain⟨g,c',e',hg,_⟩:=own_addr h (show l < n by omega)
 simp only [Value.slice.injEq] at e'
 obtain⟨rfl,_,rfl⟩:=e'
 have hx:xs[l]?=some xs[l]:=List.getElem?_eq_getElem hl
 exact⟨g,c,xs[l],rfl,hx,(own_cell h (by rw [List.getElem?_map,hx];rfl)).1,rfl⟩
set_option maxHeartbeats 51200000 in
theorem twins_walk (A:Ops) (w:World) (al:Option Addr) (cl:Nat) (cs:List Cl) (a a2:Nat->Addr) (h:Cls w (.slice al cs.length cl) cs) (E:Er6 w a) (G:Eg w a2) (ad:Addr) (hgo:w.cell? ⟨4,0,none⟩=some (vE ad)) (hB:16<=w.heap.size) :
  Calls Tryz.prog 8 #[.slice al cs.length cl] w fun e w'=>e=.returned (.bool true)/\Below w.heap.size w w':=by
 have hlen:(cs.length:Int)<=9223372036854775807:=by
  obtain⟨_,_,_,_,hl,_⟩:=h.row
  exact hl
 have HC:=mH h
 have HE:=mH (And.intro E (And.intro G (And.intro hgo hB)))
 have HV:=mH (alive16 A w a a2 E G hB)
 clear h E G hgo hB
 by_cases hf:cntO cs<=60
 case neg=>
  have hfd:decide (cntO cs<=60)=false:=decide_eq_false hf
  clear hf
  go_enter Tryz.func8,Tryz.ntmps8
  go_wp2_with (first
   |(go_at_call 9;(with_reducible refine HV.out.mono ?_);rintro e w1 ⟨rfl,b1⟩;have HB1:=mH b1;clear b1)
   |(go_at_call 26;have HN:=few_is w1 al cl cs (HC.out.below HB1.out);rw [hfd] at HN;(with_reducible refine HN.mono ?_);clear HN;rintro e w2 ⟨rfl,b2⟩;have HB2:=mH (bt HB1.out b2);clear b2))
  go_ret
  exact⟨by simp,HB2.out⟩
 case pos=>
  have hfd:decide (cntO cs<=60)=true:=decide_eq_true hf
  have HF:=mH hf
  clear hf
  have M1:Hid True:=mH trivial
  go_enter Tryz.func8,Tryz.ntmps8
  go_wp2_with (first
   |(go_at_call 9;(with_reducible refine HV.out.mono ?_);rintro e w1 ⟨rfl,b1⟩;have HB1:=mH b1;clear b1)
   |(go_at_call 26;have HN:=few_is w1 al cl cs (HC.out.below HB1.out);rw [hfd] at HN;(with_reducible refine HN.mono ?_);clear HN;rintro e w2 ⟨rfl,b2⟩;have HB2:=mH (bt HB1.out b2);clear b2)
   |(go_at_call 10;have _m:=M1;clear M1;have HN:=hnew_is w2;(with_reducible refine HN.mono ?_);clear HN;rintro e w3 ⟨rfl,hb3,b3⟩;have HX3:Hid (HX w2.heap.size w2 (own0 w2.heap.size) w3 (w2.heap.size+1) w2.heap.size hs0):=mH ⟨⟨_,_,_,_,_,_,hb3⟩,b3⟩;have HF3:=mH (fx_new w2 0 HX3.out (HX3.out.zero (Nat.le_refl _)));have HB4:Hid (Below w2.heap.size w2 (w3.alloc (oFo (w2.heap.size+1) 0 (.slice none 0 0) 0))):=mH (ba b3 _);clear hb3 b3)
   |(go_at_call 10;have HS4:Hid ((w3.alloc (oFo (w2.heap.size+1) 0 (.slice none 0 0) 0)).heap.size=w3.heap.size+1):=mH (by simp);generalize w3.alloc (oFo (w2.heap.size+1) 0 (.slice none 0 0) 0)=W4 at HF3 HB4 HS4 ⊢;have HN:=hnew_is W4;(with_reducible refine HN.mono ?_);clear HN;rintro e w5 ⟨rfl,hb5,b5⟩;have HX5:=mH (hx_second (w2:=w2) (fun _=>rfl) hb5 HB4.out b5);have HF5:=mH (fx_new w2 0 HX5.out (HX5.out.zero (Nat.le_refl _)));have HG5:=mH ((HF3.out.late b5).late (ba (Below.refl _ w5) (oFo (W4.heap.size+1) 0 (.slice none 0 0) 0)));have HS5:=mH b5.size;have HS2:=mH (fun k (e:own0 W4.heap.size k ≠ 0)=>(hb5.sz k e).1);have hz1:=(HF3.out.late b5).cells.1;have hz2:=HF5.out.cells.1;clear hb5 b5))
  have HDJ:Hid (∀ k,FBk (own0 w2.heap.size) (fun _=>(0,0)) w3.heap.size k->¬ FBk (own0 W4.heap.size) (fun _=>(0,0)) w5.heap.size k):=mH (fun k e f=>by
   have h1:k<=w3.heap.size:=by
    rcases e with e | e | e
    ·have:=(HX3.out.sz k e).2;omega
    ·exact absurd rfl e
    ·omega
   rcases f with f | f | f
   ·have h2:=HS2.out k f;have:=HS4.out;omega
   ·exact absurd rfl f
   ·have:=HS4.out;have:=HS5.out;omega)
  clear hz1 hz2 HF3 HX5 HX3 HS5 HS2 HS4 HB4 hfd HV HB1
  generalize w5.alloc (oFo (W4.heap.size+1) 0 (.slice none 0 0) 0)=w6 at HG5 HF5 ⊢
  generalize own0 w2.heap.size=own1 at HG5 HDJ
  generalize own0 W4.heap.size=own2 at HF5 HDJ
  generalize w3.heap.size=fb1 at HG5 HDJ ⊢
  generalize w5.heap.size=fb2 at HF5 HDJ ⊢
  generalize W4.heap.size+1=b2 at HF5 ⊢
  generalize W4.heap.size=mb2 at HF5
  obtain⟨B,hBe⟩:∃ B,B=w2.heap.size:=⟨_,rfl⟩
  have HBW:Hid (16<=B/\w.heap.size<=B):=mH (by rw [hBe];have:=HB2.out.size;have:=HE.out.2.2.2;omega)
  rw [<- hBe] at HG5 HF5 ⊢
  clear hBe
  generalize B+1=b1 at HG5 ⊢
  have HE2:=mH (HE.out.1.late HB2.out)
  have HG2:Hid (Eg w2 a2):=mH (HE.out.2.1.low HB2.out HE.out.2.2.2)
  have HGO:=mH (kc HE.out.2.2.1 HB2.out)
  go_loopw [36] (fun iv wr=>∃ (j:Nat) (own1:Nat->Int) (tg1:Nat->Int × Int) (va1:Option Addr) (vc1:Nat) (ps1:List Spv) (own2:Nat->Int) (tg2:Nat->Int × Int) (va2:Option Addr) (vc2:Nat) (ps2:List Spv) (h2:Hs) (tk2:Nat),iv=.int .i64 (j:Int)/\j<=cs.length/\tk2<=900/\Hid (FX B w2 own1 tg1 wr fb1 b1 B h2 0 tk2 (.slice va1 ps1.length vc1) ps1)/\Hid (FX B w2 own2 tg2 wr fb2 b2 mb2 h2 0 tk2 (.slice va2 ps2.length vc2) ps2)/\Hid (DSt (cntO (cs.take j)) tk2 h2)/\Hid (Bd (1000 * tk2) ps1)/\Hid (Bd (1000 * tk2) ps2)/\Hid (ps1.map (·.1)=ps2.map (·.1))/\Hid (∀ k,FBk own1 tg1 fb1 k->¬ FBk own2 tg2 fb2 k)/\Hid (LenOk (ps1.map (·.1)))) (fun iv _=>cs.length - (intOf iv).toNat)
  case atStart=>exact⟨0,own1,_,none,0,[],own2,_,none,0,[],hs0,0,rfl,Nat.zero_le _,by omega,HG5,HF5,mH dst_zero,mH ⟨Nat.zero_le _,fun p hp=>by simp at hp⟩,mH ⟨Nat.zero_le _,fun p hp=>by simp at hp⟩,mH rfl,HDJ,mH (fun s hs=>by simp at hs)⟩
  case round=>
   clear HG5 HF5 HDJ
   obtain⟨j,own1,tg1,va1,vc1,ps1,own2,tg2,va2,vc2,ps2,h2,tk2,rfl,hj,htk,X2,Y2,D2,B2,C2,HM2,HDJ2,HLE2⟩:=hrel
   have hbw:Below w.heap.size w wr:=HB2.out.trans (X2.out.hx.bl.mono HBW.out.2)
   by_cases hlt:j < cs.length
   ·obtain⟨b0,off,x,rfl,hxj,hat⟩:=HC.out.row.at hbw j hlt
    obtain⟨q0,q1,q2,q3,q4,q5,q6,q7,q8,q9,q10,q11⟩:=twelve_at hat
    have HW:=mH (And.intro ((HC.out.each _ (List.mem_of_getElem? hxj)).1.below hbw) (HC.out.each _ (List.mem_of_getElem? hxj)).2)
    have HST:=mH (cntO_step hxj)
    have HCM:=mH (List.mem_of_getElem? hxj)
    have HN:Hid (cntO (cs.take j)<=60):=mH (Nat.le_trans (List.Sublist.countP_le (List.take_sublist j cs)) HF.out)
    have HN60:Hid (cntO (cs.take (j+1))<=60):=mH (Nat.le_trans (List.Sublist.countP_le (List.take_sublist (j+1) cs)) HF.out)
    obtain⟨ki,ci,ct,cn,⟨⟨oki,oid,⟨o1,o2,o3⟩,opo,ots,otm⟩,ota,otc⟩⟩:=x
    simp only [tvO] at q0 q1 q2 q3 q4 q5 q6 q7 q8 q9 q10 q11
    have hji:(j:Int) < cs.length:=by omega
    clear hat hxj hbw
    have XL:=mH (X2.out.late (ba (Below.refl _ wr) (.cells #[.int .i64 ki,.int .i64 ci,.int .i64 ct,.int .i64 cn,.int .i64 oki,.int .i64 oid,.int .i64 o1,.int .i64 o2,.int .i64 o3,.int .i64 opo,.slice ota ots.length otc,.int .i64 otm] 42)))
    have YL:=mH (Y2.out.late (ba (Below.refl _ wr) (.cells #[.int .i64 ki,.int .i64 ci,.int .i64 ct,.int .i64 cn,.int .i64 oki,.int .i64 oid,.int .i64 o1,.int .i64 o2,.int .i64 o3,.int .i64 opo,.slice ota ots.length otc,.int .i64 otm] 42)))
    have HC1:=mH (heap_alloc_new wr (.cells #[.int .i64 ki,.int .i64 ci,.int .i64 ct,.int .i64 cn,.int .i64 oki,.int .i64 oid,.int .i64 o1,.int .i64 o2,.int .i64 o3,.int .i64 opo,.slice ota ots.length otc,.int .i64 otm] 42))
    have HNX:Hid (¬ FBk own1 tg1 fb1 wr.heap.size):=mH (fun e=>by have:=(X2.out.lt e).2;omega)
    have HDO:=mH (do_two A a a2 XL.out (.inl rfl) HE2.out HG2.out ad HGO.out HBW.out.1 (cntO (cs.take j)) D2.out B2.out htk ki ci ct cn ((⟨oki,oid,(o1,o2,o3),opo,ots,otm⟩:Od),ota,otc) ⟨HW.out.1.below (ba (Below.refl _ wr) (.cells #[.int .i64 ki,.int .i64 ci,.int .i64 ct,.int .i64 cn,.int .i64 oki,.int .i64 oid,.int .i64 o1,.int .i64 o2,.int .i64 o3,.int .i64 opo,.slice ota ots.length otc,.int .i64 otm] 42)),HW.out.2⟩ HN.out)
    have M2:Hid True:=mH trivial
    go_wp2_with (first
     |(go_at_call 27;have _m:=M2;clear M2;(with_reducible refine HDO.out.mono ?_);rintro e w5 ⟨rfl,own3,tg3,v3,ps3,h3,tk3,hx3,hd3,hb3,ht3,hr3,hko3⟩;obtain⟨va3,vc3,rfl,_⟩:=own_sh hx3.sp.row;obtain⟨hy3,hdj3⟩:=two_step XL.out YL.out HDJ2.out hko3;have hc5:=(hko3.1.block _ (lOh HC1.out) HNX.out).trans HC1.out;have HW5:=mH (And.intro (HC.out.each _ HCM.out |>.1.below (HB2.out.trans (hx3.hx.bl.mono HBW.out.2))) HW.out.2);have HDP:=mH (do_two A a a2 hy3 (.inl rfl) HE2.out HG2.out ad HGO.out HBW.out.1 (cntO (cs.take j)) D2.out C2.out htk ki ci ct cn ((⟨oki,oid,(o1,o2,o3),opo,ots,otm⟩:Od),ota,otc) HW5.out HN.out);have X3:=mH hx3;have Y3:=mH hy3;have DJ3:=mH hdj3;have D3:=mH hd3;have B3:=mH hb3;have R3:=mH hr3;have v0:=cOb (i:=0) hc5 rfl;have v1:=cOb (i:=1) hc5 rfl;have v2:=cOb (i:=2) hc5 rfl;have v3:=cOb (i:=3) hc5 rfl;have v4:=cOb (i:=4) hc5 rfl;have v5:=cOb (i:=5) hc5 rfl;have v6:=cOb (i:=6) hc5 rfl;have v7:=cOb (i:=7) hc5 rfl;have v8:=cOb (i:=8) hc5 rfl;have v9:=cOb (i:=9) hc5 rfl;have v10:=cOb (i:=10) hc5 rfl;have v11:=cOb (i:=11) hc5 rfl;clear hx3 hy3 hd3 hb3 hr3 hko3 hdj3 hc5)
     |(go_at_call 27;(with_reducible refine HDP.out.mono ?_);rintro e w7 ⟨rfl,own4,tg4,v4',ps4,h4,tk4,hy4,hd4,hb4,ht4,hr4,hko4⟩;obtain⟨va4,vc4,rfl,_⟩:=own_sh hy4.sp.row;obtain⟨hx4,hdj4⟩:=two_step Y3.out X3.out (fun k f e=>DJ3.out k e f) hko4;rw [<- HM2.out] at hr4;have hu:=R3.out.uniq hr4;simp only [Prod.mk.injEq] at hu;obtain⟨rfl,rfl,hm4⟩:=hu;have X7:=mH hx4;have Y7:=mH hy4;have D7:Hid (DSt (cntO (cs.take (j+1))) tk3 h3):=mH (by rw [HST.out];exact dst_if hd4);have HM7:=mH hm4;have B7:=B3;have C7:=mH hb4;have HDJ7:Hid (∀ k,FBk own3 tg3 fb1 k->¬ FBk own4 tg4 fb2 k):=mH (fun k e f=>hdj4 k f e);have HLE7:=mH (R3.out.len HLE2.out);clear hx4 hy4 hd4 hb4 hr4 hko4 hdj4 hm4 v0 v1 v2 v3 v4 v5 v6 v7 v8 v9 v10 v11))
    obtain⟨hd0,hd1,hd2,hd3⟩:=D7.out
    have e1:=X7.out.cells.1
    have e2:=Y7.out.cells.1
    have e3:=X7.out.cells.2.2.1
    have e4:=Y7.out.cells.2.2.1
    have HX8:=mH (X7.out.late (Below.refl _ w7).drew)
    have HY8:=mH (Y7.out.late (Below.refl _ w7).drew)
    have HZZ:Hid (FX B w2 own3 tg3 w7.drew fb1 b1 B h3 0 tk3 (.slice va3 ps3.length vc3) ps3/\FX B w2 own4 tg4 w7.drew fb2 b2 mb2 h3 0 tk3 (.slice va4 ps4.length vc4) ps4):=mH ⟨HX8.out,HY8.out⟩
    have hlen:ps4.length=ps3.length:=by have:=congrArg List.length HM7.out;simpa using this.symm
    have HLL:=mH hlen
    clear HX8 HY8
    have hT:w7.drew.cell? ⟨fb1,0,none⟩=some (pB b1)/\w7.drew.cell? ⟨fb2,0,none⟩=some (pB b2)/\w7.drew.cell? ⟨fb1,2,none⟩=some (.slice va3 ps3.length vc3)/\w7.drew.cell? ⟨fb2,2,none⟩=some (.slice va4 ps4.length vc4):=⟨e1,e2,e3,e4⟩
    clear e1 e2 e3 e4
    refine wp_region_held_drew (S:=fun w'=>w'.cell? ⟨fb1,0,none⟩=some (pB b1)/\w'.cell? ⟨fb2,0,none⟩=some (pB b2)/\w'.cell? ⟨fb1,2,none⟩=some (.slice va3 ps3.length vc3)/\w'.cell? ⟨fb2,2,none⟩=some (.slice va4 ps4.length vc4)) (by kernel_rfl) hT (fun hHeld=>?_)
    obtain⟨e1,e2,e3,e4⟩:=hT
    refine tkE 0 46 (.pointer (some ⟨fb1,0,none⟩)) rfl rfl hHeld ?_
    (try simp only [sZ,sS])
    refine tkE 1 47 (.pointer (some ⟨fb1,0,none⟩)) rfl rfl hHeld ?_
    (try simp only [sZ,sS])
    refine tkE 2 48 (.pointer (some ⟨fb1,0,none⟩)) rfl rfl hHeld ?_
    (try simp only [sZ,sS])
    refine tkE 5 51 (.pointer (some ⟨fb2,0,none⟩)) rfl rfl hHeld ?_
    (try simp only [sZ,sS])
    refine tkE 6 52 (.pointer (some ⟨fb2,0,none⟩)) rfl rfl hHeld ?_
    (try simp only [sZ,sS])
    refine tkE 7 53 (.pointer (some ⟨fb2,0,none⟩)) rfl rfl hHeld ?_
    (try simp only [sZ,sS])
    refine tkE 3 49 (pB b1) rfl rfl hHeld ?_
    (try simp only [sZ,sS])
    refine tkE 8 54 (pB b2) rfl rfl hHeld ?_
    (try simp only [sZ,sS])
    refine wpAnyH_ready (rs:=[4]) (by kernel_rfl) (by simp) (AllReadyH.cons rfl (fun K2 hK2=>?_) AllReadyH.nil)
    go_simp
    have HN:=HZZ.out.1.hx.nows
    (with_reducible refine HN.mono ?_)
    clear HN
    rintro e w9 ⟨rfl,rfl⟩
    clear hHeld
    refine hK2.out _ _ ⟨e1,e2,e3,e4⟩ (fun hHeld=>?_)
    clear hK2 K2
    (try simp only [Act.put])
    refine wpAnyH_ready (rs:=[9]) (by kernel_rfl) (by simp) (AllReadyH.cons rfl (fun K2 hK2=>?_) AllReadyH.nil)
    go_simp
    have HN:=HZZ.out.2.hx.nows
    (with_reducible refine HN.mono ?_)
    clear HN
    rintro e w9 ⟨rfl,rfl⟩
    clear hHeld
    refine hK2.out _ _ ⟨e1,e2,e3,e4⟩ (fun hHeld=>?_)
    clear hK2 K2
    (try simp only [Act.put])
    refine tkE 10 56 (.bool false) rfl rfl hHeld ?_
    (try simp only [sZ,sS])
    refine tkE 11 57 (.bool false) rfl rfl hHeld ?_
    (try simp only [sZ,sS])
    refine tkE 12 58 (.pointer (some ⟨fb1,0,none⟩)) rfl rfl hHeld ?_
    (try simp only [sZ,sS])
    refine tkE 13 59 (.pointer (some ⟨fb1,0,none⟩)) rfl rfl hHeld ?_
    (try simp only [sZ,sS])
    refine tkE 14 60 (.pointer (some ⟨fb1,0,none⟩)) rfl rfl hHeld ?_
    (try simp only [sZ,sS])
    refine tkE 17 63 (.pointer (some ⟨fb2,0,none⟩)) rfl rfl hHeld ?_
    (try simp only [sZ,sS])
    refine tkE 18 64 (.pointer (some ⟨fb2,0,none⟩)) rfl rfl hHeld ?_
    (try simp only [sZ,sS])
    refine tkE 19 65 (.pointer (some ⟨fb2,0,none⟩)) rfl rfl hHeld ?_
    (try simp only [sZ,sS])
    refine tkE 15 61 (pB b1) rfl rfl hHeld ?_
    (try simp only [sZ,sS])
    refine tkE 20 66 (pB b2) rfl rfl hHeld ?_
    (try simp only [sZ,sS])
    refine wpAnyH_ready (rs:=[16]) (by kernel_rfl) (by simp) (AllReadyH.cons rfl (fun K2 hK2=>?_) AllReadyH.nil)
    go_simp
    have HN:=HZZ.out.1.hx.wait
    (with_reducible refine HN.mono ?_)
    clear HN
    rintro e w9 ⟨rfl,rfl⟩
    clear hHeld
    refine hK2.out _ _ ⟨e1,e2,e3,e4⟩ (fun hHeld=>?_)
    clear hK2 K2
    (try simp only [Act.put])
    refine wpAnyH_ready (rs:=[21]) (by kernel_rfl) (by simp) (AllReadyH.cons rfl (fun K2 hK2=>?_) AllReadyH.nil)
    go_simp
    have HN:=HZZ.out.2.hx.wait
    (with_reducible refine HN.mono ?_)
    clear HN
    rintro e w9 ⟨rfl,rfl⟩
    clear hHeld
    refine hK2.out _ _ ⟨e1,e2,e3,e4⟩ (fun hHeld=>?_)
    clear hK2 K2
    (try simp only [Act.put])
    refine tkE 22 68 (.bool false) rfl rfl hHeld ?_
    (try simp only [sZ,sS])
    refine tkE 23 69 (.bool false) rfl rfl hHeld ?_
    (try simp only [sZ,sS])
    refine tkE 24 70 (.bool false) rfl rfl hHeld ?_
    (try simp only [sZ,sS])
    refine tkE 25 71 (.pointer (some ⟨fb1,0,none⟩)) rfl rfl hHeld ?_
    (try simp only [sZ,sS])
    refine tkE 26 72 (.pointer (some ⟨fb1,0,none⟩)) rfl rfl hHeld ?_
    (try simp only [sZ,sS])
    refine tkE 27 73 (.pointer (some ⟨fb1,0,none⟩)) rfl rfl hHeld ?_
    (try simp only [sZ,sS])
    refine tkE 30 76 (.pointer (some ⟨fb2,0,none⟩)) rfl rfl hHeld ?_
    (try simp only [sZ,sS])
    refine tkE 31 77 (.pointer (some ⟨fb2,0,none⟩)) rfl rfl hHeld ?_
    (try simp only [sZ,sS])
    refine tkE 32 78 (.pointer (some ⟨fb2,0,none⟩)) rfl rfl hHeld ?_
    (try simp only [sZ,sS])
    refine tkE 28 74 (pB b1) rfl rfl hHeld ?_
    (try simp only [sZ,sS])
    refine tkE 33 79 (pB b2) rfl rfl hHeld ?_
    (try simp only [sZ,sS])
    refine wpAnyH_ready (rs:=[29]) (by kernel_rfl) (by simp) (AllReadyH.cons rfl (fun K2 hK2=>?_) AllReadyH.nil)
    go_simp
    have HN:=HZZ.out.1.hx.lates hd1 (by have:=HN60.out;omega)
    (with_reducible refine HN.mono ?_)
    clear HN
    rintro e w9 ⟨rfl,_,b9⟩
    have e1:=kc e1 b9
    have e2:=kc e2 b9
    have e3:=kc e3 b9
    have e4:=kc e4 b9
    have HZw9:=mH (And.intro (HZZ.out.1.late b9) (HZZ.out.2.late b9))
    have HBw9:=mH b9
    clear b9 HZZ
    clear hHeld
    refine hK2.out _ _ ⟨e1,e2,e3,e4⟩ (fun hHeld=>?_)
    clear hK2 K2
    (try simp only [Act.put])
    refine wpAnyH_ready (rs:=[34]) (by kernel_rfl) (by simp) (AllReadyH.cons rfl (fun K2 hK2=>?_) AllReadyH.nil)
    go_simp
    have HN:=HZw9.out.2.hx.lates hd1 (by have:=HN60.out;omega)
    (with_reducible refine HN.mono ?_)
    clear HN
    rintro e w10 ⟨rfl,_,b9⟩
    have e1:=kc e1 b9
    have e2:=kc e2 b9
    have e3:=kc e3 b9
    have e4:=kc e4 b9
    have HZw10:=mH (And.intro (HZw9.out.1.late b9) (HZw9.out.2.late b9))
    have HBw10:=mH b9
    clear b9 HZw9
    clear hHeld
    refine hK2.out _ _ ⟨e1,e2,e3,e4⟩ (fun hHeld=>?_)
    clear hK2 K2
    (try simp only [Act.put])
    refine tkE 35 81 (.bool false) rfl rfl hHeld ?_
    (try simp only [sZ,sS])
    refine tkE 36 82 (.bool false) rfl rfl hHeld ?_
    (try simp only [sZ,sS])
    refine tkE 37 83 (.bool false) rfl rfl hHeld ?_
    (try simp only [sZ,sS])
    refine tkE 38 84 (.pointer (some ⟨fb1,0,none⟩)) rfl rfl hHeld ?_
    (try simp only [sZ,sS])
    refine tkE 39 85 (.pointer (some ⟨fb1,0,none⟩)) rfl rfl hHeld ?_
    (try simp only [sZ,sS])
    refine tkE 40 86 (.pointer (some ⟨fb1,2,none⟩)) rfl rfl hHeld ?_
    (try simp only [sZ,sS])
    refine tkE 41 87 (.slice va3 ps3.length vc3) rfl rfl hHeld ?_
    (try simp only [sZ,sS])
    refine tkE 42 88 (.int .i64 (ps3.length:Int)) rfl rfl hHeld ?_
    (try simp only [sZ,sS])
    refine tkE 43 89 (.pointer (some ⟨fb2,0,none⟩)) rfl rfl hHeld ?_
    (try simp only [sZ,sS])
    refine tkE 44 90 (.pointer (some ⟨fb2,0,none⟩)) rfl rfl hHeld ?_
    (try simp only [sZ,sS])
    refine tkE 45 91 (.pointer (some ⟨fb2,2,none⟩)) rfl rfl hHeld ?_
    (try simp only [sZ,sS])
    refine tkE 46 92 (.slice va4 ps4.length vc4) rfl rfl hHeld ?_
    (try simp only [sZ,sS])
    refine tkE 47 93 (.int .i64 (ps4.length:Int)) rfl rfl hHeld ?_
    (try simp only [sZ,sS])
    have hne:((ps3.length:Int) != (ps4.length:Int))=false:=by rw [HLL.out];simp
    refine tkE 48 94 (.bool false) rfl rfl hHeld ?_
    (try simp only [sZ,sS])
    clear hne
    refine tkE 49 95 (.bool false) rfl rfl hHeld ?_
    (try simp only [sZ,sS])
    refine wpAnyH_done (by kernel_rfl) ?_ _
    clear e1 e2 e3 e4 hd0 hd1 hd2 hd3 hHeld
    go_wp2
    go_roundw
    case rel=>exact⟨j+1,own3,tg3,va3,vc3,ps3,own4,tg4,va4,vc4,ps4,h3,tk3,by go_num,hlt,ht3,HZw10.out.1 |> mH,HZw10.out.2 |> mH,D7,B7,C7,HM7,HDJ7,HLE7⟩
    case measure=>simp [intOf];omega
   ·obtain rfl:j=cs.length:=by omega
    have hl1:ps1.length<=900000:=by have:=B2.out.1;omega
    have hl1i:(ps1.length:Int)<=900000:=by omega
    obtain⟨x0,x1,x2,x3,_,_⟩:=X2.out.cells
    obtain⟨y0,y1,y2,y3,_,_⟩:=Y2.out.cells
    go_wp2
    go_loopw [102] (fun iv w3=>∃ i:Nat,iv=.int .i64 (i:Int)/\i<=ps1.length/\Hid (Below wr.heap.size wr w3)) (fun iv _=>ps1.length - (intOf iv).toNat)
    case atStart=>exact⟨0,rfl,Nat.zero_le _,mH (Below.refl _ _)⟩
    case round=>
     rename World=>w3
     clear x0 x1 x2 x3 y0 y1 y2 y3
     obtain⟨i,rfl,hi,HB3⟩:=hrel
     have X3:=mH (X2.out.late HB3.out)
     have Y3:=mH (Y2.out.late HB3.out)
     obtain⟨x0,x1,x2,x3,_,_⟩:=X3.out.cells
     obtain⟨y0,y1,y2,y3,_,_⟩:=Y3.out.cells
     by_cases hlt2:i < ps1.length
     ·have hlen2:ps2.length=ps1.length:=by have:=congrArg List.length HM2.out;simpa using this.symm
      obtain⟨b3,o3,p,hva,hpi,hat⟩:=(X3.out.sp.rowIn (by omega)).at (Below.refl _ _) i hlt2
      obtain⟨b4,o4,q,hvb,hqi,hat2⟩:=(Y3.out.sp.rowIn (by omega)).at (Below.refl _ _) i (by omega)
      have hpq:p.1=q.1:=by
       have h1:=congrArg (fun l=>l[i]?) HM2.out
       simp only [List.getElem?_map,hpi,hqi,Option.map_some,Option.some.injEq] at h1
       exact h1
      have hle:=HLE2.out p.1 (List.mem_map.mpr ⟨p,List.mem_of_getElem? hpi,rfl⟩)
      have hbp:=(B2.out.2 p (List.mem_of_getElem? hpi))
      have HWP:=mH (And.intro (X3.out.sp.wk p (List.mem_of_getElem? hpi)) (X3.out.sp.rn p (List.mem_of_getElem? hpi)))
      have HWQ:=mH (And.intro (Y3.out.sp.wk q (List.mem_of_getElem? hqi)) (Y3.out.sp.rn q (List.mem_of_getElem? hqi)))
      obtain⟨p0,p1,p2,p3,p4,p5⟩:=six_at hat
      obtain⟨q0,q1,q2,q3,q4,q5⟩:=six_at hat2
      obtain⟨⟨id,⟨sk,sq,st⟩,wk,rn⟩,⟨wa,wc⟩,⟨na2,nc2⟩⟩:=p
      obtain⟨⟨id',⟨sk',sq',st'⟩,wk',rn'⟩,⟨wa',wc'⟩,⟨na2',nc2'⟩⟩:=q
      simp only [Sp.mk.injEq,Prod.mk.injEq] at hpq
      obtain⟨rfl,⟨rfl,rfl,rfl⟩,rfl,rfl⟩:=hpq
      simp only [wkV,rnV] at p0 p1 p2 p3 p4 p5 q0 q1 q2 q3 q4 q5 HWP HWQ
      simp only at hle hbp
      subst hva
      subst hvb
      clear hat hat2 hpi hqi
      have hii:(i:Int) < ps1.length:=by omega
      have hii2:(i:Int) < ps2.length:=by omega
      have hrl:(rn.length:Int)<=900000:=by omega
      rw [hlen2] at y2
      go_wp2
      clear x0 x1 x2 x3 y0 y1 y2 y3 p0 p1 p2 p3 p4 p5 q0 q1 q2 q3 q4 q5
      obtain⟨W4,hW4⟩:∃ W4,W4=(w3.alloc (.cells #[.int .i64 id,.int .i64 sk,.int .i64 sq,.int .i64 st,.slice wa rn.length wc,.slice na2 rn.length nc2] 84)).alloc (.cells #[.int .i64 id,.int .i64 sk,.int .i64 sq,.int .i64 st,.slice wa' rn.length wc',.slice na2' rn.length nc2'] 84):=⟨_,rfl⟩
      have HB4:Hid (Below w3.heap.size w3 W4):=mH (by rw [hW4];exact ba (ba (Below.refl _ w3) _) _)
      have H8:Hid (W4.heap[w3.heap.size]?=some (.cells #[.int .i64 id,.int .i64 sk,.int .i64 sq,.int .i64 st,.slice wa rn.length wc,.slice na2 rn.length nc2] 84)):=mH (by rw [hW4];exact(heap_alloc_old _ _ (by simp)).trans (heap_alloc_new w3 _))
      have H9:Hid (W4.heap[w3.heap.size+1]?=some (.cells #[.int .i64 id,.int .i64 sk,.int .i64 sq,.int .i64 st,.slice wa' rn.length wc',.slice na2' rn.length nc2'] 84)):=mH (by rw [hW4];exact two_of2 w3 _ _)
      rw [<- hW4]
      clear hW4
      go_loopw [131] (fun lv w4=>∃ l:Nat,lv=.int .i64 (l:Int)/\l<=rn.length/\Hid (Below W4.heap.size W4 w4)) (fun lv _=>rn.length - (intOf lv).toNat)
      case atStart=>exact⟨0,rfl,Nat.zero_le _,mH (Below.refl _ _)⟩
      case round=>
       rename World=>w4
       obtain⟨l,rfl,hl,HB5⟩:=hrel
       by_cases hlt3:l < rn.length
       ·have hb34:Below w3.heap.size w3 w4:=bt HB4.out HB5.out
        obtain⟨s0,s1,s2,s3,s4,s5⟩:=six_cells ((HB5.out.block _ (lOh H8.out)).trans H8.out)
        obtain⟨t0,t1,t2,t3,t4,t5⟩:=six_cells ((HB5.out.block _ (lOh H9.out)).trans H9.out)
        obtain⟨g1,c1,z1,rfl,hz1,k1,_⟩:=bit_at HWP.out.1 (show l < wk.length by omega)
        obtain⟨g2,c2,z2,rfl,hz2,k2,_⟩:=bit_at HWP.out.2 hlt3
        obtain⟨g3,c3',z3,rfl,hz3,k3,_⟩:=bit_at HWQ.out.1 (show l < wk.length by omega)
        obtain⟨g4,c4',z4,rfl,hz4,k4,_⟩:=bit_at HWQ.out.2 hlt3
        obtain rfl:z3=z1:=by rw [hz1] at hz3;exact(Option.some.inj hz3).symm
        obtain rfl:z4=z2:=by rw [hz2] at hz4;exact(Option.some.inj hz4).symm
        have k1:=kc k1 hb34
        have k2:=kc k2 hb34
        have k3:=kc k3 hb34
        have k4:=kc k4 hb34
        clear hz1 hz2 hz3 hz4
        have hll:(l:Int) < rn.length:=by omega
        have hlw:(l:Int) < wk.length:=by omega
        cases z3 <;> cases z4
        all_goals
         go_wp2
         go_quiet (fail)
         go_wp2
         go_roundw
         case rel=>exact⟨l+1,by go_num,by omega,mH (below_drewG HB5.out _)⟩
         case measure=>simp [intOf];omega
       ·obtain rfl:l=rn.length:=by omega
        go_wp2
        go_roundw
        case rel=>exact⟨i+1,by go_num,by omega,mH (bt HB3.out (bt HB4.out HB5.out))⟩
        case measure=>simp [intOf];omega
     ·obtain rfl:i=ps1.length:=by omega
      go_wp2
      go_ret
      exact⟨by simp,bt hbw HB3.out⟩
end Go.Proofs.YtpdehdomilnmeaaGreatDoor
