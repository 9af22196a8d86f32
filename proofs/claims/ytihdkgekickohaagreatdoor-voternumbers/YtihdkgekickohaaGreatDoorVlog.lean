import Derived.Test.YtihdkgekickohaaGreatDoorWgX
namespace Go.Proofs.YtihdkgekickohaaGreatDoor
open Go.ChangeShapes Go.WideShapes Go.ChangeAt Go.RowKit
set_option maxRecDepth 100000
def np6 (E G N:Nat) (b:List Int):Nat:=npc (frm (⟨G,E,N,b⟩:Rc)).length
def lst6 (F:Nat → Prop) (l:Nat) (FR:Nat → Prop) (j:Nat):Prop:=F j ∨ j = l ∨ FR j
structure SX (B:Nat → Prop) (w wr:World) (p l n s E G I k U:Nat) (q:Bool) (ds:List (List Int)) (F FR:Nat → Prop) (fr nx:Nat) (f:Int → List Int) (c:List (Int × List Int)) (nw:Int) (v:Value) (ts:List Rp):Prop where
 lr:LR w wr l p n s E G I k F FR fr nx f c nw v ts
 eq:ts.map (·.1.data) = ds
 us:nx = fr + U
 cl:q = true → c = []
 bs:∀ j,B j ↔ lst6 F l FR j
def SL (B:Nat → Prop) (w wr:World) (p l n s E G I k U:Nat) (q:Bool) (ds:List (List Int)):Prop:=
 ∃ F FR fr nx f c nw v ts,SX B w wr p l n s E G I k U q ds F FR fr nx f c nw v ts
theorem LR.kept {w wr w':World} {l p n s E G I k:Nat} {F FR:Nat → Prop} {fr nx:Nat} {f:Int → List Int} {c:List (Int × List Int)} {nw:Int} {v:Value} {ts:List Rp} (h:LR w wr l p n s E G I k F FR fr nx f c nw v ts) {K:Nat → Prop} (hk:Kept K wr w') (hK:∀ j,lst6 F l FR j → ¬ K j) (hge:∀ j,K j → w.heap.size ≤ j):LR w w' l p n s E G I k F FR fr nx f c nw v ts:=by
 obtain ⟨h,hri⟩:=h
 exact ⟨⟨h.dk.kept hk (fun j a=>hK j (.inl a)),(hk.block l (wlt_of_heap h.lg) (hK l (.inr (.inl rfl)))).trans h.lg,h.rc.kept hk (fun j a=>hK j (.inr (.inr a))),h.bd,h.tl,h.tp,h.lF,h.lR,h.RF,h.di,h.cl,h.nw0,h.nw1,⟨hk.os.trans h.bl.os,hk.tape.trans h.bl.tape,hk.output.trans h.bl.output,Nat.le_trans h.bl.size hk.size,fun j hj=>(hk.block j (Nat.lt_of_lt_of_le hj h.bl.size) (fun e=>by have:=hge j e;omega)).trans (h.bl.block j hj)⟩,h.ge⟩,hri⟩
theorem LR.lt {w wr:World} {l p n s E G I k:Nat} {F FR:Nat → Prop} {fr nx:Nat} {f:Int → List Int} {c:List (Int × List Int)} {nw:Int} {v:Value} {ts:List Rp} (h:LR w wr l p n s E G I k F FR fr nx f c nw v ts) (j:Nat) (hj:lst6 F l FR j):w.heap.size ≤ j ∧ j < wr.heap.size:=by
 rcases hj with a | rfl | a
 ·exact ⟨h.ls.ge j (.inl a),h.ls.dk.1 j a⟩
 ·exact ⟨h.ls.ge j (.inr (.inr rfl)),wlt_of_heap h.ls.lg⟩
 ·exact ⟨h.ls.ge j (.inr (.inl a)),h.ls.rc.lt j a⟩
theorem SL.blk {B:Nat → Prop} {w wr:World} {p l n s E G I k U:Nat} {q:Bool} {ds:List (List Int)} (h:SL B w wr p l n s E G I k U q ds) (j:Nat) (hj:B j):w.heap.size ≤ j ∧ j < wr.heap.size:=by
 obtain ⟨F,FR,fr,nx,f,c,nw,v,ts,h⟩:=h
 exact h.lr.lt j ((h.bs j).mp hj)
theorem SL.lg {B:Nat → Prop} {w wr:World} {p l n s E G I k U:Nat} {q:Bool} {ds:List (List Int)} (h:SL B w wr p l n s E G I k U q ds):B l ∧ B p:=by
 obtain ⟨F,FR,fr,nx,f,c,nw,v,ts,h⟩:=h
 exact ⟨(h.bs l).mpr (.inr (.inl rfl)),(h.bs p).mpr (.inl h.lr.ls.dk.2.1)⟩
theorem SL.kept {B:Nat → Prop} {w wr w':World} {p l n s E G I k U:Nat} {q:Bool} {ds:List (List Int)} (h:SL B w wr p l n s E G I k U q ds) {K:Nat → Prop} (hk:Kept K wr w') (hK:∀ j,B j → ¬ K j) (hge:∀ j,K j → w.heap.size ≤ j):SL B w w' p l n s E G I k U q ds:=by
 obtain ⟨F,FR,fr,nx,f,c,nw,v,ts,h⟩:=h
 exact ⟨F,FR,fr,nx,f,c,nw,v,ts,h.lr.kept hk (fun j hj=>hK j ((h.bs j).mpr hj)) hge,h.eq,h.us,h.cl,h.bs⟩
theorem SL.below {B:Nat → Prop} {w wr w':World} {p l n s E G I k U:Nat} {q:Bool} {ds:List (List Int)} (h:SL B w wr p l n s E G I k U q ds) (hb:Below wr.heap.size wr w'):SL B w w' p l n s E G I k U q ds:=by
 obtain ⟨F,FR,fr,nx,f,c,nw,v,ts,h⟩:=h
 exact ⟨F,FR,fr,nx,f,c,nw,v,ts,h.lr.below hb,h.eq,h.us,h.cl,h.bs⟩
theorem SL.low {B:Nat → Prop} {w wr:World} {p l n s E G I k U:Nat} {q:Bool} {ds:List (List Int)} (h:SL B w wr p l n s E G I k U q ds):Below w.heap.size w wr:=by
 obtain ⟨F,FR,fr,nx,f,c,nw,v,ts,h⟩:=h
 exact h.lr.ls.bl
theorem SL.more {B:Nat → Prop} {w wr:World} {p l n s E G I k U:Nat} {q:Bool} {ds:List (List Int)} (h:SL B w wr p l n s E G I k U q ds) (I' k':Nat) (hI:I ≤ I') (hk:k ≤ k'):SL B w wr p l n s E G I' k' U q ds:=by
 obtain ⟨F,FR,fr,nx,f,c,nw,v,ts,h⟩:=h
 exact ⟨F,FR,fr,nx,f,c,nw,v,ts,h.lr.more _ _ hI hk,h.eq,h.us,h.cl,h.bs⟩
theorem LR.last {w wr:World} {l p n s E G I k:Nat} {F FR:Nat → Prop} {fr nx:Nat} {f:Int → List Int} {c:List (Int × List Int)} {nw:Int} {v:Value} {ts:List Rp} (h:LR w wr l p n s E G I k F FR fr nx f c nw v ts):lgen (ts.map (·.1)) = G ∧ lix (ts.map (·.1)) + 1 = ts.length:=by
 refine ⟨h.ri.lg,?_⟩
 have hne:=h.ri.ne
 have hi:=h.ri.go.index (ts.length - 1) ((ts.map (·.1)).getLast hne) (by
  have hp:=List.length_pos_iff.mpr hne
  rw [List.getLast_eq_getElem,show ts.length - 1 = (ts.map (·.1)).length - 1 by simp]
  exact List.getElem?_eq_getElem _)
 have hp:0 < ts.length:=by simpa using List.length_pos_iff.mpr hne
 unfold lix
 rw [List.getLast?_eq_some_getLast hne]
 simp only [Option.map_some,Option.getD_some] at hi ⊢
 rw [hi];omega
set_option maxHeartbeats 1600000 in
theorem sl_append {B:Nat → Prop} {w wr:World} {p l n s E G I k U:Nat} {q:Bool} {ds:List (List Int)} (h:SL B w wr p l n s E G I k U q ds) (hn:(n:Int) ≤ 1024) (hk:k ≤ 2000) (hI:I ≤ 1000000) (ba:Option Addr) (bc:Nat) (data:List Int) (hrd:Rd wr (.slice ba data.length bc) data) (hd:data.length ≤ 32000) (eF:Addr) (heF:w.cell? ⟨2,0,none⟩ = some (vEr eF)) :
  Calls Tryz.prog 114 #[.pointer (some ⟨l,0,none⟩),.slice ba data.length bc] wr fun e w'=>(U + np6 E G ds.length data ≤ s ∧ e = .returned .nilIface ∧ ∃ B',SL B' w w' p l n s E G (I + 1) (k + 1) (U + np6 E G ds.length data) false (ds ++ [data]) ∧ (∀ j,B' j → B j ∨ wr.heap.size ≤ j) ∧ Kept B wr w') ∨ (¬ U + np6 E G ds.length data ≤ s ∧ e = .returned (vEr eF) ∧ Below wr.heap.size wr w'):=by
 obtain ⟨F,FR,fr,nx,f,c,nw,v,ts,h⟩:=h
 obtain ⟨hlr,hds,hus,hcl,hbs⟩:=h
 obtain ⟨e1,e2⟩:=hlr.last
 have hdl:ds.length = ts.length:=by rw [← hds,List.length_map]
 obtain ⟨h,hri⟩:=hlr
 have hfr:=h.di.frs
 have htw:=h.di.two
 obtain ⟨va,vc,hva⟩:=h.rc.shape
 obtain ⟨r1,hr1,e1',e2',_,hb1⟩:=last_in (rs:=ts.map (·.1)) (T:=fun r=>r.gen ≤ G ∧ r.index ≤ I) (fun r hr=>by
  obtain ⟨t,ht,rfl⟩:=List.mem_map.mp hr
  exact h.bd t ht) hri.ne
 obtain ⟨t1,ht1,hte⟩:=List.mem_map.mp hr1
 have hok1:=h.rc.ok t1 ht1
 rw [hte] at hok1
 have g1:r1.gen = G:=by rw [← e1',e1]
 have g2:r1.index + 1 = ts.length:=by rw [← e2',e2]
 have hx:=hok1.g
 have hx2:=hb1.2
 have hok:(⟨G,E,ts.length,data⟩:Rc).ok:=⟨by show G ≤ _;rw [← g1];exact hx,h.di.eb,by show ts.length ≤ _;omega,by show data.length ≤ _;omega,hrd.1⟩
 have hnp:np6 E G ds.length data = npc (frm (⟨G,E,ts.length,data⟩:Rc)).length:=by unfold np6;rw [hdl]
 rw [hnp]
 by_cases hfit:nx + npc (frm (⟨G,E,ts.length,data⟩:Rc)).length ≤ fr + s
 ·have hlix:lix (ts.map (·.1)) = ts.length - 1:=by omega
  have hsub:ts.length - 1 + 1 = ts.length:=by have:=h.tp;omega
  refine (append_fitK h hn hk hI ba bc data hrd hd G (ts.length - 1) e1 hlix (by rw [hsub];exact hfit)).mono ?_
  rw [hsub]
  rintro e w' ⟨rfl,F',FR',v',da,dc,hL,hfm⟩
  refine .inl ⟨by omega,rfl,lst6 F' l FR',⟨F',FR',fr,_,f,_,_,v',_,⟨hL,?_⟩,?_,?_,fun e=>by simp at e,fun j=>Iff.rfl⟩,?_,?_⟩
  ·rw [List.map_append,List.map_singleton]
   obtain ⟨q1,q2⟩:=seen_writes f c (frm (⟨G,E,ts.length,data⟩:Rc)) (nx:Int) (npc (frm (⟨G,E,ts.length,data⟩:Rc)).length)
   exact hri.append _ hok hd rfl (by show ts.length = _;rw [e2]) rfl hfit q1 q2 (fun i=>(hL.di.seen.1 i).len)
  ·rw [List.map_append,hds];rfl
  ·omega
  ·intro j hj
   rcases hj with a | a | a
   ·exact (hfm.2.1 j a).imp (fun a=>(hbs j).mpr (.inl a)) id
   ·exact .inl ((hbs j).mpr (.inr (.inl a)))
   ·exact (hfm.2.2.1 j a).imp (fun a=>(hbs j).mpr (.inr (.inr a))) id
  ·exact hfm.1.mono (fun j hj=>(hbs j).mpr hj)
 ·subst hva
  have hlast:=last_any wr (.int .i64 (fr:Int)) (.int .i64 ((fr + s:Nat):Int)) (.int .i64 (nx:Int)) (.slice va ts.length vc) ts h.rc (by have:=h.tl;omega)
  rw [e1',e2'] at hlast
  have hfl:=frm_len hok hd
  have hnx:=h.di.nxl
  have hnpc:npc (frm (⟨G,E,ts.length,data⟩:Rc)).length ≤ 600:=by unfold npc;omega
  refine (ap_full F wr l p n fr (fr + s) nx r1.gen r1.index (r1.index + 1) E va vc ts f c nw ba bc data eF h.lg h.dk hrd hd (hlast.mono fun e w' hq=>⟨by obtain ⟨⟨da,dn,dc,he⟩,_⟩:=hq;exact ⟨_,da,dn,dc,he⟩,hq.2⟩) rfl (by have:=hok1.i;omega) (fun W da dc hb hr ho=>?_)).mono ?_
  ·rw [g1,g2]
   exact with_full W fr (fr + s) nx va ts.length vc ((⟨G,E,ts.length,data⟩:Rc),da,dc) (vEr eF) hok hd hr (by show fr + s < nx + npc (frm (⟨G,E,ts.length,data⟩:Rc)).length;omega) (by rcases hfr with e | e <;> omega) (cell_lat hb (cell_lat h.bl heF))
  ·rintro e w' ⟨rfl,hb⟩
   exact .inr ⟨by omega,rfl,hb⟩
set_option maxHeartbeats 1600000 in
theorem sl_check {B:Nat → Prop} {w wr:World} {p l n s E G I k U:Nat} {q:Bool} {ds:List (List Int)} (h:SL B w wr p l n s E G I k U q ds) (hn:(n:Int) ≤ 1024) (hk:k ≤ 2000) (hG:G ≤ 1000000) (ba:Option Addr) (bc:Nat) (data:List Int) (hrd:Rd wr (.slice ba data.length bc) data) (hd:data.length ≤ 32000) (eF:Addr) (heF:w.cell? ⟨2,0,none⟩ = some (vEr eF)) :
  Calls Tryz.prog 116 #[.pointer (some ⟨l,0,none⟩),.slice ba data.length bc] wr fun e w'=>(np6 E (G + 1) 0 data ≤ s ∧ e = .returned .nilIface ∧ ∃ B',SL B' w w' p l n s E (G + 1) I (k + 1) (np6 E (G + 1) 0 data) true [data] ∧ (∀ j,B' j → B j ∨ wr.heap.size ≤ j) ∧ Kept B wr w') ∨ (¬ np6 E (G + 1) 0 data ≤ s ∧ e = .returned (vEr eF) ∧ Below wr.heap.size wr w'):=by
 obtain ⟨F,FR,fr,nx,f,c,nw,v,ts,h⟩:=h
 obtain ⟨hlr,hds,hus,hcl',hbs⟩:=h
 obtain ⟨g1,g2⟩:=hlr.last
 obtain ⟨h,hri⟩:=hlr
 have hcl:=h.cl
 have hnw1:=h.nw1
 have htw:=h.di.two
 have hfr:=h.di.frs
 have hs1:=h.di.one
 obtain ⟨va,vc,rfl⟩:=h.rc.shape
 obtain ⟨r1,hr1,e1,e2,_,hb1⟩:=last_in (rs:=ts.map (·.1)) (T:=fun r=>r.gen ≤ G ∧ r.index ≤ I) (fun r hr=>by
  obtain ⟨t,ht,rfl⟩:=List.mem_map.mp hr
  exact h.bd t ht) hri.ne
 obtain rfl:G = r1.gen:=by rw [← e1,g1]
 obtain ⟨fr2,hf2,hoth⟩:=other_is (s:=s) (fr:=fr) (by omega) hs1 hfr
 have hla:∀ W,Below wr.heap.size wr W → Calls Tryz.prog 105 #[.agg #[.int .i64 (fr:Int),.int .i64 ((fr + s:Nat):Int),.slice va ts.length vc,.int .i64 (nx:Int)]] W fun e w'=>∃ (ge gi:Int) (gd:Option Addr) (gl gc:Nat),e = .returned (.agg #[.int .i64 (r1.gen:Int),.int .i64 ge,.int .i64 gi,.slice gd gl gc]) ∧ Below W.heap.size W w':=fun W hb=>by
  have:=last_any W (.int .i64 (fr:Int)) (.int .i64 ((fr + s:Nat):Int)) (.int .i64 (nx:Int)) (.slice va ts.length vc) ts (h.rc.below hb) (by have:=h.tl;omega)
  rw [e1] at this
  exact this.mono fun e w' ⟨⟨da,dn,dc,he⟩,hb⟩=>⟨_,_,da,dn,dc,he,hb⟩
 have hok:(⟨r1.gen + 1,E,0,data⟩:Rc).ok:=⟨by show r1.gen + 1 ≤ _;omega,h.di.eb,by show 0 ≤ _;omega,by show data.length ≤ _;omega,hrd.1⟩
 have hfl:=frm_len hok hd
 have hnpc:npc (frm (⟨r1.gen + 1,E,0,data⟩:Rc)).length ≤ 600:=by unfold npc;omega
 have hnp:np6 E (r1.gen + 1) 0 data = npc (frm (⟨r1.gen + 1,E,0,data⟩:Rc)).length:=rfl
 rw [hnp]
 by_cases hfit:npc (frm (⟨r1.gen + 1,E,0,data⟩:Rc)).length ≤ s
 ·refine (ck_ok F wr l p n fr (fr + s) nx fr2 (fr2 + s) (r1.gen + 1) E va vc ts f c nw ba bc data h.lg h.dk hrd hd (fun W da dc hb hr ho=>?_) (wlt_of_heap h.lg) h.lF (by rcases hf2 with e | e <;> omega) (by omega) hn (by omega) ⟨h.nw0,by omega⟩ _ rfl).mono ?_
  ·exact anew_ok (F:=FR) W fr (fr + s) nx fr2 (fr2 + s) r1.gen (r1.gen + 1) E va da vc dc ts data (h.rc.below hb) (by omega) rfl h.di.eb hd hr ho (by omega) (by rcases hf2 with e | e <;> omega) (fun W'=>hoth W' _ _) (fun W' hb'=>hla W' (hb.trans (hb'.mono hb.size)))
  ·rintro e w' ⟨rfl,F',F1,v',da,dc,q1,q2,q3,q4,q5,q6⟩
   have hdi:=h.di.begin _ hok hd (Nat.le_refl _) (by show r1.gen + 1 ≤ _;omega) (by show 1 ≤ r1.gen + 1;omega) rfl (sec_frm hok) fr2 hf2 hfit
   have hsec:∀ x ∈ c ++ writesOf (frm (⟨r1.gen + 1,E,0,data⟩:Rc)) (fr2:Int) (npc (frm (⟨r1.gen + 1,E,0,data⟩:Rc)).length),Sec x.2:=fun x hx=>by
    rcases List.mem_append.mp hx with a | a
    ·exact h.di.sc x a
    ·exact sec_writes (sec_frm hok) _ _ x a
   obtain ⟨_,hfl2⟩:=flushed_is f h.di.hd _ hsec
   obtain ⟨s1,s2⟩:=seen_writes f c (frm (⟨r1.gen + 1,E,0,data⟩:Rc)) (fr2:Int) (npc (frm (⟨r1.gen + 1,E,0,data⟩:Rc)).length)
   refine .inl ⟨hfit,rfl,lst6 F' l F1,⟨F',F1,fr2,_,_,[],_,v',_,⟨⟨q1,q2,q3,?_,by simp;omega,by simp,?_,?_,?_,hdi,by simp,?_,?_,kept_low (FR:=FR) h.bl ⟨q6.os,q6.tape,q6.output,q6.size,fun j hj hn=>q6.block j hj (fun e=>hn (by rcases e with a | a;exact .inl a;exact .inr (.inl a)))⟩ h.ge,?_⟩,?_⟩,rfl,rfl,fun _=>rfl,fun j=>Iff.rfl⟩,?_,q6.mono (fun j h=>(hbs j).mpr (by rcases h with a | a;exact .inl a;exact .inr (.inl a)))⟩
   ·intro t ht
    simp at ht;subst ht
    exact ⟨by show r1.gen + 1 ≤ _;omega,by show 0 ≤ _;omega⟩
   ·exact fun e=>by
     rcases q4 l e with a | a
     ·exact h.lF a
     ·have:=wlt_of_heap h.lg;omega
   ·exact fun e=>by
     have:=(q5 l e).1
     have:=wlt_of_heap h.lg;omega
   ·exact fun j hj=>(q5 j hj).2
   ·have:=h.nw0;omega
   ·omega
   ·intro j hj
    have hs:=h.bl.size
    rcases hj with a | a | a
    ·rcases q4 j a with b | b
     ·exact h.ge j (.inl b)
     ·omega
    ·have:=(q5 j a).1;omega
    ·exact h.ge j (.inr (.inr a))
   ·rw [List.map_singleton]
    refine RI.begin (g:=seenOf f c) h.di.seen.2.1 _ hok hd (by show r1.gen + 1 = _;rfl) rfl rfl fr2 hf2 hfit (fun i hi=>?_) (fun q _ _ hq=>?_) (fun i=>(hdi.seen.1 i).len)
    ·exact (hfl2 _).trans (s1 i hi)
    ·exact (hfl2 _).trans (s2 q hq)
   ·intro j hj
    rcases hj with a | a | a
    ·exact (q4 j a).imp (fun a=>(hbs j).mpr (.inl a)) id
    ·exact .inl ((hbs j).mpr (.inr (.inl a)))
    ·exact .inr (q5 j a).1
 ·refine (ck_full F wr l p n fr (fr + s) nx E va vc ts f c nw ba bc data eF h.lg h.dk hrd hd (fun W da dc hb hr ho=>?_)).mono ?_
  ·exact anew_full (F:=FR) W fr (fr + s) nx fr2 (fr2 + s) r1.gen (r1.gen + 1) E va da vc dc ts data eF (h.rc.below hb) (by omega) rfl h.di.eb hd hr (by omega) (by rcases hf2 with e | e <;> omega) (cell_lat hb (cell_lat h.bl heF)) (fun W'=>hoth W' _ _) (fun W' hb'=>hla W' (hb.trans (hb'.mono hb.size)))
  ·rintro e w' ⟨rfl,hb⟩
   exact .inr ⟨hfit,rfl,hb⟩
theorem sl_sync {B:Nat → Prop} {w wr:World} {p l n s E G I k U:Nat} {q:Bool} {ds:List (List Int)} (h:SL B w wr p l n s E G I k U q ds) (hk:k ≤ 2001) :
  Calls Tryz.prog 76 #[.pointer (some ⟨l,0,none⟩)] wr fun e w'=>e = .returned .nilIface ∧ SL B w w' p l n s E G I k U true ds ∧ Kept B wr w':=by
 obtain ⟨F,FR,fr,nx,f,c,nw,v,ts,h⟩:=h
 obtain ⟨hlr,hds,hus,hcl',hbs⟩:=h
 obtain ⟨h,hri⟩:=hlr
 refine (sync_ok F wr l p n fr (fr + s) nx E v f c nw h.lg h.dk (by have:=h.cl;omega)).mono ?_
 rintro e w' ⟨rfl,hd,hk'⟩
 have hdf:=h.di.flush
 refine ⟨rfl,⟨F,FR,fr,nx,flushed f c,[],nw,v,ts,⟨⟨hd,(hk'.block l (wlt_of_heap h.lg) h.lF).trans h.lg,h.rc.kept hk' (fun j hj hf=>h.RF j hj hf),h.bd,h.tl,h.tp,h.lF,h.lR,h.RF,hdf,by simp,h.nw0,h.nw1,kept_low (FR:=FR) (l:=l) h.bl ⟨hk'.os,hk'.tape,hk'.output,hk'.size,fun j hj hn=>hk'.block j hj (fun e=>hn (.inl e))⟩ h.ge,h.ge⟩,?_⟩,hds,hus,fun _=>rfl,hbs⟩,hk'.mono (fun j hj=>(hbs j).mpr (.inl hj))⟩
 refine hri.else (Nat.le_refl _) (fun i _ _=>?_) (fun i=>(hdf.seen.1 i).len)
 exact (flushed_is f h.di.hd c h.di.sc).2 i
theorem sl_crash {B:Nat → Prop} {w wr:World} {p l n s E G I k U:Nat} {ds:List (List Int)} (h:SL B w wr p l n s E G I k U true ds) (keep torn:Int) :
  Calls Tryz.prog 20 #[.pointer (some ⟨p,0,none⟩),.int .u64 keep,.int .i64 torn] wr fun e w'=>e = .returned (.tuple #[]) ∧ SL B w w' p l n s E G I k U true ds ∧ Kept B wr w':=by
 obtain ⟨F,FR,fr,nx,f,c,nw,v,ts,h⟩:=h
 obtain ⟨hlr,hds,hus,hcl',hbs⟩:=h
 obtain rfl:=hcl' rfl
 obtain ⟨h,hri⟩:=hlr
 refine (crash_any F wr p n f [] nw false keep torn h.dk (by simp)).mono ?_
 rintro e w' ⟨rfl,hd,hk'⟩
 exact ⟨rfl,⟨F,FR,fr,nx,f,[],nw,v,ts,⟨⟨hd,(hk'.block l (wlt_of_heap h.lg) h.lF).trans h.lg,h.rc.kept hk' (fun j hj hf=>h.RF j hj hf),h.bd,h.tl,h.tp,h.lF,h.lR,h.RF,h.di,h.cl,h.nw0,h.nw1,kept_low (FR:=FR) (l:=l) h.bl ⟨hk'.os,hk'.tape,hk'.output,hk'.size,fun j hj hn=>hk'.block j hj (fun e=>hn (.inl e))⟩ h.ge,h.ge⟩,hri⟩,hds,hus,fun _=>rfl,hbs⟩,hk'.mono (fun j hj=>(hbs j).mpr (.inl hj))⟩
theorem sl_open {B:Nat → Prop} {w wr:World} {p l n s E G I k U:Nat} {q:Bool} {ds:List (List Int)} (h:SL B w wr p l n s E G I k U q ds) (hn:(n:Int) ≤ 1024) (hk:k ≤ 2000) (hE:E + 1 ≤ 1000000) (eS eL eB eF:Addr) (heS:w.cell? ⟨5,0,none⟩ = some (vEr eS)) (heL:w.cell? ⟨8,0,none⟩ = some (vEr eL)) (heB:w.cell? ⟨4,0,none⟩ = some (vEr eB)) (heF:w.cell? ⟨2,0,none⟩ = some (vEr eF)) :
  Calls Tryz.prog 45 #[.pointer (some ⟨p,0,none⟩)] wr fun e w'=>∃ l' base sa lv GO d0 rest B',e = .returned (.tuple #[.pointer (some ⟨l',0,none⟩),.slice sa d0.length d0.length,lv,.nilIface]) ∧ ds = d0 :: rest ∧ SL B' w w' p l' n s (E + 1) G I (k + 1) U true ds ∧ Rd w' (.slice sa d0.length d0.length) d0 ∧ Lst GO base w' lv rest ∧ (∀ j,B' j → B j ∨ wr.heap.size ≤ j) ∧ Kept B wr w':=by
 obtain ⟨F,FR,fr,nx,f,c,nw,v,ts,h⟩:=h
 obtain ⟨hlr,hds,hus,hcl',hbs⟩:=h
 refine (open_row hlr hn hk hE eS eL eB eF heS heL heB heF).mono ?_
 rintro e w' ⟨l',base,sa,lv,F',FR',GO,f',nw',v',ts',t0,rest,rfl,hL,hts,hm,qr,ql,hfm⟩
 have hds':ts'.map (·.1.data) = ds:=by
  have:=congrArg (List.map Rc.data) hm
  rw [List.map_map,List.map_map] at this
  rw [← hds];exact this
 refine ⟨l',base,sa,lv,GO,t0.1.data,rest.map (·.1.data),lst6 F' l' FR',rfl,?_,⟨F',FR',fr,nx,f',[],nw',v',ts',hL,hds',hus,fun _=>rfl,fun j=>Iff.rfl⟩,qr,ql,?_,hfm.1.mono (fun j hj=>(hbs j).mpr hj)⟩
 ·rw [← hds',hts];rfl
 ·intro j hj
  rcases hj with a | a | a
  ·exact (hfm.2.1 j a).imp (fun a=>(hbs j).mpr (.inl a)) id
  ·rcases hfm.2.2.2 with b | b
   ·exact .inl ((hbs j).mpr (.inr (.inl (a.trans b))))
   ·exact .inr (by omega)
  ·exact (hfm.2.2.1 j a).imp (fun a=>(hbs j).mpr (.inr (.inr a))) id
theorem sl_format {w wr:World} {p n s:Nat} {F:Nat → Prop} (hD:Dk F wr p n (fun _=>zeros) [] 0 false) (hbl:Below w.heap.size w wr) (hge:∀ j,F j → w.heap.size ≤ j) (hn2:2 * s + 2 = n) (hs1:1 ≤ s) (hn:(n:Int) ≤ 1024) (ba:Option Addr) (bc:Nat) (data:List Int) (hrd:Rd wr (.slice ba data.length bc) data) (hd:data.length ≤ 32000) (hfit:np6 1 1 0 data ≤ s) (eS eL eB eF:Addr) (heS:w.cell? ⟨5,0,none⟩ = some (vEr eS)) (heL:w.cell? ⟨8,0,none⟩ = some (vEr eL)) (heB:w.cell? ⟨4,0,none⟩ = some (vEr eB)) (heF:w.cell? ⟨2,0,none⟩ = some (vEr eF)) :
  Calls Tryz.prog 39 #[.pointer (some ⟨p,0,none⟩),.slice ba data.length bc] wr fun e w'=>∃ l B',e = .returned (.tuple #[.pointer (some ⟨l,0,none⟩),.nilIface]) ∧ SL B' w w' p l n s 1 1 0 1 (np6 1 1 0 data) true [data] ∧ (∀ j,B' j → F j ∨ wr.heap.size ≤ j) ∧ Kept F wr w':=by
 refine (format_fitK hD hbl hge hn2 hs1 hn ba bc data hrd hd hfit eS eL eB eF heS heL heB heF).mono ?_
 rintro e w' ⟨l,F',FR',v',da,dc,rfl,hL,g1,g2,g3,g4⟩
 have hok:(⟨1,1,0,data⟩:Rc).ok:=⟨by show 1 ≤ _;omega,by show 1 ≤ _;omega,by show 0 ≤ _;omega,by show data.length ≤ _;omega,hrd.1⟩
 refine ⟨l,lst6 F' l FR',rfl,⟨F',FR',0,_,_,[],_,v',_,⟨hL,?_⟩,rfl,rfl,fun _=>rfl,fun j=>Iff.rfl⟩,?_,g1⟩
 ·obtain ⟨p1,p2⟩:=flushed_is (fun _=>zeros) (fun _=>zeros_sec) ([] ++ [(((n - 2 + 1 % 2:Nat):Int),cellS 1)]) (fun x hx=>by simp at hx;subst hx;exact cellS_sec (by omega))
  obtain ⟨q1,q2⟩:=flushed_is _ p1 ([] ++ writesOf (frm (⟨1,1,0,data⟩:Rc)) ((0:Nat):Int) (npc (frm (⟨1,1,0,data⟩:Rc)).length)) (fun x hx=>sec_writes (sec_frm hok) _ _ x (by simpa using hx))
  obtain ⟨w1,w2⟩:=seen_writes (flushed (fun _=>zeros) ([] ++ [(((n - 2 + 1 % 2:Nat):Int),cellS 1)])) [] (frm (⟨1,1,0,data⟩:Rc)) ((0:Nat):Int) (npc (frm (⟨1,1,0,data⟩:Rc)).length)
  rw [List.map_singleton]
  refine RI.begin (G:=0) (g:=fun _=>zeros) (fun i _ _=>head_zero _ _ _) _ hok hd rfl rfl rfl 0 (.inl rfl) hfit (fun i hi=>?_) (fun q q0 q1' hq=>?_) (fun i=>(hL.di.seen.1 i).len)
  ·exact (q2 _).trans (w1 i hi)
  ·refine (q2 _).trans ((w2 q hq).trans ?_)
   refine (p2 q).trans ?_
   rw [seen_snoc,if_neg (by show ¬ (((n - 2 + 1 % 2:Nat):Int)) = q;omega)]
   rfl
 ·intro j hj
  rcases hj with a | a | a
  ·exact g2 j a
  ·exact .inr (by omega)
  ·exact .inr (g3 j a)
end Go.Proofs.YtihdkgekickohaaGreatDoor
