import Derived.Test.YtihdkgekickohaaGreatDoorWfX
import Derived.Test.YtihdkgekickohaaGreatDoorWap
import Derived.Test.YtihdkgekickohaaGreatDoorWfull
import Derived.Test.YtihdkgekickohaaGreatDoorWfm
namespace Go.Proofs.YtihdkgekickohaaGreatDoor
open Go.ChangeShapes Go.WideShapes Go.ChangeAt Go.RowKit
set_option maxRecDepth 100000
abbrev vEr (a:Addr):Value:=.iface 284 (.pointer (some a))
theorem DI.mono {n s E G I G' I' fr nx:Nat} {f:Int → List Int} {c:List (Int × List Int)} (h:DI n s E G I fr nx f c) (hG:G ≤ G') (hI:I ≤ I'):DI n s E G' I' fr nx f c:=
 ⟨h.two,h.one,h.hd,h.sc,fun i a b=>(h.head i a b).mono (Nat.le_refl _) hG hI,fun x hx=>⟨(h.hc x hx).1,(h.hc x hx).2.1,(h.hc x hx).2.2.mono (Nat.le_refl _) hG hI⟩,h.eb,h.cell,h.cel2,h.frs,h.st,h.nxl⟩
structure LS (w wr:World) (l p n s E G I k:Nat) (F FR:Nat → Prop) (fr nx:Nat) (f:Int → List Int) (c:List (Int × List Int)) (nw:Int) (v:Value) (ts:List Rp):Prop where
 dk:Dk F wr p n f c nw false
 lg:Lg wr l p fr (fr + s) v nx E
 rc:Recs FR wr v ts
 bd:∀ t ∈ ts,t.1.gen ≤ G ∧ t.1.index ≤ I
 tl:ts.length ≤ 1024 + k
 tp:0 < ts.length
 lF:¬ F l
 lR:¬ FR l
 RF:∀ j,FR j → ¬ F j
 di:DI n s E G I fr nx f c
 cl:c.length ≤ 1024 * k
 nw0:0 ≤ nw
 nw1:nw ≤ 2000 * (k:Int) + 2000
 bl:Below w.heap.size w wr
 ge:∀ j,F j ∨ FR j ∨ j = l → w.heap.size ≤ j
theorem LS.below {w wr w':World} {l p n s E G I k:Nat} {F FR:Nat → Prop} {fr nx:Nat} {f:Int → List Int} {c:List (Int × List Int)} {nw:Int} {v:Value} {ts:List Rp} (h:LS w wr l p n s E G I k F FR fr nx f c nw v ts) (hb:Below wr.heap.size wr w'):LS w w' l p n s E G I k F FR fr nx f c nw v ts:=
 ⟨h.dk.below hb,(hb.block l (wlt_of_heap h.lg)).trans h.lg,h.rc.below hb,h.bd,h.tl,h.tp,h.lF,h.lR,h.RF,h.di,h.cl,h.nw0,h.nw1,h.bl.trans (hb.mono h.bl.size),h.ge⟩
theorem LS.more {w wr:World} {l p n s E G I k:Nat} {F FR:Nat → Prop} {fr nx:Nat} {f:Int → List Int} {c:List (Int × List Int)} {nw:Int} {v:Value} {ts:List Rp} (h:LS w wr l p n s E G I k F FR fr nx f c nw v ts) (G' I' k':Nat) (hG:G ≤ G') (hI:I ≤ I') (hk:k ≤ k'):LS w wr l p n s E G' I' k' F FR fr nx f c nw v ts:=
 ⟨h.dk,h.lg,h.rc,fun t ht=>⟨Nat.le_trans (h.bd t ht).1 hG,Nat.le_trans (h.bd t ht).2 hI⟩,by have:=h.tl;omega,h.tp,h.lF,h.lR,h.RF,h.di.mono hG hI,by have:=h.cl;omega,h.nw0,by have:=h.nw1;omega,h.bl,h.ge⟩
theorem kept_low {F FR:Nat → Prop} {w wr w':World} {l:Nat} (hb:Below w.heap.size w wr) (hk:Kept (fun j=>F j ∨ j = l ∨ FR j) wr w') (hge:∀ j,F j ∨ FR j ∨ j = l → w.heap.size ≤ j):Below w.heap.size w w':=
 ⟨hk.os.trans hb.os,hk.tape.trans hb.tape,hk.output.trans hb.output,Nat.le_trans hb.size hk.size,fun j hj=>(hk.block j (Nat.lt_of_lt_of_le hj hb.size) (fun e=>by
  have:=hge j (by rcases e with a | a | a;exact .inl a;exact .inr (.inr a);exact .inr (.inl a))
  omega)).trans (hb.block j hj)⟩
theorem last_in {rs:List Rc} {T:Rc → Prop} (h:∀ r ∈ rs,T r) (hp:rs ≠ []):∃ r ∈ rs,lgen rs = r.gen ∧ lix rs = r.index ∧ lep rs = r.epoch ∧ T r:=by
 refine ⟨rs.getLast hp,List.getLast_mem hp,?_,?_,?_,h _ (List.getLast_mem hp)⟩
 ·unfold lgen;rw [List.getLast?_eq_some_getLast hp];rfl
 ·unfold lix;rw [List.getLast?_eq_some_getLast hp];rfl
 ·unfold lep;rw [List.getLast?_eq_some_getLast hp];rfl
theorem frm_len {r:Rc} (hr:r.ok) (hd:r.data.length ≤ 32000):(frm r).length ≤ 32029:=by
 have:=wpay_len hr hd
 unfold frm;rw [frame_len];omega
theorem frm_byts {r:Rc} (hr:r.ok):Byts (frm r):=by
 unfold frm frame
 exact ((four_byts _).append (wpay_byts hr.b)).append (four_byts _)
theorem sec_frm {r:Rc} (hr:r.ok) (j:Nat):Sec (sect (markOf j) (frm r) j):=sect_sec (by unfold markOf;split <;> omega) (frm_byts hr) j
theorem other_is {s fr:Nat} (hs:s ≤ 1000000) (h1:1 ≤ s) (hfr:fr = 0 ∨ fr = s):∃ fr2,(fr2 = 0 ∨ fr2 = s) ∧ ∀ (W:World) (v x:Value),Calls Tryz.prog 107 #[.agg #[.int .i64 (fr:Int),.int .i64 ((fr + s:Nat):Int),v,x]] W fun e w'=>e = .returned (.agg #[.int .i64 (fr2:Int),.int .i64 ((fr2 + s:Nat):Int),.slice none 0 0,.int .i64 (fr2:Int)]) ∧ Below W.heap.size W w':=by
 rcases hfr with rfl | rfl
 ·refine ⟨s,.inr rfl,fun W v x=>?_⟩
  have:=other_first W s v x (by omega)
  rw [Nat.zero_add]
  exact this
 ·refine ⟨0,.inl rfl,fun W v x=>?_⟩
  have:=other_second W fr v x (by omega) (by omega)
  rw [Nat.zero_add]
  exact this
structure DS6 (w wr:World) (p n s E G I k:Nat) (F:Nat → Prop) (fr nx:Nat) (f:Int → List Int) (c:List (Int × List Int)) (nw:Int):Prop where
 dk:Dk F wr p n f c nw false
 di:DI n s E G I fr nx f c
 cl:c.length ≤ 1024 * k
 nw0:0 ≤ nw
 nw1:nw ≤ 2000 * (k:Int) + 2000
 bl:Below w.heap.size w wr
 ge:∀ j,F j → w.heap.size ≤ j
theorem LS.disk {w wr:World} {l p n s E G I k:Nat} {F FR:Nat → Prop} {fr nx:Nat} {f:Int → List Int} {c:List (Int × List Int)} {nw:Int} {v:Value} {ts:List Rp} (h:LS w wr l p n s E G I k F FR fr nx f c nw v ts):DS6 w wr p n s E G I k F fr nx f c nw:=⟨h.dk,h.di,h.cl,h.nw0,h.nw1,h.bl,fun j hj=>h.ge j (.inl hj)⟩
theorem topEp_zero (n:Int):topEp (fun _=>zeros) n [] = 0:=by
 unfold topEp
 simp only [cellN_zeros]
 simp [lep]
theorem format_is {wr:World} {p n s:Nat} {F:Nat → Prop} (hD:Dk F wr p n (fun _=>zeros) [] 0 false) (hn2:2 * s + 2 = n) (hs1:1 ≤ s) (hn:(n:Int) ≤ 1024) (ba:Option Addr) (bc:Nat) (data:List Int) (hrd:Rd wr (.slice ba data.length bc) data) (hd:data.length ≤ 32000) (hfit:npc (frm (⟨1,1,0,data⟩:Rc)).length ≤ s) (eS eL eB eF:Addr) (heS:wr.cell? ⟨5,0,none⟩ = some (vEr eS)) (heL:wr.cell? ⟨8,0,none⟩ = some (vEr eL)) (heB:wr.cell? ⟨4,0,none⟩ = some (vEr eB)) (heF:wr.cell? ⟨2,0,none⟩ = some (vEr eF)) :
  Calls Tryz.prog 39 #[.pointer (some ⟨p,0,none⟩),.slice ba data.length bc] wr (FmPost F wr p n (fun _=>zeros) [] 0 0 s (0 + npc (frm (⟨1,1,0,data⟩:Rc)).length) 1 ⟨1,1,0,data⟩):=by
 have hok:(⟨1,1,0,data⟩:Rc).ok:=⟨by show 1 ≤ _;omega,by show 1 ≤ _;omega,by show 0 ≤ _;omega,by show data.length ≤ _;omega,hrd.1⟩
 have hfl:=frm_len hok hd
 have hnew:=newest_any F wr p n s (fun _=>zeros) [] 0 _ _ _ _ _ _ hD (by omega) hn (by omega) (by simp) heS heL heB
 have hz:seenOf (fun _=>zeros) [] = fun _=>zeros:=rfl
 rw [hz,newA_zero] at hnew
 refine fm_ok F wr p n s (s + s) s 0 s 1 1 (fun _=>zeros) [] 0 ba bc data (fun ts=>ts = []) hD (by omega) hrd hd (hnew.mono ?_) (fun W va vc ts FA hb hr hM=>?_) (fun W va vc ts FA da dc hb hr hM hrW ho=>?_) (by omega) (by omega) (by omega) hn (by simp) ⟨by omega,by omega⟩ _ rfl
 ·rintro e w' ⟨fr',hfr,v,ts,nx',FA,rfl,hO,hR,hF,hb,h1,h2,h3⟩
  simp at hfr
  subst hfr
  obtain ⟨va,vc,rfl⟩:=hR.shape
  simp at hO
  obtain ⟨ht,hx⟩:=hO
  subst ht
  obtain rfl:fr' = nx':=by omega
  exact ⟨va,vc,[],FA,rfl,hR,hb,rfl⟩
 ·subst hM
  have:=nextEpoch_any F FA W p n (fun _=>zeros) [] 0 (.int .i64 (s:Int)) (.int .i64 ((s + s:Nat):Int)) (.int .i64 (s:Int)) (.slice va ([]:List Rp).length vc) (vEr eF) [] _ _ _ _ _ _ (hD.below hb) (by omega) hn (by simp) hr (by simp) (cell_lat hb heS) (cell_lat hb heL) (cell_lat hb heB) (cell_lat hb heF)
  rw [hz,List.map_nil,topEp_zero,if_pos (by omega)] at this
  exact this
 ·subst hM
  refine anew_ok (F:=FA) W s (s + s) s 0 s 0 1 1 va da vc dc [] data hr (by omega) rfl (by omega) hd hrW ho (by omega) (by omega) (fun W'=>?_) (fun W' hb'=>?_)
  ·exact other_second W' s _ _ (by omega) (by omega)
  ·have:=last_any W' (.int .i64 (s:Int)) (.int .i64 ((s + s:Nat):Int)) (.int .i64 (s:Int)) (.slice va ([]:List Rp).length vc) [] (hr.below hb') (by simp)
   refine this.mono ?_
   rintro e w' ⟨⟨da,dn,dc,rfl⟩,hb2⟩
   exact ⟨_,_,da,dn,dc,rfl,hb2⟩
theorem DI.flush {n s E G I fr nx:Nat} {f:Int → List Int} {c:List (Int × List Int)} (h:DI n s E G I fr nx f c):DI n s E G I fr nx (flushed f c) []:=by
 have hn2:=h.two
 obtain ⟨hs,hh,hcl⟩:=h.seen
 obtain ⟨q1,q2⟩:=flushed_is f h.hd c h.sc
 obtain ⟨r,m,h1,h2,h3,h4⟩:=h.st
 refine ⟨h.two,h.one,q1,fun _ hx=>by simp at hx,fun i h0 hi=>by rw [q2];exact hh i h0 hi,fun _ hx=>by simp at hx,h.eb,by rw [q2,hcl _ (by omega)];exact h.cell,by rw [q2,hcl _ (by omega)];exact h.cel2,h.frs,⟨r,m,stand_same (fun i=>(h.hd i).len) h1 (fun i hi=>by rw [q2];exact seen_other _ _ _ (fun x hx e=>h4 x hx (by omega))),h2,h3,fun _ hx=>by simp at hx⟩,h.nxl⟩
inductive Goes (g:Int → List Int) (p:Int) (n:Nat):List Rc → Nat → Prop
 |nil:Goes g p n [] 0
 |snoc {rs:List Rc} {d m:Nat} {r:Rc}:Goes g p n rs d → stand g (p + (d:Int)) (n - d) = some (r,m) → goesOn rs r = true → d + m ≤ n → Goes g p n (rs ++ [r]) (d + m)
theorem stand_pos {g:Int → List Int} {p:Int} {n m:Nat} {r:Rc} (h:stand g p n = some (r,m)):1 ≤ m:=by
 obtain ⟨_,_,_,e⟩:=stand_parts h
 rw [e];unfold npc;omega
theorem Goes.same {g g':Int → List Int} (hg:∀ i,(g i).length = 64) {p:Int} {n d:Nat} {rs:List Rc} (h:Goes g p n rs d) (he:∀ i:Nat,i < d → g' (p + (i:Int)) = g (p + (i:Int))):Goes g' p n rs d:=by
 induction h with
 |nil=>exact .nil
 |@snoc rs d m r h1 h2 h3 h4 ih=>
  refine .snoc (ih (fun i hi=>he i (by omega))) (stand_same hg h2 (fun i hi=>?_)) h3 h4
  have:=he (d + i) (by omega)
  rwa [Int.natCast_add,← Int.add_assoc] at this
theorem Goes.len {g:Int → List Int} {p:Int} {n d:Nat} {rs:List Rc} (h:Goes g p n rs d):rs.length ≤ d ∧ d ≤ n:=by
 induction h with
 |nil=>exact ⟨Nat.le_refl _,Nat.zero_le _⟩
 |@snoc rs d m r h1 h2 h3 h4 ih=>
  have:=stand_pos h2
  rw [List.length_append,List.length_singleton]
  omega
theorem Goes.area {g:Int → List Int} {p:Int} {n d:Nat} {rs:List Rc} (h:Goes g p n rs d):∀ k,areaGo g (k + rs.length) [] p n = areaGo g k rs (p + (d:Int)) (n - d):=by
 induction h with
 |nil=>intro k;simp
 |@snoc rs d m r h1 h2 h3 h4 ih=>
  intro k
  rw [List.length_append,List.length_singleton,show k + (rs.length + 1) = (k + 1) + rs.length by omega,ih (k + 1),areaGo_more h2 h3,Int.natCast_add,← Int.add_assoc,Nat.sub_sub]
theorem goes_last {rs:List Rc} {r:Rc} (hne:rs ≠ []) (h1:r.gen = lgen rs) (h2:r.index = lix rs + 1) (h3:lep rs ≤ r.epoch):goesOn rs r = true:=by
 unfold lgen at h1;unfold lix at h2;unfold lep at h3
 unfold goesOn
 rw [List.getLast?_eq_some_getLast hne] at *
 simp at h1 h2 h3 ⊢
 exact ⟨h1,h2,h3⟩
theorem goes_not {rs:List Rc} {r:Rc} (hne:rs ≠ []) (h1:r.gen ≠ lgen rs):goesOn rs r = false:=by
 unfold lgen at h1
 unfold goesOn
 rw [List.getLast?_eq_some_getLast hne] at *
 simp at h1 ⊢
 exact fun e=>absurd e h1
structure RI (s E G I fr nx:Nat) (g:Int → List Int) (rs:List Rc):Prop where
 one:1 ≤ G
 frs:fr = 0 ∨ fr = s
 le:fr ≤ nx
 nxl:nx ≤ fr + s
 go:Goes g (fr:Int) s rs (nx - fr)
 ne:rs ≠ []
 lg:lgen rs = G
 ep:lep rs ≤ E
 ln:∀ i,(g i).length = 64
 old:∀ i:Int,0 ≤ i → i < 2 * (s:Int) → (i < (fr:Int) ∨ (nx:Int) ≤ i) → HeadOk E (G - 1) I (g i)
theorem RI.reads {s E G I fr nx:Nat} {g:Int → List Int} {rs:List Rc} (h:RI s E G I fr nx g rs) (hs:1 ≤ s):(newA g s).2 = (rs,(nx:Int)) ∧ fr = (if (newA g s).1 = true then s else 0):=by
 have hle:=h.le
 have hnx:=h.nxl
 have h1:=h.one
 obtain ⟨l1,l2⟩:=h.go.len
 have hpos:0 < rs.length:=List.length_pos_iff.mpr h.ne
 have ha:areaGo g (s + 1) [] (fr:Int) s = (rs,(nx:Int)):=by
  have e:=h.go.area (s + 1 - rs.length)
  rw [show s + 1 - rs.length + rs.length = (s - rs.length) + 1 + rs.length by omega] at e
  rw [show s + 1 = (s - rs.length) + 1 + rs.length by omega,e,show s + 1 - rs.length = (s - rs.length) + 1 by omega,show (fr:Int) + ((nx - fr:Nat):Int) = (nx:Int) by omega]
  cases hst:stand g (nx:Int) (s - (nx - fr)) with
  |none=>exact areaGo_end hst
  |some q=>
   obtain ⟨r,m⟩:=q
   refine areaGo_stop hst (goes_not h.ne ?_)
   obtain ⟨k,hk,_⟩:=stand_mark hst
   have:=(stand_head (h.ln _) hst (h.old _ (by omega) (by rcases h.frs with e | e <;> omega) (.inr (Int.le_refl _)))).2.1
   rw [h.lg];omega
 have hoth:∀ o:Nat,(o = 0 ∧ fr = s) ∨ (o = s ∧ fr = 0) → lgen (areaGo g (s + 1) [] (o:Int) s).1 ≤ G - 1:=fun o ho=>by
  have:=area_all (fun r=>r.gen ≤ G - 1) h.ln (o:Int) ((o:Int) + (s:Int)) (fun q n' m r q0 q1 hq=>(stand_head (h.ln _) hq (h.old q (by omega) (by rcases ho with ⟨a,b⟩ | ⟨a,b⟩ <;> omega) (by rcases ho with ⟨a,b⟩ | ⟨a,b⟩ <;> omega))).2.1) (s + 1) [] (o:Int) s (Int.le_refl _) (Int.le_refl _) (fun _ hr=>by simp at hr)
  unfold lgen
  cases hl:(areaGo g (s + 1) [] (o:Int) s).1.getLast? with
  |none=>simp
  |some r=>simpa using this r (List.mem_of_getLast? hl)
 unfold newA
 rcases h.frs with e | e
 ·have h0:=hoth s (.inr ⟨rfl,e⟩)
  rw [e] at ha
  rw [show ((0:Nat):Int) = 0 from rfl] at ha
  rw [ha,if_pos ⟨hpos,by rw [h.lg];omega⟩]
  exact ⟨rfl,e⟩
 ·have h0:=hoth 0 (.inl ⟨rfl,e⟩)
  rw [e] at ha
  rw [show ((0:Nat):Int) = 0 from rfl] at h0
  rw [ha,if_neg (fun hc=>by have:=hc.2;rw [h.lg] at this;omega)]
  exact ⟨rfl,e⟩
theorem RI.append {s E G I fr nx:Nat} {g g':Int → List Int} {rs:List Rc} (h:RI s E G I fr nx g rs) (r:Rc) (hr:r.ok) (hd:r.data.length ≤ 32000) (e1:r.gen = G) (e2:r.index = lix rs + 1) (e3:r.epoch = E) (hfit:nx + npc (frm r).length ≤ fr + s)
  (w1:∀ i:Nat,i < npc (frm r).length → g' ((nx:Int) + (i:Int)) = sect (markOf i) (frm r) i) (w2:∀ q:Int,(q < (nx:Int) ∨ (nx:Int) + ((npc (frm r).length:Nat):Int) ≤ q) → g' q = g q) (ln':∀ i,(g' i).length = 64):RI s E G (I + 1) fr (nx + npc (frm r).length) g' (rs ++ [r]):=by
 have hle:=h.le
 refine ⟨h.one,h.frs,by omega,hfit,?_,by simp,by simp [lgen,e1],by simp [lep,e3],ln',fun i i0 i1 hi=>?_⟩
 ·rw [show nx + npc (frm r).length - fr = (nx - fr) + npc (frm r).length by omega]
  refine .snoc (h.go.same h.ln (fun i hi=>w2 _ (by omega))) ?_ (goes_last h.ne (e1.trans h.lg.symm) e2 (by rw [e3];exact h.ep)) (by omega)
  rw [show (fr:Int) + ((nx - fr:Nat):Int) = (nx:Int) by omega]
  exact stand_written g' r (nx:Int) _ hr hd (by omega) w1
 ·rw [w2 i (by omega)]
  exact (h.old i i0 i1 (by omega)).mono (Nat.le_refl _) (Nat.le_refl _) (by omega)
theorem RI.begin {s E G I:Nat} {g g':Int → List Int} (hall:∀ i:Int,0 ≤ i → i < 2 * (s:Int) → HeadOk E G I (g i)) (r:Rc) (hr:r.ok) (hd:r.data.length ≤ 32000) (e1:r.gen = G + 1) (e2:r.index = 0) (e3:r.epoch = E) (fr2:Nat) (hf2:fr2 = 0 ∨ fr2 = s) (hfit:npc (frm r).length ≤ s)
  (w1:∀ i:Nat,i < npc (frm r).length → g' ((fr2:Int) + (i:Int)) = sect (markOf i) (frm r) i) (w2:∀ q:Int,0 ≤ q → q < 2 * (s:Int) → (q < (fr2:Int) ∨ (fr2:Int) + ((npc (frm r).length:Nat):Int) ≤ q) → g' q = g q) (ln':∀ i,(g' i).length = 64):RI s E (G + 1) I fr2 (fr2 + npc (frm r).length) g' [r]:=by
 refine ⟨by omega,hf2,by omega,by omega,?_,by simp,by simp [lgen,e1],by simp [lep,e3],ln',fun i i0 i1 hi=>?_⟩
 ·rw [show fr2 + npc (frm r).length - fr2 = 0 + npc (frm r).length by omega,← List.nil_append [r]]
  refine .snoc .nil ?_ ?_ (by omega)
  ·rw [show (fr2:Int) + ((0:Nat):Int) = (fr2:Int) by omega]
   exact stand_written g' r (fr2:Int) _ hr hd (by omega) w1
  ·unfold goesOn;simp [e1,e2]
 ·rw [w2 i i0 i1 (by omega)]
  exact hall i i0 i1
theorem RI.else {s E E' G I fr nx:Nat} {g g':Int → List Int} {rs:List Rc} (h:RI s E G I fr nx g rs) (hE:E ≤ E') (he:∀ i:Int,0 ≤ i → i < 2 * (s:Int) → g' i = g i) (ln':∀ i,(g' i).length = 64):RI s E' G I fr nx g' rs:=by
 have hle:=h.le
 have hnx:=h.nxl
 refine ⟨h.one,h.frs,h.le,h.nxl,h.go.same h.ln (fun i hi=>he _ (by omega) (by rcases h.frs with e | e <;> omega)),h.ne,h.lg,by have:=h.ep;omega,ln',fun i i0 i1 hi=>?_⟩
 rw [he i i0 i1]
 exact (h.old i i0 i1 hi).mono hE (Nat.le_refl _) (Nat.le_refl _)
theorem RI.more {s E G I I' fr nx:Nat} {g:Int → List Int} {rs:List Rc} (h:RI s E G I fr nx g rs) (hI:I ≤ I'):RI s E G I' fr nx g rs:=
 ⟨h.one,h.frs,h.le,h.nxl,h.go,h.ne,h.lg,h.ep,h.ln,fun i i0 i1 hi=>(h.old i i0 i1 hi).mono (Nat.le_refl _) (Nat.le_refl _) hI⟩
structure LR (w wr:World) (l p n s E G I k:Nat) (F FR:Nat → Prop) (fr nx:Nat) (f:Int → List Int) (c:List (Int × List Int)) (nw:Int) (v:Value) (ts:List Rp):Prop where
 ls:LS w wr l p n s E G I k F FR fr nx f c nw v ts
 ri:RI s E G I fr nx (seenOf f c) (ts.map (·.1))
theorem LR.below {w wr w':World} {l p n s E G I k:Nat} {F FR:Nat → Prop} {fr nx:Nat} {f:Int → List Int} {c:List (Int × List Int)} {nw:Int} {v:Value} {ts:List Rp} (h:LR w wr l p n s E G I k F FR fr nx f c nw v ts) (hb:Below wr.heap.size wr w'):LR w w' l p n s E G I k F FR fr nx f c nw v ts:=⟨h.ls.below hb,h.ri⟩
theorem LR.more {w wr:World} {l p n s E G I k:Nat} {F FR:Nat → Prop} {fr nx:Nat} {f:Int → List Int} {c:List (Int × List Int)} {nw:Int} {v:Value} {ts:List Rp} (h:LR w wr l p n s E G I k F FR fr nx f c nw v ts) (I' k':Nat) (hI:I ≤ I') (hk:k ≤ k'):LR w wr l p n s E G I' k' F FR fr nx f c nw v ts:=⟨h.ls.more G I' k' (Nat.le_refl _) hI hk,h.ri.more hI⟩
theorem Goes.index {g:Int → List Int} {p:Int} {n d:Nat} {rs:List Rc} (h:Goes g p n rs d):∀ (i:Nat) (r:Rc),rs[i]? = some r → r.index = i:=by
 induction h with
 |nil=>intro i r h;simp at h
 |@snoc rs d m r h1 h2 h3 h4 ih=>
  intro i x hx
  rcases Nat.lt_or_ge i rs.length with hi | hi
  ·rw [List.getElem?_append_left hi] at hx
   exact ih i x hx
  ·rw [List.getElem?_append_right hi] at hx
   have hi2:i = rs.length:=by
    have:=(List.getElem?_eq_some_iff.mp hx).1
    simp at this;omega
   subst hi2
   simp at hx
   subst hx
   unfold goesOn at h3
   rcases List.eq_nil_or_concat rs with e | ⟨rs0,y,e⟩
   ·subst e
    simp at h3
    simpa using h3.1
   ·rw [List.concat_eq_append] at e
    subst e
    simp at h3
    have:=ih rs0.length y (by simp)
    rw [h3.2.1,this]
    simp
def Frm6 (wr w':World) (F FR F' FR':Nat → Prop) (l l':Nat):Prop:=Kept (fun j=>F j ∨ j = l ∨ FR j) wr w' ∧ (∀ j,F' j → F j ∨ wr.heap.size ≤ j) ∧ (∀ j,FR' j → FR j ∨ wr.heap.size ≤ j) ∧ (l' = l ∨ wr.heap.size ≤ l')
theorem Frm6.below {wr w':World} {F FR:Nat → Prop} {l:Nat} (h:Below wr.heap.size wr w'):Frm6 wr w' F FR F FR l l:=⟨kept_below _ h,fun _ h=>.inl h,fun _ h=>.inl h,.inl rfl⟩
theorem Frm6.disk {wr w':World} {F FR F' FR':Nat → Prop} {l l':Nat} (h:Kept F wr w') (h1:∀ j,F' j → F j ∨ wr.heap.size ≤ j) (h2:∀ j,FR' j → wr.heap.size ≤ j) (h3:wr.heap.size ≤ l'):Frm6 wr w' F FR F' FR' l l':=⟨h.mono (fun _ h=>.inl h),h1,fun j hj=>.inr (h2 j hj),.inr h3⟩
theorem append_fitK {w wr:World} {l p n s E G I k:Nat} {F FR:Nat → Prop} {fr nx:Nat} {f:Int → List Int} {c:List (Int × List Int)} {nw:Int} {v:Value} {ts:List Rp} (h:LS w wr l p n s E G I k F FR fr nx f c nw v ts) (hn:(n:Int) ≤ 1024) (hk:k ≤ 2000) (hI:I ≤ 1000000) (ba:Option Addr) (bc:Nat) (data:List Int) (hrd:Rd wr (.slice ba data.length bc) data) (hd:data.length ≤ 32000) (gn gx:Nat) (e1:lgen (ts.map (·.1)) = gn) (e2:lix (ts.map (·.1)) = gx) (hfit:nx + npc (frm (⟨gn,E,gx + 1,data⟩:Rc)).length ≤ fr + s) :
  Calls Tryz.prog 114 #[.pointer (some ⟨l,0,none⟩),.slice ba data.length bc] wr fun e w'=>e = .returned .nilIface ∧ ∃ F' FR' v' da dc,LS w w' l p n s E G (I + 1) (k + 1) F' FR' fr (nx + npc (frm (⟨gn,E,gx + 1,data⟩:Rc)).length) f (c ++ writesOf (frm (⟨gn,E,gx + 1,data⟩:Rc)) (nx:Int) (npc (frm (⟨gn,E,gx + 1,data⟩:Rc)).length)) (nw + (npc (frm (⟨gn,E,gx + 1,data⟩:Rc)).length:Int)) v' (ts ++ [((⟨gn,E,gx + 1,data⟩:Rc),da,dc)]) ∧ Frm6 wr w' F FR F' FR' l l:=by
 have hcl:=h.cl
 have hnw1:=h.nw1
 have htw:=h.di.two
 have hfr:=h.di.frs
 obtain ⟨va,vc,rfl⟩:=h.rc.shape
 obtain ⟨r1,hr1,f1,f2,_,hb1⟩:=last_in (rs:=ts.map (·.1)) (T:=fun r=>r.gen ≤ G ∧ r.index ≤ I) (fun r hr=>by
  obtain ⟨t,ht,rfl⟩:=List.mem_map.mp hr
  exact h.bd t ht) (fun e=>by have:=h.tp;simp at e;subst e;simp at this)
 obtain ⟨t1,ht1,hte⟩:=List.mem_map.mp hr1
 have hok1:=h.rc.ok t1 ht1
 rw [hte] at hok1
 rw [← f1,e1] at hb1
 rw [← f2,e2] at hb1
 have hg1:=hok1.g
 rw [← f1,e1] at hg1
 have hlast:=last_any wr (.int .i64 (fr:Int)) (.int .i64 ((fr + s:Nat):Int)) (.int .i64 (nx:Int)) (.slice va ts.length vc) ts h.rc (by have:=h.tl;omega)
 rw [e1,e2] at hlast
 have hok:(⟨gn,E,gx + 1,data⟩:Rc).ok:=⟨hg1,h.di.eb,by show gx + 1 ≤ _;have:=hb1.2;omega,by show data.length ≤ _;omega,hrd.1⟩
 have hfl:=frm_len hok hd
 have hnx:=h.di.nxl
 have hnpc:npc (frm (⟨gn,E,gx + 1,data⟩:Rc)).length ≤ 600:=by unfold npc;omega
 refine (ap_ok F FR wr l p n fr (fr + s) nx gn gx (gx + 1) E va vc ts f c nw ba bc data h.lg h.dk h.rc hrd hd (hlast.mono fun e w' hq=>⟨by obtain ⟨⟨da,dn,dc,he⟩,_⟩:=hq;exact ⟨_,da,dn,dc,he⟩,hq.2⟩) (fun W da dc hb hr ho=>?_) rfl (by omega) (wlt_of_heap h.lg) h.lF h.lR h.RF (by omega) (by omega) hn (by omega) ⟨h.nw0,by omega⟩ _ rfl).mono ?_
 ·exact with_ok (F:=FR) W fr (fr + s) nx _ ts ((⟨gn,E,gx + 1,data⟩:Rc),da,dc) (h.rc.below hb) hok hd hr (fun j hj=>⟨(ho j hj).2,fun e=>by have:=h.rc.lt j (h.rc.row j e);have:=(ho j hj).1;omega⟩) (by have:=h.tl;omega) hfit (by rcases hfr with e | e <;> omega)
 ·rintro e w' ⟨rfl,F',F1,v',da,dc,q1,q2,q3,q4,q5,q6⟩
  refine ⟨rfl,F',F1,v',da,dc,⟨q1,q2,q3,?_,?_,?_,?_,?_,?_,h.di.append _ hok hd (Nat.le_refl _) hb1.1 (by show gx + 1 ≤ _;omega) (sec_frm hok) hfit,?_,?_,?_,kept_low h.bl q6 (fun j hj=>h.ge j (by rcases hj with a | a | a;exact .inl a;exact .inr (.inl a);exact .inr (.inr a))),?_⟩,q6,q4,fun j hj=>(q5 j hj).1,.inl rfl⟩
  ·intro t ht
   rcases List.mem_append.mp ht with a | a
   ·exact ⟨(h.bd t a).1,by have:=(h.bd t a).2;omega⟩
   ·simp at a;subst a;exact ⟨hb1.1,by show gx + 1 ≤ _;omega⟩
  ·rw [List.length_append,List.length_singleton];have:=h.tl;omega
  ·rw [List.length_append,List.length_singleton];omega
  ·exact fun e=>by
    rcases q4 l e with a | a
    ·exact h.lF a
    ·have:=wlt_of_heap h.lg;omega
  ·exact fun e=>by
    rcases (q5 l e).1 with a | a
    ·exact h.lR a
    ·have:=wlt_of_heap h.lg;omega
  ·exact fun j hj=>(q5 j hj).2
  ·rw [List.length_append,writesOf_len];omega
  ·have:=h.nw0;omega
  ·omega
  ·intro j hj
   have hs:=h.bl.size
   rcases hj with a | a | a
   ·rcases q4 j a with b | b
    ·exact h.ge j (.inl b)
    ·omega
   ·rcases (q5 j a).1 with b | b
    ·exact h.ge j (.inr (.inl b))
    ·omega
   ·exact h.ge j (.inr (.inr a))
theorem open_fitK {w wr:World} {p n s E G I k:Nat} {F:Nat → Prop} {fr nx:Nat} {f:Int → List Int} {c:List (Int × List Int)} {nw:Int} (h:DS6 w wr p n s E G I k F fr nx f c nw) (hn:(n:Int) ≤ 1024) (hk:k ≤ 2000) (hE:E + 1 ≤ 1000000) (eS eL eB eF:Addr) (heS:w.cell? ⟨5,0,none⟩ = some (vEr eS)) (heL:w.cell? ⟨8,0,none⟩ = some (vEr eL)) (heB:w.cell? ⟨4,0,none⟩ = some (vEr eB)) (heF:w.cell? ⟨2,0,none⟩ = some (vEr eF)) :
  Calls Tryz.prog 45 #[.pointer (some ⟨p,0,none⟩)] wr fun e w'=>∃ l base sa lv F' FR' GO fr' nx' v' ts' t0 rest,e = .returned (.tuple #[.pointer (some ⟨l,0,none⟩),.slice sa t0.1.data.length t0.1.data.length,lv,.nilIface]) ∧ LS w w' l p n s (E + 1) G I (k + 1) F' FR' fr' nx' (flushed f (c ++ [(((n - 2 + (E + 1) % 2:Nat):Int),cellS (E + 1))])) [] (nw + 1) v' ts' ∧ ts' = t0 :: rest ∧ ts'.map (·.1) = (newA (seenOf f c) s).2.1 ∧ (newA (seenOf f c) s).2.2 = (nx':Int) ∧ fr' = (if (newA (seenOf f c) s).1 = true then s else 0) ∧ Rd w' (.slice sa t0.1.data.length t0.1.data.length) t0.1.data ∧ Lst GO base w' lv (rest.map (·.1.data)) ∧ Kept F wr w' ∧ (∀ j,F' j → F j ∨ wr.heap.size ≤ j) ∧ (∀ j,FR' j → wr.heap.size ≤ j) ∧ wr.heap.size ≤ l:=by
 have hcl:=h.cl
 have hnw1:=h.nw1
 have htw:=h.di.two
 have hs1:=h.di.one
 obtain ⟨hne,hall,htop⟩:=h.di.newest
 obtain ⟨o,ho⟩:∃ o,o = newA (seenOf f c) s:=⟨_,rfl⟩
 obtain ⟨fr2,hfr2⟩:∃ fr2:Nat,fr2 = (if o.1 = true then s else 0):=⟨_,rfl⟩
 have hnew:=newest_any F wr p n s f c nw _ _ _ _ _ _ h.dk (by omega) hn (by omega) (by omega) (cell_lat h.bl heS) (cell_lat h.bl heL) (cell_lat h.bl heB)
 rw [← ho] at hne hall htop hnew
 obtain ⟨nx2,hnx2⟩:∃ nx2:Nat,nx2 = o.2.2.toNat:=⟨_,rfl⟩
 refine (op_ok F wr p n fr2 (fr2 + s) nx2 (E + 1) f c nw (fun ts=>ts.map (·.1) = o.2.1 ∧ o.2.2 = (nx2:Int) ∧ nx2 ≤ fr2 + s ∧ ts.length ≤ s) h.dk (by omega) (hnew.mono ?_) (fun W va vc ts FA hb hr hM=>?_) (fun ts hM=>?_) (by omega) hn (by omega) ⟨h.nw0,by omega⟩).mono ?_
 ·rintro e w' ⟨fr',rfl,v,ts,nx',FA,rfl,hO,hR,hF,hb,h1,h2,h3⟩
  obtain ⟨va,vc,rfl⟩:=hR.shape
  have hx:o.2.2 = (nx':Int):=by rw [hO]
  obtain rfl:nx2 = nx':=by rw [hnx2,hx];simp
  exact ⟨va,vc,ts,FA,by rw [hfr2];rfl,hR,hb,hF,by rw [hO],hx,by rw [hfr2];omega,h3⟩
 ·have:=nextEpoch_any F FA W p n f c nw (.int .i64 (fr2:Int)) (.int .i64 ((fr2 + s:Nat):Int)) (.int .i64 (nx2:Int)) (.slice va ts.length vc) (vEr eF) ts _ _ _ _ _ _ (h.dk.below hb) (by omega) hn (by omega) hr (by have:=hM.2.2.2;omega) (cell_lat hb (cell_lat h.bl heS)) (cell_lat hb (cell_lat h.bl heL)) (cell_lat hb (cell_lat h.bl heB)) (cell_lat hb (cell_lat h.bl heF))
  rw [hM.1,htop,if_pos (by omega)] at this
  refine this.mono ?_
  rintro e w' ⟨rfl,hb2⟩
  exact ⟨by rw [show (1:Int) + (E:Int) = ((E + 1:Nat):Int) by omega],hb2⟩
 ·exact ⟨fun e=>hne (by rw [← hM.1,e];rfl),by have:=hM.2.2.2;omega⟩
 ·rintro e w' ⟨l,base,F',F1,GG,v,lv,sa,ts,t0,rest,rfl,hts,hM,q1,q2,q3,qr,ql,q4,q5,q6,q7,q8⟩
  refine ⟨l,base,sa,lv,F',F1,GG,fr2,nx2,v,ts,t0,rest,rfl,⟨q1,q2,q3,?_,by have:=hM.2.2.2;omega,by rw [hts];simp,q7,fun e=>(q5 l e).2.2 rfl,fun j hj=>(q5 j hj).2.1,h.di.opens (by omega) fr2 nx2 (by rw [hfr2,ho]) (by rw [← ho];exact hM.2.1) hM.2.2.1,by simp,by have:=h.nw0;omega,by omega,?_,?_⟩,hts,by rw [← ho];exact hM.1,by rw [← ho];exact hM.2.1,by rw [hfr2,ho],qr,ql,q8,q4,fun j hj=>(q5 j hj).1,q6⟩
  ·intro t ht
   have:=hall t.1 (by rw [← hM.1];exact List.mem_map.mpr ⟨t,ht,rfl⟩)
   exact ⟨this.2.1,this.2.2⟩
  ·exact ⟨q8.os.trans h.bl.os,q8.tape.trans h.bl.tape,q8.output.trans h.bl.output,Nat.le_trans h.bl.size q8.size,fun j hj=>(q8.block j (Nat.lt_of_lt_of_le hj h.bl.size) (fun e=>by have:=h.ge j e;omega)).trans (h.bl.block j hj)⟩
  ·intro j hj
   have hs:=h.bl.size
   rcases hj with a | a | a
   ·rcases q4 j a with b | b
    ·exact h.ge j b
    ·omega
   ·have:=(q5 j a).1;omega
   ·omega
theorem format_fitK {w wr:World} {p n s:Nat} {F:Nat → Prop} (hD:Dk F wr p n (fun _=>zeros) [] 0 false) (hbl:Below w.heap.size w wr) (hge:∀ j,F j → w.heap.size ≤ j) (hn2:2 * s + 2 = n) (hs1:1 ≤ s) (hn:(n:Int) ≤ 1024) (ba:Option Addr) (bc:Nat) (data:List Int) (hrd:Rd wr (.slice ba data.length bc) data) (hd:data.length ≤ 32000) (hfit:npc (frm (⟨1,1,0,data⟩:Rc)).length ≤ s) (eS eL eB eF:Addr) (heS:w.cell? ⟨5,0,none⟩ = some (vEr eS)) (heL:w.cell? ⟨8,0,none⟩ = some (vEr eL)) (heB:w.cell? ⟨4,0,none⟩ = some (vEr eB)) (heF:w.cell? ⟨2,0,none⟩ = some (vEr eF)) :
  Calls Tryz.prog 39 #[.pointer (some ⟨p,0,none⟩),.slice ba data.length bc] wr fun e w'=>∃ l F' FR' v' da dc,e = .returned (.tuple #[.pointer (some ⟨l,0,none⟩),.nilIface]) ∧ LS w w' l p n s 1 1 0 1 F' FR' 0 (0 + npc (frm (⟨1,1,0,data⟩:Rc)).length) (flushed (flushed (fun _=>zeros) ([] ++ [(((n - 2 + 1 % 2:Nat):Int),cellS 1)])) ([] ++ writesOf (frm (⟨1,1,0,data⟩:Rc)) ((0:Nat):Int) (npc (frm (⟨1,1,0,data⟩:Rc)).length))) [] (0 + 1 + (npc (frm (⟨1,1,0,data⟩:Rc)).length:Int)) v' [((⟨1,1,0,data⟩:Rc),da,dc)] ∧ Kept F wr w' ∧ (∀ j,F' j → F j ∨ wr.heap.size ≤ j) ∧ (∀ j,FR' j → wr.heap.size ≤ j) ∧ wr.heap.size ≤ l:=by
 have hok:(⟨1,1,0,data⟩:Rc).ok:=⟨by show 1 ≤ _;omega,by show 1 ≤ _;omega,by show 0 ≤ _;omega,by show data.length ≤ _;omega,hrd.1⟩
 have hfl:=frm_len hok hd
 have hnpc:npc (frm (⟨1,1,0,data⟩:Rc)).length ≤ 600:=by unfold npc;omega
 refine (format_is hD hn2 hs1 hn ba bc data hrd hd hfit eS eL eB eF (cell_lat hbl heS) (cell_lat hbl heL) (cell_lat hbl heB) (cell_lat hbl heF)).mono ?_
 rintro e w' ⟨l,F',F1,v',da,dc,rfl,q1,q2,q3,q4,q5,q6,q7,q8⟩
 refine ⟨l,F',F1,v',da,dc,rfl,⟨q1,by rw [Nat.zero_add];exact q2,q3,?_,by simp,by simp,q7,fun e=>(q5 l e).2.2 rfl,fun j hj=>(q5 j hj).2.1,DI.fresh hn2 hs1 ⟨1,1,0,data⟩ hok hd rfl rfl rfl (sec_frm hok) hfit,by simp,by omega,by omega,?_,?_⟩,q8,q4,fun j hj=>(q5 j hj).1,q6⟩
 ·intro t ht
  simp at ht;subst ht
  exact ⟨Nat.le_refl _,Nat.le_refl _⟩
 ·exact ⟨q8.os.trans hbl.os,q8.tape.trans hbl.tape,q8.output.trans hbl.output,Nat.le_trans hbl.size q8.size,fun j hj=>(q8.block j (Nat.lt_of_lt_of_le hj hbl.size) (fun e=>by have:=hge j e;omega)).trans (hbl.block j hj)⟩
 ·intro j hj
  have hs:=hbl.size
  rcases hj with a | a | a
  ·rcases q4 j a with b | b
   ·exact hge j b
   ·omega
  ·have:=(q5 j a).1;omega
  ·omega
theorem open_row {w wr:World} {l p n s E G I k:Nat} {F FR:Nat → Prop} {fr nx:Nat} {f:Int → List Int} {c:List (Int × List Int)} {nw:Int} {v:Value} {ts:List Rp} (h:LR w wr l p n s E G I k F FR fr nx f c nw v ts) (hn:(n:Int) ≤ 1024) (hk:k ≤ 2000) (hE:E + 1 ≤ 1000000) (eS eL eB eF:Addr) (heS:w.cell? ⟨5,0,none⟩ = some (vEr eS)) (heL:w.cell? ⟨8,0,none⟩ = some (vEr eL)) (heB:w.cell? ⟨4,0,none⟩ = some (vEr eB)) (heF:w.cell? ⟨2,0,none⟩ = some (vEr eF)) :
  Calls Tryz.prog 45 #[.pointer (some ⟨p,0,none⟩)] wr fun e w'=>∃ l' base sa lv F' FR' GO f' nw' v' ts' t0 rest,e = .returned (.tuple #[.pointer (some ⟨l',0,none⟩),.slice sa t0.1.data.length t0.1.data.length,lv,.nilIface]) ∧ LR w w' l' p n s (E + 1) G I (k + 1) F' FR' fr nx f' [] nw' v' ts' ∧ ts' = t0 :: rest ∧ ts'.map (·.1) = ts.map (·.1) ∧ Rd w' (.slice sa t0.1.data.length t0.1.data.length) t0.1.data ∧ Lst GO base w' lv (rest.map (·.1.data)) ∧ Frm6 wr w' F FR F' FR' l l':=by
 obtain ⟨h,hri⟩:=h
 have htw:=h.di.two
 obtain ⟨r1,r2⟩:=hri.reads h.di.one
 refine (open_fitK h.disk hn hk hE eS eL eB eF heS heL heB heF).mono ?_
 rintro e w' ⟨l',base,sa,lv,F',FR',GO,fr',nx',v',ts',t0,rest,rfl,hL,hts,hm,hnx,hfr,qr,ql,g1,g2,g3,g4⟩
 rw [r1] at hm hnx
 obtain rfl:nx = nx':=by have e:(nx:Int) = (nx':Int):=hnx;omega
 obtain rfl:fr = fr':=r2.trans hfr.symm
 refine ⟨l',base,sa,lv,F',FR',GO,_,_,v',ts',t0,rest,rfl,⟨hL,?_⟩,hts,hm,qr,ql,Frm6.disk g1 g2 g3 g4⟩
 rw [hm]
 have hsec:∀ x ∈ c ++ [(((n - 2 + (E + 1) % 2:Nat):Int),cellS (E + 1))],Sec x.2:=fun x hx=>by
  rcases List.mem_append.mp hx with a | a
  ·exact h.di.sc x a
  ·simp at a;subst a;exact cellS_sec (by omega)
 refine hri.else (by omega) (fun i i0 i1=>?_) (fun i=>(hL.di.seen.1 i).len)
 refine ((flushed_is f h.di.hd _ hsec).2 i).trans ?_
 rw [seen_snoc,if_neg (by show ¬ (((n - 2 + (E + 1) % 2:Nat):Int)) = i;omega)]
end Go.Proofs.YtihdkgekickohaaGreatDoor
