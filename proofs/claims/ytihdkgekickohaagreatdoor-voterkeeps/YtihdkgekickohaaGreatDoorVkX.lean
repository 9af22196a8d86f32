import Derived.Test.YtihdkgekickohaaGreatDoorVhX
import Derived.Test.YtihdkgekickohaaGreatDoorOwrite
import Derived.Test.YtihdkgekickohaaGreatDoorOpenV
namespace Go.Proofs.YtihdkgekickohaaGreatDoor
open Go.ChangeShapes Go.WideShapes Go.ChangeAt Go.RowKit
set_option maxRecDepth 100000
attribute [local go_sem] World.cell?_alloc_some frozen_alloc_some
def VE (B:Nat → Prop) (w wr:World) (p v:Nat) (num:Int) (n s:Nat) (st:Vs) (j:Nat):Prop:=∃ E G I k U ds,VS B w wr p v num n s E G I k U ds st ∧ E ≤ 1 + j ∧ G ≤ 1 + j ∧ I ≤ 2 * j ∧ k ≤ 1 + 4 * j
theorem VE.below {B:Nat → Prop} {w wr w':World} {p v n s j:Nat} {num:Int} {st:Vs} (h:VE B w wr p v num n s st j) (hb:Below wr.heap.size wr w'):VE B w w' p v num n s st j:=by
 obtain ⟨E,G,I,k,U,ds,h,r⟩:=h
 exact ⟨E,G,I,k,U,ds,h.below hb,r⟩
theorem VE.kept {B:Nat → Prop} {w wr w':World} {p v n s j:Nat} {num:Int} {st:Vs} (h:VE B w wr p v num n s st j) {K:Nat → Prop} (hk:Kept K wr w') (hK:∀ i,B i → ¬ K i) (hge:∀ i,K i → w.heap.size ≤ i):VE B w w' p v num n s st j:=by
 obtain ⟨E,G,I,k,U,ds,h,r⟩:=h
 exact ⟨E,G,I,k,U,ds,h.kept hk hK hge,r⟩
theorem VE.lt {B:Nat → Prop} {w wr:World} {p v n s j:Nat} {num:Int} {st:Vs} (h:VE B w wr p v num n s st j) (i:Nat) (hi:B i):w.heap.size ≤ i ∧ i < wr.heap.size:=by
 obtain ⟨E,G,I,k,U,ds,h,r⟩:=h
 exact h.lt i hi
theorem VE.low {B:Nat → Prop} {w wr:World} {p v n s j:Nat} {num:Int} {st:Vs} (h:VE B w wr p v num n s st j):Below w.heap.size w wr:=by
 obtain ⟨E,G,I,k,U,ds,h,r⟩:=h
 exact h.low
theorem VE.ok {B:Nat → Prop} {w wr:World} {p v n s j:Nat} {num:Int} {st:Vs} (h:VE B w wr p v num n s st j):st.ok:=by
 obtain ⟨E,G,I,k,U,ds,h,r⟩:=h
 exact h.ok
theorem VE.up {B:Nat → Prop} {w wr:World} {p v n s j:Nat} {num:Int} {st:Vs} (h:VE B w wr p v num n s st j):VE B w wr p v num n s st (j + 1):=by
 obtain ⟨E,G,I,k,U,ds,h,r⟩:=h
 exact ⟨E,G,I,k,U,ds,h,by omega⟩
structure Lft (B B':Nat → Prop) (wr w':World):Prop where
 gr:∀ i,B' i → B i ∨ wr.heap.size ≤ i
 kp:Kept B wr w'
theorem opR_gen (s E G U:Nat) (ds:List (List Int)) (st:Vs) (r:Vr):(opR s E G U ds st (some r)).2.1 ≤ G + 1 ∧ (opR s E G U ds st (some r)).2.2.2.2 = if (opR s E G U ds st (some r)).1 then st.does r else st:=by
 refine ⟨?_,rfl⟩
 show (apd s E G U ds (bytesS st) (bytesR r)).2.1 ≤ G + 1
 unfold apd
 split
 ·exact Nat.le_succ _
 ·split
  ·split <;> exact Nat.le_refl _
  ·exact Nat.le_succ _
theorem OpP.ve {B:Nat → Prop} {w wr w':World} {p v n s E G I k U j:Nat} {num:Int} {ds:List (List Int)} {st:Vs} {r:Vr} (h:OpP B w wr p v num n s E G I k U ds st (some r) w') (hj:E ≤ 1 + j ∧ G ≤ 1 + j ∧ I ≤ 2 * j ∧ k ≤ 1 + 4 * j):∃ B',VE B' w w' p v num n s (if (opR s E G U ds st (some r)).1 then st.does r else st) (j + 1) ∧ Lft B B' wr w':=by
 obtain ⟨B',h1,h2,h3⟩:=h
 have hg:=opR_gen s E G U ds st r
 rw [hg.2] at h1
 exact ⟨B',⟨_,_,_,_,_,_,h1,by omega⟩,h2,h3⟩
theorem same_ve {B:Nat → Prop} {w wr w':World} {p v n s j:Nat} {num:Int} {st:Vs} (h:VE B w wr p v num n s st j) (hb:Below wr.heap.size wr w'):VE B w w' p v num n s st (j + 1) ∧ Lft B B wr w':=⟨(h.below hb).up,fun _ e=>.inl e,keptB B hb⟩
theorem refE_no {st:Vs} {b:Bl} {eN eB:Addr} (h:mayB st b = false):∃ x,refE st b eN eB = vErr x:=by
 unfold mayB at h
 unfold refE
 cases hq:balB b
 ·exact ⟨eN,by simp⟩
 ·rw [hq] at h
  cases hr:aboveB st.p b
  ·rw [hr] at h;simp at h
  ·exact ⟨eB,by simp⟩
def PrepK (B:Nat → Prop) (w wr:World) (p v:Nat) (num:Int) (n s:Nat) (st:Vs) (j:Nat) (b:Bl) (e:Ending) (w':World):Prop:=
 ∃ B' st',VE B' w w' p v num n s st' (j + 1) ∧ Lft B B' wr w' ∧ ((∃ z y x,e = .returned (.tuple #[vB z,y,vErr x]) ∧ st' = st) ∨ (∃ z y,e = .returned (.tuple #[vB z,y,.nilIface]) ∧ st' = ⟨b,st.a,st.c,st.l⟩ ∧ mayB st b = true))
theorem prepare_k {B:Nat → Prop} {w wr:World} {p v n s j:Nat} {num:Int} {st:Vs} (h:VE B w wr p v num n s st j) (b:Bl) (hn:(n:Int) ≤ 1024) (hj:j ≤ 400) {eN eB eL eS eF eM eY:Addr} (hE:VErrs w eN eB eL eS eF eM eY) :
  Calls Tryz.prog 17 #[.pointer (some ⟨v,0,none⟩),vB b] wr (PrepK B w wr p v num n s st j b):=by
 have hve:=h
 obtain ⟨E,G,I,k,U,ds,h,r⟩:=h
 refine (prepare_v h b hn (by omega) (by omega) (by omega) eN eB eS eF hE.nu hE.ba hE.st hE.fu).mono ?_
 intro e w' hp
 rcases hp with ⟨h1,⟨z,y,rfl⟩,hb⟩ | ⟨h1,⟨z,y,rfl⟩,hop⟩
 ·obtain ⟨h3,h4⟩:=same_ve hve hb
  obtain ⟨x,hx⟩:=refE_no (eN:=eN) (eB:=eB) h1
  exact ⟨B,st,h3,h4,.inl ⟨z,y,x,by rw [hx],rfl⟩⟩
 ·by_cases hbp:b = st.p
  ·rw [if_pos hbp] at hop ⊢
   obtain ⟨B',h2,h3,h4⟩:=hop
   refine ⟨B',st,⟨_,_,_,_,_,_,h2,?_⟩,⟨h3,h4⟩,.inr ⟨z,y,rfl,by rw [hbp],h1⟩⟩
   show E ≤ _ ∧ G ≤ _ ∧ _ ∧ _
   omega
  ·rw [if_neg hbp] at hop ⊢
   obtain ⟨B',h2,h3⟩:=hop.ve r
   cases hq:(opR s E G U ds st (some (.pr b))).1
   ·rw [hq] at h2
    exact ⟨B',st,h2,h3,.inl ⟨z,y,eF,by simp,rfl⟩⟩
   ·rw [hq] at h2
    exact ⟨B',_,h2,h3,.inr ⟨z,y,by simp,rfl,h1⟩⟩
def AccK (B:Nat → Prop) (w wr:World) (p v:Nat) (num:Int) (n s:Nat) (st:Vs) (j:Nat) (b:Bl) (ls:List En) (e:Ending) (w':World):Prop:=
 ∃ B' st',VE B' w w' p v num n s st' (j + 1) ∧ Lft B B' wr w' ∧ ((∃ x,e = .returned (vErr x) ∧ st' = st) ∨ (e = .returned .nilIface ∧ st' = ⟨b,b,st.c,ls⟩ ∧ mayB st b = true))
theorem accept_k {B:Nat → Prop} {w wr:World} {p v n s j:Nat} {num:Int} {st:Vs} (h:VE B w wr p v num n s st j) (b:Bl) (qa:Option Addr) (qc:Nat) (qs:List Ep) (hqs:Ens wr (.slice qa qs.length qc) qs) (hqc:qs.length ≤ qc) (hn:(n:Int) ≤ 1024) (hj:j ≤ 400) {eN eB eL eS eF eM eY:Addr} (hE:VErrs w eN eB eL eS eF eM eY) :
  Calls Tryz.prog 18 #[.pointer (some ⟨v,0,none⟩),vB b,.slice qa qs.length qc] wr (AccK B w wr p v num n s st j b (fs1 qs)):=by
 have hve:=h
 obtain ⟨E,G,I,k,U,ds,h,r⟩:=h
 refine (accept_v h b qa qc qs hqs hqc hn (by omega) (by omega) (by omega) eN eB eL eS eF hE.nu hE.ba hE.la hE.st hE.fu).mono ?_
 intro e w' hp
 rcases hp with ⟨h1,rfl,hb⟩ | ⟨h1,_,rfl,hb⟩ | ⟨h1,_,_,rfl,hb⟩ | ⟨h1,h2,rfl,hop⟩
 ·obtain ⟨h3,h4⟩:=same_ve hve hb
  obtain ⟨x,hx⟩:=refE_no (eN:=eN) (eB:=eB) h1
  exact ⟨B,st,h3,h4,.inl ⟨x,by rw [hx],rfl⟩⟩
 ·obtain ⟨h3,h4⟩:=same_ve hve hb
  exact ⟨B,st,h3,h4,.inl ⟨eL,rfl,rfl⟩⟩
 ·obtain ⟨h3,h4⟩:=same_ve hve hb
  exact ⟨B,st,h3,h4,.inl ⟨eS,rfl,rfl⟩⟩
 ·obtain ⟨B',h2,h3⟩:=hop.ve r
  cases hq:(opR s E G U ds st (some (acR st b (fs1 qs)))).1
  ·rw [hq] at h2
   exact ⟨B',st,h2,h3,.inl ⟨eF,by simp,rfl⟩⟩
  ·rw [hq,if_pos rfl,acR_does] at h2
   exact ⟨B',_,h2,h3,.inr ⟨by simp,rfl,h1⟩⟩
def ClmK (B:Nat → Prop) (w wr:World) (p v:Nat) (num:Int) (n s:Nat) (st:Vs) (j:Nat) (e:Ending) (w':World):Prop:=
 ∃ B' st',VE B' w w' p v num n s st' (j + 1) ∧ Lft B B' wr w' ∧ ((∃ x,e = .returned (.tuple #[vB (0,0),vErr x]) ∧ st' = st) ∨ (∃ m,e = .returned (.tuple #[vB (m,num),.nilIface]) ∧ st' = ⟨st.p,st.a,m,st.l⟩ ∧ st.p.1 < m ∧ st.c < m))
theorem claim_k {B:Nat → Prop} {w wr:World} {p v n s j:Nat} {num:Int} {st:Vs} (h:VE B w wr p v num n s st j) (b:Bl) (hn:(n:Int) ≤ 1024) (hj:j ≤ 400) {eN eB eL eS eF eM eY:Addr} (hE:VErrs w eN eB eL eS eF eM eY) :
  Calls Tryz.prog 19 #[.pointer (some ⟨v,0,none⟩),vB b] wr (ClmK B w wr p v num n s st j):=by
 have hve:=h
 obtain ⟨E,G,I,k,U,ds,h,r⟩:=h
 have hcl:=clM_ok h.ok b
 refine (claim_v h b hn (by omega) (by omega) (by omega) eS eF hE.st hE.fu).mono ?_
 intro e w' hp
 rcases hp with ⟨_,rfl,hb⟩ | ⟨h1,rfl,hop⟩
 ·obtain ⟨h3,h4⟩:=same_ve hve hb
  exact ⟨B,st,h3,h4,.inl ⟨eF,rfl,rfl⟩⟩
 ·obtain ⟨B',h2,h3⟩:=hop.ve r
  cases hq:(opR s E G U ds st (some (.cl (clM st b + 1)))).1
  ·rw [hq] at h2
   exact ⟨B',st,h2,h3,.inl ⟨eF,by simp,rfl⟩⟩
  ·rw [hq] at h2
   refine ⟨B',_,h2,h3,.inr ⟨clM st b + 1,by simp,?_,by omega,by omega⟩⟩
   show (⟨st.p,st.a,max st.c (clM st b + 1),st.l⟩:Vs) = _
   rw [show max st.c (clM st b + 1) = clM st b + 1 by omega]
def OpnK (B:Nat → Prop) (w wr:World) (p:Nat) (num:Int) (n s:Nat) (st:Vs) (j:Nat) (e:Ending) (w':World):Prop:=∃ v B',e = .returned (.tuple #[.pointer (some ⟨v,0,none⟩),.nilIface]) ∧ VE B' w w' p v num n s st (j + 1) ∧ Lft B B' wr w'
theorem open_k {B:Nat → Prop} {w wr:World} {p v n s j:Nat} {num:Int} {st:Vs} (h:VE B w wr p v num n s st j) (hnum:nodeF num) (hn:(n:Int) ≤ 1024) (hj:j ≤ 400) {eN eB eL eS eF eM eY:Addr} (hE:VErrs w eN eB eL eS eF eM eY) :
  Calls Tryz.prog 21 #[.pointer (some ⟨p,0,none⟩),.int .i64 num] wr (OpnK B w wr p num n s st j):=by
 obtain ⟨E,G,I,k,U,ds,h,r⟩:=h
 refine (open_v h num hnum hn (by omega) (by omega) eM eL eY eF eS hE.su hE.la hE.by' hE.fu hE.st).mono ?_
 rintro e w' ⟨v',B',rfl,h1,h2,h3⟩
 exact ⟨v',B',rfl,⟨_,_,_,_,_,_,h1,by omega⟩,h2,h3⟩
theorem crash_k {B:Nat → Prop} {w wr:World} {p v n s j:Nat} {num:Int} {st:Vs} (h:VE B w wr p v num n s st j) (keep torn:Int) :
  Calls Tryz.prog 20 #[.pointer (some ⟨p,0,none⟩),.int .u64 keep,.int .i64 torn] wr fun e w'=>e = .returned (.tuple #[]) ∧ VE B w w' p v num n s st j ∧ Kept B wr w':=by
 obtain ⟨E,G,I,k,U,ds,h,r⟩:=h
 refine (vs_crash h keep torn).mono ?_
 rintro e w' ⟨rfl,h1,h2⟩
 exact ⟨rfl,⟨_,_,_,_,_,_,h1,r⟩,h2⟩
theorem VE.acc {B:Nat → Prop} {w wr:World} {p v n s j:Nat} {num:Int} {st:Vs} (h:VE B w wr p v num n s st j):Calls Tryz.prog 22 #[.pointer (some ⟨v,0,none⟩)] wr (AccP wr st):=by
 obtain ⟨E,G,I,k,U,ds,h,r⟩:=h
 exact h.acc
theorem VE.pro {B:Nat → Prop} {w wr:World} {p v n s j:Nat} {num:Int} {st:Vs} (h:VE B w wr p v num n s st j):Calls Tryz.prog 23 #[.pointer (some ⟨v,0,none⟩)] wr fun e w'=>e = .returned (vB st.p) ∧ Below wr.heap.size wr w':=by
 obtain ⟨E,G,I,k,U,ds,h,r⟩:=h
 obtain ⟨l,a,c,ps,hv,_⟩:=h.led
 exact promised_v wr v l num st _ (hv wr (Below.refl _ _)).1
theorem format_k {w wr:World} {p n s:Nat} {F:Nat → Prop} (hD:Dk F wr p n (fun _=>zeros) [] 0 false) (hbl:Below w.heap.size w wr) (hge:∀ j,F j → w.heap.size ≤ j) (hn2:2 * s + 2 = n) (hs1:1 ≤ s) (hn:(n:Int) ≤ 1024) (num:Int) (hnum:nodeF num) {eN eB eL eS eF eM eY:Addr} (hE:VErrs w eN eB eL eS eF eM eY) :
  Calls Tryz.prog 16 #[.pointer (some ⟨p,0,none⟩),.int .i64 num] wr fun e w'=>∃ v B',e = .returned (.tuple #[.pointer (some ⟨v,0,none⟩),.nilIface]) ∧ VE B' w w' p v num n s st0 0 ∧ Lft F B' wr w':=by
 refine (format_v hD hbl hge hn2 hs1 hn (by rw [np6_st0];exact hs1) num hnum eM eL eY eF eS hE.su hE.la hE.by' hE.fu hE.st).mono ?_
 rintro e w' ⟨v',B',rfl,h1,h2,h3⟩
 exact ⟨v',B',rfl,⟨_,_,_,_,_,_,h1,by omega⟩,h2,h3⟩
set_option maxHeartbeats 12800000 in
theorem sameL_yes (w:World) (v u:Value) (ps qs:List Ep) (hv:Ens w v ps) (hu:Ens w u qs) (h:fs1 ps = fs1 qs):Calls Tryz.prog 24 #[v,u] w fun r w'=>r = .returned (.bool true) ∧ Below w.heap.size w w':=by
 have hv':=hv
 have hu':=hu
 obtain ⟨a0,cap0,rfl,hl0,_⟩:=hv'
 obtain ⟨a1,cap1,rfl,hl1,_⟩:=hu'
 have hlen:ps.length = qs.length:=by have:=congrArg List.length h;simpa using this
 have hleni:(ps.length:Int) = (qs.length:Int):=by omega
 have HV:=mkHid hv
 have HU:=mkHid hu
 have HQ:=mkHid h
 have HLN:=mkHid hlen
 clear hv hu h hlen
 go_enter Tryz.func24,Tryz.ntmps24
 go_wp2
 go_loopw [5,13] (fun _ iv wr=>∃ j:Nat,iv = .int .i64 (j:Int) ∧ j ≤ ps.length ∧ Hid (Below w.heap.size w wr)) (fun _ iv _=>ps.length - (intOf iv).toNat)
 case atStart=>exact ⟨0,rfl,Nat.zero_le _,mkHid (Below.refl _ _)⟩
 case round=>
  obtain ⟨j,rfl,hj,HB⟩:=hrel
  by_cases hlt:j < ps.length
  ·obtain ⟨b0,o0,t,rfl,hx,hat,hew⟩:=HV.out.at HB.out j hlt
   obtain ⟨b1,o1,s,rfl,hy,hbt,hfw⟩:=HU.out.at HB.out j (by have:=HLN.out;omega)
   have hji:(j:Int) < ps.length:=by omega
   have hji2:(j:Int) < qs.length:=by omega
   have hes:t.1 = s.1:=by
    have h1:=congrArg (fun l=>l[j]?) HQ.out
    simp only [fs1,List.getElem?_map,hx,hy] at h1
    simpa using h1
   obtain ⟨e,ta,tc⟩:=t
   obtain ⟨f,ua,uc⟩:=s
   simp only at hes
   subst hes
   have hd:Below wr.heap.size wr wr.drew:=(Below.refl _ wr).drew
   have HAT:=mkHid (hat.below hd)
   have HBT:=mkHid (hbt.below hd)
   have HTW:=mkHid (hew.below hd)
   have HUW:=mkHid (hfw.below hd)
   clear hx hy hat hbt hew hfw hd
   obtain ⟨p0,p1,p2,p3,p4,p5,p6,p7,p8,p9⟩:=HAT.out.ten
   obtain ⟨q0,q1,q2,q3,q4,q5,q6,q7,q8,q9⟩:=HBT.out.ten
   simp only [tv] at p0 p1 p2 p3 p4 p5 p6 p7 p8 p9 q0 q1 q2 q3 q4 q5 q6 q7 q8 q9
   go_wp2
   refine wp_region_held_drew (S:=fun w'=>w'.cell? ⟨b0,o0 + j * 10,none⟩ = some (.int .i64 e.cl) ∧ w'.cell? ⟨b0,o0 + j * 10 + 1,none⟩ = some (.int .i64 e.nu) ∧ w'.cell? ⟨b0,o0 + j * 10 + 2,none⟩ = some (.int .i64 e.ki) ∧ w'.cell? ⟨b0,o0 + j * 10 + 3,none⟩ = some (.int .i64 e.id) ∧ w'.cell? ⟨b0,o0 + j * 10 + 4,none⟩ = some (.int .i64 e.sk) ∧ w'.cell? ⟨b0,o0 + j * 10 + 5,none⟩ = some (.int .i64 e.sq) ∧ w'.cell? ⟨b0,o0 + j * 10 + 6,none⟩ = some (.int .i64 e.st) ∧ w'.cell? ⟨b0,o0 + j * 10 + 7,none⟩ = some (.int .i64 e.po) ∧ w'.cell? ⟨b0,o0 + j * 10 + 8,none⟩ = some (.slice ta e.ts.length tc) ∧ w'.cell? ⟨b0,o0 + j * 10 + 9,none⟩ = some (.int .i64 e.tm) ∧ w'.cell? ⟨b1,o1 + j * 10,none⟩ = some (.int .i64 e.cl) ∧ w'.cell? ⟨b1,o1 + j * 10 + 1,none⟩ = some (.int .i64 e.nu) ∧ w'.cell? ⟨b1,o1 + j * 10 + 2,none⟩ = some (.int .i64 e.ki) ∧ w'.cell? ⟨b1,o1 + j * 10 + 3,none⟩ = some (.int .i64 e.id) ∧ w'.cell? ⟨b1,o1 + j * 10 + 4,none⟩ = some (.int .i64 e.sk) ∧ w'.cell? ⟨b1,o1 + j * 10 + 5,none⟩ = some (.int .i64 e.sq) ∧ w'.cell? ⟨b1,o1 + j * 10 + 6,none⟩ = some (.int .i64 e.st) ∧ w'.cell? ⟨b1,o1 + j * 10 + 7,none⟩ = some (.int .i64 e.po) ∧ w'.cell? ⟨b1,o1 + j * 10 + 8,none⟩ = some (.slice ua e.ts.length uc) ∧ w'.cell? ⟨b1,o1 + j * 10 + 9,none⟩ = some (.int .i64 e.tm)) (by kernel_rfl) ⟨p0,p1,p2,p3,p4,p5,p6,p7,p8,p9,q0,q1,q2,q3,q4,q5,q6,q7,q8,q9⟩ (fun hHeld=>?_)
   refine tkE 0 16 (.slice (some ⟨b0,o0,none⟩) ps.length cap0) rfl rfl hHeld ?_
   simp only [List.set_cons_zero,List.set_cons_succ]
   refine tkE 1 17 (.int .i64 (j:Int)) rfl rfl hHeld ?_
   simp only [List.set_cons_zero,List.set_cons_succ]
   refine tkE 2 18 (.pointer (some ⟨b0,o0 + j * 10,none⟩)) rfl rfl hHeld ?_
   simp only [List.set_cons_zero,List.set_cons_succ]
   refine tkE 3 19 (.agg #[.int .i64 e.cl,.int .i64 e.nu,.int .i64 e.ki,.int .i64 e.id,.int .i64 e.sk,.int .i64 e.sq,.int .i64 e.st,.int .i64 e.po,.slice ta e.ts.length tc,.int .i64 e.tm]) rfl rfl hHeld ?_
   simp only [List.set_cons_zero,List.set_cons_succ]
   refine tkE 4 20 (.slice (some ⟨b1,o1,none⟩) qs.length cap1) rfl rfl hHeld ?_
   simp only [List.set_cons_zero,List.set_cons_succ]
   refine tkE 5 21 (.int .i64 (j:Int)) rfl rfl hHeld ?_
   simp only [List.set_cons_zero,List.set_cons_succ]
   refine tkE 6 22 (.pointer (some ⟨b1,o1 + j * 10,none⟩)) rfl rfl hHeld ?_
   simp only [List.set_cons_zero,List.set_cons_succ]
   refine tkE 7 23 (.agg #[.int .i64 e.cl,.int .i64 e.nu,.int .i64 e.ki,.int .i64 e.id,.int .i64 e.sk,.int .i64 e.sq,.int .i64 e.st,.int .i64 e.po,.slice ua e.ts.length uc,.int .i64 e.tm]) rfl rfl hHeld ?_
   simp only [List.set_cons_zero,List.set_cons_succ]
   refine wpAnyH_ready (rs:=[8]) (by kernel_rfl) (by simp) (AllReadyH.cons rfl (fun K hK=>?_) AllReadyH.nil)
   go_simp
   refine (refSame_yes _ (e,ta,tc) (e,ua,uc) HTW.out HUW.out rfl).mono ?_
   rintro r w2 ⟨rfl,b2⟩
   have HB2:=mkHid (bt (Below.refl _ wr).drew b2)
   clear hHeld p0 p1 p2 p3 p4 p5 p6 p7 p8 p9 q0 q1 q2 q3 q4 q5 q6 q7 q8 q9
   obtain ⟨p0,p1,p2,p3,p4,p5,p6,p7,p8,p9⟩:=(HAT.out.below b2).ten
   obtain ⟨q0,q1,q2,q3,q4,q5,q6,q7,q8,q9⟩:=(HBT.out.below b2).ten
   simp only [tv] at p0 p1 p2 p3 p4 p5 p6 p7 p8 p9 q0 q1 q2 q3 q4 q5 q6 q7 q8 q9
   clear b2
   refine hK.out _ _ ⟨p0,p1,p2,p3,p4,p5,p6,p7,p8,p9,q0,q1,q2,q3,q4,q5,q6,q7,q8,q9⟩ (fun hHeld=>?_)
   clear hK K
   refine tkE 9 25 (.bool false) rfl rfl hHeld ?_
   simp only [List.set_cons_zero,List.set_cons_succ]
   refine wpAnyH_done (by kernel_rfl) ?_ _
   go_wp2
   go_roundw
   case rel=>exact ⟨j + 1,by go_num,by omega,mkHid (bt HB.out HB2.out)⟩
   case measure=>simp [intOf];omega
  ·obtain rfl:j = ps.length:=by omega
   go_wp2
   go_ret
   exact ⟨rfl,HB.out⟩
theorem neq_same (w:World) (a1 a2:Int):(binOp .neq 39 (.agg #[.int .i64 a1,.int .i64 a2]) (.agg #[.int .i64 a1,.int .i64 a2])).run Tryz.prog w = .ok (.bool false) w:=by
 rw [neq_bal];simp
theorem above_trans {a b c:Bl} (h1:aboveB a b = false) (h2:aboveB b c = false):aboveB a c = false:=by
 obtain ⟨a1,a2⟩:=a
 obtain ⟨b1,b2⟩:=b
 obtain ⟨c1,c2⟩:=c
 unfold aboveB at *
 dsimp only at *
 split at h1 <;> split at h2 <;> split <;> simp at * <;> omega
theorem above_big {m p1 p2:Int} (h:p1 < m):aboveB (m,1) (p1,p2) = true:=by
 unfold aboveB
 dsimp only
 rw [if_neg (by omega),decide_eq_true h]
theorem Led.ens' {base:Nat} {w:World} {a:Option Addr} {c:Nat} {qs:List Ep} {st:Vs} (h:Led base w (.slice a qs.length c) qs) (hf:fs1 qs = st.l) (hst:st.ok):Ens w (.slice a qs.length c) qs:=by
 have hi:∀ t ∈ qs,inF t.1:=fs1_inF.mpr (by rw [hf];exact hst.l.2)
 have hl:qs.length = st.l.length:=by rw [← hf];simp [fs1]
 have h64:=hst.l.1
 exact h.ens (by omega) (fun t ht=>by have:=(hi t ht).2.1.1;omega)
structure KB (w wr:World) (x y:Nat) (B:Nat → Prop) (P A:Bl):Prop where
 bx:wr.heap[x]? = some (oB P)
 by':wr.heap[y]? = some (oB A)
 gx:w.heap.size ≤ x
 gy:w.heap.size ≤ y
 xy:x ≠ y
 nx:¬ B x
 ny:¬ B y
theorem KB.below {w wr w':World} {x y:Nat} {B:Nat → Prop} {P A:Bl} (h:KB w wr x y B P A) (hb:Below wr.heap.size wr w'):KB w w' x y B P A:=
 ⟨(hb.block x (lt_of_heap h.bx)).trans h.bx,(hb.block y (lt_of_heap h.by')).trans h.by',h.gx,h.gy,h.xy,h.nx,h.ny⟩
theorem KB.call {w wr w':World} {x y:Nat} {B B':Nat → Prop} {P A:Bl} (h:KB w wr x y B P A) (hl:Lft B B' wr w'):KB w w' x y B' P A:=
 ⟨(hl.kp.block x (lt_of_heap h.bx) h.nx).trans h.bx,(hl.kp.block y (lt_of_heap h.by') h.ny).trans h.by',h.gx,h.gy,h.xy,fun e=>(hl.gr x e).elim h.nx (fun e=>by have:=lt_of_heap h.bx;omega),fun e=>(hl.gr y e).elim h.ny (fun e=>by have:=lt_of_heap h.by';omega)⟩
theorem KB.setx {w wr w':World} {x y:Nat} {B:Nat → Prop} {P A P':Bl} (h:KB w wr x y B P A) (k:Kept (fun j=>j = x) wr w') (h':w'.heap[x]? = some (oB P')):KB w w' x y B P' A:=
 ⟨h',(k.block y (lt_of_heap h.by') (fun e=>h.xy e.symm)).trans h.by',h.gx,h.gy,h.xy,h.nx,h.ny⟩
theorem KB.sety {w wr w':World} {x y:Nat} {B:Nat → Prop} {P A A':Bl} (h:KB w wr x y B P A) (k:Kept (fun j=>j = y) wr w') (h':w'.heap[y]? = some (oB A')):KB w w' x y B P A':=
 ⟨(k.block x (lt_of_heap h.bx) h.xy).trans h.bx,h',h.gx,h.gy,h.xy,h.nx,h.ny⟩
abbrev oOp (kd tn kp b1 b2:Int) (qa:Option Addr) (n qc:Nat):Obj:=.cells #[.int .i64 kd,.int .i64 tn,.int .u64 kp,.int .i64 b1,.int .i64 b2,.slice qa n qc] 42
theorem op_cells {w:World} {b:Nat} {x0 x1 x2 x3 x4 x5:Value} {T:TypeId} (h:w.heap[b]? = some (.cells #[x0,x1,x2,x3,x4,x5] T (0,0))):w.cell? ⟨b,0,none⟩ = some x0 ∧ w.cell? ⟨b,1,none⟩ = some x1 ∧ w.cell? ⟨b,2,none⟩ = some x2 ∧ w.cell? ⟨b,3,none⟩ = some x3 ∧ w.cell? ⟨b,4,none⟩ = some x4 ∧ w.cell? ⟨b,5,none⟩ = some x5:=
 ⟨cell_of_block h rfl,cell_of_block h rfl,cell_of_block h rfl,cell_of_block h rfl,cell_of_block h rfl,cell_of_block h rfl⟩
theorem mayB_above {st:Vs} {b:Bl} (h:mayB st b = true):aboveB st.p b = false:=by
 unfold mayB at h
 cases hq:aboveB st.p b
 ·rfl
 ·rw [hq] at h;simp at h
structure KI (w wr:World) (p x y v j:Nat) (cl:Int) (la:Option Addr) (lc:Nat) (qs:List Ep) (B:Nat → Prop) (st:Vs):Prop where
 ve:VE B w wr p v 1 300 149 st j
 kb:KB w wr x y B st.p st.a
 en:Ens w (.slice la qs.length lc) qs
 fs:fs1 qs = st.l
 cl:cl ≤ st.c
 ab:aboveB st.a st.p = false
set_option maxHeartbeats 12800000 in
theorem keeps_walk (w:World) (sa:Option Addr) (sc:Nat) (os:List O18) (hs:Scr w (.slice sa os.length sc) os) (eN eB eL eS eF eM eY:Addr) (h:VErrs w eN eB eL eS eF eM eY) :
    Calls Tryz.prog 5 #[.slice sa os.length sc] w fun e w'=>e = .returned (.bool true) ∧ Below w.heap.size w w':=by
  have HS:=mkHid hs
  have HG:=mkHid h
  have hol:(os.length:Int) ≤ 9223372036854775807:=by have:=hs.sz;omega
  clear hs h
  go_enter Tryz.func5,Tryz.ntmps5
  go_wp2_with (first
    | (go_at_call 8;(refine (valive _ eN eB eL eS eF eM eY HG.out).mono ?_);rintro e w1 ⟨rfl,b1x⟩;have HB1:=mkHid b1x;clear b1x)
    | (go_at_call 9;refine (dnew_ok _ 300 (by omega) (by omega)).mono ?_;rintro e w2 ⟨p,F,rfl,hD1,hF1,hb1⟩;have HD1:=mkHid (And.intro hD1 (And.intro hF1 (bt HB1.out hb1)));clear hD1 hF1 hb1)
    | (go_at_call 16;have HN:=format_k HD1.out.1 HD1.out.2.2 (fun k e=>Nat.le_trans HB1.out.size (HD1.out.2.1 k e)) (n:=300) (s:=149) (by omega) (by omega) (by omega) 1 ⟨by omega,by omega⟩ HG.out;(with_reducible refine HN.mono ?_);clear HN;rintro e w3 ⟨v0,B0,rfl,s3,l3⟩;have H3:=mkHid s3;clear s3 l3))
  have HKI:Hid (KI w (((w3.alloc oZB).alloc oZB).alloc (.cells #[] 69)) p w3.heap.size (w3.heap.size + 1) v0 0 0 (some ⟨w3.heap.size + 1 + 1,0,none⟩) 0 [] B0 st0):=mkHid (by
    have hg:=H3.out.low.size
    refine ⟨H3.out.below (ba (ba (ba (Below.refl _ w3) _) _) _),⟨?_,?_,hg,by omega,by omega,fun e=>?_,fun e=>?_⟩,⟨_,0,rfl,by simp,fun hp=>by simp at hp,by simp⟩,rfl,by decide,by decide⟩
    · rw [heap_alloc_old _ _ (by simp;omega),heap_alloc_old _ _ (by simp)];exact heap_alloc_new w3 _
    · rw [heap_alloc_old _ _ (by simp)];exact two_of_two w3 _ _
    · have:=(H3.out.lt _ e).2;omega
    · have:=(H3.out.lt _ e).2;omega)
  generalize w3.heap.size = x at HKI ⊢
  generalize x + 1 = y at HKI ⊢
  go_loopw [47,5,8,9] (fun iv vv cv lv wr=>∃ (j v:Nat) (cl:Int) (la:Option Addr) (lc:Nat) (qs:List Ep) (B:Nat → Prop) (st:Vs),iv = .int .i64 (j:Int) ∧ vv = .pointer (some ⟨v,0,none⟩) ∧ cv = .int .i64 cl ∧ lv = .slice la qs.length lc ∧ j ≤ os.length ∧ j ≤ 81 ∧ Hid (KI w wr p x y v j cl la lc qs B st)) (fun iv _ _ _ _=>os.length - (intOf iv).toNat)
  case atStart=>exact ⟨0,v0,0,_,0,[],B0,st0,rfl,rfl,rfl,rfl,Nat.zero_le _,by omega,HKI⟩
  case round=>
    obtain ⟨j,v,cl,la,lc,qs,B,st,rfl,rfl,rfl,rfl,hj,hj81,HI⟩:=hrel
    by_cases hlt:j < os.length
    · obtain ⟨g,off,o,rfl,ho,hat⟩:=HS.out.row.at HI.out.ve.low j hlt
      have HIN:=mkHid (HS.out.ins o (List.mem_of_getElem? ho))
      obtain ⟨kd,tn,kp,⟨b1,b2⟩,qa,qc,ps⟩:=o
      have y0:=hat 0 _ (by omega) rfl
      have y1:=hat 1 _ (by omega) rfl
      have y2:=hat 2 _ (by omega) rfl
      have y3:=hat 3 _ (by omega) rfl
      have y4:=hat 4 _ (by omega) rfl
      have y5:=hat 5 _ (by omega) rfl
      simp only [Nat.add_zero] at y0 y1 y2 y3 y4 y5
      have hji:(j:Int) < (os.length:Int):=by omega
      clear hat ho
      by_cases h80:(80:Int) < (j:Int)
      · go_wp2
        go_ret
        exact ⟨rfl,ba HI.out.ve.low _⟩
      have hbo:Below wr.heap.size wr (wr.alloc (oOp kd tn kp b1 b2 qa ps.length qc)):=ba (Below.refl _ wr) _
      have HV0:=mkHid (HI.out.ve.below hbo)
      have HK0:=mkHid (HI.out.kb.below hbo)
      have HLG:Hid (Ens w (.slice la qs.length lc) qs ∧ fs1 qs = st.l):=mkHid ⟨HI.out.en,HI.out.fs⟩
      have HCL:=mkHid HI.out.cl
      have HAB:=mkHid HI.out.ab
      have HO:Hid ((wr.alloc (oOp kd tn kp b1 b2 qa ps.length qc)).heap[wr.heap.size]? = some (oOp kd tn kp b1 b2 qa ps.length qc)):=mkHid (heap_alloc_new wr _)
      have HNO:Hid (¬ B wr.heap.size):=mkHid (fun e=>by have:=(HI.out.ve.lt _ e).2;omega)
      have HXO:Hid (x ≠ wr.heap.size ∧ y ≠ wr.heap.size):=mkHid ⟨by have:=lt_of_heap HI.out.kb.bx;omega,by have:=lt_of_heap HI.out.kb.by';omega⟩
      clear hbo
      obtain ⟨⟨p1,p2⟩,⟨a1,a2⟩,c',l'⟩:=st
      have hk:kd = 1 ∨ kd = 2 ∨ kd = 3 ∨ kd = 4 ∨ ((kd == 1) = false ∧ (kd == 2) = false ∧ (kd == 3) = false ∧ (kd == 4) = false):=by simp;omega
      rcases hk with rfl | rfl | rfl | rfl | ⟨h1,h2,h3,h4⟩
      ·
        go_wp2_with (first
  | (go_at_call 17;have HN:=prepare_k HV0.out (b1,b2) (by omega) (by omega) HG.out;(with_reducible refine HN.mono ?_);clear HN;rintro e w4 ⟨B4,st4,v4,l4,(⟨z4,yy,xx,rfl,rfl⟩ | ⟨z4,yy,rfl,rfl,hmay⟩)⟩ <;> first | (have HMAY:=mkHid hmay;have HV:=mkHid v4;have HKB:=mkHid (HK0.out.call l4);obtain ⟨o0,o1,o2,o3,o4,o5⟩:=op_cells ((l4.kp.block _ (lt_of_heap HO.out) HNO.out).trans HO.out);clear hmay v4 l4 o0 o1 o2 o5) | (have HV:=mkHid v4;have HKB:=mkHid (HK0.out.call l4);clear v4 l4))
  | (refine wpList_store_box rfl 39 (.tmp 6) (.tmp 69) rfl x #[.int .i64 b1,.int .i64 b2] rfl rfl 39 _ (HKB.out.below (ba (Below.refl _ w4) (oB z4))).bx size2 rfl (one2 _ _) ?_;intro w5 h5 k5;have HKB2:=mkHid ((HKB.out.below (ba (Below.refl _ w4) (oB z4))).setx (P':=(b1,b2)) k5 h5);have HV2:=mkHid ((HV.out.below (ba (Below.refl _ w4) (oB z4))).kept k5 (fun i hi e=>HKB.out.nx (e ▸ hi)) (fun i e=>by rw [e];exact HKB.out.gx));clear HV HKB h5 k5 o3 o4;have HV:=HV2;have HKB:=HKB2;clear HV2 HKB2)
  | (have HV3:=mkHid (HV.out.below (ba (Below.refl _ w4) (oB z4)));go_at_call 22;have HN:=HV3.out.acc;(with_reducible refine HN.mono ?_);clear HN;have HKB3:=mkHid (HKB.out.below (ba (Below.refl _ w4) (oB z4)));clear HV HKB;have HV:=HV3;have HKB:=HKB3;clear HV3 HKB3;rintro e wA ⟨aa,ca,qz,rfl,lA,fA,bA⟩;have HA:=mkHid (And.intro lA (And.intro fA bA));clear lA fA bA)
  | (go_at_call 22;have HN:=HV.out.acc;(with_reducible refine HN.mono ?_);clear HN;rintro e wA ⟨aa,ca,qz,rfl,lA,fA,bA⟩;have HA:=mkHid (And.intro lA (And.intro fA bA));clear lA fA bA))
        · have HNP:=fun W=>neq_same W p1 p2
          have HNA:=fun W=>neq_same W a1 a2
          have HKA:Hid (KB w (wA.alloc (oB (a1,a2))).drew x y _ (p1,p2) (a1,a2)):=mkHid (HKB.out.below (ba HA.out.2.2 _).drew)
          have HBA:Hid (Below w.heap.size w (wA.alloc (oB (a1,a2))).drew):=mkHid (bt HV.out.low (ba HA.out.2.2 _).drew)
          obtain ⟨x0,x1⟩:=two_cells HKA.out.bx
          obtain ⟨y0,y1⟩:=two_cells HKA.out.by'
          obtain ⟨u0,u1⟩:=two_cells (heap_alloc_new wA (oB (a1,a2)))
          refine wp_region_held_drew (S:=fun w'=>w'.cell? ⟨x,0,none⟩ = some (.int .i64 p1) ∧ w'.cell? ⟨x,1,none⟩ = some (.int .i64 p2) ∧ w'.cell? ⟨y,0,none⟩ = some (.int .i64 a1) ∧ w'.cell? ⟨y,1,none⟩ = some (.int .i64 a2) ∧ w'.cell? ⟨wA.heap.size,0,none⟩ = some (.int .i64 a1) ∧ w'.cell? ⟨wA.heap.size,1,none⟩ = some (.int .i64 a2)) (by kernel_rfl) ⟨x0,x1,y0,y1,u0,u1⟩ (fun hHeld=>?_)
          refine tkE 0 137 (.pointer (some ⟨v,0,none⟩)) rfl rfl hHeld ?_
          (try simp only [List.set_cons_zero,List.set_cons_succ])
          refine tkE 2 139 (.agg #[.int .i64 p1,.int .i64 p2]) rfl rfl hHeld ?_
          (try simp only [List.set_cons_zero,List.set_cons_succ])
          refine wpAnyH_ready (rs:=[1]) (by kernel_rfl) (by simp) (AllReadyH.cons rfl (fun K hK=>?_) AllReadyH.nil)
          go_simp
          refine ((HV.out.below (ba HA.out.2.2 (oB (a1,a2))).drew).pro).mono ?_
          rintro e wB ⟨rfl,bwB⟩
          have fwB_0:wB.cell? ⟨x,0,none⟩ = some (.int .i64 p1):=kc (show (wA.alloc (oB (a1,a2))).drew.cell? _ = _ from x0) bwB
          have fwB_1:wB.cell? ⟨x,1,none⟩ = some (.int .i64 p2):=kc (show (wA.alloc (oB (a1,a2))).drew.cell? _ = _ from x1) bwB
          have fwB_2:wB.cell? ⟨y,0,none⟩ = some (.int .i64 a1):=kc (show (wA.alloc (oB (a1,a2))).drew.cell? _ = _ from y0) bwB
          have fwB_3:wB.cell? ⟨y,1,none⟩ = some (.int .i64 a2):=kc (show (wA.alloc (oB (a1,a2))).drew.cell? _ = _ from y1) bwB
          have fwB_4:wB.cell? ⟨wA.heap.size,0,none⟩ = some (.int .i64 a1):=kc (show (wA.alloc (oB (a1,a2))).drew.cell? _ = _ from u0) bwB
          have fwB_5:wB.cell? ⟨wA.heap.size,1,none⟩ = some (.int .i64 a2):=kc (show (wA.alloc (oB (a1,a2))).drew.cell? _ = _ from u1) bwB
          have HBB:=mkHid (bt HBA.out bwB)
          have HKb:Hid (Below (wA.alloc (oB (a1,a2))).drew.heap.size (wA.alloc (oB (a1,a2))).drew wB):=mkHid bwB
          clear bwB hHeld x0 x1 y0 y1 u0 u1
          refine hK.out _ _ ⟨fwB_0,fwB_1,fwB_2,fwB_3,fwB_4,fwB_5⟩ (fun hHeld=>?_)
          clear hK K
          (try simp only)
          refine tkE 3 140 (.bool false) rfl rfl hHeld ?_
          (try simp only [List.set_cons_zero,List.set_cons_succ])
          refine tkE 4 141 (.bool false) rfl rfl hHeld ?_
          (try simp only [List.set_cons_zero,List.set_cons_succ])
          refine tkE 5 142 (.agg #[.int .i64 a1,.int .i64 a2]) rfl rfl hHeld ?_
          (try simp only [List.set_cons_zero,List.set_cons_succ])
          refine tkE 6 143 (.agg #[.int .i64 a1,.int .i64 a2]) rfl rfl hHeld ?_
          (try simp only [List.set_cons_zero,List.set_cons_succ])
          refine tkE 7 144 (.bool false) rfl rfl hHeld ?_
          (try simp only [List.set_cons_zero,List.set_cons_succ])
          refine tkE 8 145 (.bool false) rfl rfl hHeld ?_
          (try simp only [List.set_cons_zero,List.set_cons_succ])
          refine tkE 9 146 (.bool false) rfl rfl hHeld ?_
          (try simp only [List.set_cons_zero,List.set_cons_succ])
          refine tkE 10 147 (.slice aa qz.length ca) rfl rfl hHeld ?_
          (try simp only [List.set_cons_zero,List.set_cons_succ])
          refine tkE 11 148 (.slice la qs.length lc) rfl rfl hHeld ?_
          (try simp only [List.set_cons_zero,List.set_cons_succ])
          refine wpAnyH_ready (rs:=[12]) (by kernel_rfl) (by simp) (AllReadyH.cons rfl (fun K hK=>?_) AllReadyH.nil)
          go_simp
          refine (sameL_yes wB (.slice aa qz.length ca) (.slice la qs.length lc) qz qs ((HA.out.1.below (bt (ba (Below.refl _ wA) (oB (a1,a2))).drew HKb.out)).ens' HA.out.2.1 HV.out.ok) (HLG.out.1.below HBB.out) (HA.out.2.1.trans HLG.out.2.symm)).mono ?_
          rintro e wC ⟨rfl,bwC⟩
          have fwC_0:wC.cell? ⟨x,0,none⟩ = some (.int .i64 p1):=kc fwB_0 bwC
          have fwC_1:wC.cell? ⟨x,1,none⟩ = some (.int .i64 p2):=kc fwB_1 bwC
          have fwC_2:wC.cell? ⟨y,0,none⟩ = some (.int .i64 a1):=kc fwB_2 bwC
          have fwC_3:wC.cell? ⟨y,1,none⟩ = some (.int .i64 a2):=kc fwB_3 bwC
          have fwC_4:wC.cell? ⟨wA.heap.size,0,none⟩ = some (.int .i64 a1):=kc fwB_4 bwC
          have fwC_5:wC.cell? ⟨wA.heap.size,1,none⟩ = some (.int .i64 a2):=kc fwB_5 bwC
          have HBC:=mkHid (bt HBB.out bwC)
          have HKc:Hid (Below (wA.alloc (oB (a1,a2))).drew.heap.size (wA.alloc (oB (a1,a2))).drew wC):=mkHid (bt HKb.out bwC)
          clear bwC hHeld fwB_0 fwB_1 fwB_2 fwB_3 fwB_4 fwB_5
          refine hK.out _ _ ⟨fwC_0,fwC_1,fwC_2,fwC_3,fwC_4,fwC_5⟩ (fun hHeld=>?_)
          clear hK K
          (try simp only [Act.put])
          refine tkE 13 150 (.bool false) rfl rfl hHeld ?_
          (try simp only [List.set_cons_zero,List.set_cons_succ])
          refine tkE 14 151 (.bool false) rfl rfl hHeld ?_
          (try simp only [List.set_cons_zero,List.set_cons_succ])
          refine tkE 15 152 (.bool false) rfl rfl hHeld ?_
          (try simp only [List.set_cons_zero,List.set_cons_succ])
          refine tkE 16 153 (.agg #[.int .i64 a1,.int .i64 a2]) rfl rfl hHeld ?_
          (try simp only [List.set_cons_zero,List.set_cons_succ])
          refine tkE 17 154 (.agg #[.int .i64 p1,.int .i64 p2]) rfl rfl hHeld ?_
          (try simp only [List.set_cons_zero,List.set_cons_succ])
          refine wpAnyH_ready (rs:=[18]) (by kernel_rfl) (by simp) (AllReadyH.cons rfl (fun K hK=>?_) AllReadyH.nil)
          go_simp
          refine ((HAB.out ▸ rabove_any wC (a1,a2) (p1,p2))).mono ?_
          rintro e wD ⟨rfl,bwD⟩
          have fwD_0:wD.cell? ⟨x,0,none⟩ = some (.int .i64 p1):=kc fwC_0 bwD
          have fwD_1:wD.cell? ⟨x,1,none⟩ = some (.int .i64 p2):=kc fwC_1 bwD
          have fwD_2:wD.cell? ⟨y,0,none⟩ = some (.int .i64 a1):=kc fwC_2 bwD
          have fwD_3:wD.cell? ⟨y,1,none⟩ = some (.int .i64 a2):=kc fwC_3 bwD
          have fwD_4:wD.cell? ⟨wA.heap.size,0,none⟩ = some (.int .i64 a1):=kc fwC_4 bwD
          have fwD_5:wD.cell? ⟨wA.heap.size,1,none⟩ = some (.int .i64 a2):=kc fwC_5 bwD
          have HKd:Hid (Below (wA.alloc (oB (a1,a2))).drew.heap.size (wA.alloc (oB (a1,a2))).drew wD):=mkHid (bt HKc.out bwD)
          clear bwD hHeld fwC_0 fwC_1 fwC_2 fwC_3 fwC_4 fwC_5
          refine hK.out _ _ ⟨fwD_0,fwD_1,fwD_2,fwD_3,fwD_4,fwD_5⟩ (fun hHeld=>?_)
          clear hK K
          (try simp only [Act.put])
          refine tkE 19 156 (.bool false) rfl rfl hHeld ?_
          (try simp only [List.set_cons_zero,List.set_cons_succ])
          refine wpAnyH_done (by kernel_rfl) ?_ _
          clear hHeld fwD_0 fwD_1 fwD_2 fwD_3 fwD_4 fwD_5
          go_wp2
          go_roundw
          case rel=>exact ⟨j + 1,_,cl,la,lc,qs,_,_,by go_num,rfl,rfl,rfl,by omega,by omega,mkHid ⟨HV.out.below (bt (ba HA.out.2.2 _).drew HKd.out),HKA.out.below HKd.out,HLG.out.1,HLG.out.2,by have:=HCL.out;omega,HAB.out⟩⟩
          case measure=>simp [intOf];omega
        · have HAB0:=HAB
          have HAB:=mkHid (above_trans HAB0.out (mayB_above HMAY.out))
          have HNP:=fun W=>neq_same W b1 b2
          have HNA:=fun W=>neq_same W a1 a2
          have HKA:Hid (KB w (wA.alloc (oB (a1,a2))).drew x y _ (b1,b2) (a1,a2)):=mkHid (HKB.out.below (ba HA.out.2.2 _).drew)
          have HBA:Hid (Below w.heap.size w (wA.alloc (oB (a1,a2))).drew):=mkHid (bt HV.out.low (ba HA.out.2.2 _).drew)
          obtain ⟨x0,x1⟩:=two_cells HKA.out.bx
          obtain ⟨y0,y1⟩:=two_cells HKA.out.by'
          obtain ⟨u0,u1⟩:=two_cells (heap_alloc_new wA (oB (a1,a2)))
          refine wp_region_held_drew (S:=fun w'=>w'.cell? ⟨x,0,none⟩ = some (.int .i64 b1) ∧ w'.cell? ⟨x,1,none⟩ = some (.int .i64 b2) ∧ w'.cell? ⟨y,0,none⟩ = some (.int .i64 a1) ∧ w'.cell? ⟨y,1,none⟩ = some (.int .i64 a2) ∧ w'.cell? ⟨wA.heap.size,0,none⟩ = some (.int .i64 a1) ∧ w'.cell? ⟨wA.heap.size,1,none⟩ = some (.int .i64 a2)) (by kernel_rfl) ⟨x0,x1,y0,y1,u0,u1⟩ (fun hHeld=>?_)
          refine tkE 0 137 (.pointer (some ⟨v,0,none⟩)) rfl rfl hHeld ?_
          (try simp only [List.set_cons_zero,List.set_cons_succ])
          refine tkE 2 139 (.agg #[.int .i64 b1,.int .i64 b2]) rfl rfl hHeld ?_
          (try simp only [List.set_cons_zero,List.set_cons_succ])
          refine wpAnyH_ready (rs:=[1]) (by kernel_rfl) (by simp) (AllReadyH.cons rfl (fun K hK=>?_) AllReadyH.nil)
          go_simp
          refine ((HV.out.below (ba HA.out.2.2 (oB (a1,a2))).drew).pro).mono ?_
          rintro e wB ⟨rfl,bwB⟩
          have fwB_0:wB.cell? ⟨x,0,none⟩ = some (.int .i64 b1):=kc (show (wA.alloc (oB (a1,a2))).drew.cell? _ = _ from x0) bwB
          have fwB_1:wB.cell? ⟨x,1,none⟩ = some (.int .i64 b2):=kc (show (wA.alloc (oB (a1,a2))).drew.cell? _ = _ from x1) bwB
          have fwB_2:wB.cell? ⟨y,0,none⟩ = some (.int .i64 a1):=kc (show (wA.alloc (oB (a1,a2))).drew.cell? _ = _ from y0) bwB
          have fwB_3:wB.cell? ⟨y,1,none⟩ = some (.int .i64 a2):=kc (show (wA.alloc (oB (a1,a2))).drew.cell? _ = _ from y1) bwB
          have fwB_4:wB.cell? ⟨wA.heap.size,0,none⟩ = some (.int .i64 a1):=kc (show (wA.alloc (oB (a1,a2))).drew.cell? _ = _ from u0) bwB
          have fwB_5:wB.cell? ⟨wA.heap.size,1,none⟩ = some (.int .i64 a2):=kc (show (wA.alloc (oB (a1,a2))).drew.cell? _ = _ from u1) bwB
          have HBB:=mkHid (bt HBA.out bwB)
          have HKb:Hid (Below (wA.alloc (oB (a1,a2))).drew.heap.size (wA.alloc (oB (a1,a2))).drew wB):=mkHid bwB
          clear bwB hHeld x0 x1 y0 y1 u0 u1
          refine hK.out _ _ ⟨fwB_0,fwB_1,fwB_2,fwB_3,fwB_4,fwB_5⟩ (fun hHeld=>?_)
          clear hK K
          (try simp only)
          refine tkE 3 140 (.bool false) rfl rfl hHeld ?_
          (try simp only [List.set_cons_zero,List.set_cons_succ])
          refine tkE 4 141 (.bool false) rfl rfl hHeld ?_
          (try simp only [List.set_cons_zero,List.set_cons_succ])
          refine tkE 5 142 (.agg #[.int .i64 a1,.int .i64 a2]) rfl rfl hHeld ?_
          (try simp only [List.set_cons_zero,List.set_cons_succ])
          refine tkE 6 143 (.agg #[.int .i64 a1,.int .i64 a2]) rfl rfl hHeld ?_
          (try simp only [List.set_cons_zero,List.set_cons_succ])
          refine tkE 7 144 (.bool false) rfl rfl hHeld ?_
          (try simp only [List.set_cons_zero,List.set_cons_succ])
          refine tkE 8 145 (.bool false) rfl rfl hHeld ?_
          (try simp only [List.set_cons_zero,List.set_cons_succ])
          refine tkE 9 146 (.bool false) rfl rfl hHeld ?_
          (try simp only [List.set_cons_zero,List.set_cons_succ])
          refine tkE 10 147 (.slice aa qz.length ca) rfl rfl hHeld ?_
          (try simp only [List.set_cons_zero,List.set_cons_succ])
          refine tkE 11 148 (.slice la qs.length lc) rfl rfl hHeld ?_
          (try simp only [List.set_cons_zero,List.set_cons_succ])
          refine wpAnyH_ready (rs:=[12]) (by kernel_rfl) (by simp) (AllReadyH.cons rfl (fun K hK=>?_) AllReadyH.nil)
          go_simp
          refine (sameL_yes wB (.slice aa qz.length ca) (.slice la qs.length lc) qz qs ((HA.out.1.below (bt (ba (Below.refl _ wA) (oB (a1,a2))).drew HKb.out)).ens' HA.out.2.1 HV.out.ok) (HLG.out.1.below HBB.out) (HA.out.2.1.trans HLG.out.2.symm)).mono ?_
          rintro e wC ⟨rfl,bwC⟩
          have fwC_0:wC.cell? ⟨x,0,none⟩ = some (.int .i64 b1):=kc fwB_0 bwC
          have fwC_1:wC.cell? ⟨x,1,none⟩ = some (.int .i64 b2):=kc fwB_1 bwC
          have fwC_2:wC.cell? ⟨y,0,none⟩ = some (.int .i64 a1):=kc fwB_2 bwC
          have fwC_3:wC.cell? ⟨y,1,none⟩ = some (.int .i64 a2):=kc fwB_3 bwC
          have fwC_4:wC.cell? ⟨wA.heap.size,0,none⟩ = some (.int .i64 a1):=kc fwB_4 bwC
          have fwC_5:wC.cell? ⟨wA.heap.size,1,none⟩ = some (.int .i64 a2):=kc fwB_5 bwC
          have HBC:=mkHid (bt HBB.out bwC)
          have HKc:Hid (Below (wA.alloc (oB (a1,a2))).drew.heap.size (wA.alloc (oB (a1,a2))).drew wC):=mkHid (bt HKb.out bwC)
          clear bwC hHeld fwB_0 fwB_1 fwB_2 fwB_3 fwB_4 fwB_5
          refine hK.out _ _ ⟨fwC_0,fwC_1,fwC_2,fwC_3,fwC_4,fwC_5⟩ (fun hHeld=>?_)
          clear hK K
          (try simp only [Act.put])
          refine tkE 13 150 (.bool false) rfl rfl hHeld ?_
          (try simp only [List.set_cons_zero,List.set_cons_succ])
          refine tkE 14 151 (.bool false) rfl rfl hHeld ?_
          (try simp only [List.set_cons_zero,List.set_cons_succ])
          refine tkE 15 152 (.bool false) rfl rfl hHeld ?_
          (try simp only [List.set_cons_zero,List.set_cons_succ])
          refine tkE 16 153 (.agg #[.int .i64 a1,.int .i64 a2]) rfl rfl hHeld ?_
          (try simp only [List.set_cons_zero,List.set_cons_succ])
          refine tkE 17 154 (.agg #[.int .i64 b1,.int .i64 b2]) rfl rfl hHeld ?_
          (try simp only [List.set_cons_zero,List.set_cons_succ])
          refine wpAnyH_ready (rs:=[18]) (by kernel_rfl) (by simp) (AllReadyH.cons rfl (fun K hK=>?_) AllReadyH.nil)
          go_simp
          refine ((HAB.out ▸ rabove_any wC (a1,a2) (b1,b2))).mono ?_
          rintro e wD ⟨rfl,bwD⟩
          have fwD_0:wD.cell? ⟨x,0,none⟩ = some (.int .i64 b1):=kc fwC_0 bwD
          have fwD_1:wD.cell? ⟨x,1,none⟩ = some (.int .i64 b2):=kc fwC_1 bwD
          have fwD_2:wD.cell? ⟨y,0,none⟩ = some (.int .i64 a1):=kc fwC_2 bwD
          have fwD_3:wD.cell? ⟨y,1,none⟩ = some (.int .i64 a2):=kc fwC_3 bwD
          have fwD_4:wD.cell? ⟨wA.heap.size,0,none⟩ = some (.int .i64 a1):=kc fwC_4 bwD
          have fwD_5:wD.cell? ⟨wA.heap.size,1,none⟩ = some (.int .i64 a2):=kc fwC_5 bwD
          have HKd:Hid (Below (wA.alloc (oB (a1,a2))).drew.heap.size (wA.alloc (oB (a1,a2))).drew wD):=mkHid (bt HKc.out bwD)
          clear bwD hHeld fwC_0 fwC_1 fwC_2 fwC_3 fwC_4 fwC_5
          refine hK.out _ _ ⟨fwD_0,fwD_1,fwD_2,fwD_3,fwD_4,fwD_5⟩ (fun hHeld=>?_)
          clear hK K
          (try simp only [Act.put])
          refine tkE 19 156 (.bool false) rfl rfl hHeld ?_
          (try simp only [List.set_cons_zero,List.set_cons_succ])
          refine wpAnyH_done (by kernel_rfl) ?_ _
          clear hHeld fwD_0 fwD_1 fwD_2 fwD_3 fwD_4 fwD_5
          go_wp2
          go_roundw
          case rel=>exact ⟨j + 1,_,cl,la,lc,qs,_,_,by go_num,rfl,rfl,rfl,by omega,by omega,mkHid ⟨HV.out.below (bt (ba HA.out.2.2 _).drew HKd.out),HKA.out.below HKd.out,HLG.out.1,HLG.out.2,by have:=HCL.out;omega,HAB.out⟩⟩
          case measure=>simp [intOf];omega
      ·
        go_wp2_with (first
  | (go_at_call 18;have HN:=accept_k HV0.out (b1,b2) qa qc ps (HIN.out.en.below HV0.out.low) HIN.out.lc (by omega) (by omega) HG.out;(with_reducible refine HN.mono ?_);clear HN;rintro e w4 ⟨B4,st4,v4,l4,(⟨xx,rfl,rfl⟩ | ⟨rfl,rfl,hmay⟩)⟩ <;> first | (have HMAY:=mkHid hmay;have HV:=mkHid v4;have HKB:=mkHid (HK0.out.call l4);obtain ⟨o0,o1,o2,o3,o4,o5⟩:=op_cells ((l4.kp.block _ (lt_of_heap HO.out) HNO.out).trans HO.out);clear hmay v4 l4 o0 o1 o2) | (have HV:=mkHid v4;have HKB:=mkHid (HK0.out.call l4);clear v4 l4))
  | (go_at_call 22;have HN:=HV.out.acc;(with_reducible refine HN.mono ?_);clear HN;rintro e wA ⟨aa,ca,qz,rfl,lA,fA,bA⟩;have HA:=mkHid (And.intro lA (And.intro fA bA));clear lA fA bA))
        · have HNP:=fun W=>neq_same W p1 p2
          have HNA:=fun W=>neq_same W a1 a2
          have HKA:Hid (KB w (wA.alloc (oB (a1,a2))).drew x y _ (p1,p2) (a1,a2)):=mkHid (HKB.out.below (ba HA.out.2.2 _).drew)
          have HBA:Hid (Below w.heap.size w (wA.alloc (oB (a1,a2))).drew):=mkHid (bt HV.out.low (ba HA.out.2.2 _).drew)
          obtain ⟨x0,x1⟩:=two_cells HKA.out.bx
          obtain ⟨y0,y1⟩:=two_cells HKA.out.by'
          obtain ⟨u0,u1⟩:=two_cells (heap_alloc_new wA (oB (a1,a2)))
          refine wp_region_held_drew (S:=fun w'=>w'.cell? ⟨x,0,none⟩ = some (.int .i64 p1) ∧ w'.cell? ⟨x,1,none⟩ = some (.int .i64 p2) ∧ w'.cell? ⟨y,0,none⟩ = some (.int .i64 a1) ∧ w'.cell? ⟨y,1,none⟩ = some (.int .i64 a2) ∧ w'.cell? ⟨wA.heap.size,0,none⟩ = some (.int .i64 a1) ∧ w'.cell? ⟨wA.heap.size,1,none⟩ = some (.int .i64 a2)) (by kernel_rfl) ⟨x0,x1,y0,y1,u0,u1⟩ (fun hHeld=>?_)
          refine tkE 0 137 (.pointer (some ⟨v,0,none⟩)) rfl rfl hHeld ?_
          (try simp only [List.set_cons_zero,List.set_cons_succ])
          refine tkE 2 139 (.agg #[.int .i64 p1,.int .i64 p2]) rfl rfl hHeld ?_
          (try simp only [List.set_cons_zero,List.set_cons_succ])
          refine wpAnyH_ready (rs:=[1]) (by kernel_rfl) (by simp) (AllReadyH.cons rfl (fun K hK=>?_) AllReadyH.nil)
          go_simp
          refine ((HV.out.below (ba HA.out.2.2 (oB (a1,a2))).drew).pro).mono ?_
          rintro e wB ⟨rfl,bwB⟩
          have fwB_0:wB.cell? ⟨x,0,none⟩ = some (.int .i64 p1):=kc (show (wA.alloc (oB (a1,a2))).drew.cell? _ = _ from x0) bwB
          have fwB_1:wB.cell? ⟨x,1,none⟩ = some (.int .i64 p2):=kc (show (wA.alloc (oB (a1,a2))).drew.cell? _ = _ from x1) bwB
          have fwB_2:wB.cell? ⟨y,0,none⟩ = some (.int .i64 a1):=kc (show (wA.alloc (oB (a1,a2))).drew.cell? _ = _ from y0) bwB
          have fwB_3:wB.cell? ⟨y,1,none⟩ = some (.int .i64 a2):=kc (show (wA.alloc (oB (a1,a2))).drew.cell? _ = _ from y1) bwB
          have fwB_4:wB.cell? ⟨wA.heap.size,0,none⟩ = some (.int .i64 a1):=kc (show (wA.alloc (oB (a1,a2))).drew.cell? _ = _ from u0) bwB
          have fwB_5:wB.cell? ⟨wA.heap.size,1,none⟩ = some (.int .i64 a2):=kc (show (wA.alloc (oB (a1,a2))).drew.cell? _ = _ from u1) bwB
          have HBB:=mkHid (bt HBA.out bwB)
          have HKb:Hid (Below (wA.alloc (oB (a1,a2))).drew.heap.size (wA.alloc (oB (a1,a2))).drew wB):=mkHid bwB
          clear bwB hHeld x0 x1 y0 y1 u0 u1
          refine hK.out _ _ ⟨fwB_0,fwB_1,fwB_2,fwB_3,fwB_4,fwB_5⟩ (fun hHeld=>?_)
          clear hK K
          (try simp only)
          refine tkE 3 140 (.bool false) rfl rfl hHeld ?_
          (try simp only [List.set_cons_zero,List.set_cons_succ])
          refine tkE 4 141 (.bool false) rfl rfl hHeld ?_
          (try simp only [List.set_cons_zero,List.set_cons_succ])
          refine tkE 5 142 (.agg #[.int .i64 a1,.int .i64 a2]) rfl rfl hHeld ?_
          (try simp only [List.set_cons_zero,List.set_cons_succ])
          refine tkE 6 143 (.agg #[.int .i64 a1,.int .i64 a2]) rfl rfl hHeld ?_
          (try simp only [List.set_cons_zero,List.set_cons_succ])
          refine tkE 7 144 (.bool false) rfl rfl hHeld ?_
          (try simp only [List.set_cons_zero,List.set_cons_succ])
          refine tkE 8 145 (.bool false) rfl rfl hHeld ?_
          (try simp only [List.set_cons_zero,List.set_cons_succ])
          refine tkE 9 146 (.bool false) rfl rfl hHeld ?_
          (try simp only [List.set_cons_zero,List.set_cons_succ])
          refine tkE 10 147 (.slice aa qz.length ca) rfl rfl hHeld ?_
          (try simp only [List.set_cons_zero,List.set_cons_succ])
          refine tkE 11 148 (.slice la qs.length lc) rfl rfl hHeld ?_
          (try simp only [List.set_cons_zero,List.set_cons_succ])
          refine wpAnyH_ready (rs:=[12]) (by kernel_rfl) (by simp) (AllReadyH.cons rfl (fun K hK=>?_) AllReadyH.nil)
          go_simp
          refine (sameL_yes wB (.slice aa qz.length ca) (.slice la qs.length lc) qz qs ((HA.out.1.below (bt (ba (Below.refl _ wA) (oB (a1,a2))).drew HKb.out)).ens' HA.out.2.1 HV.out.ok) (HLG.out.1.below HBB.out) (HA.out.2.1.trans HLG.out.2.symm)).mono ?_
          rintro e wC ⟨rfl,bwC⟩
          have fwC_0:wC.cell? ⟨x,0,none⟩ = some (.int .i64 p1):=kc fwB_0 bwC
          have fwC_1:wC.cell? ⟨x,1,none⟩ = some (.int .i64 p2):=kc fwB_1 bwC
          have fwC_2:wC.cell? ⟨y,0,none⟩ = some (.int .i64 a1):=kc fwB_2 bwC
          have fwC_3:wC.cell? ⟨y,1,none⟩ = some (.int .i64 a2):=kc fwB_3 bwC
          have fwC_4:wC.cell? ⟨wA.heap.size,0,none⟩ = some (.int .i64 a1):=kc fwB_4 bwC
          have fwC_5:wC.cell? ⟨wA.heap.size,1,none⟩ = some (.int .i64 a2):=kc fwB_5 bwC
          have HBC:=mkHid (bt HBB.out bwC)
          have HKc:Hid (Below (wA.alloc (oB (a1,a2))).drew.heap.size (wA.alloc (oB (a1,a2))).drew wC):=mkHid (bt HKb.out bwC)
          clear bwC hHeld fwB_0 fwB_1 fwB_2 fwB_3 fwB_4 fwB_5
          refine hK.out _ _ ⟨fwC_0,fwC_1,fwC_2,fwC_3,fwC_4,fwC_5⟩ (fun hHeld=>?_)
          clear hK K
          (try simp only [Act.put])
          refine tkE 13 150 (.bool false) rfl rfl hHeld ?_
          (try simp only [List.set_cons_zero,List.set_cons_succ])
          refine tkE 14 151 (.bool false) rfl rfl hHeld ?_
          (try simp only [List.set_cons_zero,List.set_cons_succ])
          refine tkE 15 152 (.bool false) rfl rfl hHeld ?_
          (try simp only [List.set_cons_zero,List.set_cons_succ])
          refine tkE 16 153 (.agg #[.int .i64 a1,.int .i64 a2]) rfl rfl hHeld ?_
          (try simp only [List.set_cons_zero,List.set_cons_succ])
          refine tkE 17 154 (.agg #[.int .i64 p1,.int .i64 p2]) rfl rfl hHeld ?_
          (try simp only [List.set_cons_zero,List.set_cons_succ])
          refine wpAnyH_ready (rs:=[18]) (by kernel_rfl) (by simp) (AllReadyH.cons rfl (fun K hK=>?_) AllReadyH.nil)
          go_simp
          refine ((HAB.out ▸ rabove_any wC (a1,a2) (p1,p2))).mono ?_
          rintro e wD ⟨rfl,bwD⟩
          have fwD_0:wD.cell? ⟨x,0,none⟩ = some (.int .i64 p1):=kc fwC_0 bwD
          have fwD_1:wD.cell? ⟨x,1,none⟩ = some (.int .i64 p2):=kc fwC_1 bwD
          have fwD_2:wD.cell? ⟨y,0,none⟩ = some (.int .i64 a1):=kc fwC_2 bwD
          have fwD_3:wD.cell? ⟨y,1,none⟩ = some (.int .i64 a2):=kc fwC_3 bwD
          have fwD_4:wD.cell? ⟨wA.heap.size,0,none⟩ = some (.int .i64 a1):=kc fwC_4 bwD
          have fwD_5:wD.cell? ⟨wA.heap.size,1,none⟩ = some (.int .i64 a2):=kc fwC_5 bwD
          have HKd:Hid (Below (wA.alloc (oB (a1,a2))).drew.heap.size (wA.alloc (oB (a1,a2))).drew wD):=mkHid (bt HKc.out bwD)
          clear bwD hHeld fwC_0 fwC_1 fwC_2 fwC_3 fwC_4 fwC_5
          refine hK.out _ _ ⟨fwD_0,fwD_1,fwD_2,fwD_3,fwD_4,fwD_5⟩ (fun hHeld=>?_)
          clear hK K
          (try simp only [Act.put])
          refine tkE 19 156 (.bool false) rfl rfl hHeld ?_
          (try simp only [List.set_cons_zero,List.set_cons_succ])
          refine wpAnyH_done (by kernel_rfl) ?_ _
          clear hHeld fwD_0 fwD_1 fwD_2 fwD_3 fwD_4 fwD_5
          go_wp2
          go_roundw
          case rel=>exact ⟨j + 1,_,cl,la,lc,qs,_,_,by go_num,rfl,rfl,rfl,by omega,by omega,mkHid ⟨HV.out.below (bt (ba HA.out.2.2 _).drew HKd.out),HKA.out.below HKd.out,HLG.out.1,HLG.out.2,by have:=HCL.out;omega,HAB.out⟩⟩
          case measure=>simp [intOf];omega
        · refine wp_region_held_drew (S:=fun w'=>w'.cell? ⟨wr.heap.size,3,none⟩ = some (.int .i64 b1) ∧ w'.cell? ⟨wr.heap.size,4,none⟩ = some (.int .i64 b2) ∧ w'.cell? ⟨wr.heap.size,5,none⟩ = some (.slice qa ps.length qc)) (by kernel_rfl) ⟨o3,o4,o5⟩ (fun hHeld=>?_)
          refine tkE 0 79 (.pointer (some ⟨wr.heap.size,3,none⟩)) rfl rfl hHeld ?_
          (try simp only [List.set_cons_zero,List.set_cons_succ])
          refine tkE 1 80 (.agg #[.int .i64 b1,.int .i64 b2]) rfl rfl hHeld ?_
          (try simp only [List.set_cons_zero,List.set_cons_succ])
          refine tkE 2 81 (.pointer (some ⟨wr.heap.size,3,none⟩)) rfl rfl hHeld ?_
          (try simp only [List.set_cons_zero,List.set_cons_succ])
          refine tkE 3 82 (.agg #[.int .i64 b1,.int .i64 b2]) rfl rfl hHeld ?_
          (try simp only [List.set_cons_zero,List.set_cons_succ])
          refine tkE 4 83 (.pointer (some ⟨wr.heap.size,5,none⟩)) rfl rfl hHeld ?_
          (try simp only [List.set_cons_zero,List.set_cons_succ])
          refine tkE 5 84 (.slice qa ps.length qc) rfl rfl hHeld ?_
          (try simp only [List.set_cons_zero,List.set_cons_succ])
          have HKD:=mkHid (HKB.out.below (Below.refl _ w4).drew)
          have HVD:=mkHid (HV.out.below (Below.refl _ w4).drew)
          refine wpAnyH_ready (rs:=[6]) (by kernel_rfl) (by simp) (AllReadyH.cons rfl (fun K hK=>?_) AllReadyH.nil)
          refine step_store_box6 rfl 39 (.tmp 6) (.tmp 80) rfl x #[.int .i64 b1,.int .i64 b2] (by simp [Act.eval]) (by simp [Act.eval]) 39 _ HKD.out.bx size2 rfl (one2 _ _) ?_
          intro w5 h5 k5
          have q3:=k5.cell hHeld.1 (fun e=>HXO.out.1 e.symm)
          have q4:=k5.cell hHeld.2.1 (fun e=>HXO.out.1 e.symm)
          have q5:=k5.cell hHeld.2.2 (fun e=>HXO.out.1 e.symm)
          have HKE:=mkHid (HKD.out.setx (P':=(b1,b2)) k5 h5)
          have HVE:=mkHid (HVD.out.kept k5 (fun i hi e=>HKD.out.nx (e ▸ hi)) (fun i e=>by rw [e];exact HKD.out.gx))
          clear h5 k5 hHeld
          refine hK.out _ _ ⟨q3,q4,q5⟩ (fun hHeld=>?_)
          clear hK K
          (try simp only [Act.put])
          refine wpAnyH_ready (rs:=[7]) (by kernel_rfl) (by simp) (AllReadyH.cons rfl (fun K hK=>?_) AllReadyH.nil)
          refine step_store_box6 rfl 39 (.tmp 7) (.tmp 82) rfl y #[.int .i64 b1,.int .i64 b2] (by simp [Act.eval]) (by simp [Act.eval]) 39 _ HKE.out.by' size2 rfl (one2 _ _) ?_
          intro w6 h6 k6
          have r3:=k6.cell q3 (fun e=>HXO.out.2 e.symm)
          have r4:=k6.cell q4 (fun e=>HXO.out.2 e.symm)
          have r5:=k6.cell q5 (fun e=>HXO.out.2 e.symm)
          have HKF:=mkHid (HKE.out.sety (A':=(b1,b2)) k6 h6)
          have HVF:=mkHid (HVE.out.kept k6 (fun i hi e=>HKE.out.ny (e ▸ hi)) (fun i e=>by rw [e];exact HKE.out.gy))
          clear h6 k6 hHeld q3 q4 q5
          refine hK.out _ _ ⟨r3,r4,r5⟩ (fun hHeld=>?_)
          clear hK K
          (try simp only [Act.put])
          refine tkE 8 9 (.slice qa ps.length qc) rfl rfl hHeld ?_
          (try simp only [List.set_cons_zero,List.set_cons_succ])
          refine wpAnyH_done (by kernel_rfl) ?_ _
          clear hHeld r3 r4 r5 HV HKB HLG
          have HV:=HVF
          have HKB:=HKF
          have HAB0:=HAB
          have HAB:=mkHid (above_self (b1,b2))
          go_wp2_with (go_at_call 22;have HN:=HV.out.acc;(with_reducible refine HN.mono ?_);clear HN;rintro e wA ⟨aa,ca,qz,rfl,lA,fA,bA⟩;have HA:=mkHid (And.intro lA (And.intro fA bA));clear lA fA bA)
          have HNP:=fun W=>neq_same W b1 b2
          have HNA:=fun W=>neq_same W b1 b2
          have HKA:Hid (KB w (wA.alloc (oB (b1,b2))).drew x y _ (b1,b2) (b1,b2)):=mkHid (HKB.out.below (ba HA.out.2.2 _).drew)
          have HBA:Hid (Below w.heap.size w (wA.alloc (oB (b1,b2))).drew):=mkHid (bt HV.out.low (ba HA.out.2.2 _).drew)
          obtain ⟨x0,x1⟩:=two_cells HKA.out.bx
          obtain ⟨y0,y1⟩:=two_cells HKA.out.by'
          obtain ⟨u0,u1⟩:=two_cells (heap_alloc_new wA (oB (b1,b2)))
          refine wp_region_held_drew (S:=fun w'=>w'.cell? ⟨x,0,none⟩ = some (.int .i64 b1) ∧ w'.cell? ⟨x,1,none⟩ = some (.int .i64 b2) ∧ w'.cell? ⟨y,0,none⟩ = some (.int .i64 b1) ∧ w'.cell? ⟨y,1,none⟩ = some (.int .i64 b2) ∧ w'.cell? ⟨wA.heap.size,0,none⟩ = some (.int .i64 b1) ∧ w'.cell? ⟨wA.heap.size,1,none⟩ = some (.int .i64 b2)) (by kernel_rfl) ⟨x0,x1,y0,y1,u0,u1⟩ (fun hHeld=>?_)
          refine tkE 0 137 (.pointer (some ⟨v,0,none⟩)) rfl rfl hHeld ?_
          (try simp only [List.set_cons_zero,List.set_cons_succ])
          refine tkE 2 139 (.agg #[.int .i64 b1,.int .i64 b2]) rfl rfl hHeld ?_
          (try simp only [List.set_cons_zero,List.set_cons_succ])
          refine wpAnyH_ready (rs:=[1]) (by kernel_rfl) (by simp) (AllReadyH.cons rfl (fun K hK=>?_) AllReadyH.nil)
          go_simp
          refine ((HV.out.below (ba HA.out.2.2 (oB (b1,b2))).drew).pro).mono ?_
          rintro e wB ⟨rfl,bwB⟩
          have fwB_0:wB.cell? ⟨x,0,none⟩ = some (.int .i64 b1):=kc (show (wA.alloc (oB (b1,b2))).drew.cell? _ = _ from x0) bwB
          have fwB_1:wB.cell? ⟨x,1,none⟩ = some (.int .i64 b2):=kc (show (wA.alloc (oB (b1,b2))).drew.cell? _ = _ from x1) bwB
          have fwB_2:wB.cell? ⟨y,0,none⟩ = some (.int .i64 b1):=kc (show (wA.alloc (oB (b1,b2))).drew.cell? _ = _ from y0) bwB
          have fwB_3:wB.cell? ⟨y,1,none⟩ = some (.int .i64 b2):=kc (show (wA.alloc (oB (b1,b2))).drew.cell? _ = _ from y1) bwB
          have fwB_4:wB.cell? ⟨wA.heap.size,0,none⟩ = some (.int .i64 b1):=kc (show (wA.alloc (oB (b1,b2))).drew.cell? _ = _ from u0) bwB
          have fwB_5:wB.cell? ⟨wA.heap.size,1,none⟩ = some (.int .i64 b2):=kc (show (wA.alloc (oB (b1,b2))).drew.cell? _ = _ from u1) bwB
          have HBB:=mkHid (bt HBA.out bwB)
          have HKb:Hid (Below (wA.alloc (oB (b1,b2))).drew.heap.size (wA.alloc (oB (b1,b2))).drew wB):=mkHid bwB
          clear bwB hHeld x0 x1 y0 y1 u0 u1
          refine hK.out _ _ ⟨fwB_0,fwB_1,fwB_2,fwB_3,fwB_4,fwB_5⟩ (fun hHeld=>?_)
          clear hK K
          (try simp only)
          refine tkE 3 140 (.bool false) rfl rfl hHeld ?_
          (try simp only [List.set_cons_zero,List.set_cons_succ])
          refine tkE 4 141 (.bool false) rfl rfl hHeld ?_
          (try simp only [List.set_cons_zero,List.set_cons_succ])
          refine tkE 5 142 (.agg #[.int .i64 b1,.int .i64 b2]) rfl rfl hHeld ?_
          (try simp only [List.set_cons_zero,List.set_cons_succ])
          refine tkE 6 143 (.agg #[.int .i64 b1,.int .i64 b2]) rfl rfl hHeld ?_
          (try simp only [List.set_cons_zero,List.set_cons_succ])
          refine tkE 7 144 (.bool false) rfl rfl hHeld ?_
          (try simp only [List.set_cons_zero,List.set_cons_succ])
          refine tkE 8 145 (.bool false) rfl rfl hHeld ?_
          (try simp only [List.set_cons_zero,List.set_cons_succ])
          refine tkE 9 146 (.bool false) rfl rfl hHeld ?_
          (try simp only [List.set_cons_zero,List.set_cons_succ])
          refine tkE 10 147 (.slice aa qz.length ca) rfl rfl hHeld ?_
          (try simp only [List.set_cons_zero,List.set_cons_succ])
          refine tkE 11 148 (.slice qa ps.length qc) rfl rfl hHeld ?_
          (try simp only [List.set_cons_zero,List.set_cons_succ])
          refine wpAnyH_ready (rs:=[12]) (by kernel_rfl) (by simp) (AllReadyH.cons rfl (fun K hK=>?_) AllReadyH.nil)
          go_simp
          refine (sameL_yes wB (.slice aa qz.length ca) (.slice qa ps.length qc) qz ps ((HA.out.1.below (bt (ba (Below.refl _ wA) (oB (b1,b2))).drew HKb.out)).ens' HA.out.2.1 HV.out.ok) (HIN.out.en.below HBB.out) (HA.out.2.1.trans rfl)).mono ?_
          rintro e wC ⟨rfl,bwC⟩
          have fwC_0:wC.cell? ⟨x,0,none⟩ = some (.int .i64 b1):=kc fwB_0 bwC
          have fwC_1:wC.cell? ⟨x,1,none⟩ = some (.int .i64 b2):=kc fwB_1 bwC
          have fwC_2:wC.cell? ⟨y,0,none⟩ = some (.int .i64 b1):=kc fwB_2 bwC
          have fwC_3:wC.cell? ⟨y,1,none⟩ = some (.int .i64 b2):=kc fwB_3 bwC
          have fwC_4:wC.cell? ⟨wA.heap.size,0,none⟩ = some (.int .i64 b1):=kc fwB_4 bwC
          have fwC_5:wC.cell? ⟨wA.heap.size,1,none⟩ = some (.int .i64 b2):=kc fwB_5 bwC
          have HBC:=mkHid (bt HBB.out bwC)
          have HKc:Hid (Below (wA.alloc (oB (b1,b2))).drew.heap.size (wA.alloc (oB (b1,b2))).drew wC):=mkHid (bt HKb.out bwC)
          clear bwC hHeld fwB_0 fwB_1 fwB_2 fwB_3 fwB_4 fwB_5
          refine hK.out _ _ ⟨fwC_0,fwC_1,fwC_2,fwC_3,fwC_4,fwC_5⟩ (fun hHeld=>?_)
          clear hK K
          (try simp only [Act.put])
          refine tkE 13 150 (.bool false) rfl rfl hHeld ?_
          (try simp only [List.set_cons_zero,List.set_cons_succ])
          refine tkE 14 151 (.bool false) rfl rfl hHeld ?_
          (try simp only [List.set_cons_zero,List.set_cons_succ])
          refine tkE 15 152 (.bool false) rfl rfl hHeld ?_
          (try simp only [List.set_cons_zero,List.set_cons_succ])
          refine tkE 16 153 (.agg #[.int .i64 b1,.int .i64 b2]) rfl rfl hHeld ?_
          (try simp only [List.set_cons_zero,List.set_cons_succ])
          refine tkE 17 154 (.agg #[.int .i64 b1,.int .i64 b2]) rfl rfl hHeld ?_
          (try simp only [List.set_cons_zero,List.set_cons_succ])
          refine wpAnyH_ready (rs:=[18]) (by kernel_rfl) (by simp) (AllReadyH.cons rfl (fun K hK=>?_) AllReadyH.nil)
          go_simp
          refine ((HAB.out ▸ rabove_any wC (b1,b2) (b1,b2))).mono ?_
          rintro e wD ⟨rfl,bwD⟩
          have fwD_0:wD.cell? ⟨x,0,none⟩ = some (.int .i64 b1):=kc fwC_0 bwD
          have fwD_1:wD.cell? ⟨x,1,none⟩ = some (.int .i64 b2):=kc fwC_1 bwD
          have fwD_2:wD.cell? ⟨y,0,none⟩ = some (.int .i64 b1):=kc fwC_2 bwD
          have fwD_3:wD.cell? ⟨y,1,none⟩ = some (.int .i64 b2):=kc fwC_3 bwD
          have fwD_4:wD.cell? ⟨wA.heap.size,0,none⟩ = some (.int .i64 b1):=kc fwC_4 bwD
          have fwD_5:wD.cell? ⟨wA.heap.size,1,none⟩ = some (.int .i64 b2):=kc fwC_5 bwD
          have HKd:Hid (Below (wA.alloc (oB (b1,b2))).drew.heap.size (wA.alloc (oB (b1,b2))).drew wD):=mkHid (bt HKc.out bwD)
          clear bwD hHeld fwC_0 fwC_1 fwC_2 fwC_3 fwC_4 fwC_5
          refine hK.out _ _ ⟨fwD_0,fwD_1,fwD_2,fwD_3,fwD_4,fwD_5⟩ (fun hHeld=>?_)
          clear hK K
          (try simp only [Act.put])
          refine tkE 19 156 (.bool false) rfl rfl hHeld ?_
          (try simp only [List.set_cons_zero,List.set_cons_succ])
          refine wpAnyH_done (by kernel_rfl) ?_ _
          clear hHeld fwD_0 fwD_1 fwD_2 fwD_3 fwD_4 fwD_5
          go_wp2
          go_roundw
          case rel=>exact ⟨j + 1,_,cl,qa,qc,ps,_,_,by go_num,rfl,rfl,rfl,by omega,by omega,mkHid ⟨HV.out.below (bt (ba HA.out.2.2 _).drew HKd.out),HKA.out.below HKd.out,HIN.out.en,rfl,by have:=HCL.out;omega,HAB.out⟩⟩
          case measure=>simp [intOf];omega
      ·
        have hcl0:=HCL.out
        go_wp2_with (first
  | (go_at_call 19;have HN:=claim_k HV0.out (b1,b2) (by omega) (by omega) HG.out;(with_reducible refine HN.mono ?_);clear HN;rintro e w4 ⟨B4,st4,v4,l4,(⟨xx,rfl,rfl⟩ | ⟨m,rfl,rfl,hm1,hm2⟩)⟩ <;> first | (have HM:=mkHid (And.intro hm1 hm2);have hm3:¬ m ≤ cl:=(by have hh:=HCL.out;dsimp only at hh hm2;omega);have HAV:=mkHid (show aboveB (m,1) (p1,p2) = true from above_big (by simpa using hm1));have HV:=mkHid v4;have HKB:=mkHid (HK0.out.call l4);obtain ⟨k4,k5⟩:=two_cells (heap_alloc_new w4 (oB (m,1)));obtain ⟨x0,x1⟩:=two_cells (HKB.out.below (ba (Below.refl _ w4) (oB (m,1)))).bx;clear v4 l4 hm1 hm2) | (have HV:=mkHid (v4.below (ba (Below.refl _ w4) (oB (0,0))));have HKB:=mkHid ((HK0.out.call l4).below (ba (Below.refl _ w4) (oB (0,0))));clear v4 l4))
  | (go_at_call 15;have HN:=rabove_any (w4.alloc (oB (m,1))) (m,1) (p1,p2);rw [HAV.out] at HN;(with_reducible refine HN.mono ?_);clear HN;rintro e w5 ⟨rfl,b5⟩;have HV2:=mkHid (HV.out.below (bt (ba (Below.refl _ w4) (oB (m,1))) b5));have HKB2:=mkHid (HKB.out.below (bt (ba (Below.refl _ w4) (oB (m,1))) b5));have z4:=kc k4 b5;clear HV HKB k4 k5 x0 x1 b5;have HV:=HV2;have HKB:=HKB2;clear HV2 HKB2)
  | (go_at_call 22;have HN:=HV.out.acc;(with_reducible refine HN.mono ?_);clear HN;rintro e wA ⟨aa,ca,qz,rfl,lA,fA,bA⟩;have HA:=mkHid (And.intro lA (And.intro fA bA));clear lA fA bA))
        · have HNP:=fun W=>neq_same W p1 p2
          have HNA:=fun W=>neq_same W a1 a2
          have HKA:Hid (KB w (wA.alloc (oB (a1,a2))).drew x y _ (p1,p2) (a1,a2)):=mkHid (HKB.out.below (ba HA.out.2.2 _).drew)
          have HBA:Hid (Below w.heap.size w (wA.alloc (oB (a1,a2))).drew):=mkHid (bt HV.out.low (ba HA.out.2.2 _).drew)
          obtain ⟨x0,x1⟩:=two_cells HKA.out.bx
          obtain ⟨y0,y1⟩:=two_cells HKA.out.by'
          obtain ⟨u0,u1⟩:=two_cells (heap_alloc_new wA (oB (a1,a2)))
          refine wp_region_held_drew (S:=fun w'=>w'.cell? ⟨x,0,none⟩ = some (.int .i64 p1) ∧ w'.cell? ⟨x,1,none⟩ = some (.int .i64 p2) ∧ w'.cell? ⟨y,0,none⟩ = some (.int .i64 a1) ∧ w'.cell? ⟨y,1,none⟩ = some (.int .i64 a2) ∧ w'.cell? ⟨wA.heap.size,0,none⟩ = some (.int .i64 a1) ∧ w'.cell? ⟨wA.heap.size,1,none⟩ = some (.int .i64 a2)) (by kernel_rfl) ⟨x0,x1,y0,y1,u0,u1⟩ (fun hHeld=>?_)
          refine tkE 0 137 (.pointer (some ⟨v,0,none⟩)) rfl rfl hHeld ?_
          (try simp only [List.set_cons_zero,List.set_cons_succ])
          refine tkE 2 139 (.agg #[.int .i64 p1,.int .i64 p2]) rfl rfl hHeld ?_
          (try simp only [List.set_cons_zero,List.set_cons_succ])
          refine wpAnyH_ready (rs:=[1]) (by kernel_rfl) (by simp) (AllReadyH.cons rfl (fun K hK=>?_) AllReadyH.nil)
          go_simp
          refine ((HV.out.below (ba HA.out.2.2 (oB (a1,a2))).drew).pro).mono ?_
          rintro e wB ⟨rfl,bwB⟩
          have fwB_0:wB.cell? ⟨x,0,none⟩ = some (.int .i64 p1):=kc (show (wA.alloc (oB (a1,a2))).drew.cell? _ = _ from x0) bwB
          have fwB_1:wB.cell? ⟨x,1,none⟩ = some (.int .i64 p2):=kc (show (wA.alloc (oB (a1,a2))).drew.cell? _ = _ from x1) bwB
          have fwB_2:wB.cell? ⟨y,0,none⟩ = some (.int .i64 a1):=kc (show (wA.alloc (oB (a1,a2))).drew.cell? _ = _ from y0) bwB
          have fwB_3:wB.cell? ⟨y,1,none⟩ = some (.int .i64 a2):=kc (show (wA.alloc (oB (a1,a2))).drew.cell? _ = _ from y1) bwB
          have fwB_4:wB.cell? ⟨wA.heap.size,0,none⟩ = some (.int .i64 a1):=kc (show (wA.alloc (oB (a1,a2))).drew.cell? _ = _ from u0) bwB
          have fwB_5:wB.cell? ⟨wA.heap.size,1,none⟩ = some (.int .i64 a2):=kc (show (wA.alloc (oB (a1,a2))).drew.cell? _ = _ from u1) bwB
          have HBB:=mkHid (bt HBA.out bwB)
          have HKb:Hid (Below (wA.alloc (oB (a1,a2))).drew.heap.size (wA.alloc (oB (a1,a2))).drew wB):=mkHid bwB
          clear bwB hHeld x0 x1 y0 y1 u0 u1
          refine hK.out _ _ ⟨fwB_0,fwB_1,fwB_2,fwB_3,fwB_4,fwB_5⟩ (fun hHeld=>?_)
          clear hK K
          (try simp only)
          refine tkE 3 140 (.bool false) rfl rfl hHeld ?_
          (try simp only [List.set_cons_zero,List.set_cons_succ])
          refine tkE 4 141 (.bool false) rfl rfl hHeld ?_
          (try simp only [List.set_cons_zero,List.set_cons_succ])
          refine tkE 5 142 (.agg #[.int .i64 a1,.int .i64 a2]) rfl rfl hHeld ?_
          (try simp only [List.set_cons_zero,List.set_cons_succ])
          refine tkE 6 143 (.agg #[.int .i64 a1,.int .i64 a2]) rfl rfl hHeld ?_
          (try simp only [List.set_cons_zero,List.set_cons_succ])
          refine tkE 7 144 (.bool false) rfl rfl hHeld ?_
          (try simp only [List.set_cons_zero,List.set_cons_succ])
          refine tkE 8 145 (.bool false) rfl rfl hHeld ?_
          (try simp only [List.set_cons_zero,List.set_cons_succ])
          refine tkE 9 146 (.bool false) rfl rfl hHeld ?_
          (try simp only [List.set_cons_zero,List.set_cons_succ])
          refine tkE 10 147 (.slice aa qz.length ca) rfl rfl hHeld ?_
          (try simp only [List.set_cons_zero,List.set_cons_succ])
          refine tkE 11 148 (.slice la qs.length lc) rfl rfl hHeld ?_
          (try simp only [List.set_cons_zero,List.set_cons_succ])
          refine wpAnyH_ready (rs:=[12]) (by kernel_rfl) (by simp) (AllReadyH.cons rfl (fun K hK=>?_) AllReadyH.nil)
          go_simp
          refine (sameL_yes wB (.slice aa qz.length ca) (.slice la qs.length lc) qz qs ((HA.out.1.below (bt (ba (Below.refl _ wA) (oB (a1,a2))).drew HKb.out)).ens' HA.out.2.1 HV.out.ok) (HLG.out.1.below HBB.out) (HA.out.2.1.trans HLG.out.2.symm)).mono ?_
          rintro e wC ⟨rfl,bwC⟩
          have fwC_0:wC.cell? ⟨x,0,none⟩ = some (.int .i64 p1):=kc fwB_0 bwC
          have fwC_1:wC.cell? ⟨x,1,none⟩ = some (.int .i64 p2):=kc fwB_1 bwC
          have fwC_2:wC.cell? ⟨y,0,none⟩ = some (.int .i64 a1):=kc fwB_2 bwC
          have fwC_3:wC.cell? ⟨y,1,none⟩ = some (.int .i64 a2):=kc fwB_3 bwC
          have fwC_4:wC.cell? ⟨wA.heap.size,0,none⟩ = some (.int .i64 a1):=kc fwB_4 bwC
          have fwC_5:wC.cell? ⟨wA.heap.size,1,none⟩ = some (.int .i64 a2):=kc fwB_5 bwC
          have HBC:=mkHid (bt HBB.out bwC)
          have HKc:Hid (Below (wA.alloc (oB (a1,a2))).drew.heap.size (wA.alloc (oB (a1,a2))).drew wC):=mkHid (bt HKb.out bwC)
          clear bwC hHeld fwB_0 fwB_1 fwB_2 fwB_3 fwB_4 fwB_5
          refine hK.out _ _ ⟨fwC_0,fwC_1,fwC_2,fwC_3,fwC_4,fwC_5⟩ (fun hHeld=>?_)
          clear hK K
          (try simp only [Act.put])
          refine tkE 13 150 (.bool false) rfl rfl hHeld ?_
          (try simp only [List.set_cons_zero,List.set_cons_succ])
          refine tkE 14 151 (.bool false) rfl rfl hHeld ?_
          (try simp only [List.set_cons_zero,List.set_cons_succ])
          refine tkE 15 152 (.bool false) rfl rfl hHeld ?_
          (try simp only [List.set_cons_zero,List.set_cons_succ])
          refine tkE 16 153 (.agg #[.int .i64 a1,.int .i64 a2]) rfl rfl hHeld ?_
          (try simp only [List.set_cons_zero,List.set_cons_succ])
          refine tkE 17 154 (.agg #[.int .i64 p1,.int .i64 p2]) rfl rfl hHeld ?_
          (try simp only [List.set_cons_zero,List.set_cons_succ])
          refine wpAnyH_ready (rs:=[18]) (by kernel_rfl) (by simp) (AllReadyH.cons rfl (fun K hK=>?_) AllReadyH.nil)
          go_simp
          refine ((HAB.out ▸ rabove_any wC (a1,a2) (p1,p2))).mono ?_
          rintro e wD ⟨rfl,bwD⟩
          have fwD_0:wD.cell? ⟨x,0,none⟩ = some (.int .i64 p1):=kc fwC_0 bwD
          have fwD_1:wD.cell? ⟨x,1,none⟩ = some (.int .i64 p2):=kc fwC_1 bwD
          have fwD_2:wD.cell? ⟨y,0,none⟩ = some (.int .i64 a1):=kc fwC_2 bwD
          have fwD_3:wD.cell? ⟨y,1,none⟩ = some (.int .i64 a2):=kc fwC_3 bwD
          have fwD_4:wD.cell? ⟨wA.heap.size,0,none⟩ = some (.int .i64 a1):=kc fwC_4 bwD
          have fwD_5:wD.cell? ⟨wA.heap.size,1,none⟩ = some (.int .i64 a2):=kc fwC_5 bwD
          have HKd:Hid (Below (wA.alloc (oB (a1,a2))).drew.heap.size (wA.alloc (oB (a1,a2))).drew wD):=mkHid (bt HKc.out bwD)
          clear bwD hHeld fwC_0 fwC_1 fwC_2 fwC_3 fwC_4 fwC_5
          refine hK.out _ _ ⟨fwD_0,fwD_1,fwD_2,fwD_3,fwD_4,fwD_5⟩ (fun hHeld=>?_)
          clear hK K
          (try simp only [Act.put])
          refine tkE 19 156 (.bool false) rfl rfl hHeld ?_
          (try simp only [List.set_cons_zero,List.set_cons_succ])
          refine wpAnyH_done (by kernel_rfl) ?_ _
          clear hHeld fwD_0 fwD_1 fwD_2 fwD_3 fwD_4 fwD_5
          go_wp2
          go_roundw
          case rel=>exact ⟨j + 1,_,cl,la,lc,qs,_,_,by go_num,rfl,rfl,rfl,by omega,by omega,mkHid ⟨HV.out.below (bt (ba HA.out.2.2 _).drew HKd.out),HKA.out.below HKd.out,HLG.out.1,HLG.out.2,by have:=HCL.out;omega,HAB.out⟩⟩
          case measure=>simp [intOf];omega
        · have HCL0:=HCL
          have HCL:Hid (m ≤ m):=mkHid (by omega)
          have HNP:=fun W=>neq_same W p1 p2
          have HNA:=fun W=>neq_same W a1 a2
          have HKA:Hid (KB w (wA.alloc (oB (a1,a2))).drew x y _ (p1,p2) (a1,a2)):=mkHid (HKB.out.below (ba HA.out.2.2 _).drew)
          have HBA:Hid (Below w.heap.size w (wA.alloc (oB (a1,a2))).drew):=mkHid (bt HV.out.low (ba HA.out.2.2 _).drew)
          obtain ⟨x0,x1⟩:=two_cells HKA.out.bx
          obtain ⟨y0,y1⟩:=two_cells HKA.out.by'
          obtain ⟨u0,u1⟩:=two_cells (heap_alloc_new wA (oB (a1,a2)))
          refine wp_region_held_drew (S:=fun w'=>w'.cell? ⟨x,0,none⟩ = some (.int .i64 p1) ∧ w'.cell? ⟨x,1,none⟩ = some (.int .i64 p2) ∧ w'.cell? ⟨y,0,none⟩ = some (.int .i64 a1) ∧ w'.cell? ⟨y,1,none⟩ = some (.int .i64 a2) ∧ w'.cell? ⟨wA.heap.size,0,none⟩ = some (.int .i64 a1) ∧ w'.cell? ⟨wA.heap.size,1,none⟩ = some (.int .i64 a2)) (by kernel_rfl) ⟨x0,x1,y0,y1,u0,u1⟩ (fun hHeld=>?_)
          refine tkE 0 137 (.pointer (some ⟨v,0,none⟩)) rfl rfl hHeld ?_
          (try simp only [List.set_cons_zero,List.set_cons_succ])
          refine tkE 2 139 (.agg #[.int .i64 p1,.int .i64 p2]) rfl rfl hHeld ?_
          (try simp only [List.set_cons_zero,List.set_cons_succ])
          refine wpAnyH_ready (rs:=[1]) (by kernel_rfl) (by simp) (AllReadyH.cons rfl (fun K hK=>?_) AllReadyH.nil)
          go_simp
          refine ((HV.out.below (ba HA.out.2.2 (oB (a1,a2))).drew).pro).mono ?_
          rintro e wB ⟨rfl,bwB⟩
          have fwB_0:wB.cell? ⟨x,0,none⟩ = some (.int .i64 p1):=kc (show (wA.alloc (oB (a1,a2))).drew.cell? _ = _ from x0) bwB
          have fwB_1:wB.cell? ⟨x,1,none⟩ = some (.int .i64 p2):=kc (show (wA.alloc (oB (a1,a2))).drew.cell? _ = _ from x1) bwB
          have fwB_2:wB.cell? ⟨y,0,none⟩ = some (.int .i64 a1):=kc (show (wA.alloc (oB (a1,a2))).drew.cell? _ = _ from y0) bwB
          have fwB_3:wB.cell? ⟨y,1,none⟩ = some (.int .i64 a2):=kc (show (wA.alloc (oB (a1,a2))).drew.cell? _ = _ from y1) bwB
          have fwB_4:wB.cell? ⟨wA.heap.size,0,none⟩ = some (.int .i64 a1):=kc (show (wA.alloc (oB (a1,a2))).drew.cell? _ = _ from u0) bwB
          have fwB_5:wB.cell? ⟨wA.heap.size,1,none⟩ = some (.int .i64 a2):=kc (show (wA.alloc (oB (a1,a2))).drew.cell? _ = _ from u1) bwB
          have HBB:=mkHid (bt HBA.out bwB)
          have HKb:Hid (Below (wA.alloc (oB (a1,a2))).drew.heap.size (wA.alloc (oB (a1,a2))).drew wB):=mkHid bwB
          clear bwB hHeld x0 x1 y0 y1 u0 u1
          refine hK.out _ _ ⟨fwB_0,fwB_1,fwB_2,fwB_3,fwB_4,fwB_5⟩ (fun hHeld=>?_)
          clear hK K
          (try simp only)
          refine tkE 3 140 (.bool false) rfl rfl hHeld ?_
          (try simp only [List.set_cons_zero,List.set_cons_succ])
          refine tkE 4 141 (.bool false) rfl rfl hHeld ?_
          (try simp only [List.set_cons_zero,List.set_cons_succ])
          refine tkE 5 142 (.agg #[.int .i64 a1,.int .i64 a2]) rfl rfl hHeld ?_
          (try simp only [List.set_cons_zero,List.set_cons_succ])
          refine tkE 6 143 (.agg #[.int .i64 a1,.int .i64 a2]) rfl rfl hHeld ?_
          (try simp only [List.set_cons_zero,List.set_cons_succ])
          refine tkE 7 144 (.bool false) rfl rfl hHeld ?_
          (try simp only [List.set_cons_zero,List.set_cons_succ])
          refine tkE 8 145 (.bool false) rfl rfl hHeld ?_
          (try simp only [List.set_cons_zero,List.set_cons_succ])
          refine tkE 9 146 (.bool false) rfl rfl hHeld ?_
          (try simp only [List.set_cons_zero,List.set_cons_succ])
          refine tkE 10 147 (.slice aa qz.length ca) rfl rfl hHeld ?_
          (try simp only [List.set_cons_zero,List.set_cons_succ])
          refine tkE 11 148 (.slice la qs.length lc) rfl rfl hHeld ?_
          (try simp only [List.set_cons_zero,List.set_cons_succ])
          refine wpAnyH_ready (rs:=[12]) (by kernel_rfl) (by simp) (AllReadyH.cons rfl (fun K hK=>?_) AllReadyH.nil)
          go_simp
          refine (sameL_yes wB (.slice aa qz.length ca) (.slice la qs.length lc) qz qs ((HA.out.1.below (bt (ba (Below.refl _ wA) (oB (a1,a2))).drew HKb.out)).ens' HA.out.2.1 HV.out.ok) (HLG.out.1.below HBB.out) (HA.out.2.1.trans HLG.out.2.symm)).mono ?_
          rintro e wC ⟨rfl,bwC⟩
          have fwC_0:wC.cell? ⟨x,0,none⟩ = some (.int .i64 p1):=kc fwB_0 bwC
          have fwC_1:wC.cell? ⟨x,1,none⟩ = some (.int .i64 p2):=kc fwB_1 bwC
          have fwC_2:wC.cell? ⟨y,0,none⟩ = some (.int .i64 a1):=kc fwB_2 bwC
          have fwC_3:wC.cell? ⟨y,1,none⟩ = some (.int .i64 a2):=kc fwB_3 bwC
          have fwC_4:wC.cell? ⟨wA.heap.size,0,none⟩ = some (.int .i64 a1):=kc fwB_4 bwC
          have fwC_5:wC.cell? ⟨wA.heap.size,1,none⟩ = some (.int .i64 a2):=kc fwB_5 bwC
          have HBC:=mkHid (bt HBB.out bwC)
          have HKc:Hid (Below (wA.alloc (oB (a1,a2))).drew.heap.size (wA.alloc (oB (a1,a2))).drew wC):=mkHid (bt HKb.out bwC)
          clear bwC hHeld fwB_0 fwB_1 fwB_2 fwB_3 fwB_4 fwB_5
          refine hK.out _ _ ⟨fwC_0,fwC_1,fwC_2,fwC_3,fwC_4,fwC_5⟩ (fun hHeld=>?_)
          clear hK K
          (try simp only [Act.put])
          refine tkE 13 150 (.bool false) rfl rfl hHeld ?_
          (try simp only [List.set_cons_zero,List.set_cons_succ])
          refine tkE 14 151 (.bool false) rfl rfl hHeld ?_
          (try simp only [List.set_cons_zero,List.set_cons_succ])
          refine tkE 15 152 (.bool false) rfl rfl hHeld ?_
          (try simp only [List.set_cons_zero,List.set_cons_succ])
          refine tkE 16 153 (.agg #[.int .i64 a1,.int .i64 a2]) rfl rfl hHeld ?_
          (try simp only [List.set_cons_zero,List.set_cons_succ])
          refine tkE 17 154 (.agg #[.int .i64 p1,.int .i64 p2]) rfl rfl hHeld ?_
          (try simp only [List.set_cons_zero,List.set_cons_succ])
          refine wpAnyH_ready (rs:=[18]) (by kernel_rfl) (by simp) (AllReadyH.cons rfl (fun K hK=>?_) AllReadyH.nil)
          go_simp
          refine ((HAB.out ▸ rabove_any wC (a1,a2) (p1,p2))).mono ?_
          rintro e wD ⟨rfl,bwD⟩
          have fwD_0:wD.cell? ⟨x,0,none⟩ = some (.int .i64 p1):=kc fwC_0 bwD
          have fwD_1:wD.cell? ⟨x,1,none⟩ = some (.int .i64 p2):=kc fwC_1 bwD
          have fwD_2:wD.cell? ⟨y,0,none⟩ = some (.int .i64 a1):=kc fwC_2 bwD
          have fwD_3:wD.cell? ⟨y,1,none⟩ = some (.int .i64 a2):=kc fwC_3 bwD
          have fwD_4:wD.cell? ⟨wA.heap.size,0,none⟩ = some (.int .i64 a1):=kc fwC_4 bwD
          have fwD_5:wD.cell? ⟨wA.heap.size,1,none⟩ = some (.int .i64 a2):=kc fwC_5 bwD
          have HKd:Hid (Below (wA.alloc (oB (a1,a2))).drew.heap.size (wA.alloc (oB (a1,a2))).drew wD):=mkHid (bt HKc.out bwD)
          clear bwD hHeld fwC_0 fwC_1 fwC_2 fwC_3 fwC_4 fwC_5
          refine hK.out _ _ ⟨fwD_0,fwD_1,fwD_2,fwD_3,fwD_4,fwD_5⟩ (fun hHeld=>?_)
          clear hK K
          (try simp only [Act.put])
          refine tkE 19 156 (.bool false) rfl rfl hHeld ?_
          (try simp only [List.set_cons_zero,List.set_cons_succ])
          refine wpAnyH_done (by kernel_rfl) ?_ _
          clear hHeld fwD_0 fwD_1 fwD_2 fwD_3 fwD_4 fwD_5
          go_wp2
          go_roundw
          case rel=>exact ⟨j + 1,_,m,la,lc,qs,_,_,by go_num,rfl,rfl,rfl,by omega,by omega,mkHid ⟨HV.out.below (bt (ba HA.out.2.2 _).drew HKd.out),HKA.out.below HKd.out,HLG.out.1,HLG.out.2,by have:=HCL.out;omega,HAB.out⟩⟩
          case measure=>simp [intOf];omega
      ·
        go_wp2_with (first
  | (go_at_call 20;have HN:=crash_k HV0.out kp tn;(with_reducible refine HN.mono ?_);clear HN;rintro e w4 ⟨rfl,v4,k4⟩;have HV4:=mkHid v4;have HKB4:=mkHid (HK0.out.call ⟨fun _ e=>.inl e,k4⟩);clear v4 k4)
  | (go_at_call 21;have HN:=open_k HV4.out ⟨by omega,by omega⟩ (by omega) (by omega) HG.out;(with_reducible refine HN.mono ?_);clear HN;rintro e w5 ⟨v5,B5,rfl,s5,l5⟩;have HV:=mkHid s5;have HKB:=mkHid (HKB4.out.call l5);clear s5 l5)
  | (go_at_call 22;have HN:=HV.out.acc;(with_reducible refine HN.mono ?_);clear HN;rintro e wA ⟨aa,ca,qz,rfl,lA,fA,bA⟩;have HA:=mkHid (And.intro lA (And.intro fA bA));clear lA fA bA))
        have HNP:=fun W=>neq_same W p1 p2
        have HNA:=fun W=>neq_same W a1 a2
        have HKA:Hid (KB w (wA.alloc (oB (a1,a2))).drew x y _ (p1,p2) (a1,a2)):=mkHid (HKB.out.below (ba HA.out.2.2 _).drew)
        have HBA:Hid (Below w.heap.size w (wA.alloc (oB (a1,a2))).drew):=mkHid (bt HV.out.low (ba HA.out.2.2 _).drew)
        obtain ⟨x0,x1⟩:=two_cells HKA.out.bx
        obtain ⟨y0,y1⟩:=two_cells HKA.out.by'
        obtain ⟨u0,u1⟩:=two_cells (heap_alloc_new wA (oB (a1,a2)))
        refine wp_region_held_drew (S:=fun w'=>w'.cell? ⟨x,0,none⟩ = some (.int .i64 p1) ∧ w'.cell? ⟨x,1,none⟩ = some (.int .i64 p2) ∧ w'.cell? ⟨y,0,none⟩ = some (.int .i64 a1) ∧ w'.cell? ⟨y,1,none⟩ = some (.int .i64 a2) ∧ w'.cell? ⟨wA.heap.size,0,none⟩ = some (.int .i64 a1) ∧ w'.cell? ⟨wA.heap.size,1,none⟩ = some (.int .i64 a2)) (by kernel_rfl) ⟨x0,x1,y0,y1,u0,u1⟩ (fun hHeld=>?_)
        refine tkE 0 137 (.pointer (some ⟨v5,0,none⟩)) rfl rfl hHeld ?_
        (try simp only [List.set_cons_zero,List.set_cons_succ])
        refine tkE 2 139 (.agg #[.int .i64 p1,.int .i64 p2]) rfl rfl hHeld ?_
        (try simp only [List.set_cons_zero,List.set_cons_succ])
        refine wpAnyH_ready (rs:=[1]) (by kernel_rfl) (by simp) (AllReadyH.cons rfl (fun K hK=>?_) AllReadyH.nil)
        go_simp
        refine ((HV.out.below (ba HA.out.2.2 (oB (a1,a2))).drew).pro).mono ?_
        rintro e wB ⟨rfl,bwB⟩
        have fwB_0:wB.cell? ⟨x,0,none⟩ = some (.int .i64 p1):=kc (show (wA.alloc (oB (a1,a2))).drew.cell? _ = _ from x0) bwB
        have fwB_1:wB.cell? ⟨x,1,none⟩ = some (.int .i64 p2):=kc (show (wA.alloc (oB (a1,a2))).drew.cell? _ = _ from x1) bwB
        have fwB_2:wB.cell? ⟨y,0,none⟩ = some (.int .i64 a1):=kc (show (wA.alloc (oB (a1,a2))).drew.cell? _ = _ from y0) bwB
        have fwB_3:wB.cell? ⟨y,1,none⟩ = some (.int .i64 a2):=kc (show (wA.alloc (oB (a1,a2))).drew.cell? _ = _ from y1) bwB
        have fwB_4:wB.cell? ⟨wA.heap.size,0,none⟩ = some (.int .i64 a1):=kc (show (wA.alloc (oB (a1,a2))).drew.cell? _ = _ from u0) bwB
        have fwB_5:wB.cell? ⟨wA.heap.size,1,none⟩ = some (.int .i64 a2):=kc (show (wA.alloc (oB (a1,a2))).drew.cell? _ = _ from u1) bwB
        have HBB:=mkHid (bt HBA.out bwB)
        have HKb:Hid (Below (wA.alloc (oB (a1,a2))).drew.heap.size (wA.alloc (oB (a1,a2))).drew wB):=mkHid bwB
        clear bwB hHeld x0 x1 y0 y1 u0 u1
        refine hK.out _ _ ⟨fwB_0,fwB_1,fwB_2,fwB_3,fwB_4,fwB_5⟩ (fun hHeld=>?_)
        clear hK K
        (try simp only)
        refine tkE 3 140 (.bool false) rfl rfl hHeld ?_
        (try simp only [List.set_cons_zero,List.set_cons_succ])
        refine tkE 4 141 (.bool false) rfl rfl hHeld ?_
        (try simp only [List.set_cons_zero,List.set_cons_succ])
        refine tkE 5 142 (.agg #[.int .i64 a1,.int .i64 a2]) rfl rfl hHeld ?_
        (try simp only [List.set_cons_zero,List.set_cons_succ])
        refine tkE 6 143 (.agg #[.int .i64 a1,.int .i64 a2]) rfl rfl hHeld ?_
        (try simp only [List.set_cons_zero,List.set_cons_succ])
        refine tkE 7 144 (.bool false) rfl rfl hHeld ?_
        (try simp only [List.set_cons_zero,List.set_cons_succ])
        refine tkE 8 145 (.bool false) rfl rfl hHeld ?_
        (try simp only [List.set_cons_zero,List.set_cons_succ])
        refine tkE 9 146 (.bool false) rfl rfl hHeld ?_
        (try simp only [List.set_cons_zero,List.set_cons_succ])
        refine tkE 10 147 (.slice aa qz.length ca) rfl rfl hHeld ?_
        (try simp only [List.set_cons_zero,List.set_cons_succ])
        refine tkE 11 148 (.slice la qs.length lc) rfl rfl hHeld ?_
        (try simp only [List.set_cons_zero,List.set_cons_succ])
        refine wpAnyH_ready (rs:=[12]) (by kernel_rfl) (by simp) (AllReadyH.cons rfl (fun K hK=>?_) AllReadyH.nil)
        go_simp
        refine (sameL_yes wB (.slice aa qz.length ca) (.slice la qs.length lc) qz qs ((HA.out.1.below (bt (ba (Below.refl _ wA) (oB (a1,a2))).drew HKb.out)).ens' HA.out.2.1 HV.out.ok) (HLG.out.1.below HBB.out) (HA.out.2.1.trans HLG.out.2.symm)).mono ?_
        rintro e wC ⟨rfl,bwC⟩
        have fwC_0:wC.cell? ⟨x,0,none⟩ = some (.int .i64 p1):=kc fwB_0 bwC
        have fwC_1:wC.cell? ⟨x,1,none⟩ = some (.int .i64 p2):=kc fwB_1 bwC
        have fwC_2:wC.cell? ⟨y,0,none⟩ = some (.int .i64 a1):=kc fwB_2 bwC
        have fwC_3:wC.cell? ⟨y,1,none⟩ = some (.int .i64 a2):=kc fwB_3 bwC
        have fwC_4:wC.cell? ⟨wA.heap.size,0,none⟩ = some (.int .i64 a1):=kc fwB_4 bwC
        have fwC_5:wC.cell? ⟨wA.heap.size,1,none⟩ = some (.int .i64 a2):=kc fwB_5 bwC
        have HBC:=mkHid (bt HBB.out bwC)
        have HKc:Hid (Below (wA.alloc (oB (a1,a2))).drew.heap.size (wA.alloc (oB (a1,a2))).drew wC):=mkHid (bt HKb.out bwC)
        clear bwC hHeld fwB_0 fwB_1 fwB_2 fwB_3 fwB_4 fwB_5
        refine hK.out _ _ ⟨fwC_0,fwC_1,fwC_2,fwC_3,fwC_4,fwC_5⟩ (fun hHeld=>?_)
        clear hK K
        (try simp only [Act.put])
        refine tkE 13 150 (.bool false) rfl rfl hHeld ?_
        (try simp only [List.set_cons_zero,List.set_cons_succ])
        refine tkE 14 151 (.bool false) rfl rfl hHeld ?_
        (try simp only [List.set_cons_zero,List.set_cons_succ])
        refine tkE 15 152 (.bool false) rfl rfl hHeld ?_
        (try simp only [List.set_cons_zero,List.set_cons_succ])
        refine tkE 16 153 (.agg #[.int .i64 a1,.int .i64 a2]) rfl rfl hHeld ?_
        (try simp only [List.set_cons_zero,List.set_cons_succ])
        refine tkE 17 154 (.agg #[.int .i64 p1,.int .i64 p2]) rfl rfl hHeld ?_
        (try simp only [List.set_cons_zero,List.set_cons_succ])
        refine wpAnyH_ready (rs:=[18]) (by kernel_rfl) (by simp) (AllReadyH.cons rfl (fun K hK=>?_) AllReadyH.nil)
        go_simp
        refine ((HAB.out ▸ rabove_any wC (a1,a2) (p1,p2))).mono ?_
        rintro e wD ⟨rfl,bwD⟩
        have fwD_0:wD.cell? ⟨x,0,none⟩ = some (.int .i64 p1):=kc fwC_0 bwD
        have fwD_1:wD.cell? ⟨x,1,none⟩ = some (.int .i64 p2):=kc fwC_1 bwD
        have fwD_2:wD.cell? ⟨y,0,none⟩ = some (.int .i64 a1):=kc fwC_2 bwD
        have fwD_3:wD.cell? ⟨y,1,none⟩ = some (.int .i64 a2):=kc fwC_3 bwD
        have fwD_4:wD.cell? ⟨wA.heap.size,0,none⟩ = some (.int .i64 a1):=kc fwC_4 bwD
        have fwD_5:wD.cell? ⟨wA.heap.size,1,none⟩ = some (.int .i64 a2):=kc fwC_5 bwD
        have HKd:Hid (Below (wA.alloc (oB (a1,a2))).drew.heap.size (wA.alloc (oB (a1,a2))).drew wD):=mkHid (bt HKc.out bwD)
        clear bwD hHeld fwC_0 fwC_1 fwC_2 fwC_3 fwC_4 fwC_5
        refine hK.out _ _ ⟨fwD_0,fwD_1,fwD_2,fwD_3,fwD_4,fwD_5⟩ (fun hHeld=>?_)
        clear hK K
        (try simp only [Act.put])
        refine tkE 19 156 (.bool false) rfl rfl hHeld ?_
        (try simp only [List.set_cons_zero,List.set_cons_succ])
        refine wpAnyH_done (by kernel_rfl) ?_ _
        clear hHeld fwD_0 fwD_1 fwD_2 fwD_3 fwD_4 fwD_5
        go_wp2
        go_roundw
        case rel=>exact ⟨j + 1,_,cl,la,lc,qs,_,_,by go_num,rfl,rfl,rfl,by omega,by omega,mkHid ⟨HV.out.below (bt (ba HA.out.2.2 _).drew HKd.out),HKA.out.below HKd.out,HLG.out.1,HLG.out.2,by have:=HCL.out;omega,HAB.out⟩⟩
        case measure=>simp [intOf];omega
      ·
        have HV:=mkHid HV0.out.up
        have HKB:=HK0
        go_wp2_with (go_at_call 22;have HN:=HV.out.acc;(with_reducible refine HN.mono ?_);clear HN;rintro e wA ⟨aa,ca,qz,rfl,lA,fA,bA⟩;have HA:=mkHid (And.intro lA (And.intro fA bA));clear lA fA bA)
        have HNP:=fun W=>neq_same W p1 p2
        have HNA:=fun W=>neq_same W a1 a2
        have HKA:Hid (KB w (wA.alloc (oB (a1,a2))).drew x y _ (p1,p2) (a1,a2)):=mkHid (HKB.out.below (ba HA.out.2.2 _).drew)
        have HBA:Hid (Below w.heap.size w (wA.alloc (oB (a1,a2))).drew):=mkHid (bt HV.out.low (ba HA.out.2.2 _).drew)
        obtain ⟨x0,x1⟩:=two_cells HKA.out.bx
        obtain ⟨y0,y1⟩:=two_cells HKA.out.by'
        obtain ⟨u0,u1⟩:=two_cells (heap_alloc_new wA (oB (a1,a2)))
        refine wp_region_held_drew (S:=fun w'=>w'.cell? ⟨x,0,none⟩ = some (.int .i64 p1) ∧ w'.cell? ⟨x,1,none⟩ = some (.int .i64 p2) ∧ w'.cell? ⟨y,0,none⟩ = some (.int .i64 a1) ∧ w'.cell? ⟨y,1,none⟩ = some (.int .i64 a2) ∧ w'.cell? ⟨wA.heap.size,0,none⟩ = some (.int .i64 a1) ∧ w'.cell? ⟨wA.heap.size,1,none⟩ = some (.int .i64 a2)) (by kernel_rfl) ⟨x0,x1,y0,y1,u0,u1⟩ (fun hHeld=>?_)
        refine tkE 0 137 (.pointer (some ⟨v,0,none⟩)) rfl rfl hHeld ?_
        (try simp only [List.set_cons_zero,List.set_cons_succ])
        refine tkE 2 139 (.agg #[.int .i64 p1,.int .i64 p2]) rfl rfl hHeld ?_
        (try simp only [List.set_cons_zero,List.set_cons_succ])
        refine wpAnyH_ready (rs:=[1]) (by kernel_rfl) (by simp) (AllReadyH.cons rfl (fun K hK=>?_) AllReadyH.nil)
        go_simp
        refine ((HV.out.below (ba HA.out.2.2 (oB (a1,a2))).drew).pro).mono ?_
        rintro e wB ⟨rfl,bwB⟩
        have fwB_0:wB.cell? ⟨x,0,none⟩ = some (.int .i64 p1):=kc (show (wA.alloc (oB (a1,a2))).drew.cell? _ = _ from x0) bwB
        have fwB_1:wB.cell? ⟨x,1,none⟩ = some (.int .i64 p2):=kc (show (wA.alloc (oB (a1,a2))).drew.cell? _ = _ from x1) bwB
        have fwB_2:wB.cell? ⟨y,0,none⟩ = some (.int .i64 a1):=kc (show (wA.alloc (oB (a1,a2))).drew.cell? _ = _ from y0) bwB
        have fwB_3:wB.cell? ⟨y,1,none⟩ = some (.int .i64 a2):=kc (show (wA.alloc (oB (a1,a2))).drew.cell? _ = _ from y1) bwB
        have fwB_4:wB.cell? ⟨wA.heap.size,0,none⟩ = some (.int .i64 a1):=kc (show (wA.alloc (oB (a1,a2))).drew.cell? _ = _ from u0) bwB
        have fwB_5:wB.cell? ⟨wA.heap.size,1,none⟩ = some (.int .i64 a2):=kc (show (wA.alloc (oB (a1,a2))).drew.cell? _ = _ from u1) bwB
        have HBB:=mkHid (bt HBA.out bwB)
        have HKb:Hid (Below (wA.alloc (oB (a1,a2))).drew.heap.size (wA.alloc (oB (a1,a2))).drew wB):=mkHid bwB
        clear bwB hHeld x0 x1 y0 y1 u0 u1
        refine hK.out _ _ ⟨fwB_0,fwB_1,fwB_2,fwB_3,fwB_4,fwB_5⟩ (fun hHeld=>?_)
        clear hK K
        (try simp only)
        refine tkE 3 140 (.bool false) rfl rfl hHeld ?_
        (try simp only [List.set_cons_zero,List.set_cons_succ])
        refine tkE 4 141 (.bool false) rfl rfl hHeld ?_
        (try simp only [List.set_cons_zero,List.set_cons_succ])
        refine tkE 5 142 (.agg #[.int .i64 a1,.int .i64 a2]) rfl rfl hHeld ?_
        (try simp only [List.set_cons_zero,List.set_cons_succ])
        refine tkE 6 143 (.agg #[.int .i64 a1,.int .i64 a2]) rfl rfl hHeld ?_
        (try simp only [List.set_cons_zero,List.set_cons_succ])
        refine tkE 7 144 (.bool false) rfl rfl hHeld ?_
        (try simp only [List.set_cons_zero,List.set_cons_succ])
        refine tkE 8 145 (.bool false) rfl rfl hHeld ?_
        (try simp only [List.set_cons_zero,List.set_cons_succ])
        refine tkE 9 146 (.bool false) rfl rfl hHeld ?_
        (try simp only [List.set_cons_zero,List.set_cons_succ])
        refine tkE 10 147 (.slice aa qz.length ca) rfl rfl hHeld ?_
        (try simp only [List.set_cons_zero,List.set_cons_succ])
        refine tkE 11 148 (.slice la qs.length lc) rfl rfl hHeld ?_
        (try simp only [List.set_cons_zero,List.set_cons_succ])
        refine wpAnyH_ready (rs:=[12]) (by kernel_rfl) (by simp) (AllReadyH.cons rfl (fun K hK=>?_) AllReadyH.nil)
        go_simp
        refine (sameL_yes wB (.slice aa qz.length ca) (.slice la qs.length lc) qz qs ((HA.out.1.below (bt (ba (Below.refl _ wA) (oB (a1,a2))).drew HKb.out)).ens' HA.out.2.1 HV.out.ok) (HLG.out.1.below HBB.out) (HA.out.2.1.trans HLG.out.2.symm)).mono ?_
        rintro e wC ⟨rfl,bwC⟩
        have fwC_0:wC.cell? ⟨x,0,none⟩ = some (.int .i64 p1):=kc fwB_0 bwC
        have fwC_1:wC.cell? ⟨x,1,none⟩ = some (.int .i64 p2):=kc fwB_1 bwC
        have fwC_2:wC.cell? ⟨y,0,none⟩ = some (.int .i64 a1):=kc fwB_2 bwC
        have fwC_3:wC.cell? ⟨y,1,none⟩ = some (.int .i64 a2):=kc fwB_3 bwC
        have fwC_4:wC.cell? ⟨wA.heap.size,0,none⟩ = some (.int .i64 a1):=kc fwB_4 bwC
        have fwC_5:wC.cell? ⟨wA.heap.size,1,none⟩ = some (.int .i64 a2):=kc fwB_5 bwC
        have HBC:=mkHid (bt HBB.out bwC)
        have HKc:Hid (Below (wA.alloc (oB (a1,a2))).drew.heap.size (wA.alloc (oB (a1,a2))).drew wC):=mkHid (bt HKb.out bwC)
        clear bwC hHeld fwB_0 fwB_1 fwB_2 fwB_3 fwB_4 fwB_5
        refine hK.out _ _ ⟨fwC_0,fwC_1,fwC_2,fwC_3,fwC_4,fwC_5⟩ (fun hHeld=>?_)
        clear hK K
        (try simp only [Act.put])
        refine tkE 13 150 (.bool false) rfl rfl hHeld ?_
        (try simp only [List.set_cons_zero,List.set_cons_succ])
        refine tkE 14 151 (.bool false) rfl rfl hHeld ?_
        (try simp only [List.set_cons_zero,List.set_cons_succ])
        refine tkE 15 152 (.bool false) rfl rfl hHeld ?_
        (try simp only [List.set_cons_zero,List.set_cons_succ])
        refine tkE 16 153 (.agg #[.int .i64 a1,.int .i64 a2]) rfl rfl hHeld ?_
        (try simp only [List.set_cons_zero,List.set_cons_succ])
        refine tkE 17 154 (.agg #[.int .i64 p1,.int .i64 p2]) rfl rfl hHeld ?_
        (try simp only [List.set_cons_zero,List.set_cons_succ])
        refine wpAnyH_ready (rs:=[18]) (by kernel_rfl) (by simp) (AllReadyH.cons rfl (fun K hK=>?_) AllReadyH.nil)
        go_simp
        refine ((HAB.out ▸ rabove_any wC (a1,a2) (p1,p2))).mono ?_
        rintro e wD ⟨rfl,bwD⟩
        have fwD_0:wD.cell? ⟨x,0,none⟩ = some (.int .i64 p1):=kc fwC_0 bwD
        have fwD_1:wD.cell? ⟨x,1,none⟩ = some (.int .i64 p2):=kc fwC_1 bwD
        have fwD_2:wD.cell? ⟨y,0,none⟩ = some (.int .i64 a1):=kc fwC_2 bwD
        have fwD_3:wD.cell? ⟨y,1,none⟩ = some (.int .i64 a2):=kc fwC_3 bwD
        have fwD_4:wD.cell? ⟨wA.heap.size,0,none⟩ = some (.int .i64 a1):=kc fwC_4 bwD
        have fwD_5:wD.cell? ⟨wA.heap.size,1,none⟩ = some (.int .i64 a2):=kc fwC_5 bwD
        have HKd:Hid (Below (wA.alloc (oB (a1,a2))).drew.heap.size (wA.alloc (oB (a1,a2))).drew wD):=mkHid (bt HKc.out bwD)
        clear bwD hHeld fwC_0 fwC_1 fwC_2 fwC_3 fwC_4 fwC_5
        refine hK.out _ _ ⟨fwD_0,fwD_1,fwD_2,fwD_3,fwD_4,fwD_5⟩ (fun hHeld=>?_)
        clear hK K
        (try simp only [Act.put])
        refine tkE 19 156 (.bool false) rfl rfl hHeld ?_
        (try simp only [List.set_cons_zero,List.set_cons_succ])
        refine wpAnyH_done (by kernel_rfl) ?_ _
        clear hHeld fwD_0 fwD_1 fwD_2 fwD_3 fwD_4 fwD_5
        go_wp2
        go_roundw
        case rel=>exact ⟨j + 1,_,cl,la,lc,qs,_,_,by go_num,rfl,rfl,rfl,by omega,by omega,mkHid ⟨HV.out.below (bt (ba HA.out.2.2 _).drew HKd.out),HKA.out.below HKd.out,HLG.out.1,HLG.out.2,by have:=HCL.out;omega,HAB.out⟩⟩
        case measure=>simp [intOf];omega
    · obtain rfl:j = os.length:=by omega
      go_wp2
      go_ret
      exact ⟨rfl,HI.out.ve.low⟩
end Go.Proofs.YtihdkgekickohaaGreatDoor
