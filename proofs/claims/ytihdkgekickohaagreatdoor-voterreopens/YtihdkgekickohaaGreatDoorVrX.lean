import Derived.Test.YtihdkgekickohaaGreatDoorVkX
import Derived.Test.YtihdkgekickohaaGreatDoorOfX
namespace Go.Proofs.YtihdkgekickohaaGreatDoor
open Go.ChangeShapes Go.WideShapes Go.ChangeAt Go.RowKit
set_option maxRecDepth 100000
attribute [local go_sem] World.cell?_alloc_some frozen_alloc_some
theorem np6_E {E E':Nat} (h:E < 128) (h':E' < 128) (G N:Nat) (b:List Int):np6 E G N b = np6 E' G N b:=by
 rw [np6_len,np6_len]
 have:(wpay ⟨G,E,N,b⟩).length = (wpay ⟨G,E',N,b⟩).length:=by
  unfold wpay
  simp only [List.length_append]
  rw [enc_lt h,enc_lt h']
  rfl
 rw [this]
theorem apd_E {E E':Nat} (h:E < 128) (h':E' < 128) (s G U:Nat) (ds:List (List Int)) (sb b:List Int):apd s E G U ds sb b = apd s E' G U ds sb b:=by
 unfold apd
 rw [np6_E h h',np6_E h h' (G + 1) 0 sb,np6_E h h' (G + 1) 1 b]
theorem opR_E {E E':Nat} (h:E < 128) (h':E' < 128) (s G U:Nat) (ds:List (List Int)) (st:Vs) (r:Option Vr):opR s E G U ds st r = opR s E' G U ds st r:=by
 cases r with
 |none=>rfl
 |some r=>
  unfold opR
  dsimp only
  rw [apd_E h h']
def VQ (B1 B2:Nat → Prop) (w wr:World) (p1 v p2 u:Nat) (num:Int) (n s:Nat) (st:Vs) (j:Nat):Prop:=
 ∃ E1 E2 G U ds I1 k1 I2 k2,VS B1 w wr p1 v num n s E1 G I1 k1 U ds st ∧ VS B2 w wr p2 u num n s E2 G I2 k2 U ds st ∧ (∀ i,B1 i → ¬ B2 i) ∧ E1 ≤ 1 + j ∧ E2 ≤ 1 + j ∧ G ≤ 1 + j ∧ I1 ≤ 2 * j ∧ I2 ≤ 2 * j ∧ k1 ≤ 1 + 4 * j ∧ k2 ≤ 1 + 4 * j
theorem VQ.below {B1 B2:Nat → Prop} {w wr w':World} {p1 v p2 u n s j:Nat} {num:Int} {st:Vs} (h:VQ B1 B2 w wr p1 v p2 u num n s st j) (hb:Below wr.heap.size wr w'):VQ B1 B2 w w' p1 v p2 u num n s st j:=by
 obtain ⟨E1,E2,G,U,ds,I1,k1,I2,k2,h1,h2,r⟩:=h
 exact ⟨E1,E2,G,U,ds,I1,k1,I2,k2,h1.below hb,h2.below hb,r⟩
theorem VQ.low {B1 B2:Nat → Prop} {w wr:World} {p1 v p2 u n s j:Nat} {num:Int} {st:Vs} (h:VQ B1 B2 w wr p1 v p2 u num n s st j):Below w.heap.size w wr:=by
 obtain ⟨E1,E2,G,U,ds,I1,k1,I2,k2,h1,_⟩:=h
 exact h1.low
theorem VQ.ok {B1 B2:Nat → Prop} {w wr:World} {p1 v p2 u n s j:Nat} {num:Int} {st:Vs} (h:VQ B1 B2 w wr p1 v p2 u num n s st j):st.ok:=by
 obtain ⟨E1,E2,G,U,ds,I1,k1,I2,k2,h1,_⟩:=h
 exact h1.ok
theorem VS.other {B1 B1' B2:Nat → Prop} {w wr w':World} {p u n s E G I k U:Nat} {num:Int} {ds:List (List Int)} {st:Vs} (h:VS B2 w wr p u num n s E G I k U ds st) (hd:∀ i,B1 i → ¬ B2 i) (hge:∀ i,B1 i → w.heap.size ≤ i) (hg:∀ i,B1' i → B1 i ∨ wr.heap.size ≤ i) (hk:Kept B1 wr w'):VS B2 w w' p u num n s E G I k U ds st ∧ ∀ i,B1' i → ¬ B2 i:=
 ⟨h.kept hk (fun i e f=>hd i f e) hge,fun i e f=>(hg i e).elim (fun q=>hd i q f) (fun q=>by have:=(h.lt i f).2;omega)⟩
def ErK (eN eB eL eS eF:Addr) (er:Value):Prop:=er = .nilIface ∨ er = vErr eN ∨ er = vErr eB ∨ er = vErr eL ∨ er = vErr eS ∨ er = vErr eF
theorem refE_k (st:Vs) (b:Bl) (eN eB eL eS eF:Addr):ErK eN eB eL eS eF (refE st b eN eB):=by
 unfold refE
 split
 ·split
  ·exact .inr (.inr (.inl rfl))
  ·exact .inl rfl
 ·exact .inr (.inl rfl)
theorem ite_k (q:Bool) (eN eB eL eS eF:Addr):ErK eN eB eL eS eF (if q then .nilIface else vEr eF):=by
 cases q
 ·exact .inr (.inr (.inr (.inr (.inr rfl))))
 ·exact .inl rfl
theorem VQ.op {B1 B1' B2:Nat → Prop} {w wr w1 W w2:World} {p1 v p2 u n s j E1 E2 G U I1 k1 I2 k2:Nat} {num:Int} {ds:List (List Int)} {st:Vs} {r:Option Vr} (hE1:E1 < 128) (hE2:E2 < 128) (hd:∀ i,B1 i → ¬ B2 i) (h2:VS B2 w wr p2 u num n s E2 G I2 k2 U ds st) (hge:∀ i,B1 i → w.heap.size ≤ i) (hr:E1 ≤ 1 + j ∧ E2 ≤ 1 + j ∧ G ≤ 1 + j ∧ I1 ≤ 2 * j ∧ I2 ≤ 2 * j ∧ k1 ≤ 1 + 4 * j ∧ k2 ≤ 1 + 4 * j)
  (h1:VS B1' w w1 p1 v num n s E1 (opR s E1 G U ds st r).2.1 (I1 + 2) (k1 + 3) (opR s E1 G U ds st r).2.2.1 (opR s E1 G U ds st r).2.2.2.1 (opR s E1 G U ds st r).2.2.2.2) (hg1:∀ i,B1' i → B1 i ∨ wr.heap.size ≤ i) (hk1:Kept B1 wr w1) (hb:Below w1.heap.size w1 W) (h3:OpP B2 w W p2 u num n s E2 G I2 k2 U ds st r w2):∃ B2' st',VQ B1' B2' w w2 p1 v p2 u num n s st' (j + 1):=by
 obtain ⟨B2',a1,a2,a3⟩:=h3
 obtain ⟨_,hd1⟩:=h2.other hd hge hg1 hk1
 rw [opR_E hE2 hE1] at a1
 have hs:=hb.size
 have b1:=h1.below hb
 obtain ⟨b2,hd2⟩:=VS.other (B1:=B2) (B1':=B2') b1 (fun i e f=>hd1 i f e) (fun i e=>(h2.lt i e).1) a2 a3
 have hG:(opR s E1 G U ds st r).2.1 ≤ G + 1:=by
  cases r with
  |none=>exact Nat.le_succ _
  |some r=>exact (opR_gen s E1 G U ds st r).1
 exact ⟨B2',_,E1,E2,_,_,_,_,_,_,_,b2,a1,fun i e f=>hd2 i f e,by omega⟩
def Frm (B1 B2:Nat → Prop) (wr w':World):Prop:=∀ i,i < wr.heap.size → ¬ B1 i → ¬ B2 i → w'.heap[i]? = wr.heap[i]?
theorem Frm.bel {B1 B2:Nat → Prop} {wr w':World} (hb:Below wr.heap.size wr w'):Frm B1 B2 wr w':=fun i hi _ _=>hb.block i hi
theorem Frm.two {B1 B2:Nat → Prop} {wr w1 W w2:World} (h1:Kept B1 wr w1) (hb:Below w1.heap.size w1 W) (h2:Kept B2 W w2):Frm B1 B2 wr w2:=fun i hi n1 n2=>
 (h2.block i (by have:=h1.size;have:=hb.size;omega) n2).trans ((hb.block i (by have:=h1.size;omega)).trans (h1.block i hi n1))
theorem OpP.kp {B:Nat → Prop} {w wr w':World} {p v n s E G I k U:Nat} {num:Int} {ds:List (List Int)} {st:Vs} {r:Option Vr} (h:OpP B w wr p v num n s E G I k U ds st r w'):Kept B wr w':=by
 obtain ⟨_,_,_,q⟩:=h;exact q
def PrepP (B1 B2:Nat → Prop) (w wr:World) (p1 v p2 u:Nat) (num:Int) (n s:Nat) (j:Nat) (b:Bl) (eN eB eL eS eF:Addr) (e:Ending) (w1:World):Prop:=
 ∃ er z y,e = .returned (.tuple #[vB z,y,er]) ∧ ErK eN eB eL eS eF er ∧ (Below w.heap.size w w1 ∧ Frm B1 B2 wr w1) ∧ ∀ W,Below w1.heap.size w1 W → Calls Tryz.prog 17 #[.pointer (some ⟨u,0,none⟩),vB b] W fun e2 w2=>∃ z2 y2,e2 = .returned (.tuple #[vB z2,y2,er]) ∧ Frm B1 B2 wr w2 ∧ ∃ B1' B2' st',VQ B1' B2' w w2 p1 v p2 u num n s st' (j + 1)
theorem VQ.up {B1 B2:Nat → Prop} {w wr:World} {p1 v p2 u n s j:Nat} {num:Int} {st:Vs} (h:VQ B1 B2 w wr p1 v p2 u num n s st j):VQ B1 B2 w wr p1 v p2 u num n s st (j + 1):=by
 obtain ⟨E1,E2,G,U,ds,I1,k1,I2,k2,h1,h2,h3,r⟩:=h
 exact ⟨E1,E2,G,U,ds,I1,k1,I2,k2,h1,h2,h3,by omega⟩
theorem prepare_p {B1 B2:Nat → Prop} {w wr:World} {p1 v p2 u n s j:Nat} {num:Int} {st:Vs} (h:VQ B1 B2 w wr p1 v p2 u num n s st j) (b:Bl) (hn:(n:Int) ≤ 1024) (hj:j ≤ 125) {eN eB eL eS eF eM eY:Addr} (hE:VErrs w eN eB eL eS eF eM eY) :
  Calls Tryz.prog 17 #[.pointer (some ⟨v,0,none⟩),vB b] wr (PrepP B1 B2 w wr p1 v p2 u num n s j b eN eB eL eS eF):=by
 have hq:=h
 obtain ⟨E1,E2,G,U,ds,I1,k1,I2,k2,h1,h2,hd,r⟩:=h
 refine (prepare_v h1 b hn (by omega) (by omega) (by omega) eN eB eS eF hE.nu hE.ba hE.st hE.fu).mono ?_
 intro e w1 hp
 rcases hp with ⟨hm,⟨z,y,rfl⟩,hb⟩ | ⟨hm,⟨z,y,rfl⟩,hop⟩
 ·refine ⟨_,z,y,rfl,refE_k _ _ _ _ _ _ _,⟨bt h1.low hb,Frm.bel hb⟩,fun W hW=>?_⟩
  refine (prepare_v (h2.below (bt hb hW)) b hn (by omega) (by omega) (by omega) eN eB eS eF hE.nu hE.ba hE.st hE.fu).mono ?_
  intro e2 w2 hp2
  rcases hp2 with ⟨_,⟨z2,y2,rfl⟩,hb2⟩ | ⟨hm2,_⟩
  ·exact ⟨z2,y2,rfl,Frm.bel (bt (bt hb hW) hb2),B1,B2,st,(hq.below (bt (bt hb hW) hb2)).up⟩
  ·rw [hm] at hm2;cases hm2
 ·obtain ⟨B1',a1,a2,a3⟩:=hop
  obtain ⟨c1,_⟩:=h2.other hd (fun i e=>(h1.lt i e).1) a2 a3
  refine ⟨_,z,y,rfl,ite_k _ _ _ _ _ _,⟨a1.low,fun i hi n1 _=>a3.block i hi n1⟩,fun W hW=>?_⟩
  refine (prepare_v (c1.below hW) b hn (by omega) (by omega) (by omega) eN eB eS eF hE.nu hE.ba hE.st hE.fu).mono ?_
  intro e2 w2 hp2
  rcases hp2 with ⟨hm2,_⟩ | ⟨_,⟨z2,y2,rfl⟩,hop2⟩
  ·rw [hm] at hm2;cases hm2
  ·obtain ⟨B2',st',hv⟩:=VQ.op (by omega) (by omega) hd h2 (fun i e=>(h1.lt i e).1) r a1 a2 a3 hW hop2
   exact ⟨z2,y2,by rw [opR_E (E:=E1) (E':=E2) (by omega) (by omega)],Frm.two a3 hW hop2.kp,B1',B2',st',hv⟩
def AcpQ (B1 B2:Nat → Prop) (w wr:World) (p1 v p2 u:Nat) (num:Int) (n s:Nat) (j:Nat) (b:Bl) (qa:Option Addr) (ql qc:Nat) (eN eB eL eS eF:Addr) (e:Ending) (w1:World):Prop:=
 ∃ er,e = .returned er ∧ ErK eN eB eL eS eF er ∧ (Below w.heap.size w w1 ∧ Frm B1 B2 wr w1) ∧ ∀ W,Below w1.heap.size w1 W → Calls Tryz.prog 18 #[.pointer (some ⟨u,0,none⟩),vB b,.slice qa ql qc] W fun e2 w2=>e2 = .returned er ∧ Frm B1 B2 wr w2 ∧ ∃ B1' B2' st',VQ B1' B2' w w2 p1 v p2 u num n s st' (j + 1)
theorem accept_p {B1 B2:Nat → Prop} {w wr:World} {p1 v p2 u n s j:Nat} {num:Int} {st:Vs} (h:VQ B1 B2 w wr p1 v p2 u num n s st j) (b:Bl) (qa:Option Addr) (qc:Nat) (qs:List Ep) (hqs:Ens w (.slice qa qs.length qc) qs) (hqc:qs.length ≤ qc) (hn:(n:Int) ≤ 1024) (hj:j ≤ 125) {eN eB eL eS eF eM eY:Addr} (hE:VErrs w eN eB eL eS eF eM eY) :
  Calls Tryz.prog 18 #[.pointer (some ⟨v,0,none⟩),vB b,.slice qa qs.length qc] wr (AcpQ B1 B2 w wr p1 v p2 u num n s j b qa qs.length qc eN eB eL eS eF):=by
 have hq:=h
 obtain ⟨E1,E2,G,U,ds,I1,k1,I2,k2,h1,h2,hd,r⟩:=h
 refine (accept_v h1 b qa qc qs (hqs.below h1.low) hqc hn (by omega) (by omega) (by omega) eN eB eL eS eF hE.nu hE.ba hE.la hE.st hE.fu).mono ?_
 intro e w1 hp
 have first:∀ er,e = .returned er → ErK eN eB eL eS eF er → Below wr.heap.size wr w1 → (∀ W e2 w2,Below w1.heap.size w1 W → AcpP B2 w W p2 u num n s E2 G I2 k2 U ds st b (fs1 qs) eN eB eL eS eF e2 w2 → e2 = .returned er ∧ Below W.heap.size W w2) → AcpQ B1 B2 w wr p1 v p2 u num n s j b qa qs.length qc eN eB eL eS eF e w1:=by
  intro er he hk hb hall
  refine ⟨er,he,hk,⟨bt h1.low hb,Frm.bel hb⟩,fun W hW=>?_⟩
  refine (accept_v (h2.below (bt hb hW)) b qa qc qs (hqs.below (bt h2.low (bt hb hW))) hqc hn (by omega) (by omega) (by omega) eN eB eL eS eF hE.nu hE.ba hE.la hE.st hE.fu).mono ?_
  intro e2 w2 hp2
  obtain ⟨he2,hb2⟩:=hall W e2 w2 hW hp2
  exact ⟨he2,Frm.bel (bt (bt hb hW) hb2),B1,B2,st,(hq.below (bt (bt hb hW) hb2)).up⟩
 rcases hp with ⟨hm,he,hb⟩ | ⟨hm,hl,he,hb⟩ | ⟨hm,hl,hi,he,hb⟩ | ⟨hm,hl,he,hop⟩
 ·refine first _ he (refE_k _ _ _ _ _ _ _) hb (fun W e2 w2 hW hp2=>?_)
  rcases hp2 with ⟨_,he2,hb2⟩ | ⟨hm2,_⟩ | ⟨hm2,_⟩ | ⟨hm2,_⟩
  ·exact ⟨he2,hb2⟩
  all_goals (rw [hm] at hm2;cases hm2)
 ·refine first _ he (.inr (.inr (.inr (.inl rfl)))) hb (fun W e2 w2 hW hp2=>?_)
  rcases hp2 with ⟨hm2,_⟩ | ⟨_,_,he2,hb2⟩ | ⟨_,hl2,_⟩ | ⟨_,hl2,_⟩
  ·rw [hm] at hm2;cases hm2
  ·exact ⟨he2,hb2⟩
  ·omega
  ·have:=hl2.1;omega
 ·refine first _ he (.inr (.inr (.inr (.inr (.inl rfl))))) hb (fun W e2 w2 hW hp2=>?_)
  rcases hp2 with ⟨hm2,_⟩ | ⟨_,hl2,_⟩ | ⟨_,_,_,he2,hb2⟩ | ⟨_,hl2,_⟩
  ·rw [hm] at hm2;cases hm2
  ·omega
  ·exact ⟨he2,hb2⟩
  ·exact absurd hl2.2 hi
 ·obtain ⟨B1',a1,a2,a3⟩:=hop
  obtain ⟨c1,_⟩:=h2.other hd (fun i e=>(h1.lt i e).1) a2 a3
  refine ⟨_,he,ite_k _ _ _ _ _ _,⟨a1.low,fun i hi n1 _=>a3.block i hi n1⟩,fun W hW=>?_⟩
  refine (accept_v (c1.below hW) b qa qc qs (hqs.below (bt a1.low hW)) hqc hn (by omega) (by omega) (by omega) eN eB eL eS eF hE.nu hE.ba hE.la hE.st hE.fu).mono ?_
  intro e2 w2 hp2
  rcases hp2 with ⟨hm2,_⟩ | ⟨_,hl2,_⟩ | ⟨_,_,hi2,_⟩ | ⟨_,_,he2,hop2⟩
  ·rw [hm] at hm2;cases hm2
  ·have:=hl.1;omega
  ·exact absurd hl.2 hi2
  ·obtain ⟨B2',st',hv⟩:=VQ.op (by omega) (by omega) hd h2 (fun i e=>(h1.lt i e).1) r a1 a2 a3 hW hop2
   exact ⟨by rw [he2,opR_E (E:=E1) (E':=E2) (by omega) (by omega)],Frm.two a3 hW hop2.kp,B1',B2',st',hv⟩
def ClmQ (B1 B2:Nat → Prop) (w wr:World) (p1 v p2 u:Nat) (num:Int) (n s:Nat) (j:Nat) (b:Bl) (eN eB eL eS eF:Addr) (e:Ending) (w1:World):Prop:=
 ∃ er z,e = .returned (.tuple #[vB z,er]) ∧ ErK eN eB eL eS eF er ∧ (Below w.heap.size w w1 ∧ Frm B1 B2 wr w1) ∧ ∀ W,Below w1.heap.size w1 W → Calls Tryz.prog 19 #[.pointer (some ⟨u,0,none⟩),vB b] W fun e2 w2=>e2 = .returned (.tuple #[vB z,er]) ∧ Frm B1 B2 wr w2 ∧ Kept B2 W w2 ∧ (∀ i,B2 i → i < w1.heap.size) ∧ ∃ B1' B2' st',VQ B1' B2' w w2 p1 v p2 u num n s st' (j + 1)
theorem claim_p {B1 B2:Nat → Prop} {w wr:World} {p1 v p2 u n s j:Nat} {num:Int} {st:Vs} (h:VQ B1 B2 w wr p1 v p2 u num n s st j) (b:Bl) (hn:(n:Int) ≤ 1024) (hj:j ≤ 125) {eN eB eL eS eF eM eY:Addr} (hE:VErrs w eN eB eL eS eF eM eY) :
  Calls Tryz.prog 19 #[.pointer (some ⟨v,0,none⟩),vB b] wr (ClmQ B1 B2 w wr p1 v p2 u num n s j b eN eB eL eS eF):=by
 have hq:=h
 obtain ⟨E1,E2,G,U,ds,I1,k1,I2,k2,h1,h2,hd,r⟩:=h
 refine (claim_v h1 b hn (by omega) (by omega) (by omega) eS eF hE.st hE.fu).mono ?_
 intro e w1 hp
 rcases hp with ⟨hm,rfl,hb⟩ | ⟨hm,rfl,hop⟩
 ·refine ⟨_,_,rfl,.inr (.inr (.inr (.inr (.inr rfl)))),⟨bt h1.low hb,Frm.bel hb⟩,fun W hW=>?_⟩
  refine (claim_v (h2.below (bt hb hW)) b hn (by omega) (by omega) (by omega) eS eF hE.st hE.fu).mono ?_
  intro e2 w2 hp2
  rcases hp2 with ⟨_,rfl,hb2⟩ | ⟨hm2,_⟩
  ·exact ⟨rfl,Frm.bel (bt (bt hb hW) hb2),keptB _ hb2,fun i e=>by have:=(h2.lt i e).2;have:=hb.size;omega,B1,B2,st,(hq.below (bt (bt hb hW) hb2)).up⟩
  ·omega
 ·obtain ⟨B1',a1,a2,a3⟩:=hop
  obtain ⟨c1,_⟩:=h2.other hd (fun i e=>(h1.lt i e).1) a2 a3
  refine ⟨_,_,rfl,ite_k _ _ _ _ _ _,⟨a1.low,fun i hi n1 _=>a3.block i hi n1⟩,fun W hW=>?_⟩
  refine (claim_v (c1.below hW) b hn (by omega) (by omega) (by omega) eS eF hE.st hE.fu).mono ?_
  intro e2 w2 hp2
  rcases hp2 with ⟨hm2,_⟩ | ⟨_,rfl,hop2⟩
  ·omega
  ·have hk2:Kept B2 W w2:=by obtain ⟨_,_,_,q⟩:=hop2;exact q
   obtain ⟨B2',st',hv⟩:=VQ.op (by omega) (by omega) hd h2 (fun i e=>(h1.lt i e).1) r a1 a2 a3 hW hop2
   exact ⟨by rw [opR_E (E:=E1) (E':=E2) (by omega) (by omega)],Frm.two a3 hW hk2,hk2,fun i e=>(c1.lt i e).2,B1',B2',st',hv⟩
theorem open_p {B1 B2:Nat → Prop} {w wr:World} {p1 v p2 u n s j:Nat} {num:Int} {st:Vs} (h:VQ B1 B2 w wr p1 v p2 u num n s st j) (hnum:nodeF num) (hn:(n:Int) ≤ 1024) (hj:j ≤ 125) {eN eB eL eS eF eM eY:Addr} (hE:VErrs w eN eB eL eS eF eM eY) :
  Calls Tryz.prog 21 #[.pointer (some ⟨p1,0,none⟩),.int .i64 num] wr fun e w'=>∃ v' B1',e = .returned (.tuple #[.pointer (some ⟨v',0,none⟩),.nilIface]) ∧ VQ B1' B2 w w' p1 v' p2 u num n s st (j + 1):=by
 obtain ⟨E1,E2,G,U,ds,I1,k1,I2,k2,h1,h2,hd,r⟩:=h
 refine (open_v h1 num hnum hn (by omega) (by omega) eM eL eY eF eS hE.su hE.la hE.by' hE.fu hE.st).mono ?_
 rintro e w' ⟨v',B1',rfl,a1,a2,a3⟩
 obtain ⟨c1,c2⟩:=h2.other hd (fun i e=>(h1.lt i e).1) a2 a3
 exact ⟨v',B1',rfl,E1 + 1,E2,G,U,ds,I1,k1 + 1,I2,k2,a1,c1,c2,by omega⟩
theorem crash_p {B1 B2:Nat → Prop} {w wr:World} {p1 v p2 u n s j:Nat} {num:Int} {st:Vs} (h:VQ B1 B2 w wr p1 v p2 u num n s st j) (keep torn:Int) :
  Calls Tryz.prog 20 #[.pointer (some ⟨p1,0,none⟩),.int .u64 keep,.int .i64 torn] wr fun e w'=>e = .returned (.tuple #[]) ∧ VQ B1 B2 w w' p1 v p2 u num n s st j:=by
 obtain ⟨E1,E2,G,U,ds,I1,k1,I2,k2,h1,h2,hd,r⟩:=h
 refine (vs_crash h1 keep torn).mono ?_
 rintro e w' ⟨rfl,a1,a3⟩
 obtain ⟨c1,c2⟩:=h2.other (B1':=B1) hd (fun i e=>(h1.lt i e).1) (fun _ e=>.inl e) a3
 exact ⟨rfl,E1,E2,G,U,ds,I1,k1,I2,k2,a1,c1,c2,r⟩
theorem VQ.ve {B1 B2:Nat → Prop} {w wr:World} {p1 v p2 u n s j:Nat} {num:Int} {st:Vs} (h:VQ B1 B2 w wr p1 v p2 u num n s st j):VE B1 w wr p1 v num n s st j ∧ VE B2 w wr p2 u num n s st j:=by
 obtain ⟨E1,E2,G,U,ds,I1,k1,I2,k2,h1,h2,hd,r⟩:=h
 exact ⟨⟨_,_,_,_,_,_,h1,by omega⟩,⟨_,_,_,_,_,_,h2,by omega⟩⟩
end Go.Proofs.YtihdkgekickohaaGreatDoor
namespace Go.Proofs.YtihdkgekickohaaGreatDoor
open Go.ChangeShapes Go.WideShapes Go.ChangeAt Go.RowKit
set_option maxRecDepth 100000
theorem Err.lt {w:World} {g:Nat} {s:List UInt8} {a:Addr} (h:Err w g s a):a.block < w.heap.size:=by
 obtain ⟨_,⟨t,h2,_⟩,_⟩:=h
 exact World.block_lt_of_cell? w _ h2
theorem errnum_nil (w:World):Calls Tryz.prog 26 #[.nilIface] w fun e w'=>e = .returned (.int .i64 0) ∧ w' = w:=by
 go_enter Tryz.func26,Tryz.ntmps26
 go_wp2
 go_ret
 exact ⟨rfl,rfl⟩
def Errs (w:World) (a:Nat → Addr):Prop:=Err w 0 text0 (a 0) ∧ Err w 1 text1 (a 1) ∧ Err w 2 text2 (a 2) ∧ Err w 3 text3 (a 3) ∧ Err w 4 text4 (a 4) ∧ Err w 5 text5 (a 5) ∧ Err w 6 text6 (a 6) ∧ Err w 7 text7 (a 7) ∧ Err w 8 text8 (a 8) ∧ Err w 9 text9 (a 9) ∧ Err w 10 text10 (a 10) ∧ Err w 11 text11 (a 11) ∧ Err w 12 text12 (a 12) ∧ Err w 13 text13 (a 13) ∧ Err w 14 text14 (a 14) ∧ Err w 15 text15 (a 15)
theorem Errs.late {w w':World} {a:Nat → Addr} (h:Errs w a) (hb:Below w.heap.size w w'):Errs w' a:=by
 obtain ⟨e0,e1,e2,e3,e4,e5,e6,e7,e8,e9,e10,e11,e12,e13,e14,e15⟩:=h
 exact ⟨e0.late hb,e1.late hb,e2.late hb,e3.late hb,e4.late hb,e5.late hb,e6.late hb,e7.late hb,e8.late hb,e9.late hb,e10.late hb,e11.late hb,e12.late hb,e13.late hb,e14.late hb,e15.late hb⟩
theorem Errs.cell_number {w:World} {a:Nat → Addr} (h:Errs w a):w.cell? ⟨1,0,none⟩ = some (.iface 284 (.pointer (some (a 1)))):=h.2.1.1
theorem Errs.cell_full {w:World} {a:Nat → Addr} (h:Errs w a):w.cell? ⟨2,0,none⟩ = some (.iface 284 (.pointer (some (a 2)))):=h.2.2.1.1
theorem Errs.cell_bytes {w:World} {a:Nat → Addr} (h:Errs w a):w.cell? ⟨4,0,none⟩ = some (.iface 284 (.pointer (some (a 4)))):=h.2.2.2.2.1.1
theorem Errs.cell_sum {w:World} {a:Nat → Addr} (h:Errs w a):w.cell? ⟨5,0,none⟩ = some (.iface 284 (.pointer (some (a 5)))):=h.2.2.2.2.2.1.1
theorem Errs.cell_large {w:World} {a:Nat → Addr} (h:Errs w a):w.cell? ⟨8,0,none⟩ = some (.iface 284 (.pointer (some (a 8)))):=h.2.2.2.2.2.2.2.2.1.1
theorem Errs.cell_ballot {w:World} {a:Nat → Addr} (h:Errs w a):w.cell? ⟨14,0,none⟩ = some (.iface 284 (.pointer (some (a 14)))):=h.2.2.2.2.2.2.2.2.2.2.2.2.2.2.1.1
theorem Errs.cell_state {w:World} {a:Nat → Addr} (h:Errs w a):w.cell? ⟨15,0,none⟩ = some (.iface 284 (.pointer (some (a 15)))):=h.2.2.2.2.2.2.2.2.2.2.2.2.2.2.2.1
set_option maxHeartbeats 6400000 in
theorem errnum_number (w:World) (a:Nat → Addr) (E:Errs w a) :
  Calls Tryz.prog 26 #[.iface 284 (.pointer (some (a 1)))] w fun e w'=>e = .returned (.int .i64 1) ∧ Below w.heap.size w w':=by
 obtain ⟨E0,E1,E2,E3,E4,E5,E6,E7,E8,E9,E10,E11,E12,E13,E14,E15⟩:=E
 generalize a 0 = a0 at *
 generalize a 1 = a1 at *
 generalize a 2 = a2 at *
 generalize a 3 = a3 at *
 generalize a 4 = a4 at *
 generalize a 5 = a5 at *
 generalize a 6 = a6 at *
 generalize a 7 = a7 at *
 generalize a 8 = a8 at *
 generalize a 9 = a9 at *
 generalize a 10 = a10 at *
 generalize a 11 = a11 at *
 generalize a 12 = a12 at *
 generalize a 13 = a13 at *
 generalize a 14 = a14 at *
 generalize a 15 = a15 at *
 have c0:=E0.1
 have c1:=E1.1
 have c2:=E2.1
 have c3:=E3.1
 have c4:=E4.1
 have c5:=E5.1
 have c6:=E6.1
 have c7:=E7.1
 have c8:=E8.1
 have c9:=E9.1
 have c10:=E10.1
 have c11:=E11.1
 have c12:=E12.1
 have c13:=E13.1
 have c14:=E14.1
 have c15:=E15.1
 have q:=E1.eq
 clear E0 E1 E2 E3 E4 E5 E6 E7 E8 E9 E10 E11 E12 E13 E14 E15
 go_enter Tryz.func26,Tryz.ntmps26
 go_wp2
 go_loop [27] (fun iv=>iv = .int .i64 0) (fun iv=>16 - (intOf iv).toNat)
 case atStart=>exact rfl
 case round=>
  rcases hrel with rfl
  ·go_wp2
   go_ret
   exact ⟨rfl,(Below.refl _ _).alloc (Nat.le_refl _) _⟩
set_option maxHeartbeats 6400000 in
theorem errnum_ballot (w:World) (a:Nat → Addr) (E:Errs w a) :
  Calls Tryz.prog 26 #[.iface 284 (.pointer (some (a 14)))] w fun e w'=>e = .returned (.int .i64 15) ∧ Below w.heap.size w w':=by
 obtain ⟨E0,E1,E2,E3,E4,E5,E6,E7,E8,E9,E10,E11,E12,E13,E14,E15⟩:=E
 generalize a 0 = a0 at *
 generalize a 1 = a1 at *
 generalize a 2 = a2 at *
 generalize a 3 = a3 at *
 generalize a 4 = a4 at *
 generalize a 5 = a5 at *
 generalize a 6 = a6 at *
 generalize a 7 = a7 at *
 generalize a 8 = a8 at *
 generalize a 9 = a9 at *
 generalize a 10 = a10 at *
 generalize a 11 = a11 at *
 generalize a 12 = a12 at *
 generalize a 13 = a13 at *
 generalize a 14 = a14 at *
 generalize a 15 = a15 at *
 have c0:=E0.1
 have c1:=E1.1
 have c2:=E2.1
 have c3:=E3.1
 have c4:=E4.1
 have c5:=E5.1
 have c6:=E6.1
 have c7:=E7.1
 have c8:=E8.1
 have c9:=E9.1
 have c10:=E10.1
 have c11:=E11.1
 have c12:=E12.1
 have c13:=E13.1
 have c14:=E14.1
 have c15:=E15.1
 have n1:∀ o,(binOp .eql 26 (.iface 284 (.pointer (some a14))) (.iface 284 (.pointer (some a1)))).run Tryz.prog (w.alloc o) = .ok (.bool false) (w.alloc o):=fun o=>E14.neq E1 (by decide) (Below.heap_alloc w o _ E14.lt) (Below.heap_alloc w o _ E1.lt)
 have n3:∀ o,(binOp .eql 26 (.iface 284 (.pointer (some a14))) (.iface 284 (.pointer (some a3)))).run Tryz.prog (w.alloc o) = .ok (.bool false) (w.alloc o):=fun o=>E14.neq E3 (by decide) (Below.heap_alloc w o _ E14.lt) (Below.heap_alloc w o _ E3.lt)
 have n4:∀ o,(binOp .eql 26 (.iface 284 (.pointer (some a14))) (.iface 284 (.pointer (some a4)))).run Tryz.prog (w.alloc o) = .ok (.bool false) (w.alloc o):=fun o=>E14.neq E4 (by decide) (Below.heap_alloc w o _ E14.lt) (Below.heap_alloc w o _ E4.lt)
 have n5:∀ o,(binOp .eql 26 (.iface 284 (.pointer (some a14))) (.iface 284 (.pointer (some a5)))).run Tryz.prog (w.alloc o) = .ok (.bool false) (w.alloc o):=fun o=>E14.neq E5 (by decide) (Below.heap_alloc w o _ E14.lt) (Below.heap_alloc w o _ E5.lt)
 have n6:∀ o,(binOp .eql 26 (.iface 284 (.pointer (some a14))) (.iface 284 (.pointer (some a6)))).run Tryz.prog (w.alloc o) = .ok (.bool false) (w.alloc o):=fun o=>E14.neq E6 (by decide) (Below.heap_alloc w o _ E14.lt) (Below.heap_alloc w o _ E6.lt)
 have n7:∀ o,(binOp .eql 26 (.iface 284 (.pointer (some a14))) (.iface 284 (.pointer (some a7)))).run Tryz.prog (w.alloc o) = .ok (.bool false) (w.alloc o):=fun o=>E14.neq E7 (by decide) (Below.heap_alloc w o _ E14.lt) (Below.heap_alloc w o _ E7.lt)
 have n2:∀ o,(binOp .eql 26 (.iface 284 (.pointer (some a14))) (.iface 284 (.pointer (some a2)))).run Tryz.prog (w.alloc o) = .ok (.bool false) (w.alloc o):=fun o=>E14.neq E2 (by decide) (Below.heap_alloc w o _ E14.lt) (Below.heap_alloc w o _ E2.lt)
 have n8:∀ o,(binOp .eql 26 (.iface 284 (.pointer (some a14))) (.iface 284 (.pointer (some a8)))).run Tryz.prog (w.alloc o) = .ok (.bool false) (w.alloc o):=fun o=>E14.neq E8 (by decide) (Below.heap_alloc w o _ E14.lt) (Below.heap_alloc w o _ E8.lt)
 have n0:∀ o,(binOp .eql 26 (.iface 284 (.pointer (some a14))) (.iface 284 (.pointer (some a0)))).run Tryz.prog (w.alloc o) = .ok (.bool false) (w.alloc o):=fun o=>E14.neq E0 (by decide) (Below.heap_alloc w o _ E14.lt) (Below.heap_alloc w o _ E0.lt)
 have n9:∀ o,(binOp .eql 26 (.iface 284 (.pointer (some a14))) (.iface 284 (.pointer (some a9)))).run Tryz.prog (w.alloc o) = .ok (.bool false) (w.alloc o):=fun o=>E14.neq E9 (by decide) (Below.heap_alloc w o _ E14.lt) (Below.heap_alloc w o _ E9.lt)
 have n10:∀ o,(binOp .eql 26 (.iface 284 (.pointer (some a14))) (.iface 284 (.pointer (some a10)))).run Tryz.prog (w.alloc o) = .ok (.bool false) (w.alloc o):=fun o=>E14.neq E10 (by decide) (Below.heap_alloc w o _ E14.lt) (Below.heap_alloc w o _ E10.lt)
 have n11:∀ o,(binOp .eql 26 (.iface 284 (.pointer (some a14))) (.iface 284 (.pointer (some a11)))).run Tryz.prog (w.alloc o) = .ok (.bool false) (w.alloc o):=fun o=>E14.neq E11 (by decide) (Below.heap_alloc w o _ E14.lt) (Below.heap_alloc w o _ E11.lt)
 have n12:∀ o,(binOp .eql 26 (.iface 284 (.pointer (some a14))) (.iface 284 (.pointer (some a12)))).run Tryz.prog (w.alloc o) = .ok (.bool false) (w.alloc o):=fun o=>E14.neq E12 (by decide) (Below.heap_alloc w o _ E14.lt) (Below.heap_alloc w o _ E12.lt)
 have n13:∀ o,(binOp .eql 26 (.iface 284 (.pointer (some a14))) (.iface 284 (.pointer (some a13)))).run Tryz.prog (w.alloc o) = .ok (.bool false) (w.alloc o):=fun o=>E14.neq E13 (by decide) (Below.heap_alloc w o _ E14.lt) (Below.heap_alloc w o _ E13.lt)
 have q:=E14.eq
 clear E0 E1 E2 E3 E4 E5 E6 E7 E8 E9 E10 E11 E12 E13 E14 E15
 go_enter Tryz.func26,Tryz.ntmps26
 go_wp2
 go_loop [27] (fun iv=>iv = .int .i64 0 ∨ iv = .int .i64 1 ∨ iv = .int .i64 2 ∨ iv = .int .i64 3 ∨ iv = .int .i64 4 ∨ iv = .int .i64 5 ∨ iv = .int .i64 6 ∨ iv = .int .i64 7 ∨ iv = .int .i64 8 ∨ iv = .int .i64 9 ∨ iv = .int .i64 10 ∨ iv = .int .i64 11 ∨ iv = .int .i64 12 ∨ iv = .int .i64 13 ∨ iv = .int .i64 14) (fun iv=>16 - (intOf iv).toNat)
 case atStart=>exact .inl rfl
 case round=>
  rcases hrel with rfl | rfl | rfl | rfl | rfl | rfl | rfl | rfl | rfl | rfl | rfl | rfl | rfl | rfl | rfl
  ·go_wp2
   go_round
   case rel=>exact (.inr (.inl rfl))
   case measure=>simp [intOf]
  ·go_wp2
   go_round
   case rel=>exact (.inr (.inr (.inl rfl)))
   case measure=>simp [intOf]
  ·go_wp2
   go_round
   case rel=>exact (.inr (.inr (.inr (.inl rfl))))
   case measure=>simp [intOf]
  ·go_wp2
   go_round
   case rel=>exact (.inr (.inr (.inr (.inr (.inl rfl)))))
   case measure=>simp [intOf]
  ·go_wp2
   go_round
   case rel=>exact (.inr (.inr (.inr (.inr (.inr (.inl rfl))))))
   case measure=>simp [intOf]
  ·go_wp2
   go_round
   case rel=>exact (.inr (.inr (.inr (.inr (.inr (.inr (.inl rfl)))))))
   case measure=>simp [intOf]
  ·go_wp2
   go_round
   case rel=>exact (.inr (.inr (.inr (.inr (.inr (.inr (.inr (.inl rfl))))))))
   case measure=>simp [intOf]
  ·go_wp2
   go_round
   case rel=>exact (.inr (.inr (.inr (.inr (.inr (.inr (.inr (.inr (.inl rfl)))))))))
   case measure=>simp [intOf]
  ·go_wp2
   go_round
   case rel=>exact (.inr (.inr (.inr (.inr (.inr (.inr (.inr (.inr (.inr (.inl rfl))))))))))
   case measure=>simp [intOf]
  ·go_wp2
   go_round
   case rel=>exact (.inr (.inr (.inr (.inr (.inr (.inr (.inr (.inr (.inr (.inr (.inl rfl)))))))))))
   case measure=>simp [intOf]
  ·go_wp2
   go_round
   case rel=>exact (.inr (.inr (.inr (.inr (.inr (.inr (.inr (.inr (.inr (.inr (.inr (.inl rfl))))))))))))
   case measure=>simp [intOf]
  ·go_wp2
   go_round
   case rel=>exact (.inr (.inr (.inr (.inr (.inr (.inr (.inr (.inr (.inr (.inr (.inr (.inr (.inl rfl)))))))))))))
   case measure=>simp [intOf]
  ·go_wp2
   go_round
   case rel=>exact (.inr (.inr (.inr (.inr (.inr (.inr (.inr (.inr (.inr (.inr (.inr (.inr (.inr (.inl rfl))))))))))))))
   case measure=>simp [intOf]
  ·go_wp2
   go_round
   case rel=>exact (.inr (.inr (.inr (.inr (.inr (.inr (.inr (.inr (.inr (.inr (.inr (.inr (.inr (.inr rfl))))))))))))))
   case measure=>simp [intOf]
  ·go_wp2
   go_ret
   exact ⟨rfl,(Below.refl _ _).alloc (Nat.le_refl _) _⟩
set_option maxHeartbeats 6400000 in
theorem errnum_large (w:World) (a:Nat → Addr) (E:Errs w a) :
  Calls Tryz.prog 26 #[.iface 284 (.pointer (some (a 8)))] w fun e w'=>e = .returned (.int .i64 8) ∧ Below w.heap.size w w':=by
 obtain ⟨E0,E1,E2,E3,E4,E5,E6,E7,E8,E9,E10,E11,E12,E13,E14,E15⟩:=E
 generalize a 0 = a0 at *
 generalize a 1 = a1 at *
 generalize a 2 = a2 at *
 generalize a 3 = a3 at *
 generalize a 4 = a4 at *
 generalize a 5 = a5 at *
 generalize a 6 = a6 at *
 generalize a 7 = a7 at *
 generalize a 8 = a8 at *
 generalize a 9 = a9 at *
 generalize a 10 = a10 at *
 generalize a 11 = a11 at *
 generalize a 12 = a12 at *
 generalize a 13 = a13 at *
 generalize a 14 = a14 at *
 generalize a 15 = a15 at *
 have c0:=E0.1
 have c1:=E1.1
 have c2:=E2.1
 have c3:=E3.1
 have c4:=E4.1
 have c5:=E5.1
 have c6:=E6.1
 have c7:=E7.1
 have c8:=E8.1
 have c9:=E9.1
 have c10:=E10.1
 have c11:=E11.1
 have c12:=E12.1
 have c13:=E13.1
 have c14:=E14.1
 have c15:=E15.1
 have n1:∀ o,(binOp .eql 26 (.iface 284 (.pointer (some a8))) (.iface 284 (.pointer (some a1)))).run Tryz.prog (w.alloc o) = .ok (.bool false) (w.alloc o):=fun o=>E8.neq E1 (by decide) (Below.heap_alloc w o _ E8.lt) (Below.heap_alloc w o _ E1.lt)
 have n3:∀ o,(binOp .eql 26 (.iface 284 (.pointer (some a8))) (.iface 284 (.pointer (some a3)))).run Tryz.prog (w.alloc o) = .ok (.bool false) (w.alloc o):=fun o=>E8.neq E3 (by decide) (Below.heap_alloc w o _ E8.lt) (Below.heap_alloc w o _ E3.lt)
 have n4:∀ o,(binOp .eql 26 (.iface 284 (.pointer (some a8))) (.iface 284 (.pointer (some a4)))).run Tryz.prog (w.alloc o) = .ok (.bool false) (w.alloc o):=fun o=>E8.neq E4 (by decide) (Below.heap_alloc w o _ E8.lt) (Below.heap_alloc w o _ E4.lt)
 have n5:∀ o,(binOp .eql 26 (.iface 284 (.pointer (some a8))) (.iface 284 (.pointer (some a5)))).run Tryz.prog (w.alloc o) = .ok (.bool false) (w.alloc o):=fun o=>E8.neq E5 (by decide) (Below.heap_alloc w o _ E8.lt) (Below.heap_alloc w o _ E5.lt)
 have n6:∀ o,(binOp .eql 26 (.iface 284 (.pointer (some a8))) (.iface 284 (.pointer (some a6)))).run Tryz.prog (w.alloc o) = .ok (.bool false) (w.alloc o):=fun o=>E8.neq E6 (by decide) (Below.heap_alloc w o _ E8.lt) (Below.heap_alloc w o _ E6.lt)
 have n7:∀ o,(binOp .eql 26 (.iface 284 (.pointer (some a8))) (.iface 284 (.pointer (some a7)))).run Tryz.prog (w.alloc o) = .ok (.bool false) (w.alloc o):=fun o=>E8.neq E7 (by decide) (Below.heap_alloc w o _ E8.lt) (Below.heap_alloc w o _ E7.lt)
 have n2:∀ o,(binOp .eql 26 (.iface 284 (.pointer (some a8))) (.iface 284 (.pointer (some a2)))).run Tryz.prog (w.alloc o) = .ok (.bool false) (w.alloc o):=fun o=>E8.neq E2 (by decide) (Below.heap_alloc w o _ E8.lt) (Below.heap_alloc w o _ E2.lt)
 have q:=E8.eq
 clear E0 E1 E2 E3 E4 E5 E6 E7 E8 E9 E10 E11 E12 E13 E14 E15
 go_enter Tryz.func26,Tryz.ntmps26
 go_wp2
 go_loop [27] (fun iv=>iv = .int .i64 0 ∨ iv = .int .i64 1 ∨ iv = .int .i64 2 ∨ iv = .int .i64 3 ∨ iv = .int .i64 4 ∨ iv = .int .i64 5 ∨ iv = .int .i64 6 ∨ iv = .int .i64 7) (fun iv=>16 - (intOf iv).toNat)
 case atStart=>exact .inl rfl
 case round=>
  rcases hrel with rfl | rfl | rfl | rfl | rfl | rfl | rfl | rfl
  ·go_wp2
   go_round
   case rel=>exact (.inr (.inl rfl))
   case measure=>simp [intOf]
  ·go_wp2
   go_round
   case rel=>exact (.inr (.inr (.inl rfl)))
   case measure=>simp [intOf]
  ·go_wp2
   go_round
   case rel=>exact (.inr (.inr (.inr (.inl rfl))))
   case measure=>simp [intOf]
  ·go_wp2
   go_round
   case rel=>exact (.inr (.inr (.inr (.inr (.inl rfl)))))
   case measure=>simp [intOf]
  ·go_wp2
   go_round
   case rel=>exact (.inr (.inr (.inr (.inr (.inr (.inl rfl))))))
   case measure=>simp [intOf]
  ·go_wp2
   go_round
   case rel=>exact (.inr (.inr (.inr (.inr (.inr (.inr (.inl rfl)))))))
   case measure=>simp [intOf]
  ·go_wp2
   go_round
   case rel=>exact (.inr (.inr (.inr (.inr (.inr (.inr (.inr rfl)))))))
   case measure=>simp [intOf]
  ·go_wp2
   go_ret
   exact ⟨rfl,(Below.refl _ _).alloc (Nat.le_refl _) _⟩
set_option maxHeartbeats 6400000 in
theorem errnum_state (w:World) (a:Nat → Addr) (E:Errs w a) :
  Calls Tryz.prog 26 #[.iface 284 (.pointer (some (a 15)))] w fun e w'=>e = .returned (.int .i64 16) ∧ Below w.heap.size w w':=by
 obtain ⟨E0,E1,E2,E3,E4,E5,E6,E7,E8,E9,E10,E11,E12,E13,E14,E15⟩:=E
 generalize a 0 = a0 at *
 generalize a 1 = a1 at *
 generalize a 2 = a2 at *
 generalize a 3 = a3 at *
 generalize a 4 = a4 at *
 generalize a 5 = a5 at *
 generalize a 6 = a6 at *
 generalize a 7 = a7 at *
 generalize a 8 = a8 at *
 generalize a 9 = a9 at *
 generalize a 10 = a10 at *
 generalize a 11 = a11 at *
 generalize a 12 = a12 at *
 generalize a 13 = a13 at *
 generalize a 14 = a14 at *
 generalize a 15 = a15 at *
 have c0:=E0.1
 have c1:=E1.1
 have c2:=E2.1
 have c3:=E3.1
 have c4:=E4.1
 have c5:=E5.1
 have c6:=E6.1
 have c7:=E7.1
 have c8:=E8.1
 have c9:=E9.1
 have c10:=E10.1
 have c11:=E11.1
 have c12:=E12.1
 have c13:=E13.1
 have c14:=E14.1
 have c15:=E15.1
 have n1:∀ o,(binOp .eql 26 (.iface 284 (.pointer (some a15))) (.iface 284 (.pointer (some a1)))).run Tryz.prog (w.alloc o) = .ok (.bool false) (w.alloc o):=fun o=>E15.neq E1 (by decide) (Below.heap_alloc w o _ E15.lt) (Below.heap_alloc w o _ E1.lt)
 have n3:∀ o,(binOp .eql 26 (.iface 284 (.pointer (some a15))) (.iface 284 (.pointer (some a3)))).run Tryz.prog (w.alloc o) = .ok (.bool false) (w.alloc o):=fun o=>E15.neq E3 (by decide) (Below.heap_alloc w o _ E15.lt) (Below.heap_alloc w o _ E3.lt)
 have n4:∀ o,(binOp .eql 26 (.iface 284 (.pointer (some a15))) (.iface 284 (.pointer (some a4)))).run Tryz.prog (w.alloc o) = .ok (.bool false) (w.alloc o):=fun o=>E15.neq E4 (by decide) (Below.heap_alloc w o _ E15.lt) (Below.heap_alloc w o _ E4.lt)
 have n5:∀ o,(binOp .eql 26 (.iface 284 (.pointer (some a15))) (.iface 284 (.pointer (some a5)))).run Tryz.prog (w.alloc o) = .ok (.bool false) (w.alloc o):=fun o=>E15.neq E5 (by decide) (Below.heap_alloc w o _ E15.lt) (Below.heap_alloc w o _ E5.lt)
 have n6:∀ o,(binOp .eql 26 (.iface 284 (.pointer (some a15))) (.iface 284 (.pointer (some a6)))).run Tryz.prog (w.alloc o) = .ok (.bool false) (w.alloc o):=fun o=>E15.neq E6 (by decide) (Below.heap_alloc w o _ E15.lt) (Below.heap_alloc w o _ E6.lt)
 have n7:∀ o,(binOp .eql 26 (.iface 284 (.pointer (some a15))) (.iface 284 (.pointer (some a7)))).run Tryz.prog (w.alloc o) = .ok (.bool false) (w.alloc o):=fun o=>E15.neq E7 (by decide) (Below.heap_alloc w o _ E15.lt) (Below.heap_alloc w o _ E7.lt)
 have n2:∀ o,(binOp .eql 26 (.iface 284 (.pointer (some a15))) (.iface 284 (.pointer (some a2)))).run Tryz.prog (w.alloc o) = .ok (.bool false) (w.alloc o):=fun o=>E15.neq E2 (by decide) (Below.heap_alloc w o _ E15.lt) (Below.heap_alloc w o _ E2.lt)
 have n8:∀ o,(binOp .eql 26 (.iface 284 (.pointer (some a15))) (.iface 284 (.pointer (some a8)))).run Tryz.prog (w.alloc o) = .ok (.bool false) (w.alloc o):=fun o=>E15.neq E8 (by decide) (Below.heap_alloc w o _ E15.lt) (Below.heap_alloc w o _ E8.lt)
 have n0:∀ o,(binOp .eql 26 (.iface 284 (.pointer (some a15))) (.iface 284 (.pointer (some a0)))).run Tryz.prog (w.alloc o) = .ok (.bool false) (w.alloc o):=fun o=>E15.neq E0 (by decide) (Below.heap_alloc w o _ E15.lt) (Below.heap_alloc w o _ E0.lt)
 have n9:∀ o,(binOp .eql 26 (.iface 284 (.pointer (some a15))) (.iface 284 (.pointer (some a9)))).run Tryz.prog (w.alloc o) = .ok (.bool false) (w.alloc o):=fun o=>E15.neq E9 (by decide) (Below.heap_alloc w o _ E15.lt) (Below.heap_alloc w o _ E9.lt)
 have n10:∀ o,(binOp .eql 26 (.iface 284 (.pointer (some a15))) (.iface 284 (.pointer (some a10)))).run Tryz.prog (w.alloc o) = .ok (.bool false) (w.alloc o):=fun o=>E15.neq E10 (by decide) (Below.heap_alloc w o _ E15.lt) (Below.heap_alloc w o _ E10.lt)
 have n11:∀ o,(binOp .eql 26 (.iface 284 (.pointer (some a15))) (.iface 284 (.pointer (some a11)))).run Tryz.prog (w.alloc o) = .ok (.bool false) (w.alloc o):=fun o=>E15.neq E11 (by decide) (Below.heap_alloc w o _ E15.lt) (Below.heap_alloc w o _ E11.lt)
 have n12:∀ o,(binOp .eql 26 (.iface 284 (.pointer (some a15))) (.iface 284 (.pointer (some a12)))).run Tryz.prog (w.alloc o) = .ok (.bool false) (w.alloc o):=fun o=>E15.neq E12 (by decide) (Below.heap_alloc w o _ E15.lt) (Below.heap_alloc w o _ E12.lt)
 have n13:∀ o,(binOp .eql 26 (.iface 284 (.pointer (some a15))) (.iface 284 (.pointer (some a13)))).run Tryz.prog (w.alloc o) = .ok (.bool false) (w.alloc o):=fun o=>E15.neq E13 (by decide) (Below.heap_alloc w o _ E15.lt) (Below.heap_alloc w o _ E13.lt)
 have n14:∀ o,(binOp .eql 26 (.iface 284 (.pointer (some a15))) (.iface 284 (.pointer (some a14)))).run Tryz.prog (w.alloc o) = .ok (.bool false) (w.alloc o):=fun o=>E15.neq E14 (by decide) (Below.heap_alloc w o _ E15.lt) (Below.heap_alloc w o _ E14.lt)
 have q:=E15.eq
 clear E0 E1 E2 E3 E4 E5 E6 E7 E8 E9 E10 E11 E12 E13 E14 E15
 go_enter Tryz.func26,Tryz.ntmps26
 go_wp2
 go_loop [27] (fun iv=>iv = .int .i64 0 ∨ iv = .int .i64 1 ∨ iv = .int .i64 2 ∨ iv = .int .i64 3 ∨ iv = .int .i64 4 ∨ iv = .int .i64 5 ∨ iv = .int .i64 6 ∨ iv = .int .i64 7 ∨ iv = .int .i64 8 ∨ iv = .int .i64 9 ∨ iv = .int .i64 10 ∨ iv = .int .i64 11 ∨ iv = .int .i64 12 ∨ iv = .int .i64 13 ∨ iv = .int .i64 14 ∨ iv = .int .i64 15) (fun iv=>16 - (intOf iv).toNat)
 case atStart=>exact .inl rfl
 case round=>
  rcases hrel with rfl | rfl | rfl | rfl | rfl | rfl | rfl | rfl | rfl | rfl | rfl | rfl | rfl | rfl | rfl | rfl
  ·go_wp2
   go_round
   case rel=>exact (.inr (.inl rfl))
   case measure=>simp [intOf]
  ·go_wp2
   go_round
   case rel=>exact (.inr (.inr (.inl rfl)))
   case measure=>simp [intOf]
  ·go_wp2
   go_round
   case rel=>exact (.inr (.inr (.inr (.inl rfl))))
   case measure=>simp [intOf]
  ·go_wp2
   go_round
   case rel=>exact (.inr (.inr (.inr (.inr (.inl rfl)))))
   case measure=>simp [intOf]
  ·go_wp2
   go_round
   case rel=>exact (.inr (.inr (.inr (.inr (.inr (.inl rfl))))))
   case measure=>simp [intOf]
  ·go_wp2
   go_round
   case rel=>exact (.inr (.inr (.inr (.inr (.inr (.inr (.inl rfl)))))))
   case measure=>simp [intOf]
  ·go_wp2
   go_round
   case rel=>exact (.inr (.inr (.inr (.inr (.inr (.inr (.inr (.inl rfl))))))))
   case measure=>simp [intOf]
  ·go_wp2
   go_round
   case rel=>exact (.inr (.inr (.inr (.inr (.inr (.inr (.inr (.inr (.inl rfl)))))))))
   case measure=>simp [intOf]
  ·go_wp2
   go_round
   case rel=>exact (.inr (.inr (.inr (.inr (.inr (.inr (.inr (.inr (.inr (.inl rfl))))))))))
   case measure=>simp [intOf]
  ·go_wp2
   go_round
   case rel=>exact (.inr (.inr (.inr (.inr (.inr (.inr (.inr (.inr (.inr (.inr (.inl rfl)))))))))))
   case measure=>simp [intOf]
  ·go_wp2
   go_round
   case rel=>exact (.inr (.inr (.inr (.inr (.inr (.inr (.inr (.inr (.inr (.inr (.inr (.inl rfl))))))))))))
   case measure=>simp [intOf]
  ·go_wp2
   go_round
   case rel=>exact (.inr (.inr (.inr (.inr (.inr (.inr (.inr (.inr (.inr (.inr (.inr (.inr (.inl rfl)))))))))))))
   case measure=>simp [intOf]
  ·go_wp2
   go_round
   case rel=>exact (.inr (.inr (.inr (.inr (.inr (.inr (.inr (.inr (.inr (.inr (.inr (.inr (.inr (.inl rfl))))))))))))))
   case measure=>simp [intOf]
  ·go_wp2
   go_round
   case rel=>exact (.inr (.inr (.inr (.inr (.inr (.inr (.inr (.inr (.inr (.inr (.inr (.inr (.inr (.inr (.inl rfl)))))))))))))))
   case measure=>simp [intOf]
  ·go_wp2
   go_round
   case rel=>exact (.inr (.inr (.inr (.inr (.inr (.inr (.inr (.inr (.inr (.inr (.inr (.inr (.inr (.inr (.inr rfl)))))))))))))))
   case measure=>simp [intOf]
  ·go_wp2
   go_ret
   exact ⟨rfl,(Below.refl _ _).alloc (Nat.le_refl _) _⟩
set_option maxHeartbeats 6400000 in
theorem errnum_full (w:World) (a:Nat → Addr) (E:Errs w a) :
  Calls Tryz.prog 26 #[.iface 284 (.pointer (some (a 2)))] w fun e w'=>e = .returned (.int .i64 7) ∧ Below w.heap.size w w':=by
 obtain ⟨E0,E1,E2,E3,E4,E5,E6,E7,E8,E9,E10,E11,E12,E13,E14,E15⟩:=E
 generalize a 0 = a0 at *
 generalize a 1 = a1 at *
 generalize a 2 = a2 at *
 generalize a 3 = a3 at *
 generalize a 4 = a4 at *
 generalize a 5 = a5 at *
 generalize a 6 = a6 at *
 generalize a 7 = a7 at *
 generalize a 8 = a8 at *
 generalize a 9 = a9 at *
 generalize a 10 = a10 at *
 generalize a 11 = a11 at *
 generalize a 12 = a12 at *
 generalize a 13 = a13 at *
 generalize a 14 = a14 at *
 generalize a 15 = a15 at *
 have c0:=E0.1
 have c1:=E1.1
 have c2:=E2.1
 have c3:=E3.1
 have c4:=E4.1
 have c5:=E5.1
 have c6:=E6.1
 have c7:=E7.1
 have c8:=E8.1
 have c9:=E9.1
 have c10:=E10.1
 have c11:=E11.1
 have c12:=E12.1
 have c13:=E13.1
 have c14:=E14.1
 have c15:=E15.1
 have n1:∀ o,(binOp .eql 26 (.iface 284 (.pointer (some a2))) (.iface 284 (.pointer (some a1)))).run Tryz.prog (w.alloc o) = .ok (.bool false) (w.alloc o):=fun o=>E2.neq E1 (by decide) (Below.heap_alloc w o _ E2.lt) (Below.heap_alloc w o _ E1.lt)
 have n3:∀ o,(binOp .eql 26 (.iface 284 (.pointer (some a2))) (.iface 284 (.pointer (some a3)))).run Tryz.prog (w.alloc o) = .ok (.bool false) (w.alloc o):=fun o=>E2.neq E3 (by decide) (Below.heap_alloc w o _ E2.lt) (Below.heap_alloc w o _ E3.lt)
 have n4:∀ o,(binOp .eql 26 (.iface 284 (.pointer (some a2))) (.iface 284 (.pointer (some a4)))).run Tryz.prog (w.alloc o) = .ok (.bool false) (w.alloc o):=fun o=>E2.neq E4 (by decide) (Below.heap_alloc w o _ E2.lt) (Below.heap_alloc w o _ E4.lt)
 have n5:∀ o,(binOp .eql 26 (.iface 284 (.pointer (some a2))) (.iface 284 (.pointer (some a5)))).run Tryz.prog (w.alloc o) = .ok (.bool false) (w.alloc o):=fun o=>E2.neq E5 (by decide) (Below.heap_alloc w o _ E2.lt) (Below.heap_alloc w o _ E5.lt)
 have n6:∀ o,(binOp .eql 26 (.iface 284 (.pointer (some a2))) (.iface 284 (.pointer (some a6)))).run Tryz.prog (w.alloc o) = .ok (.bool false) (w.alloc o):=fun o=>E2.neq E6 (by decide) (Below.heap_alloc w o _ E2.lt) (Below.heap_alloc w o _ E6.lt)
 have n7:∀ o,(binOp .eql 26 (.iface 284 (.pointer (some a2))) (.iface 284 (.pointer (some a7)))).run Tryz.prog (w.alloc o) = .ok (.bool false) (w.alloc o):=fun o=>E2.neq E7 (by decide) (Below.heap_alloc w o _ E2.lt) (Below.heap_alloc w o _ E7.lt)
 have q:=E2.eq
 clear E0 E1 E2 E3 E4 E5 E6 E7 E8 E9 E10 E11 E12 E13 E14 E15
 go_enter Tryz.func26,Tryz.ntmps26
 go_wp2
 go_loop [27] (fun iv=>iv = .int .i64 0 ∨ iv = .int .i64 1 ∨ iv = .int .i64 2 ∨ iv = .int .i64 3 ∨ iv = .int .i64 4 ∨ iv = .int .i64 5 ∨ iv = .int .i64 6) (fun iv=>16 - (intOf iv).toNat)
 case atStart=>exact .inl rfl
 case round=>
  rcases hrel with rfl | rfl | rfl | rfl | rfl | rfl | rfl
  ·go_wp2
   go_round
   case rel=>exact (.inr (.inl rfl))
   case measure=>simp [intOf]
  ·go_wp2
   go_round
   case rel=>exact (.inr (.inr (.inl rfl)))
   case measure=>simp [intOf]
  ·go_wp2
   go_round
   case rel=>exact (.inr (.inr (.inr (.inl rfl))))
   case measure=>simp [intOf]
  ·go_wp2
   go_round
   case rel=>exact (.inr (.inr (.inr (.inr (.inl rfl)))))
   case measure=>simp [intOf]
  ·go_wp2
   go_round
   case rel=>exact (.inr (.inr (.inr (.inr (.inr (.inl rfl))))))
   case measure=>simp [intOf]
  ·go_wp2
   go_round
   case rel=>exact (.inr (.inr (.inr (.inr (.inr (.inr rfl))))))
   case measure=>simp [intOf]
  ·go_wp2
   go_ret
   exact ⟨rfl,(Below.refl _ _).alloc (Nat.le_refl _) _⟩
end Go.Proofs.YtihdkgekickohaaGreatDoor
namespace Go.Proofs.YtihdkgekickohaaGreatDoor
open Go.ChangeShapes Go.WideShapes Go.ChangeAt Go.RowKit
set_option maxRecDepth 100000
attribute [local go_sem] World.cell?_alloc_some frozen_alloc_some
theorem num_k {w:World} {a:Nat → Addr} (E:Errs w a) (er:Value) (h:ErK (a 1) (a 14) (a 8) (a 15) (a 2) er):∃ k:Int,∀ W,Below w.heap.size w W → Calls Tryz.prog 26 #[er] W fun e w'=>e = .returned (.int .i64 k) ∧ Below W.heap.size W w':=by
 rcases h with rfl | rfl | rfl | rfl | rfl | rfl
 ·exact ⟨0,fun W _=>(errnum_nil W).mono (fun e w' ⟨h1,h2⟩=>⟨h1,by rw [h2];exact Below.refl _ _⟩)⟩
 ·exact ⟨_,fun W hb=>errnum_number W a (E.late hb)⟩
 ·exact ⟨_,fun W hb=>errnum_ballot W a (E.late hb)⟩
 ·exact ⟨_,fun W hb=>errnum_large W a (E.late hb)⟩
 ·exact ⟨_,fun W hb=>errnum_state W a (E.late hb)⟩
 ·exact ⟨_,fun W hb=>errnum_full W a (E.late hb)⟩
def RI' (w wr:World) (p1 v p2 u j:Nat):Prop:=∃ B1 B2 st,VQ B1 B2 w wr p1 v p2 u 3 1024 511 st (2 * j)
set_option maxHeartbeats 12800000 in
theorem reopens_walk (w:World) (sa:Option Addr) (sc:Nat) (os:List O18) (hs:Scr w (.slice sa os.length sc) os) (a:Nat → Addr) (E:Errs w a) :
  Calls Tryz.prog 7 #[.slice sa os.length sc] w fun e w'=>e = .returned (.bool true) ∧ Below w.heap.size w w':=by
 have HS:=mkHid hs
 have HG:Hid (VErrs w (a 1) (a 14) (a 8) (a 15) (a 2) (a 5) (a 4)):=mkHid ⟨E.cell_number,E.cell_ballot,E.cell_large,E.cell_state,E.cell_full,E.cell_sum,E.cell_bytes⟩
 have HNK:=mkHid (fun er h=>num_k E er h)
 have hol:(os.length:Int) ≤ 9223372036854775807:=by have:=hs.sz;omega
 clear hs E
 generalize a 1 = eN at *
 generalize a 14 = eB at *
 generalize a 8 = eL at *
 generalize a 15 = eS at *
 generalize a 2 = eF at *
 generalize a 5 = eM at *
 generalize a 4 = eY at *
 go_enter Tryz.func7,Tryz.ntmps7
 go_wp2_with (first
  |(go_at_call 8;(refine (valive _ eN eB eL eS eF eM eY HG.out).mono ?_);rintro e w1 ⟨rfl,b1x⟩;have HB1:=mkHid b1x;have HD0:Hid True:=mkHid trivial;clear b1x)
  |(have HD0':=HD0;go_at_call 9;refine (dnew_ok _ 1024 (by omega) (by omega)).mono ?_;rintro e w2 ⟨p1,F1,rfl,hD1,hF1,hb1⟩;have HD1:=mkHid (And.intro hD1 (And.intro (fun k e=>Nat.le_trans HB1.out.size (hF1 k e)) (bt HB1.out hb1)));clear hD1 hF1 hb1 HD0 HD0')
  |(go_at_call 9;refine (dnew_ok _ 1024 (by omega) (by omega)).mono ?_;rintro e w3 ⟨p2,F2,rfl,hD2,hF2,hb2⟩;have HD2:=mkHid (And.intro hD2 (And.intro (fun k e=>Nat.le_trans HD1.out.2.2.size (hF2 k e)) (And.intro (bt HD1.out.2.2 hb2) (And.intro (HD1.out.1.below hb2) (fun i (h1:F1 i) (h2:F2 i)=>(by have:=HD1.out.1.1 i h1;have:=hF2 i h2;omega:False))))));have HF0:Hid True:=mkHid trivial;clear hD2 hF2 hb2)
  |(have HF0':=HF0;go_at_call 16;have HN:=format_v HD2.out.2.2.2.1 HD2.out.2.2.1 HD1.out.2.1 (n:=1024) (s:=511) (by omega) (by omega) (by omega) (by rw [np6_st0];omega) 3 ⟨by omega,by omega⟩ eM eL eY eF eS HG.out.su HG.out.la HG.out.by' HG.out.fu HG.out.st;rw [np6_st0] at HN;(with_reducible refine HN.mono ?_);clear HN;rintro e w4 ⟨v,B1,rfl,s4,g4,k4⟩;have H4:=mkHid (And.intro s4 (And.intro g4 (And.intro k4 (HD2.out.1.kept k4 (fun i e1 e2=>HD2.out.2.2.2.2 i e2 e1)))));clear s4 g4 k4 HF0 HF0')
  |(go_at_call 16;have HN:=format_v H4.out.2.2.2 H4.out.1.low HD2.out.2.1 (n:=1024) (s:=511) (by omega) (by omega) (by omega) (by rw [np6_st0];omega) 3 ⟨by omega,by omega⟩ eM eL eY eF eS HG.out.su HG.out.la HG.out.by' HG.out.fu HG.out.st;rw [np6_st0] at HN;(with_reducible refine HN.mono ?_);clear HN;rintro e w5 ⟨u,B2,rfl,s5,g5,k5⟩;have H5:=mkHid (And.intro s5 (And.intro g5 k5));clear s5 g5 k5))
 have HQ0:Hid (RI' w w5 p1 v p2 u 0):=mkHid (by
  have hd:∀ i,F2 i → ¬ B1 i:=fun i e1 e2=>by
   rcases H4.out.2.1 i e2 with q | q
   ·exact HD2.out.2.2.2.2 i q e1
   ·have:=HD2.out.1.1 i e1;omega
  obtain ⟨c1,c2⟩:=VS.other (B1:=F2) (B1':=B2) H4.out.1 hd HD2.out.2.1 H5.out.2.1 H5.out.2.2
  exact ⟨B1,B2,st0,1,1,1,_,_,_,_,_,_,c1,H5.out.1,fun i e f=>c2 i f e,by omega⟩)
 clear HB1 HD1 HD2 H4 H5
 go_loopw [75,7] (fun iv vv wr=>∃ (j v:Nat),iv = .int .i64 (j:Int) ∧ vv = .pointer (some ⟨v,0,none⟩) ∧ j ≤ os.length ∧ j ≤ 61 ∧ Hid (RI' w wr p1 v p2 u j)) (fun iv _ _=>os.length - (intOf iv).toNat)
 case atStart=>exact ⟨0,v,rfl,rfl,Nat.zero_le _,by omega,HQ0⟩
 case round=>
  clear HQ0
  obtain ⟨j,v',rfl,rfl,hj,hj61,HI⟩:=hrel
  obtain ⟨B1,B2,st,hq⟩:=HI.out
  have HQ0:=mkHid hq
  clear hq HI
  by_cases hlt:j < os.length
  ·obtain ⟨g,off,o,rfl,ho,hat⟩:=HS.out.row.at HQ0.out.low j hlt
   have HIN:=mkHid (HS.out.ins o (List.mem_of_getElem? ho))
   obtain ⟨kd,tn,kp,⟨b1,b2⟩,qa,qc,ps⟩:=o
   have y0:=hat 0 _ (by omega) rfl
   have y1:=hat 1 _ (by omega) rfl
   have y2:=hat 2 _ (by omega) rfl
   have y3:=hat 3 _ (by omega) rfl
   have y4:=hat 4 _ (by omega) rfl
   have y5:=hat 5 _ (by omega) rfl
   simp only [Nat.add_zero] at y0 y1 y2 y3 y4 y5
   have hji:(j:Int) < (os.length:Int):=by omega
   clear hat ho
   by_cases h60:(60:Int) < (j:Int)
   ·go_wp2
    go_ret
    exact ⟨rfl,ba HQ0.out.low _⟩
   have HQ:Hid (VQ B1 B2 w (wr.alloc (oOp kd tn kp b1 b2 qa ps.length qc)) p1 v' p2 u 3 1024 511 st (2 * j)):=mkHid (HQ0.out.below (ba (Below.refl _ wr) _))
   have HO:Hid ((wr.alloc (oOp kd tn kp b1 b2 qa ps.length qc)).heap[wr.heap.size]? = some (oOp kd tn kp b1 b2 qa ps.length qc)):=mkHid (heap_alloc_new wr _)
   have HNO:Hid (¬ B1 wr.heap.size ∧ ¬ B2 wr.heap.size):=mkHid ⟨fun e=>by have:=(HQ0.out.ve.1.lt _ e).2;omega,fun e=>by have:=(HQ0.out.ve.2.lt _ e).2;omega⟩
   clear HQ0
   have hk:kd = 1 ∨ kd = 2 ∨ kd = 3 ∨ ((kd == 1) = false ∧ (kd == 2) = false ∧ (kd == 3) = false):=by simp;omega
   rcases hk with rfl | rfl | rfl | ⟨h1,h2,h3⟩
   ·
    go_wp2_with (first
     |(have HQ':=HQ;go_at_call 17;have HN:=prepare_p HQ.out (b1,b2) (by omega) (by omega) HG.out;(with_reducible refine HN.mono ?_);clear HN;rintro e w1 ⟨er,z1,yy1,rfl,hk,hb,hall⟩;obtain ⟨kk,hkk⟩:=HNK.out er hk;have HNM:=mkHid hkk;have HALL:=mkHid hall;have hz1:=(hb.2 _ (lt_of_heap HO.out) HNO.out.1 HNO.out.2).trans HO.out;obtain ⟨o0,o1,o2,o3,o4,o5⟩:=op_cells hz1;clear o0 o1 o2 o5 hz1;clear hk hb hall hkk HQ HQ')
     |(go_at_call 17;have HN:=HALL.out (w1.alloc (oB z1)) (ba (Below.refl _ w1) _);(with_reducible refine HN.mono ?_);clear HN;rintro e w2 ⟨z2,yy2,rfl,hfr,B3,B4,st3,q3⟩;have HQ1:=mkHid (q3.below (ba (Below.refl _ w2) (oB z2)));have hz:=(hfr _ (lt_of_heap HO.out) HNO.out.1 HNO.out.2).trans HO.out;have HO1:=mkHid ((heap_alloc_old w2 (oB z2) (lt_of_heap hz)).trans hz);clear hfr q3 hz)
     |(go_at_call 26;have HN:=HNM.out _ HQ1.out.low;(with_reducible refine HN.mono ?_);clear HN;rintro e w5 ⟨rfl,b5⟩;have HQ2:=mkHid (HQ1.out.below b5);have HO2:=mkHid ((b5.block _ (lt_of_heap HO1.out)).trans HO1.out);clear HQ1 HO1 b5;have HQ1:=HQ2;have HO1:=HO2;clear HQ2 HO2;obtain ⟨o0,o1,o2,o3,o4,o5⟩:=op_cells HO1.out;clear o0 o3 o4 o5)
     |(go_at_call 20;have HN:=crash_p HQ1.out kp tn;(with_reducible refine HN.mono ?_);clear HN;rintro e w6 ⟨rfl,q6⟩;have HQ2:=mkHid q6;clear HQ1 q6;have HQ1:=HQ2;clear HQ2)
     |(go_at_call 21;have HN:=open_p HQ1.out ⟨by omega,by omega⟩ (by omega) (by omega) HG.out;(with_reducible refine HN.mono ?_);clear HN;rintro e w7 ⟨v7,B7,rfl,q7⟩;have HQ7:=mkHid q7;have HV7:=mkHid (And.intro q7.ve q7.ok);have HT:=mkHid trivial;clear q7 HQ1)
     |(have HT':=HT;go_at_call 22;have HN:=HV7.out.1.1.acc;(with_reducible refine HN.mono ?_);clear HN;rintro e w8 ⟨a8,c8,q8,rfl,l8,f8,b8⟩;have H8:=mkHid (And.intro l8 (And.intro f8 b8));clear l8 f8 b8 HT HT')
     |(go_at_call 22;have HN:=(HV7.out.1.2.below (ba H8.out.2.2 (oB st3.a))).acc;(with_reducible refine HN.mono ?_);clear HN;rintro e w9 ⟨a9,c9,q9,rfl,l9,f9,b9⟩;have H9:=mkHid (And.intro l9 (And.intro f9 b9));have HC9:Hid (Below w7.heap.size w7 (w9.alloc (oB st3.a))):=mkHid (ba (bt (ba H8.out.2.2 (oB st3.a)) b9) _);have HX9:Hid (w9.heap[w8.heap.size]? = some (oB st3.a)):=mkHid (box_late b9);have HP:=mkHid trivial;clear l9 f9 b9)
     |(have HP':=HP;go_at_call 23;have HN:=(HV7.out.1.1.below HC9.out).pro;(with_reducible refine HN.mono ?_);clear HN;rintro e w10 ⟨rfl,b10⟩;have H10:Hid (Below (w9.alloc (oB st3.a)).heap.size (w9.alloc (oB st3.a)) w10):=mkHid b10;clear b10 HP HP')
     |(go_at_call 23;have HN:=(HV7.out.1.2.below (bt HC9.out H10.out)).pro;(with_reducible refine HN.mono ?_);clear HN;rintro e w11 ⟨rfl,b11⟩;have H11:Hid (Below (w9.alloc (oB st3.a)).heap.size (w9.alloc (oB st3.a)) w11):=mkHid (bt H10.out b11);obtain ⟨z0,z1⟩:=two_cells ((H11.out.block w8.heap.size (by have:=lt_of_heap HX9.out;simp;omega)).trans ((heap_alloc_old _ _ (lt_of_heap HX9.out)).trans HX9.out));obtain ⟨z2,z3⟩:=two_cells (box_late H11.out);have hnp:=fun W=>neq_same W st3.p.1 st3.p.2;have hna:=fun W=>neq_same W st3.a.1 st3.a.2;clear b11)
     |(go_at_call 24;have HN:=sameL_yes w11 (.slice a8 q8.length c8) (.slice a9 q9.length c9) q8 q9 ((H8.out.1.below (bt (bt (ba (Below.refl _ w8) (oB st3.a)) H9.out.2.2) (bt (ba (Below.refl _ w9) (oB st3.a)) H11.out))).ens' H8.out.2.1 HV7.out.2) ((H9.out.1.below (bt (ba (Below.refl _ w9) (oB st3.a)) H11.out)).ens' H9.out.2.1 HV7.out.2) (H8.out.2.1.trans H9.out.2.1.symm);(refine HN.mono ?_);clear HN;rintro e w12 ⟨rfl,b12⟩;have H12:=mkHid (bt H11.out b12);clear b12 z0 z1 z2 z3))
    all_goals
     go_roundw
     case rel=>exact ⟨j + 1,v7,by go_num,rfl,by omega,by omega,mkHid (by unfold RI';rw [show 2 * (j + 1) = 2 * j + 1 + 1 by omega];exact ⟨_,_,_,HQ7.out.below (bt HC9.out H12.out)⟩)⟩
     case measure=>simp [intOf];omega
   ·
    obtain ⟨o0,o1,o2,o3,o4,o5⟩:=op_cells HO.out
    clear o0 o1 o2
    go_wp2
    have HQD:=mkHid (HQ.out.below (Below.refl _ (wr.alloc (oOp 2 tn kp b1 b2 qa ps.length qc))).drew)
    refine wp_region_held_drew (S:=fun w'=>w'.cell? ⟨wr.heap.size,3,none⟩ = some (.int .i64 b1) ∧ w'.cell? ⟨wr.heap.size,4,none⟩ = some (.int .i64 b2) ∧ w'.cell? ⟨wr.heap.size,5,none⟩ = some (.slice qa ps.length qc)) (by kernel_rfl) ⟨o3,o4,o5⟩ (fun hHeld=>?_)
    refine tkE 0 109 (.pointer (some ⟨v',0,none⟩)) rfl rfl hHeld ?_
    (try simp only [List.set_cons_zero,List.set_cons_succ])
    refine tkE 1 110 (.pointer (some ⟨wr.heap.size,3,none⟩)) rfl rfl hHeld ?_
    (try simp only [List.set_cons_zero,List.set_cons_succ])
    refine tkE 2 111 (.agg #[.int .i64 b1,.int .i64 b2]) rfl rfl hHeld ?_
    (try simp only [List.set_cons_zero,List.set_cons_succ])
    refine tkE 3 112 (.pointer (some ⟨wr.heap.size,5,none⟩)) rfl rfl hHeld ?_
    (try simp only [List.set_cons_zero,List.set_cons_succ])
    refine tkE 4 113 (.slice qa ps.length qc) rfl rfl hHeld ?_
    (try simp only [List.set_cons_zero,List.set_cons_succ])
    refine tkE 7 116 (.pointer (some ⟨u,0,none⟩)) rfl rfl hHeld ?_
    (try simp only [List.set_cons_zero,List.set_cons_succ])
    refine tkE 8 117 (.pointer (some ⟨wr.heap.size,3,none⟩)) rfl rfl hHeld ?_
    (try simp only [List.set_cons_zero,List.set_cons_succ])
    refine tkE 9 118 (.agg #[.int .i64 b1,.int .i64 b2]) rfl rfl hHeld ?_
    (try simp only [List.set_cons_zero,List.set_cons_succ])
    refine tkE 10 119 (.pointer (some ⟨wr.heap.size,5,none⟩)) rfl rfl hHeld ?_
    (try simp only [List.set_cons_zero,List.set_cons_succ])
    refine tkE 11 120 (.slice qa ps.length qc) rfl rfl hHeld ?_
    (try simp only [List.set_cons_zero,List.set_cons_succ])
    refine wpAnyH_ready (rs:=[5]) (by kernel_rfl) (by simp) (AllReadyH.cons rfl (fun K hK=>?_) AllReadyH.nil)
    go_simp
    refine (accept_p HQD.out (b1,b2) qa qc ps HIN.out.en HIN.out.lc (by omega) (by omega) HG.out).mono ?_
    rintro e w1 ⟨er,rfl,hk,hb,hall⟩
    obtain ⟨kk,hkk⟩:=HNK.out er hk
    have HNM:=mkHid hkk
    have HALL:=mkHid hall
    have HBW:=mkHid hb.1
    have hz1:=(hb.2 _ (lt_of_heap HO.out) HNO.out.1 HNO.out.2).trans HO.out
    have HZ1:=mkHid hz1
    clear hk hb hall hkk hz1 hHeld o3 o4 o5
    obtain ⟨o0,o1,o2,o3,o4,o5⟩:=op_cells HZ1.out
    clear o0 o1 o2
    refine hK.out _ _ ⟨o3,o4,o5⟩ (fun hHeld=>?_)
    clear hK K
    (try simp only [Act.put])
    refine wpAnyH_ready (rs:=[6]) (by kernel_rfl) (by simp) (AllReadyH.cons rfl (fun K hK=>?_) AllReadyH.nil)
    go_simp
    refine (HNM.out w1 HBW.out).mono ?_
    rintro e wN ⟨rfl,bN⟩
    have HBN:=mkHid bN
    clear bN hHeld
    have q3:=kc o3 HBN.out
    have q4:=kc o4 HBN.out
    have q5:=kc o5 HBN.out
    refine hK.out _ _ ⟨q3,q4,q5⟩ (fun hHeld=>?_)
    clear hK K
    (try simp only [Act.put])
    refine wpAnyH_ready (rs:=[12]) (by kernel_rfl) (by simp) (AllReadyH.cons rfl (fun K hK=>?_) AllReadyH.nil)
    go_simp
    refine (HALL.out wN HBN.out).mono ?_
    rintro e w2 ⟨rfl,hfr,B3,B4,st3,q6⟩
    have HQ1:=mkHid q6
    have hz:=(hfr _ (lt_of_heap HO.out) HNO.out.1 HNO.out.2).trans HO.out
    have HO1:=mkHid hz
    clear hfr q6 hz hHeld q3 q4 q5 o3 o4 o5
    obtain ⟨o0,o1,o2,o3,o4,o5⟩:=op_cells HO1.out
    clear o0 o1 o2
    refine hK.out _ _ ⟨o3,o4,o5⟩ (fun hHeld=>?_)
    clear hK K
    (try simp only [Act.put])
    refine wpAnyH_ready (rs:=[13]) (by kernel_rfl) (by simp) (AllReadyH.cons rfl (fun K hK=>?_) AllReadyH.nil)
    go_simp
    refine (HNM.out w2 HQ1.out.low).mono ?_
    rintro e w5 ⟨rfl,b5⟩
    have HQ2:=mkHid (HQ1.out.below b5)
    have HO2:=mkHid ((b5.block _ (lt_of_heap HO1.out)).trans HO1.out)
    have q3:=kc o3 b5
    have q4:=kc o4 b5
    have q5:=kc o5 b5
    clear HQ1 HO1 b5 hHeld o3 o4 o5
    have HQ1:=HQ2
    have HO1:=HO2
    clear HQ2 HO2
    refine hK.out _ _ ⟨q3,q4,q5⟩ (fun hHeld=>?_)
    clear hK K
    (try simp only [Act.put])
    refine tkE 14 123 (.bool false) rfl rfl hHeld ?_
    (try simp only [List.set_cons_zero,List.set_cons_succ])
    refine wpAnyH_done (by kernel_rfl) ?_ _
    clear hHeld q3 q4 q5
    obtain ⟨o0,o1,o2,o3,o4,o5⟩:=op_cells HO1.out
    clear o0 o3 o4 o5
    go_wp2_with (first
     |(go_at_call 20;have HN:=crash_p HQ1.out kp tn;(with_reducible refine HN.mono ?_);clear HN;rintro e w6 ⟨rfl,q6⟩;have HQ2:=mkHid q6;clear HQ1 q6;have HQ1:=HQ2;clear HQ2)
     |(go_at_call 21;have HN:=open_p HQ1.out ⟨by omega,by omega⟩ (by omega) (by omega) HG.out;(with_reducible refine HN.mono ?_);clear HN;rintro e w7 ⟨v7,B7,rfl,q7⟩;have HQ7:=mkHid q7;have HV7:=mkHid (And.intro q7.ve q7.ok);have HT:=mkHid trivial;clear q7 HQ1)
     |(have HT':=HT;go_at_call 22;have HN:=HV7.out.1.1.acc;(with_reducible refine HN.mono ?_);clear HN;rintro e w8 ⟨a8,c8,q8,rfl,l8,f8,b8⟩;have H8:=mkHid (And.intro l8 (And.intro f8 b8));clear l8 f8 b8 HT HT')
     |(go_at_call 22;have HN:=(HV7.out.1.2.below (ba H8.out.2.2 (oB st3.a))).acc;(with_reducible refine HN.mono ?_);clear HN;rintro e w9 ⟨a9,c9,q9,rfl,l9,f9,b9⟩;have H9:=mkHid (And.intro l9 (And.intro f9 b9));have HC9:Hid (Below w7.heap.size w7 (w9.alloc (oB st3.a))):=mkHid (ba (bt (ba H8.out.2.2 (oB st3.a)) b9) _);have HX9:Hid (w9.heap[w8.heap.size]? = some (oB st3.a)):=mkHid (box_late b9);have HP:=mkHid trivial;clear l9 f9 b9)
     |(have HP':=HP;go_at_call 23;have HN:=(HV7.out.1.1.below HC9.out).pro;(with_reducible refine HN.mono ?_);clear HN;rintro e w10 ⟨rfl,b10⟩;have H10:Hid (Below (w9.alloc (oB st3.a)).heap.size (w9.alloc (oB st3.a)) w10):=mkHid b10;clear b10 HP HP')
     |(go_at_call 23;have HN:=(HV7.out.1.2.below (bt HC9.out H10.out)).pro;(with_reducible refine HN.mono ?_);clear HN;rintro e w11 ⟨rfl,b11⟩;have H11:Hid (Below (w9.alloc (oB st3.a)).heap.size (w9.alloc (oB st3.a)) w11):=mkHid (bt H10.out b11);obtain ⟨z0,z1⟩:=two_cells ((H11.out.block w8.heap.size (by have:=lt_of_heap HX9.out;simp;omega)).trans ((heap_alloc_old _ _ (lt_of_heap HX9.out)).trans HX9.out));obtain ⟨z2,z3⟩:=two_cells (box_late H11.out);have hnp:=fun W=>neq_same W st3.p.1 st3.p.2;have hna:=fun W=>neq_same W st3.a.1 st3.a.2;clear b11)
     |(go_at_call 24;have HN:=sameL_yes w11 (.slice a8 q8.length c8) (.slice a9 q9.length c9) q8 q9 ((H8.out.1.below (bt (bt (ba (Below.refl _ w8) (oB st3.a)) H9.out.2.2) (bt (ba (Below.refl _ w9) (oB st3.a)) H11.out))).ens' H8.out.2.1 HV7.out.2) ((H9.out.1.below (bt (ba (Below.refl _ w9) (oB st3.a)) H11.out)).ens' H9.out.2.1 HV7.out.2) (H8.out.2.1.trans H9.out.2.1.symm);(refine HN.mono ?_);clear HN;rintro e w12 ⟨rfl,b12⟩;have H12:=mkHid (bt H11.out b12);clear b12 z0 z1 z2 z3))
    all_goals
     go_roundw
     case rel=>exact ⟨j + 1,v7,by go_num,rfl,by omega,by omega,mkHid (by unfold RI';rw [show 2 * (j + 1) = 2 * j + 1 + 1 by omega];exact ⟨_,_,_,HQ7.out.below (bt HC9.out H12.out)⟩)⟩
     case measure=>simp [intOf];omega
   ·
    go_wp2_with (first
     |(have HQ':=HQ;go_at_call 19;have HN:=claim_p HQ.out (b1,b2) (by omega) (by omega) HG.out;(with_reducible refine HN.mono ?_);clear HN;rintro e w1 ⟨er,z1,rfl,hk,hb,hall⟩;obtain ⟨kk,hkk⟩:=HNK.out er hk;have HNM:=mkHid hkk;have HALL:=mkHid hall;have hz1:=(hb.2 _ (lt_of_heap HO.out) HNO.out.1 HNO.out.2).trans HO.out;obtain ⟨o0,o1,o2,o3,o4,o5⟩:=op_cells hz1;clear o0 o1 o2 o5 hz1;clear hk hb hall hkk HQ HQ')
     |(go_at_call 19;have HN:=HALL.out (w1.alloc (oB z1)) (ba (Below.refl _ w1) _);(with_reducible refine HN.mono ?_);clear HN;rintro e w2 ⟨rfl,hfr,hk2,hlt2,B3,B4,st3,q3⟩;have HQ1:=mkHid (q3.below (ba (Below.refl _ w2) (oB z1)));have hz:=(hfr _ (lt_of_heap HO.out) HNO.out.1 HNO.out.2).trans HO.out;have HO1:=mkHid ((heap_alloc_old w2 (oB z1) (lt_of_heap hz)).trans hz);obtain ⟨k0,k1⟩:=two_cells ((hk2.block w1.heap.size (by simp) (fun e=>(by have:=hlt2 _ e;omega))).trans (heap_alloc_new w1 (oB z1)));have hnz:=fun W=>neq_same W z1.1 z1.2;clear hfr q3 hz hk2 hlt2)
     |(go_at_call 26;have HN:=HNM.out _ HQ1.out.low;(with_reducible refine HN.mono ?_);clear HN;rintro e w5 ⟨rfl,b5⟩;have HQ2:=mkHid (HQ1.out.below b5);have HO2:=mkHid ((b5.block _ (lt_of_heap HO1.out)).trans HO1.out);clear HQ1 HO1 b5;have HQ1:=HQ2;have HO1:=HO2;clear HQ2 HO2;obtain ⟨o0,o1,o2,o3,o4,o5⟩:=op_cells HO1.out;clear o0 o3 o4 o5)
     |(go_at_call 20;have HN:=crash_p HQ1.out kp tn;(with_reducible refine HN.mono ?_);clear HN;rintro e w6 ⟨rfl,q6⟩;have HQ2:=mkHid q6;clear HQ1 q6;have HQ1:=HQ2;clear HQ2)
     |(go_at_call 21;have HN:=open_p HQ1.out ⟨by omega,by omega⟩ (by omega) (by omega) HG.out;(with_reducible refine HN.mono ?_);clear HN;rintro e w7 ⟨v7,B7,rfl,q7⟩;have HQ7:=mkHid q7;have HV7:=mkHid (And.intro q7.ve q7.ok);have HT:=mkHid trivial;clear q7 HQ1)
     |(have HT':=HT;go_at_call 22;have HN:=HV7.out.1.1.acc;(with_reducible refine HN.mono ?_);clear HN;rintro e w8 ⟨a8,c8,q8,rfl,l8,f8,b8⟩;have H8:=mkHid (And.intro l8 (And.intro f8 b8));clear l8 f8 b8 HT HT')
     |(go_at_call 22;have HN:=(HV7.out.1.2.below (ba H8.out.2.2 (oB st3.a))).acc;(with_reducible refine HN.mono ?_);clear HN;rintro e w9 ⟨a9,c9,q9,rfl,l9,f9,b9⟩;have H9:=mkHid (And.intro l9 (And.intro f9 b9));have HC9:Hid (Below w7.heap.size w7 (w9.alloc (oB st3.a))):=mkHid (ba (bt (ba H8.out.2.2 (oB st3.a)) b9) _);have HX9:Hid (w9.heap[w8.heap.size]? = some (oB st3.a)):=mkHid (box_late b9);have HP:=mkHid trivial;clear l9 f9 b9)
     |(have HP':=HP;go_at_call 23;have HN:=(HV7.out.1.1.below HC9.out).pro;(with_reducible refine HN.mono ?_);clear HN;rintro e w10 ⟨rfl,b10⟩;have H10:Hid (Below (w9.alloc (oB st3.a)).heap.size (w9.alloc (oB st3.a)) w10):=mkHid b10;clear b10 HP HP')
     |(go_at_call 23;have HN:=(HV7.out.1.2.below (bt HC9.out H10.out)).pro;(with_reducible refine HN.mono ?_);clear HN;rintro e w11 ⟨rfl,b11⟩;have H11:Hid (Below (w9.alloc (oB st3.a)).heap.size (w9.alloc (oB st3.a)) w11):=mkHid (bt H10.out b11);obtain ⟨z0,z1⟩:=two_cells ((H11.out.block w8.heap.size (by have:=lt_of_heap HX9.out;simp;omega)).trans ((heap_alloc_old _ _ (lt_of_heap HX9.out)).trans HX9.out));obtain ⟨z2,z3⟩:=two_cells (box_late H11.out);have hnp:=fun W=>neq_same W st3.p.1 st3.p.2;have hna:=fun W=>neq_same W st3.a.1 st3.a.2;clear b11)
     |(go_at_call 24;have HN:=sameL_yes w11 (.slice a8 q8.length c8) (.slice a9 q9.length c9) q8 q9 ((H8.out.1.below (bt (bt (ba (Below.refl _ w8) (oB st3.a)) H9.out.2.2) (bt (ba (Below.refl _ w9) (oB st3.a)) H11.out))).ens' H8.out.2.1 HV7.out.2) ((H9.out.1.below (bt (ba (Below.refl _ w9) (oB st3.a)) H11.out)).ens' H9.out.2.1 HV7.out.2) (H8.out.2.1.trans H9.out.2.1.symm);(refine HN.mono ?_);clear HN;rintro e w12 ⟨rfl,b12⟩;have H12:=mkHid (bt H11.out b12);clear b12 z0 z1 z2 z3))
    all_goals
     go_roundw
     case rel=>exact ⟨j + 1,v7,by go_num,rfl,by omega,by omega,mkHid (by unfold RI';rw [show 2 * (j + 1) = 2 * j + 1 + 1 by omega];exact ⟨_,_,_,HQ7.out.below (bt HC9.out H12.out)⟩)⟩
     case measure=>simp [intOf];omega
   ·
    have HQ1:Hid (VQ B1 B2 w (wr.alloc (oOp kd tn kp b1 b2 qa ps.length qc)) p1 v' p2 u 3 1024 511 st (2 * j + 1)):=mkHid HQ.out.up
    obtain ⟨o0,o1,o2,o3,o4,o5⟩:=op_cells HO.out
    go_wp2_with (first
     |(go_at_call 20;have HN:=crash_p HQ1.out kp tn;(with_reducible refine HN.mono ?_);clear HN;rintro e w6 ⟨rfl,q6⟩;have HQ2:=mkHid q6;clear HQ1 q6;have HQ1:=HQ2;clear HQ2)
     |(go_at_call 21;have HN:=open_p HQ1.out ⟨by omega,by omega⟩ (by omega) (by omega) HG.out;(with_reducible refine HN.mono ?_);clear HN;rintro e w7 ⟨v7,B7,rfl,q7⟩;have HQ7:=mkHid q7;have HV7:=mkHid (And.intro q7.ve q7.ok);have HT:=mkHid trivial;clear q7 HQ1)
     |(have HT':=HT;go_at_call 22;have HN:=HV7.out.1.1.acc;(with_reducible refine HN.mono ?_);clear HN;rintro e w8 ⟨a8,c8,q8,rfl,l8,f8,b8⟩;have H8:=mkHid (And.intro l8 (And.intro f8 b8));clear l8 f8 b8 HT HT')
     |(go_at_call 22;have HN:=(HV7.out.1.2.below (ba H8.out.2.2 (oB st.a))).acc;(with_reducible refine HN.mono ?_);clear HN;rintro e w9 ⟨a9,c9,q9,rfl,l9,f9,b9⟩;have H9:=mkHid (And.intro l9 (And.intro f9 b9));have HC9:Hid (Below w7.heap.size w7 (w9.alloc (oB st.a))):=mkHid (ba (bt (ba H8.out.2.2 (oB st.a)) b9) _);have HX9:Hid (w9.heap[w8.heap.size]? = some (oB st.a)):=mkHid (box_late b9);have HP:=mkHid trivial;clear l9 f9 b9)
     |(have HP':=HP;go_at_call 23;have HN:=(HV7.out.1.1.below HC9.out).pro;(with_reducible refine HN.mono ?_);clear HN;rintro e w10 ⟨rfl,b10⟩;have H10:Hid (Below (w9.alloc (oB st.a)).heap.size (w9.alloc (oB st.a)) w10):=mkHid b10;clear b10 HP HP')
     |(go_at_call 23;have HN:=(HV7.out.1.2.below (bt HC9.out H10.out)).pro;(with_reducible refine HN.mono ?_);clear HN;rintro e w11 ⟨rfl,b11⟩;have H11:Hid (Below (w9.alloc (oB st.a)).heap.size (w9.alloc (oB st.a)) w11):=mkHid (bt H10.out b11);obtain ⟨z0,z1⟩:=two_cells ((H11.out.block w8.heap.size (by have:=lt_of_heap HX9.out;simp;omega)).trans ((heap_alloc_old _ _ (lt_of_heap HX9.out)).trans HX9.out));obtain ⟨z2,z3⟩:=two_cells (box_late H11.out);have hnp:=fun W=>neq_same W st.p.1 st.p.2;have hna:=fun W=>neq_same W st.a.1 st.a.2;clear b11)
     |(go_at_call 24;have HN:=sameL_yes w11 (.slice a8 q8.length c8) (.slice a9 q9.length c9) q8 q9 ((H8.out.1.below (bt (bt (ba (Below.refl _ w8) (oB st.a)) H9.out.2.2) (bt (ba (Below.refl _ w9) (oB st.a)) H11.out))).ens' H8.out.2.1 HV7.out.2) ((H9.out.1.below (bt (ba (Below.refl _ w9) (oB st.a)) H11.out)).ens' H9.out.2.1 HV7.out.2) (H8.out.2.1.trans H9.out.2.1.symm);(refine HN.mono ?_);clear HN;rintro e w12 ⟨rfl,b12⟩;have H12:=mkHid (bt H11.out b12);clear b12 z0 z1 z2 z3))
    all_goals
     go_roundw
     case rel=>exact ⟨j + 1,v7,by go_num,rfl,by omega,by omega,mkHid (by unfold RI';rw [show 2 * (j + 1) = 2 * j + 1 + 1 by omega];exact ⟨_,_,_,HQ7.out.below (bt HC9.out H12.out)⟩)⟩
     case measure=>simp [intOf];omega
  ·obtain rfl:j = os.length:=by omega
   go_wp2
   go_ret
   exact ⟨rfl,HQ0.out.low⟩
end Go.Proofs.YtihdkgekickohaaGreatDoor
