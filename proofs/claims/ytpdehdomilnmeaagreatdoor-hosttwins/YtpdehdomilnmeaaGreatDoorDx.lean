import Derived.Test.YtpdehdomilnmeaaGreatDoorDm2
import Derived.Test.YtpdehdomilnmeaaGreatDoorErrNum8
namespace Go.Proofs.YtpdehdomilnmeaaGreatDoor
open Go.ChangeShapes Go.WideShapes Go.ChangeAt Go.RowKit
set_option maxRecDepth 100000
attribute [local go_sem] World.cell?_alloc_some fAs
def ev (a:Nat->Addr) (n:Int):Value:=if n=10 then vE (a 9) else if n=7 then vE (a 6) else if n=11 then vE (a 10) else if n=1 then vE (a 0) else .nilIface
structure Er3 (w:World) (a:Nat->Addr):Prop where
 cell_server:w.cell? ⟨9,0,none⟩=some (vE (a 9))
 cell_full:w.cell? ⟨6,0,none⟩=some (vE (a 6))
 cell_number:w.cell? ⟨0,0,none⟩=some (vE (a 0))
structure Er4 (w:World) (a:Nat->Addr):Prop where
 er3:Er3 w a
 cell_task:w.cell? ⟨10,0,none⟩=some (vE (a 10))
theorem Er3.late {w w':World} {a:Nat->Addr} (h:Er3 w a) (hb:Below w.heap.size w w'):Er3 w' a:=⟨kc h.1 hb,kc h.2 hb,kc h.3 hb⟩
theorem Er4.late {w w':World} {a:Nat->Addr} (h:Er4 w a) (hb:Below w.heap.size w w'):Er4 w' a:=⟨h.1.late hb,kc h.2 hb⟩
theorem dsdem_ok (w:World) (v:Value) (xs:List Sv) (l:Int) (h:Svs w v xs) (hx:∀ x ∈ xs,okS x) (hn:xs.length<=8) (l0:0<=l) (l1:l<=1099511627776) :
  Calls Tryz.prog 177 #[v,.int .i64 l] w fun e w'=>e=.returned (.tuple #[.int .i64 (tot (sdem · l) xs),.nilIface])/\Below w.heap.size w w':=by
 have H1:=mH (chk_any w v xs l h hx hn .nilIface (fun W _=>len_ok W l l0 l1))
 have H2:Hid (∀ W,Below w.heap.size w W->Calls Tryz.prog 181 #[v,.int .i64 l,.func (.func 191) #[] #[]] W fun e w'=>e=.returned (.int .i64 (tot (sdem · l) xs))/\Below W.heap.size W w'):=mH (fun W hb=>tot_sdem W v xs l (h.below hb) hx hn l0 l1)
 clear h hx
 generalize tot (sdem · l) xs=N at *
 go_enter Tryz.func177,Tryz.ntmps177
 go_wp2_with (first
  |(go_at_call 180;refine H1.out.mono ?_;rintro e w1 ⟨rfl,b1⟩;have HB1:=mH b1;clear b1)
  |(go_at_call 181;refine(H2.out _ HB1.out).mono ?_;rintro e w2 ⟨rfl,b2⟩;have HB2:=mH (bt HB1.out b2);clear b2))
 go_ret2
 exact⟨rfl,HB2.out⟩
theorem dsreq_ok (w:World) (v:Value) (xs:List Sv) (l:Int) (h:Svs w v xs) (hx:∀ x ∈ xs,okS x) (hn:xs.length<=8) (l0:0<=l) (l1:l<=1099511627776) :
  Calls Tryz.prog 167 #[v,.int .i64 l] w fun e w'=>e=.returned (.tuple #[.int .i64 (tot (sreq · l) xs),.nilIface])/\Below w.heap.size w w':=by
 have H1:=mH (chk_any w v xs l h hx hn .nilIface (fun W _=>len_ok W l l0 l1))
 have H2:Hid (∀ W,Below w.heap.size w W->Calls Tryz.prog 181 #[v,.int .i64 l,.func (.func 182) #[] #[]] W fun e w'=>e=.returned (.int .i64 (tot (sreq · l) xs))/\Below W.heap.size W w'):=mH (fun W hb=>tot_sreq W v xs l (h.below hb) hx hn l0 l1)
 clear h hx
 generalize tot (sreq · l) xs=N at *
 go_enter Tryz.func167,Tryz.ntmps167
 go_wp2_with (first
  |(go_at_call 180;refine H1.out.mono ?_;rintro e w1 ⟨rfl,b1⟩;have HB1:=mH b1;clear b1)
  |(go_at_call 181;refine(H2.out _ HB1.out).mono ?_;rintro e w2 ⟨rfl,b2⟩;have HB2:=mH (bt HB1.out b2);clear b2))
 go_ret2
 exact⟨rfl,HB2.out⟩
set_option maxHeartbeats 1600000 in
theorem bdl_is (w:World) (v:Value) (xs:List Tk) (l:Int) (h:Tks w v xs) (hx:∀ x ∈ xs,okT x) :
  Calls Tryz.prog 203 #[v,.int .i64 l] w fun e w'=>e=.returned (.int .i64 (bdl l xs))/\Below w.heap.size w w':=by
 obtain⟨a0,cap,rfl,hl,h9⟩:=id h
 have HS:=mH h
 have HX:=mH hx
 clear h hx h9
 go_enter Tryz.func203,Tryz.ntmps203
 go_wp2
 go_loopw [5,10] (fun nv iv wr=>∃ (j:Nat) (N:Int),nv=.int .i64 N/\iv=.int .i64 (j:Int)/\j<=xs.length/\Hid (bdl l (xs.take j)=N)/\Hid (Below w.heap.size w wr)) (fun _ iv _=>xs.length - (intOf iv).toNat)
 case atStart=>exact⟨0,0,rfl,rfl,Nat.zero_le _,mH rfl,mH (Below.refl _ _)⟩
 case round=>
  obtain⟨j,N,rfl,rfl,hj,HN,HB⟩:=hrel
  by_cases hlt:j < xs.length
  ·obtain⟨b,off,c,p,d,s,rfl,hxj,c0,c1,c2,c3⟩:=HS.out.at HB.out j hlt
   have hji:(j:Int) < xs.length:=by omega
   obtain⟨o1,o2,o3,o4,o5,o6⟩:=HX.out _ (List.mem_of_getElem? hxj)
   simp only at o1 o2 o3 o4 o5 o6
   have HM:=mH (bdl_take (l:=l) hxj)
   have hN:=bdl_bounds l (xs.take j) (fun x hm=>HX.out x (List.mem_of_mem_take hm))
   rw [HN.out] at hN HM
   simp only at HM
   obtain⟨n0,n1⟩:=hN
   have es:IntKind.i64.wrap (s - 1)=s - 1:=wfit (by omega) (by omega)
   clear hxj
   have hc:(l < d/\N < s - 1/\bdl l (xs.take (j+1))=s - 1) ∨ (l < d/\¬ N < s - 1/\bdl l (xs.take (j+1))=N) ∨ (¬ l < d/\bdl l (xs.take (j+1))=N):=by
    by_cases x:l < d
    ·have e:=HM.out
     rw [if_pos x] at e
     omega
    ·exact .inr (.inr ⟨x,HM.out.trans (if_neg x)⟩)
   clear HM
   rcases hc with ⟨x,y,hv⟩ | ⟨x,y,hv⟩ | ⟨x,hv⟩
   ·have HV:=mH hv
    clear hv
    go_wp2
    go_roundw
    case rel=>exact⟨j+1,s - 1,by go_num,by go_num,by omega,HV,mH (ba HB.out _)⟩
    case measure=>simp [intOf];omega
   ·have HV:=mH hv
    clear hv
    go_wp2
    go_roundw
    case rel=>exact⟨j+1,N,by go_num,by go_num,by omega,HV,mH (ba HB.out _)⟩
    case measure=>simp [intOf];omega
   ·have HV:=mH hv
    clear hv
    go_wp2
    go_roundw
    case rel=>exact⟨j+1,N,by go_num,by go_num,by omega,HV,mH (ba HB.out _)⟩
    case measure=>simp [intOf];omega
  ·obtain rfl:j=xs.length:=by omega
   have hN:=HN.out
   rw [List.take_length] at hN
   have HN2:=mH hN
   clear hN
   go_wp2
   go_ret
   exact⟨by rw [HN2.out];rfl,HB.out⟩
set_option maxHeartbeats 1600000 in
theorem blk_is (w:World) (a0:Option Addr) (cap:Nat) (xs:List Tk) (i:Nat) (h:Tks w (.slice a0 xs.length cap) xs) (hx:∀ x ∈ xs,okT x) (hi:i < xs.length) (hc:xs.length<=cap) (hn:xs.length<=8) :
  Calls Tryz.prog 215 #[.slice a0 xs.length cap,.int .i64 (i:Int)] w fun e w'=>e=.returned (.int .i64 (blk (xs.drop (i+1))))/\Below w.heap.size w w':=by
 obtain⟨b,off,c,p,d,s,rfl,hxj,c0,c1,c2,c3⟩:=h.at (Below.refl _ _) i hi
 have HS:=mH h
 have HX:=mH hx
 clear h hx hxj c0 c1 c2 c3 c p d s
 have hii:(i:Int)+1<=xs.length:=by omega
 have hnn:i+1<=xs.length:=by omega
 have hcc:i+1<=cap:=by omega
 have hci:(i:Int)+1<=cap:=by omega
 have hx8:(xs.length:Int)<=8:=by omega
 obtain⟨m,hm⟩:∃ m,xs.length - (i+1)=m:=⟨_,rfl⟩
 have hm8:(m:Int)<=8:=by omega
 have HD:Hid (∀ k,k < m->xs[i+1+k]?=(xs.drop (i+1))[k]?):=mH (fun k _=>by rw [List.getElem?_drop])
 have HL:Hid ((xs.drop (i+1)).length=m):=mH (by rw [List.length_drop];exact hm)
 have HY:Hid (∀ x ∈ xs.drop (i+1),okT x):=mH (fun x hx=>HX.out x (List.mem_of_mem_drop hx))
 by_cases hcap:i+1 < cap
 ·obtain⟨b4,hb4⟩:∃ b4,off+(i+1) * 4=b4:=⟨_,rfl⟩
  go_enter Tryz.func215,Tryz.ntmps215
  go_wp2
  have HI:=mH (And.intro hm hb4)
  clear hm hb4
  go_loopw [5,13] (fun nv iv wr=>∃ (j:Nat) (N:Int),nv=.int .i64 N/\iv=.int .i64 (j:Int)/\j<=m/\Hid (blk ((xs.drop (i+1)).take j)=N)/\Hid (Below w.heap.size w wr)) (fun _ iv _=>m - (intOf iv).toNat)
  case atStart=>exact⟨0,0,rfl,rfl,Nat.zero_le _,mH rfl,mH (Below.refl _ _)⟩
  case round=>
   obtain⟨j,N,rfl,rfl,hj,HN,HB⟩:=hrel
   by_cases hlt:j < m
   ·obtain⟨b',off',c,p,d,s,he,hxj,c0,c1,c2,c3⟩:=HS.out.at HB.out (i+1+j) (by have:=HI.out.1;omega)
    cases he
    have e4:off+(i+1+j) * 4=b4+j * 4:=by have:=HI.out.2;omega
    rw [e4] at c0 c1 c2 c3
    rw [HD.out j hlt] at hxj
    have hji:(j:Int) < m:=by omega
    obtain⟨o1,o2,o3,o4,o5,o6⟩:=HY.out _ (List.mem_of_getElem? hxj)
    simp only at o1 o2 o3 o4 o5 o6
    have HM:=mH (blk_take hxj)
    have hN:=blk_bounds ((xs.drop (i+1)).take j) (fun x hm=>HY.out x (List.mem_of_mem_take hm))
    rw [HN.out] at hN HM
    simp only at HM
    obtain⟨n0,n1⟩:=hN
    have es:IntKind.i64.wrap (s - 1)=s - 1:=wfit (by omega) (by omega)
    clear hxj e4
    have hc:(N < s - 1/\blk ((xs.drop (i+1)).take (j+1))=s - 1) ∨ (¬ N < s - 1/\blk ((xs.drop (i+1)).take (j+1))=N):=by
     have e:=HM.out
     omega
    clear HM
    rcases hc with ⟨y,hv⟩ | ⟨y,hv⟩
    ·have HV:=mH hv
     clear hv
     go_wp2
     go_roundw
     case rel=>exact⟨j+1,s - 1,by go_num,by go_num,by omega,HV,mH (ba HB.out _)⟩
     case measure=>simp [intOf];omega
    ·have HV:=mH hv
     clear hv
     go_wp2
     go_roundw
     case rel=>exact⟨j+1,N,by go_num,by go_num,by omega,HV,mH (ba HB.out _)⟩
     case measure=>simp [intOf];omega
   ·obtain rfl:j=m:=by omega
    have hN:=HN.out
    rw [List.take_of_length_le (by rw [HL.out];exact Nat.le_refl _)] at hN
    have HN2:=mH hN
    clear hN
    go_wp2
    go_ret
    exact⟨by rw [HN2.out];rfl,HB.out⟩
 ·obtain rfl:m=0:=by omega
  have hd:xs.drop (i+1)=[]:=List.eq_nil_of_length_eq_zero HL.out
  rw [hd]
  clear hd HL HD HY
  go_enter Tryz.func215,Tryz.ntmps215
  go_wp2
  go_loopw [5,13] (fun nv iv wr=>nv=.int .i64 0/\iv=.int .i64 0/\wr=w) (fun _ iv _=>(intOf iv).toNat)
  case atStart=>exact⟨rfl,rfl,rfl⟩
  case round=>
   obtain⟨rfl,rfl,rfl⟩:=hrel
   go_wp2
   go_ret
   exact⟨rfl,Below.refl _ _⟩
theorem tchk_any (w:World) (v:Value) (xs:List Tk) (l:Int) (h:Tks w v xs) (hx:okTs xs) (R:Value) (hR:∀ W,Below w.heap.size w W->Calls Tryz.prog 195 #[.int .i64 l] W fun e w'=>e=.returned R/\Below W.heap.size W w') :
  Calls Tryz.prog 200 #[v,.int .i64 l] w fun e w'=>e=.returned R/\Below w.heap.size w w':=by
 obtain⟨a0,cap,rfl,hl,h9⟩:=id h
 have HR:=mH hR
 clear hR
 by_cases hp:0 < xs.length
 ·have hpi:(0:Int) < xs.length:=by omega
  have H1:=mH (guest_ok w _ 1 xs h ⟨.inl rfl,hp,hx⟩)
  clear h h9 hx
  go_enter Tryz.func200,Tryz.ntmps200
  go_wp2_with (first
   |(go_at_call 103;refine H1.out.mono ?_;rintro e w1 ⟨rfl,b1⟩;have HB1:=mH b1;clear b1)
   |(go_at_call 195;refine(HR.out _ HB1.out).mono ?_;rintro e w2 ⟨rfl,b2⟩;have HB2:=mH (bt HB1.out b2);clear b2))
  go_ret
  exact⟨rfl,HB2.out⟩
 ·have hpi:¬ (0:Int) < xs.length:=by omega
  clear h h9 hx
  go_enter Tryz.func200,Tryz.ntmps200
  go_wp2_with (go_at_call 195;refine(HR.out _ (Below.refl _ _)).mono ?_;rintro e w2 ⟨rfl,b2⟩)
  go_ret
  exact⟨rfl,b2⟩
theorem Tks.take {w:World} {a:Option Addr} {n cap:Nat} {xs:List Tk} (h:Tks w (.slice a n cap) xs) (k:Nat) (hk:k<=xs.length):Tks w (.slice a k cap) (xs.take k):=by
 obtain⟨a',cap',e,hl,hr⟩:=h
 simp at e
 obtain⟨rfl,rfl,rfl⟩:=e
 have e:(xs.take k).length=k:=by rw [List.length_take];omega
 refine⟨a,cap,by rw [e],by rw [e];omega,fun hp=>?_⟩
 rw [e] at hp
 obtain⟨b,off,rfl,hc⟩:=hr (by omega)
 refine⟨b,off,rfl,fun i x hi=>hc i x ?_⟩
 rw [List.getElem?_take] at hi
 split at hi
 ·exact hi
 ·simp at hi
def tsk (xs:List Tk) (l:Int):Int:=if tot (tdem · l) xs=0 then 0 else tot (tdem · l) xs+bdl l xs
def unt (xs:List Tk) (i:Nat) (l:Int):Int:=tot (treq · l) (xs.take (i+1))+blk (xs.drop (i+1))
theorem ok_tot {xs:List Tk} (hx:okTs xs) {l:Int} (l0:0<=l) (l1:l<=1099511627776):0<=tot (tdem · l) xs/\tot (tdem · l) xs<=8796093026304:=by
 have:=tot_fit (tdem · l) 1099511628288 (by omega) xs (fun x hm=>by have:=tdem_bounds (hx.2 x hm) l0;omega) hx.1
 omega
theorem ok_utot {xs:List Tk} (hx:okTs xs) {l:Int} (l0:0<=l) (l1:l<=1099511627776) (k:Nat):0<=tot (treq · l) (xs.take k)/\tot (treq · l) (xs.take k)<=8796093026304:=by
 have:=tot_fit (treq · l) 1099511628288 (by omega) (xs.take k) (fun x hm=>by have:=treq_bounds (hx.2 x (List.mem_of_mem_take hm)) l0;omega) (by rw [List.length_take];have:=hx.1;omega)
 omega
theorem dtasks_ok (w:World) (v:Value) (xs:List Tk) (l:Int) (h:Tks w v xs) (hx:okTs xs) (l0:0<=l) (l1:l<=1099511627776) :
  Calls Tryz.prog 187 #[v,.int .i64 l] w fun e w'=>e=.returned (.tuple #[.int .i64 (tsk xs l),.nilIface])/\Below w.heap.size w w':=by
 have H1:=mH (tchk_any w v xs l h hx .nilIface (fun W _=>len_ok W l l0 l1))
 have H2:Hid (∀ W,Below w.heap.size w W->Calls Tryz.prog 201 #[v,.int .i64 l,.func (.func 202) #[] #[]] W fun e w'=>e=.returned (.int .i64 (tot (tdem · l) xs))/\Below W.heap.size W w'):=mH (fun W hb=>tot_tdem W v xs l (h.below hb) hx.2 hx.1 l0 l1)
 have H3:Hid (∀ W,Below w.heap.size w W->Calls Tryz.prog 203 #[v,.int .i64 l] W fun e w'=>e=.returned (.int .i64 (bdl l xs))/\Below W.heap.size W w'):=mH (fun W hb=>bdl_is W v xs l (h.below hb) hx.2)
 obtain⟨n0,n1⟩:=ok_tot hx l0 l1
 obtain⟨m0,m1⟩:=bdl_bounds l xs hx.2
 clear h hx
 unfold tsk
 generalize tot (tdem · l) xs=N at *
 generalize bdl l xs=B at *
 have ew:IntKind.i64.wrap (N+B)=N+B:=wfit (by omega) (by omega)
 by_cases hN:N=0
 ·subst hN
  rw [if_pos rfl]
  go_enter Tryz.func187,Tryz.ntmps187
  go_wp2_with (first
   |(go_at_call 200;refine H1.out.mono ?_;rintro e w1 ⟨rfl,b1⟩;have HB1:=mH b1;clear b1)
   |(go_at_call 201;refine(H2.out _ HB1.out).mono ?_;rintro e w2 ⟨rfl,b2⟩;have HB2:=mH (bt HB1.out b2);clear b2))
  go_ret2
  exact⟨rfl,HB2.out⟩
 ·rw [if_neg hN]
  go_enter Tryz.func187,Tryz.ntmps187
  go_wp2_with (first
   |(go_at_call 200;refine H1.out.mono ?_;rintro e w1 ⟨rfl,b1⟩;have HB1:=mH b1;clear b1)
   |(go_at_call 201;refine(H2.out _ HB1.out).mono ?_;rintro e w2 ⟨rfl,b2⟩;have HB2:=mH (bt HB1.out b2);clear b2)
   |(go_at_call 203;refine(H3.out _ HB2.out).mono ?_;rintro e w3 ⟨rfl,b3⟩;have HB3:=mH (bt HB2.out b3);clear b3))
  go_ret2
  exact⟨rfl,HB3.out⟩
theorem until_ok (w:World) (a0:Option Addr) (cap:Nat) (xs:List Tk) (i:Nat) (l:Int) (h:Tks w (.slice a0 xs.length cap) xs) (hx:okTs xs) (l0:0<=l) (l1:l<=1099511627776) (hi:i < xs.length) (hc:xs.length<=cap) :
  Calls Tryz.prog 199 #[.slice a0 xs.length cap,.int .i64 (i:Int),.int .i64 l] w fun e w'=>e=.returned (.tuple #[.int .i64 (unt xs i l),.nilIface])/\Below w.heap.size w w':=by
 have H1:=mH (tchk_any w _ xs l h hx .nilIface (fun W _=>len_ok W l l0 l1))
 have H2:Hid (∀ W,Below w.heap.size w W->Calls Tryz.prog 201 #[.slice a0 (i+1) cap,.int .i64 l,.func (.func 214) #[] #[]] W fun e w'=>e=.returned (.int .i64 (tot (treq · l) (xs.take (i+1))))/\Below W.heap.size W w'):=mH (fun W hb=>tot_treq W _ (xs.take (i+1)) l ((h.below hb).take (i+1) (by omega)) (fun x hm=>hx.2 x (List.mem_of_mem_take hm)) (by rw [List.length_take];have:=hx.1;omega) l0 l1)
 have H3:Hid (∀ W,Below w.heap.size w W->Calls Tryz.prog 215 #[.slice a0 xs.length cap,.int .i64 (i:Int)] W fun e w'=>e=.returned (.int .i64 (blk (xs.drop (i+1))))/\Below W.heap.size W w'):=mH (fun W hb=>blk_is W a0 cap xs i (h.below hb) hx.2 hi hc hx.1)
 obtain⟨n0,n1⟩:=ok_utot hx l0 l1 (i+1)
 obtain⟨m0,m1⟩:=blk_bounds (xs.drop (i+1)) (fun x hm=>hx.2 x (List.mem_of_mem_drop hm))
 obtain⟨b,off,c,p,d,s,rfl,_⟩:=h.at (Below.refl _ _) i hi
 have h8:(xs.length:Int)<=8:=by have:=hx.1;omega
 clear h hx
 unfold unt
 generalize tot (treq · l) (xs.take (i+1))=N at *
 generalize blk (xs.drop (i+1))=B at *
 have ew:IntKind.i64.wrap (N+B)=N+B:=wfit (by omega) (by omega)
 have hii:(i:Int) < xs.length:=by omega
 have hci:(i:Int)+1<=cap:=by omega
 have hcn:i+1<=cap:=by omega
 go_enter Tryz.func199,Tryz.ntmps199
 go_wp2_with (first
  |(go_at_call 200;refine H1.out.mono ?_;rintro e w1 ⟨rfl,b1⟩;have HB1:=mH b1;clear b1)
  |(go_at_call 201;refine(H2.out _ HB1.out).mono ?_;rintro e w2 ⟨rfl,b2⟩;have HB2:=mH (bt HB1.out b2);clear b2)
  |(go_at_call 215;refine(H3.out _ HB2.out).mono ?_;rintro e w3 ⟨rfl,b3⟩;have HB3:=mH (bt HB2.out b3);clear b3))
 go_ret2
 exact⟨rfl,HB3.out⟩
end Go.Proofs.YtpdehdomilnmeaaGreatDoor
