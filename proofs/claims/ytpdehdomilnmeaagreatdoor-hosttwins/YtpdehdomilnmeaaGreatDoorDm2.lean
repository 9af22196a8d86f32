import Derived.Test.YtpdehdomilnmeaaGreatDoorDm1
import Derived.Test.YtpdehdomilnmeaaGreatDoorTk
namespace Go.Proofs.YtpdehdomilnmeaaGreatDoor
open Go.ChangeShapes Go.WideShapes Go.ChangeAt Go.RowKit
set_option maxRecDepth 100000
attribute [local go_sem] World.cell?_alloc_some fAs
set_option maxHeartbeats 1600000 in
theorem tot_sdem (w:World) (v:Value) (xs:List Sv) (l:Int) (h:Svs w v xs) (hx:∀ x ∈ xs,okS x) (hn:xs.length<=8) (l0:0<=l) (l1:l<=1099511627776) :
  Calls Tryz.prog 181 #[v,.int .i64 l,.func (.func 191) #[] #[]] w fun e w'=>e=.returned (.int .i64 (tot (sdem · l) xs))/\Below w.heap.size w w':=by
 obtain⟨a0,cap,rfl,hl,h9⟩:=id h
 have HS:=mH h
 have HX:=mH hx
 clear h hx h9
 go_enter Tryz.func181,Tryz.ntmps181
 go_wp2
 go_loopw [7,12] (fun nv iv wr=>∃ (j:Nat) (N:Int),nv=.int .i64 N/\iv=.int .i64 (j:Int)/\j<=xs.length/\0<=N/\N<=8796093026304/\Hid (tot (sdem · l) (xs.take j)=N)/\Hid (Below w.heap.size w wr)) (fun _ iv _=>xs.length - (intOf iv).toNat)
 case atStart=>exact⟨0,0,rfl,rfl,Nat.zero_le _,by omega,by omega,mH rfl,mH (Below.refl _ _)⟩
 case round=>
  obtain⟨j,N,rfl,rfl,hj,n0,n1,HN,HB⟩:=hrel
  by_cases hlt:j < xs.length
  ·obtain⟨b,off,k,q,t,rfl,hxj,c0,c1,c2⟩:=HS.out.at HB.out j hlt
   have hji:(j:Int) < xs.length:=by omega
   have HO:=mH (HX.out _ (List.mem_of_getElem? hxj))
   have HM:=mH (tot_take (sdem · l) hxj)
   have HT:=mH (tot_fit (sdem · l) 1099511628288 (by omega) (xs.take (j+1)) (fun x hm=>by have:=sdem_bounds (HX.out x (List.mem_of_mem_take hm)) l0;omega) (by rw [List.length_take];omega))
   obtain⟨A,hA⟩:∃ A,sdem (k,q,t) l=A:=⟨_,rfl⟩
   have b1:=sdem_bounds HO.out l0
   have HA:=mH hA
   rw [hA] at b1
   have hs:0<=N+A/\N+A<=8796093026304:=by have e:=HM.out;have e2:=HT.out;have e3:=HN.out;simp only [hA] at e;rw [e,e3] at e2;omega
   have ew:IntKind.i64.wrap (N+A)=N+A:=wfit (by omega) (by omega)
   clear hxj hA
   go_wp2_with (go_at_call 191;refine(sdem_is _ (k,q,t) l HO.out l0 l1).mono ?_;rw [HA.out];rintro e w1 ⟨rfl,b2⟩;have HB2:=mH (bt (ba HB.out _) b2);clear b2)
   go_roundw
   case rel=>exact⟨j+1,N+A,rfl,by go_num,by omega,hs.1,hs.2,mH (by rw [HM.out,HN.out,HA.out]),HB2⟩
   case measure=>simp [intOf];omega
  ·obtain rfl:j=xs.length:=by omega
   have hN:=HN.out
   rw [List.take_length] at hN
   have HN2:=mH hN
   clear hN
   go_wp2
   go_ret
   exact⟨by rw [HN2.out];rfl,HB.out⟩
set_option maxHeartbeats 1600000 in
theorem tot_sreq (w:World) (v:Value) (xs:List Sv) (l:Int) (h:Svs w v xs) (hx:∀ x ∈ xs,okS x) (hn:xs.length<=8) (l0:0<=l) (l1:l<=1099511627776) :
  Calls Tryz.prog 181 #[v,.int .i64 l,.func (.func 182) #[] #[]] w fun e w'=>e=.returned (.int .i64 (tot (sreq · l) xs))/\Below w.heap.size w w':=by
 obtain⟨a0,cap,rfl,hl,h9⟩:=id h
 have HS:=mH h
 have HX:=mH hx
 clear h hx h9
 go_enter Tryz.func181,Tryz.ntmps181
 go_wp2
 go_loopw [7,12] (fun nv iv wr=>∃ (j:Nat) (N:Int),nv=.int .i64 N/\iv=.int .i64 (j:Int)/\j<=xs.length/\0<=N/\N<=8796093026304/\Hid (tot (sreq · l) (xs.take j)=N)/\Hid (Below w.heap.size w wr)) (fun _ iv _=>xs.length - (intOf iv).toNat)
 case atStart=>exact⟨0,0,rfl,rfl,Nat.zero_le _,by omega,by omega,mH rfl,mH (Below.refl _ _)⟩
 case round=>
  obtain⟨j,N,rfl,rfl,hj,n0,n1,HN,HB⟩:=hrel
  by_cases hlt:j < xs.length
  ·obtain⟨b,off,k,q,t,rfl,hxj,c0,c1,c2⟩:=HS.out.at HB.out j hlt
   have hji:(j:Int) < xs.length:=by omega
   have HO:=mH (HX.out _ (List.mem_of_getElem? hxj))
   have HM:=mH (tot_take (sreq · l) hxj)
   have HT:=mH (tot_fit (sreq · l) 1099511628288 (by omega) (xs.take (j+1)) (fun x hm=>by have:=sreq_bounds (HX.out x (List.mem_of_mem_take hm)) l0;omega) (by rw [List.length_take];omega))
   obtain⟨A,hA⟩:∃ A,sreq (k,q,t) l=A:=⟨_,rfl⟩
   have b1:=sreq_bounds HO.out l0
   have HA:=mH hA
   rw [hA] at b1
   have hs:0<=N+A/\N+A<=8796093026304:=by have e:=HM.out;have e2:=HT.out;have e3:=HN.out;simp only [hA] at e;rw [e,e3] at e2;omega
   have ew:IntKind.i64.wrap (N+A)=N+A:=wfit (by omega) (by omega)
   clear hxj hA
   go_wp2_with (go_at_call 182;refine(sreq_is _ (k,q,t) l HO.out l0 l1).mono ?_;rw [HA.out];rintro e w1 ⟨rfl,b2⟩;have HB2:=mH (bt (ba HB.out _) b2);clear b2)
   go_roundw
   case rel=>exact⟨j+1,N+A,rfl,by go_num,by omega,hs.1,hs.2,mH (by rw [HM.out,HN.out,HA.out]),HB2⟩
   case measure=>simp [intOf];omega
  ·obtain rfl:j=xs.length:=by omega
   have hN:=HN.out
   rw [List.take_length] at hN
   have HN2:=mH hN
   clear hN
   go_wp2
   go_ret
   exact⟨by rw [HN2.out];rfl,HB.out⟩
set_option maxHeartbeats 1600000 in
theorem tot_tdem (w:World) (v:Value) (xs:List Tk) (l:Int) (h:Tks w v xs) (hx:∀ x ∈ xs,okT x) (hn:xs.length<=8) (l0:0<=l) (l1:l<=1099511627776) :
  Calls Tryz.prog 201 #[v,.int .i64 l,.func (.func 202) #[] #[]] w fun e w'=>e=.returned (.int .i64 (tot (tdem · l) xs))/\Below w.heap.size w w':=by
 obtain⟨a0,cap,rfl,hl,h9⟩:=id h
 have HS:=mH h
 have HX:=mH hx
 clear h hx h9
 go_enter Tryz.func201,Tryz.ntmps201
 go_wp2
 go_loopw [7,12] (fun nv iv wr=>∃ (j:Nat) (N:Int),nv=.int .i64 N/\iv=.int .i64 (j:Int)/\j<=xs.length/\0<=N/\N<=8796093026304/\Hid (tot (tdem · l) (xs.take j)=N)/\Hid (Below w.heap.size w wr)) (fun _ iv _=>xs.length - (intOf iv).toNat)
 case atStart=>exact⟨0,0,rfl,rfl,Nat.zero_le _,by omega,by omega,mH rfl,mH (Below.refl _ _)⟩
 case round=>
  obtain⟨j,N,rfl,rfl,hj,n0,n1,HN,HB⟩:=hrel
  by_cases hlt:j < xs.length
  ·obtain⟨b,off,c,p,d,s,rfl,hxj,c0,c1,c2,c3⟩:=HS.out.at HB.out j hlt
   have hji:(j:Int) < xs.length:=by omega
   have HO:=mH (HX.out _ (List.mem_of_getElem? hxj))
   have HM:=mH (tot_take (tdem · l) hxj)
   have HT:=mH (tot_fit (tdem · l) 1099511628288 (by omega) (xs.take (j+1)) (fun x hm=>by have:=tdem_bounds (HX.out x (List.mem_of_mem_take hm)) l0;omega) (by rw [List.length_take];omega))
   obtain⟨A,hA⟩:∃ A,tdem (c,p,d,s) l=A:=⟨_,rfl⟩
   have b1:=tdem_bounds HO.out l0
   have HA:=mH hA
   rw [hA] at b1
   have hs:0<=N+A/\N+A<=8796093026304:=by have e:=HM.out;have e2:=HT.out;have e3:=HN.out;simp only [hA] at e;rw [e,e3] at e2;omega
   have ew:IntKind.i64.wrap (N+A)=N+A:=wfit (by omega) (by omega)
   clear hxj hA
   go_wp2_with (go_at_call 202;refine(tdem_is _ (c,p,d,s) l HO.out l0 l1).mono ?_;rw [HA.out];rintro e w1 ⟨rfl,b2⟩;have HB2:=mH (bt (ba HB.out _) b2);clear b2)
   go_roundw
   case rel=>exact⟨j+1,N+A,rfl,by go_num,by omega,hs.1,hs.2,mH (by rw [HM.out,HN.out,HA.out]),HB2⟩
   case measure=>simp [intOf];omega
  ·obtain rfl:j=xs.length:=by omega
   have hN:=HN.out
   rw [List.take_length] at hN
   have HN2:=mH hN
   clear hN
   go_wp2
   go_ret
   exact⟨by rw [HN2.out];rfl,HB.out⟩
set_option maxHeartbeats 1600000 in
theorem tot_treq (w:World) (v:Value) (xs:List Tk) (l:Int) (h:Tks w v xs) (hx:∀ x ∈ xs,okT x) (hn:xs.length<=8) (l0:0<=l) (l1:l<=1099511627776) :
  Calls Tryz.prog 201 #[v,.int .i64 l,.func (.func 214) #[] #[]] w fun e w'=>e=.returned (.int .i64 (tot (treq · l) xs))/\Below w.heap.size w w':=by
 obtain⟨a0,cap,rfl,hl,h9⟩:=id h
 have HS:=mH h
 have HX:=mH hx
 clear h hx h9
 go_enter Tryz.func201,Tryz.ntmps201
 go_wp2
 go_loopw [7,12] (fun nv iv wr=>∃ (j:Nat) (N:Int),nv=.int .i64 N/\iv=.int .i64 (j:Int)/\j<=xs.length/\0<=N/\N<=8796093026304/\Hid (tot (treq · l) (xs.take j)=N)/\Hid (Below w.heap.size w wr)) (fun _ iv _=>xs.length - (intOf iv).toNat)
 case atStart=>exact⟨0,0,rfl,rfl,Nat.zero_le _,by omega,by omega,mH rfl,mH (Below.refl _ _)⟩
 case round=>
  obtain⟨j,N,rfl,rfl,hj,n0,n1,HN,HB⟩:=hrel
  by_cases hlt:j < xs.length
  ·obtain⟨b,off,c,p,d,s,rfl,hxj,c0,c1,c2,c3⟩:=HS.out.at HB.out j hlt
   have hji:(j:Int) < xs.length:=by omega
   have HO:=mH (HX.out _ (List.mem_of_getElem? hxj))
   have HM:=mH (tot_take (treq · l) hxj)
   have HT:=mH (tot_fit (treq · l) 1099511628288 (by omega) (xs.take (j+1)) (fun x hm=>by have:=treq_bounds (HX.out x (List.mem_of_mem_take hm)) l0;omega) (by rw [List.length_take];omega))
   obtain⟨A,hA⟩:∃ A,treq (c,p,d,s) l=A:=⟨_,rfl⟩
   have b1:=treq_bounds HO.out l0
   have HA:=mH hA
   rw [hA] at b1
   have hs:0<=N+A/\N+A<=8796093026304:=by have e:=HM.out;have e2:=HT.out;have e3:=HN.out;simp only [hA] at e;rw [e,e3] at e2;omega
   have ew:IntKind.i64.wrap (N+A)=N+A:=wfit (by omega) (by omega)
   clear hxj hA
   go_wp2_with (go_at_call 214;refine(treq_is _ (c,p,d,s) l HO.out l0 l1).mono ?_;rw [HA.out];rintro e w1 ⟨rfl,b2⟩;have HB2:=mH (bt (ba HB.out _) b2);clear b2)
   go_roundw
   case rel=>exact⟨j+1,N+A,rfl,by go_num,by omega,hs.1,hs.2,mH (by rw [HM.out,HN.out,HA.out]),HB2⟩
   case measure=>simp [intOf];omega
  ·obtain rfl:j=xs.length:=by omega
   have hN:=HN.out
   rw [List.take_length] at hN
   have HN2:=mH hN
   clear hN
   go_wp2
   go_ret
   exact⟨by rw [HN2.out];rfl,HB.out⟩
set_option maxHeartbeats 1600000 in
theorem chk_any (w:World) (v:Value) (xs:List Sv) (l:Int) (h:Svs w v xs) (hx:∀ x ∈ xs,okS x) (hn:xs.length<=8) (R:Value) (hR:∀ W,Below w.heap.size w W->Calls Tryz.prog 195 #[.int .i64 l] W fun e w'=>e=.returned R/\Below W.heap.size W w') :
  Calls Tryz.prog 180 #[v,.int .i64 l] w fun e w'=>e=.returned R/\Below w.heap.size w w':=by
 obtain⟨a0,cap,rfl,hl,h9⟩:=id h
 have HS:=mH h
 have HX:=mH hx
 have HR:=mH hR
 clear h hx h9 hR
 go_enter Tryz.func180,Tryz.ntmps180
 go_wp2
 go_loopw [10] (fun iv wr=>∃ j:Nat,iv=.int .i64 (j:Int)/\j<=xs.length/\Hid (Below w.heap.size w wr)) (fun iv _=>xs.length - (intOf iv).toNat)
 case atStart=>exact⟨0,rfl,Nat.zero_le _,mH (Below.refl _ _)⟩
 case round=>
  obtain⟨j,rfl,hj,HB⟩:=hrel
  by_cases hlt:j < xs.length
  ·obtain⟨b,off,k,q,t,rfl,hxj,c0,c1,c2⟩:=HS.out.at HB.out j hlt
   have hji:(j:Int) < xs.length:=by omega
   have HK:=mH (HX.out _ (List.mem_of_getElem? hxj))
   clear hxj
   go_wp2_with (go_at_call 101;refine(check_ok _ (k,q,t) HK.out).mono ?_;rintro e w1 ⟨rfl,b1⟩;have HB1:=mH (bt (ba HB.out _) b1);clear b1)
   go_roundw
   case rel=>exact⟨j+1,by go_num,by omega,HB1⟩
   case measure=>simp [intOf];omega
  ·obtain rfl:j=xs.length:=by omega
   have hni:¬ (8:Int) < xs.length:=by omega
   go_wp2_with (go_at_call 195;refine(HR.out _ HB.out).mono ?_;rintro e w1 ⟨rfl,b1⟩;have HB1:=mH (bt HB.out b1);clear b1)
   go_ret
   exact⟨rfl,HB1.out⟩
end Go.Proofs.YtpdehdomilnmeaaGreatDoor
