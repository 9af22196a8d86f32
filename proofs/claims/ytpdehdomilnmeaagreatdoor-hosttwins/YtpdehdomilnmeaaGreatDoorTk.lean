import Derived.Test.YtpdehdomilnmeaaGreatDoorPlErr
import Derived.Test.YtpdehdomilnmeaaGreatDoorSx
namespace Go.Proofs.YtpdehdomilnmeaaGreatDoor
open Go.ChangeShapes Go.WideShapes Go.ChangeAt Go.RowKit
set_option maxRecDepth 100000
def TkAt (w:World) (b o:Nat) (s:Tk):Prop:=w.cell? ⟨b,o,none⟩=some (.int .i64 s.1)/\w.cell? ⟨b,o+1,none⟩=some (.int .i64 s.2.1)/\w.cell? ⟨b,o+2,none⟩=some (.int .i64 s.2.2.1)/\w.cell? ⟨b,o+3,none⟩=some (.int .i64 s.2.2.2)
def Tks (w:World) (v:Value) (xs:List Tk):Prop:=
 ∃ a cap,v=.slice a xs.length cap/\(xs.length:Int)<=9223372036854775807/\(0 < xs.length->∃ b off,a=some ⟨b,off,none⟩/\∀ i x,xs[i]?=some x->TkAt w b (off+i * 4) x)
theorem TkAt.below {w w':World} {b o:Nat} {s:Tk} (h:TkAt w b o s) (hb:Below w.heap.size w w'):TkAt w' b o s:=⟨kc h.1 hb,kc h.2.1 hb,kc h.2.2.1 hb,kc h.2.2.2 hb⟩
theorem Tks.below {w w':World} {v:Value} {xs:List Tk} (h:Tks w v xs) (hb:Below w.heap.size w w'):Tks w' v xs:=by
 obtain⟨a,cap,rfl,hl,hr⟩:=h
 refine⟨a,cap,rfl,hl,fun hp=>?_⟩
 obtain⟨b,off,rfl,hc⟩:=hr hp
 exact⟨b,off,rfl,fun i x hi=>(hc i x hi).below hb⟩
theorem Tks.at {w w':World} {a:Option Addr} {n cap:Nat} {xs:List Tk} (h:Tks w (.slice a n cap) xs) (hb:Below w.heap.size w w') (i:Nat) (hi:i < xs.length):∃ b off c p d s,a=some ⟨b,off,none⟩/\xs[i]?=some (c,p,d,s)/\w'.cell? ⟨b,off+i * 4,none⟩=some (.int .i64 c)/\w'.cell? ⟨b,off+i * 4+1,none⟩=some (.int .i64 p)/\w'.cell? ⟨b,off+i * 4+2,none⟩=some (.int .i64 d)/\w'.cell? ⟨b,off+i * 4+3,none⟩=some (.int .i64 s):=by
 obtain⟨a',cap',e,_,hr⟩:=h.below hb
 simp at e
 obtain⟨rfl,rfl,rfl⟩:=e
 obtain⟨b,off,rfl,hc⟩:=hr (by omega)
 obtain⟨⟨c,p,d,s⟩,hx⟩:∃ x,xs[i]?=some x:=⟨_,List.getElem?_eq_getElem hi⟩
 exact⟨b,off,c,p,d,s,rfl,hx,hc i _ hx⟩
theorem fl_len {α:Type} (f:α->List Value) (n:Nat) (hf:∀ x,(f x).length=n) (xs:List α):(xs.flatMap f).length=xs.length * n:=by
 induction xs with
 |nil=>simp
 |cons x r ih=>rw [List.flatMap_cons,List.length_append,hf,ih,List.length_cons,Nat.add_mul];omega
theorem fl_get {α:Type} (f:α->List Value) (n:Nat) (hf:∀ x,(f x).length=n):∀ (xs:List α) (i r:Nat) (x:α),xs[i]?=some x->r < n->(xs.flatMap f)[i * n+r]?=(f x)[r]?
 |[],i,r,x,hx,_=>by simp at hx
 |y :: l,0,r,x,hx,hr=>by
  simp at hx
  subst hx
  rw [List.flatMap_cons,Nat.zero_mul,Nat.zero_add,List.getElem?_append_left (by rw [hf];exact hr)]
 |y :: l,i+1,r,x,hx,hr=>by
  simp at hx
  have e:(i+1) * n+r - n=i * n+r:=by rw [Nat.add_mul];omega
  rw [List.flatMap_cons,List.getElem?_append_right (by rw [hf,Nat.add_mul];omega),hf,e]
  exact fl_get f n hf l i r x hx hr
def c3 (s:Sv):List Value:=[.int .i64 s.1,.int .i64 s.2.1,.int .i64 s.2.2]
def c4 (s:Tk):List Value:=[.int .i64 s.1,.int .i64 s.2.1,.int .i64 s.2.2.1,.int .i64 s.2.2.2]
theorem one4 {xs:List Tk}:∀ u ∈ xs.flatMap c4,u.oneCell'=true:=by
 intro u hu
 obtain⟨x,_,hx⟩:=List.mem_flatMap.mp hu
 simp [c4] at hx
 rcases hx with rfl | rfl | rfl | rfl <;> rfl
theorem add_none (b off k:Nat):(⟨b,off,none⟩:Addr).add k=⟨b,off+k,none⟩:=by cases k <;> simp [Addr.add]
theorem Tks.src {w:World} {v:Value} {xs:List Tk} (h:Tks w v xs):Src Tryz.prog 4 38 v xs.length (xs.flatMap c4) w:=by
 obtain⟨a,cap,rfl,_,hr⟩:=h
 have hl:=fl_len c4 4 (fun _=>rfl) xs
 cases a with
 |none=>
  have hv:xs=[]:=by
   by_cases hp:0 < xs.length
   ·obtain⟨b,off,e,_⟩:=hr hp
    simp at e
   ·exact List.length_eq_zero_iff.mp (by omega)
  subst hv
  exact Src.ofNil w Tryz.underlying38 cap
 |some ad=>
  refine Src.ofSlice w Tryz.underlying38 ad _ cap _ hl (fun j u hj=>?_) one4
  have hjl:j < xs.length * 4:=by rw [<- hl];exact(List.getElem?_eq_some_iff.mp hj).1
  obtain⟨b,off,e,hcell⟩:=hr (by omega)
  simp at e
  subst e
  obtain⟨i,r,hi,hr4,rfl⟩:∃ i r,i < xs.length/\r < 4/\j=i * 4+r:=⟨j / 4,j % 4,by omega,by omega,by omega⟩
  obtain⟨x,hx⟩:∃ x,xs[i]?=some x:=⟨_,List.getElem?_eq_getElem hi⟩
  rw [fl_get c4 4 (fun _=>rfl) xs i r x hx hr4] at hj
  obtain⟨h0,h1,h2,h3⟩:=hcell i x hx
  rw [add_none]
  have:r=0 ∨ r=1 ∨ r=2 ∨ r=3:=by omega
  rcases this with rfl | rfl | rfl | rfl <;> simp [c4] at hj <;> subst hj
  ·exact h0
  ·exact h1
  ·exact h2
  ·exact h3
theorem tks_of_owns {w:World} {base:Nat} {v:Value} {xs:List Tk} (hl:(xs.length:Int)<=9223372036854775807) (h:w.ownsRow base 45 4 v xs.length (xs.flatMap c4)):∃ a cap,v=.slice a xs.length cap/\Tks w (.slice a xs.length cap) xs:=by
 obtain⟨_,⟨rfl,hn⟩ | ⟨g,cap,cur,rfl,hbg,hg,hnc,hcm,hcs,htake⟩⟩:=id h
 ·have:xs=[]:=List.eq_nil_of_length_eq_zero hn
  subst this
  exact⟨none,0,rfl,none,0,rfl,by simp,fun hp=>by simp at hp⟩
 ·refine⟨_,_,rfl,_,_,rfl,hl,fun hp=>⟨g,0,rfl,fun i x hx=>?_⟩⟩
  have hc:=h.cells (g:=g) rfl
  have e:∀ r u,r < 4->(c4 x)[r]?=some u->w.cell? ⟨g,0+i * 4+r,none⟩=some u:=by
   intro r u hr hu
   have:=hc (i * 4+r) u (by rw [fl_get c4 4 (fun _=>rfl) xs i r x hx hr];exact hu)
   rw [add_none] at this
   rw [Nat.add_assoc]
   exact this
  exact⟨by simpa using e 0 _ (by omega) rfl,e 1 _ (by omega) rfl,e 2 _ (by omega) rfl,e 3 _ (by omega) rfl⟩
theorem svs_of_owns {w:World} {base:Nat} {v:Value} {xs:List Sv} (hl:(xs.length:Int)<=9223372036854775807) (h:w.ownsRow base 37 3 v xs.length (xs.flatMap c3)):∃ a cap,v=.slice a xs.length cap/\Svs w (.slice a xs.length cap) xs:=by
 obtain⟨_,⟨rfl,hn⟩ | ⟨g,cap,cur,rfl,hbg,hg,hnc,hcm,hcs,htake⟩⟩:=id h
 ·have:xs=[]:=List.eq_nil_of_length_eq_zero hn
  subst this
  exact⟨none,0,rfl,none,0,rfl,by simp,fun hp=>by simp at hp⟩
 ·refine⟨_,_,rfl,_,_,rfl,hl,fun hp=>⟨g,0,rfl,fun i x hx=>?_⟩⟩
  have hc:=h.cells (g:=g) rfl
  have e:∀ r u,r < 3->(c3 x)[r]?=some u->w.cell? ⟨g,0+i * 3+r,none⟩=some u:=by
   intro r u hr hu
   have:=hc (i * 3+r) u (by rw [fl_get c3 3 (fun _=>rfl) xs i r x hx hr];exact hu)
   rw [add_none] at this
   rw [Nat.add_assoc]
   exact this
  exact⟨by simpa using e 0 _ (by omega) rfl,e 1 _ (by omega) rfl,e 2 _ (by omega) rfl⟩
theorem info_task:(Tryz.prog.info? 45).map (fun i=>(i.zero,i.size,i.bytes))=some (some (.agg #[.int .i64 0,.int .i64 0,.int .i64 0,.int .i64 0]),4,32):=by kernel_rfl
theorem info_server:(Tryz.prog.info? 37).map (fun i=>(i.zero,i.size,i.bytes))=some (some (.agg #[.int .i64 0,.int .i64 0,.int .i64 0]),3,24):=by kernel_rfl
end Go.Proofs.YtpdehdomilnmeaaGreatDoor
namespace Go.Proofs.YtpdehdomilnmeaaGreatDoor
open Go.ChangeShapes Go.WideShapes Go.ChangeAt Go.RowKit
set_option maxRecDepth 100000
attribute [local go_sem] World.cell?_alloc_some fAs
def okTs (xs:List Tk):Prop:=xs.length<=8/\∀ x ∈ xs,okT x
theorem okT_at {xs:List Tk} (h:∀ x ∈ xs,okT x) {j:Nat} {x:Tk} (hx:xs[j]?=some x):okT x:=h x (List.mem_of_getElem? hx)
set_option maxHeartbeats 1600000 in
theorem checkTasks_ok (w:World) (v:Value) (xs:List Tk) (h:Tks w v xs) (hx:okTs xs) :
  Calls Tryz.prog 128 #[v] w fun e w'=>e=.returned .nilIface/\Below w.heap.size w w':=by
 obtain⟨a0,cap,rfl,hl,h9⟩:=id h
 have HS:=mH h
 have HX:=mH hx
 have hn:(xs.length:Int)<=8:=by have:=hx.1;omega
 clear h hx h9
 go_enter Tryz.func128,Tryz.ntmps128
 go_wp2
 go_loopw [11] (fun iv wr=>∃ j:Nat,iv=.int .i64 (j:Int)/\j<=xs.length/\Hid (Below w.heap.size w wr)) (fun iv _=>xs.length - (intOf iv).toNat)
 case atStart=>exact⟨0,rfl,Nat.zero_le _,Below.refl _ _⟩
 case round=>
  obtain⟨j,rfl,hj,HB⟩:=hrel
  by_cases hlt:j < xs.length
  ·obtain⟨b,off,c,p,d,s,rfl,hxj,c0,c1,c2,c3⟩:=HS.out.at HB.out j hlt
   have hji:(j:Int) < xs.length:=by omega
   have HK:=mH (bT_true (okT_at HX.out.2 hxj))
   clear hxj
   go_wp2_with (go_at_call 159;have hq:=legalTask_is (wr.alloc (.cells #[.int .i64 c,.int .i64 p,.int .i64 d,.int .i64 s] 45)) (c,p,d,s);rw [HK.out] at hq;refine hq.mono ?_;clear hq;rintro e w1 ⟨rfl,b1⟩;have HB1:=mH (bt (ba HB.out _) b1);clear b1)
   go_roundw
   case rel=>exact⟨j+1,by go_num,by omega,HB1⟩
   case measure=>simp [intOf];omega
  ·obtain rfl:j=xs.length:=by omega
   go_wp2
   go_ret
   exact⟨rfl,HB.out⟩
set_option maxHeartbeats 1600000 in
theorem checkTasks_no (w:World) (v:Value) (xs:List Tk) (a:Addr) (h:Tks w v xs) (hx:¬ okTs xs) (he:w.cell? ⟨10,0,none⟩=some (vE a)) :
  Calls Tryz.prog 128 #[v] w fun e w'=>e=.returned (vE a)/\Below w.heap.size w w':=by
 obtain⟨a0,cap,rfl,hl,h9⟩:=id h
 have HS:=mH h
 have HX:=mH hx
 clear h hx h9
 by_cases hn:(xs.length:Int)<=8
 ·have HE:=mH he
  clear he
  go_enter Tryz.func128,Tryz.ntmps128
  go_wp2
  go_loopw [11] (fun iv wr=>∃ j:Nat,iv=.int .i64 (j:Int)/\j<=xs.length/\Hid (∀ i x,i < j->xs[i]?=some x->okT x)/\Hid (Below w.heap.size w wr)) (fun iv _=>xs.length - (intOf iv).toNat)
  case atStart=>exact⟨0,rfl,Nat.zero_le _,mH (fun i x hi=>by omega),Below.refl _ _⟩
  case round=>
   obtain⟨j,rfl,hj,HO,HB⟩:=hrel
   by_cases hlt:j < xs.length
   ·obtain⟨b,off,c,p,d,s,rfl,hxj,c0,c1,c2,c3⟩:=HS.out.at HB.out j hlt
    have hji:(j:Int) < xs.length:=by omega
    have HXJ:=mH hxj
    clear hxj
    by_cases hk:okT (c,p,d,s)
    ·have HK:=mH hk
     have HK2:=mH (bT_true hk)
     clear hk
     go_wp2_with (go_at_call 159;have hq:=legalTask_is (wr.alloc (.cells #[.int .i64 c,.int .i64 p,.int .i64 d,.int .i64 s] 45)) (c,p,d,s);rw [HK2.out] at hq;refine hq.mono ?_;clear hq;rintro e w1 ⟨rfl,b1⟩;have HB1:=mH (bt (ba HB.out _) b1);clear b1)
     go_roundw
     case rel=>
      refine⟨j+1,by go_num,by omega,mH (fun i x hi hx=>?_),HB1⟩
      by_cases e:i=j
      ·subst e
       rw [HXJ.out] at hx
       simp at hx
       rw [<- hx]
       exact HK.out
      ·exact HO.out i x (by omega) hx
     case measure=>simp [intOf];omega
    ·have HK2:=mH (bT_false hk)
     clear hk
     go_wp2_with (go_at_call 159;have hq:=legalTask_is (wr.alloc (.cells #[.int .i64 c,.int .i64 p,.int .i64 d,.int .i64 s] 45)) (c,p,d,s);rw [HK2.out] at hq;refine hq.mono ?_;clear hq;rintro e w1 ⟨rfl,b1⟩;have HB1:=mH (bt (ba HB.out _) b1);clear b1;have ce:=kc HE.out HB1.out)
     go_ret
     exact⟨rfl,HB1.out⟩
   ·exfalso
    refine HX.out ⟨by omega,fun x hm=>?_⟩
    obtain⟨i,hi,rfl⟩:=List.getElem_of_mem hm
    exact HO.out i _ (by omega) (List.getElem?_eq_getElem hi)
 ·have hn2:(8:Int) < xs.length:=by omega
  go_enter Tryz.func128,Tryz.ntmps128
  go_wp2
  go_ret
  exact⟨rfl,Below.refl _ _⟩
def okG (p:Int) (xs:List Tk):Prop:=(p=1 ∨ p=2)/\1<=xs.length/\okTs xs
theorem guest_ok (w:World) (v:Value) (p:Int) (xs:List Tk) (h:Tks w v xs) (hx:okG p xs) :
  Calls Tryz.prog 103 #[.int .i64 p,v] w fun e w'=>e=.returned .nilIface/\Below w.heap.size w w':=by
 obtain⟨a0,cap,rfl,hl,h9⟩:=id h
 have HS:=mH h
 have HX:=mH hx.2.2
 have hn:¬ (xs.length:Int)=0:=by have:=hx.2.1;omega
 have hp:=hx.1
 clear h h9 hx
 rcases hp with rfl | rfl
 all_goals
  go_enter Tryz.func103,Tryz.ntmps103
  go_wp2_with (go_at_call 128;refine(checkTasks_ok _ _ xs HS.out HX.out).mono ?_;rintro e w1 ⟨rfl,b1⟩)
  go_ret
  exact⟨rfl,b1⟩
theorem guest_no (w:World) (v:Value) (p:Int) (xs:List Tk) (a:Addr) (h:Tks w v xs) (hx:¬ okG p xs) (he:w.cell? ⟨10,0,none⟩=some (vE a)) :
  Calls Tryz.prog 103 #[.int .i64 p,v] w fun e w'=>e=.returned (vE a)/\Below w.heap.size w w':=by
 obtain⟨a0,cap,rfl,hl,h9⟩:=id h
 have HS:=mH h
 by_cases hp:p=1 ∨ p=2
 ·by_cases hn:xs.length=0
  ·have hn':(xs.length:Int)=0:=by omega
   clear h h9 hx hn
   rcases hp with rfl | rfl
   all_goals
    go_enter Tryz.func103,Tryz.ntmps103
    go_wp2
    go_ret
    exact⟨rfl,Below.refl _ _⟩
  ·have HX:Hid (¬ okTs xs):=mH (fun ht=>hx ⟨hp,by omega,ht⟩)
   have hn':¬ (xs.length:Int)=0:=by omega
   have HE:=mH he
   clear h h9 hx hn he
   rcases hp with rfl | rfl
   all_goals
    go_enter Tryz.func103,Tryz.ntmps103
    go_wp2_with (go_at_call 128;refine(checkTasks_no _ _ xs a HS.out HX.out HE.out).mono ?_;rintro e w1 ⟨rfl,b1⟩)
    go_ret
    exact⟨rfl,b1⟩
 ·have h1:¬ p=1:=fun e=>hp (.inl e)
  have h2:¬ p=2:=fun e=>hp (.inr e)
  have h3:(p != 1)=true:=by simpa using h1
  have h4:(p != 2)=true:=by simpa using h2
  clear h h9 hx hp
  go_enter Tryz.func103,Tryz.ntmps103
  go_wp2
  go_ret
  exact⟨rfl,Below.refl _ _⟩
def gb (c:Bool) (xs:List Tk):Bool:=c && xs.all bT
theorem take_cp {xs:List Tk} {j:Nat} {x:Tk} (hx:xs[j]?=some x):(xs.map cp).take (j+1)=(xs.map cp).take j ++ [cp x]:=by
 rw [List.take_add_one]
 simp [hx]
theorem okq_takeT {xs:List Tk} (h:∀ x ∈ xs,okT x) (j:Nat):∀ y ∈ (xs.map cp).take j,okq y:=by
 intro y hy
 obtain⟨x,hx,rfl⟩:=List.mem_map.mp (List.mem_of_mem_take hy)
 exact(h x hx).q
set_option maxHeartbeats 1600000 in
theorem tasks_ok (w:World) (v:Value) (xs:List Tk) (A B C E:Int) (h:Tks w v xs) (hx:okTs xs) (hp:Pt (sh (xs.map cp)) A B C E) :
  Calls Tryz.prog 185 #[v] w fun e w'=>e=.returned (.tuple #[vP A B C E,.nilIface])/\Below w.heap.size w w':=by
 obtain⟨a0,cap,rfl,hl,h9⟩:=id h
 have HS:=mH h
 have HX:=mH hx
 have HP:=mH hp
 clear h hx h9 hp
 go_enter Tryz.func185,Tryz.ntmps185
 go_wp2_with (first
  |(go_at_call 128;refine(checkTasks_ok _ _ xs (HS.out.below (ba (Below.refl _ _) _)) HX.out).mono ?_;rintro e w0 ⟨rfl,b0⟩;have HB0:=mH b0;clear b0)
  |(go_at_call 189;refine(nothing_is _).mono ?_;rintro e w1 ⟨rfl,b1⟩;have HB1:=mH (bt HB0.out b1);clear b1))
 have HQ:Hid (P4 (w1.alloc (oP 0 0 0 1)) w.heap.size 0 0 0 0):=mH (((P4.new w 0 0 0 0).below HB1.out).alloc _)
 have HR:Hid (P4 (w1.alloc (oP 0 0 0 1)) w1.heap.size 0 0 0 1):=mH (P4.new w1 0 0 0 1)
 have HC:Hid (Below w.heap.size w (w1.alloc (oP 0 0 0 1))):=mH (ba (bt (ba (Below.refl _ _) _) HB1.out) _)
 have HN:Hid (w.heap.size < w1.heap.size):=mH (by have:=HB1.out.size;simp at this;omega)
 clear HB0 HB1
 go_loopw [17] (fun iv wr=>∃ j:Nat,∃ A B C E:Int,iv=.int .i64 (j:Int)/\j<=xs.length/\Hid (Pt (sh ((xs.map cp).take j)) A B C E)/\Hid (P4 wr w.heap.size 0 0 0 0)/\Hid (P4 wr w1.heap.size A B C E)/\Hid (Below w.heap.size w wr)) (fun iv _=>xs.length - (intOf iv).toNat)
 case atStart=>exact⟨0,0,0,0,1,rfl,Nat.zero_le _,mH (by simpa [sh] using pt01),HQ,HR,HC⟩
 case round=>
  clear HQ HR HC
  obtain⟨j,A1,B1,C1,E1,rfl,hj,HP1,HQ,HR,HC⟩:=hrel
  by_cases hlt:j < xs.length
  ·obtain⟨b,off,c,p,d,s,rfl,hxj,c0,c1,c2,c3⟩:=HS.out.at HC.out j hlt
   have hji:(j:Int) < xs.length:=by omega
   have HK:=mH (okT_at HX.out.2 hxj)
   obtain⟨A2,B2,C2,E2,hp2⟩:=sh_pt ((xs.map cp).take (j+1)) (okq_takeT HX.out.2 _) (by have:=HX.out.1;rw [List.length_take,List.length_map];omega)
   have HP2:=mH hp2
   rw [take_cp hxj,sh_snoc] at hp2
   have HP3:=mH hp2
   have HD:=mH (sh_fit ((xs.map cp).take j) (okq_takeT HX.out.2 _) (by have:=HX.out.1;rw [List.length_take,List.length_map];omega)).1
   clear hxj hp2
   obtain⟨⟨y0,y1,y2,y3⟩,g0,g1,g2,g3⟩:=id HR.out
   go_wp2_with (go_at_call 190;refine(with_is _ (q:=c) (t:=p) HP1.out HP3.out HK.out.q HD.out).mono ?_;rintro e w2 ⟨rfl,b2⟩;have HR2:=mH ((HR.out.alloc _).below b2);have HQ2:=mH ((HQ.out.alloc _).below b2);have HC2:=mH (bt (ba HC.out _) b2);clear b2 y0 y1 y2 y3 g0 g1 g2 g3 c0 c1 c2 c3;obtain⟨⟨y0,y1,y2,y3⟩,g0,g1,g2,g3⟩:=id HR2.out)
   go_roundw
   case rel=>exact⟨j+1,A2,B2,C2,E2,by go_num,by omega,HP2,mH (HQ2.out.other (by have:=HN.out;omega) _ _ _ _),mH (HR2.out.set A2 B2 C2 E2),mH ((((HC2.out.setCell (Nat.le_of_lt HN.out) _).setCell (Nat.le_of_lt HN.out) _).setCell (Nat.le_of_lt HN.out) _).setCell (Nat.le_of_lt HN.out) _)⟩
   case measure=>simp [intOf];omega
  ·obtain rfl:j=xs.length:=by omega
   have hp1:=HP1.out
   rw [List.take_of_length_le (by simp)] at hp1
   obtain⟨rfl,rfl,rfl,rfl⟩:=hp1.un HP.out
   clear hp1
   obtain⟨⟨y0,y1,y2,y3⟩,g0,g1,g2,g3⟩:=id HR.out
   obtain⟨⟨z0,z1,z2,z3⟩,f0,f1,f2,f3⟩:=id HQ.out
   go_wp2
   exact bodyPost_ret (v:=.tuple #[vP A1 B1 C1 E1,.nilIface]) (by simp [results,Tryz.results185,go_sem,z0,z1,z2,z3]) rfl ⟨rfl,(((HC.out.setCell (Nat.le_refl _) _).setCell (Nat.le_refl _) _).setCell (Nat.le_refl _) _).setCell (Nat.le_refl _) _⟩
end Go.Proofs.YtpdehdomilnmeaaGreatDoor
