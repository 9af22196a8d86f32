import Derived.Test.YtpdehdomilnmeaaGreatDoorPlan1
import Derived.Test.YtpdehdomilnmeaaGreatDoorPa
namespace Go.Proofs.YtpdehdomilnmeaaGreatDoor
open Go.ChangeShapes Go.WideShapes Go.ChangeAt Go.RowKit
set_option maxRecDepth 100000
attribute [local go_sem] World.cell?_alloc_some fAs
def SvAt (w:World) (b o:Nat) (s:Sv):Prop:=w.cell? ⟨b,o,none⟩=some (.int .i64 s.1)/\w.cell? ⟨b,o+1,none⟩=some (.int .i64 s.2.1)/\w.cell? ⟨b,o+2,none⟩=some (.int .i64 s.2.2)
def Svs (w:World) (v:Value) (xs:List Sv):Prop:=
 ∃ a cap,v=.slice a xs.length cap/\(xs.length:Int)<=9223372036854775807/\(0 < xs.length->∃ b off,a=some ⟨b,off,none⟩/\∀ i x,xs[i]?=some x->SvAt w b (off+i * 3) x)
theorem SvAt.below {w w':World} {b o:Nat} {s:Sv} (h:SvAt w b o s) (hb:Below w.heap.size w w'):SvAt w' b o s:=⟨kc h.1 hb,kc h.2.1 hb,kc h.2.2 hb⟩
theorem Svs.below {w w':World} {v:Value} {xs:List Sv} (h:Svs w v xs) (hb:Below w.heap.size w w'):Svs w' v xs:=by
 obtain⟨a,cap,rfl,hl,hr⟩:=h
 refine⟨a,cap,rfl,hl,fun hp=>?_⟩
 obtain⟨b,off,rfl,hc⟩:=hr hp
 exact⟨b,off,rfl,fun i x hi=>(hc i x hi).below hb⟩
theorem Svs.at {w w':World} {a:Option Addr} {n cap:Nat} {xs:List Sv} (h:Svs w (.slice a n cap) xs) (hb:Below w.heap.size w w') (i:Nat) (hi:i < xs.length):∃ b off k q t,a=some ⟨b,off,none⟩/\xs[i]?=some (k,q,t)/\w'.cell? ⟨b,off+i * 3,none⟩=some (.int .i64 k)/\w'.cell? ⟨b,off+i * 3+1,none⟩=some (.int .i64 q)/\w'.cell? ⟨b,off+i * 3+2,none⟩=some (.int .i64 t):=by
 obtain⟨a',cap',e,_,hr⟩:=h.below hb
 simp at e
 obtain⟨rfl,rfl,rfl⟩:=e
 obtain⟨b,off,rfl,hc⟩:=hr (by omega)
 obtain⟨⟨k,q,t⟩,hx⟩:∃ x,xs[i]?=some x:=⟨_,List.getElem?_eq_getElem hi⟩
 exact⟨b,off,k,q,t,rfl,hx,hc i _ hx⟩
abbrev vP (A B C E:Int):Value:=.agg #[.int .u64 A,.int .u64 B,.int .u64 C,.int .u64 E]
abbrev oP (A B C E:Int):Obj:=.cells #[.int .u64 A,.int .u64 B,.int .u64 C,.int .u64 E] 201
def P4 (w:World) (p:Nat) (A B C E:Int):Prop:=
 (w.cell? ⟨p,0,none⟩=some (.int .u64 A)/\w.cell? ⟨p,1,none⟩=some (.int .u64 B)/\w.cell? ⟨p,2,none⟩=some (.int .u64 C)/\w.cell? ⟨p,3,none⟩=some (.int .u64 E)) /\
  w.frozen? ⟨p,0,none⟩=false/\w.frozen? ⟨p,1,none⟩=false/\w.frozen? ⟨p,2,none⟩=false/\w.frozen? ⟨p,3,none⟩=false
theorem P4.below {w w':World} {p:Nat} {A B C E:Int} (h:P4 w p A B C E) (hb:Below w.heap.size w w'):P4 w' p A B C E:=by
 obtain⟨⟨h0,h1,h2,h3⟩,g0,g1,g2,g3⟩:=h
 exact⟨⟨kc h0 hb,kc h1 hb,kc h2 hb,kc h3 hb⟩,kf h0 hb g0,kf h1 hb g1,kf h2 hb g2,kf h3 hb g3⟩
theorem P4.alloc {w:World} {p:Nat} {A B C E:Int} (h:P4 w p A B C E) (o:Obj):P4 (w.alloc o) p A B C E:=h.below ((Below.refl _ _).alloc (Nat.le_refl _) _)
theorem P4.new (w:World) (A B C E:Int):P4 (w.alloc (oP A B C E)) w.heap.size A B C E:=by
 refine⟨⟨?_, ?_, ?_, ?_⟩, ?_, ?_, ?_, ?_⟩ <;> simp [go_sem]
set_option maxHeartbeats 1600000 in
theorem servers_no (w:World) (v:Value) (xs:List Sv) (a:Addr) (h:Svs w v xs) (hx:∃ x ∈ xs,¬ okS x) (he:w.cell? ⟨9,0,none⟩=some (vE a)) :
  Calls Tryz.prog 175 #[v] w fun e w'=>e=.returned (.tuple #[vP 0 0 0 0,vE a])/\Below w.heap.size w w':=by
 obtain⟨a0,cap,rfl,hl,h9⟩:=id h
 have HS:=mH h
 have HX:=mH hx
 have HE:=mH he
 clear h hx he h9
 go_enter Tryz.func175,Tryz.ntmps175
 go_wp2
 go_loopw [12] (fun iv wr=>∃ j:Nat,iv=.int .i64 (j:Int)/\j<=xs.length/\Hid (∀ i x,i < j->xs[i]?=some x->okS x)/\Hid (Below (w.alloc (oP 0 0 0 0)).heap.size (w.alloc (oP 0 0 0 0)) wr)) (fun iv _=>xs.length - (intOf iv).toNat)
 case atStart=>exact⟨0,rfl,Nat.zero_le _,mH (fun i x hi=>by omega),Below.refl _ _⟩
 case round=>
  obtain⟨j,rfl,hj,HO,HB⟩:=hrel
  by_cases hlt:j < xs.length
  ·obtain⟨b,off,k,q,t,rfl,hxj,c0,c1,c2⟩:=HS.out.at (bt (ba (Below.refl _ _) _) HB.out) j hlt
   have hji:(j:Int) < xs.length:=by omega
   have HXJ:=mH hxj
   clear hxj
   by_cases hk:okS (k,q,t)
   ·have HK:=mH hk
    clear hk
    go_wp2_with (go_at_call 101;refine(check_ok _ (k,q,t) HK.out).mono ?_;rintro e w1 ⟨rfl,b1⟩;have HB1:=mH (bt (ba HB.out _) b1);clear b1)
    go_roundw
    case rel=>
     refine⟨j+1,by go_num,by omega,mH (fun i x hi hx=>?_),HB1⟩
     by_cases e:i=j
     ·subst e
      rw [HXJ.out] at hx
      simp at hx
      rw [<- hx]
      exact HK.out
     ·exact HO.out i x (by omega) hx
    case measure=>simp [intOf];omega
   ·have HK:=mH hk
    clear hk
    go_wp2_with (go_at_call 101;refine(check_no _ (k,q,t) HK.out a (kl (kc (kl HE.out _) HB.out) _)).mono ?_;rintro e w1 ⟨rfl,b1⟩;have HB1:=mH (bt (ba HB.out _) b1);clear b1;obtain⟨⟨z0,z1,z2,z3⟩,f0,f1,f2,f3⟩:=(P4.new w 0 0 0 0).below HB1.out)
    exact bodyPost_ret (v:=.tuple #[vP 0 0 0 0,vE a]) (by simp [results,Tryz.results175,go_sem,z0,z1,z2,z3]) rfl ⟨rfl,((((bt (ba (Below.refl _ _) _) HB1.out).setCell (Nat.le_refl _) _).setCell (Nat.le_refl _) _).setCell (Nat.le_refl _) _).setCell (Nat.le_refl _) _⟩
  ·exfalso
   obtain⟨x,hm,hn⟩:=HX.out
   obtain⟨i,hi,rfl⟩:=List.getElem_of_mem hm
   exact hn (HO.out i _ (by omega) (List.getElem?_eq_getElem hi))
structure Pt (p:Int × Int) (A B C E:Int):Prop where
 a:Word A
 b:Word B
 c:Word C
 e:Word E
 n:wv A B=p.1
 d:wv C E=p.2
theorem pt_ex {p:Int × Int} (h0:0<=p.1) (h1:p.1 < 340282366920938463463374607431768211456) (h2:0<=p.2) (h3:p.2 < 340282366920938463463374607431768211456):∃ A B C E,Pt p A B C E:=by
 obtain⟨A,B,a,b,e1⟩:=halves p.1 h0 h1
 obtain⟨C,E,c,e,e2⟩:=halves p.2 h2 h3
 exact⟨A,B,C,E,a,b,c,e,e1.symm,e2.symm⟩
theorem Pt.un {p:Int × Int} {A B C E A' B' C' E':Int} (h:Pt p A B C E) (h':Pt p A' B' C' E'):A=A'/\B=B'/\C=C'/\E=E':=by
 obtain⟨e1,e2⟩:=wv_inj h.a h.b h'.a h'.b (h.n.trans h'.n.symm)
 obtain⟨e3,e4⟩:=wv_inj h.c h.e h'.c h'.e (h.d.trans h'.d.symm)
 exact⟨e1,e2,e3,e4⟩
theorem pt_pl {p x:Int × Int} {A B C E A' B' C' E':Int} (hp:Pt p A B C E) (hq:Pt (addp p x) A' B' C' E') (hx:okq x) (hD:1<=p.2):PlIs (wv A B) (wv C E) x.1 x.2 A' B' C' E' true:=by
 obtain⟨x1,x2,x3⟩:=hx
 refine⟨hq.a,hq.b,hq.c,hq.e,fun _=>⟨⟨by rw [hp.d];omega,by omega,by omega⟩, ?_, ?_⟩,fun h=>(by cases h)⟩
 ·rw [hq.n,hp.n,hp.d];rfl
 ·rw [hq.d,hp.d];rfl
theorem sh_pt (l:List (Int × Int)) (h:∀ x ∈ l,okq x) (hl:l.length<=8):∃ A B C E,Pt (sh l) A B C E:=by
 obtain⟨h1,h2,h3,h4⟩:=sh_fit l h hl
 exact pt_ex h3 (by omega) (by omega) (by omega)
theorem pt01:Pt (0,1) 0 0 0 1:=⟨word0,word0,word0,word1,rfl,rfl⟩
theorem nothing_is (w:World):Calls Tryz.prog 189 #[] w fun e w'=>e=.returned (vP 0 0 0 1)/\Below w.heap.size w w':=by
 have M1:Hid True:=mH trivial
 go_enter Tryz.func189,Tryz.ntmps189
 go_wp2_with (first
  |(go_at_call 204;clear M1;refine(wof).mono ?_;rintro e w1 ⟨rfl,b1⟩;have HB1:=mH b1;clear b1)
  |(go_at_call 204;refine(wof).mono ?_;rintro e w2 ⟨rfl,b2⟩;have HB2:=mH (bt HB1.out b2);clear b2;obtain⟨⟨z0,z1,z2,z3⟩,f0,f1,f2,f3⟩:=(P4.new w 0 0 0 0).below HB2.out))
 exact bodyPost_ret (v:=vP 0 0 0 1) (by simp [results,Tryz.results189,go_sem,z0,z1,z2,z3]) rfl ⟨rfl,((((bt (ba (Below.refl _ _) _) HB2.out).setCell (Nat.le_refl _) _).setCell (Nat.le_refl _) _).setCell (Nat.le_refl _) _).setCell (Nat.le_refl _) _⟩
set_option maxHeartbeats 1600000 in
theorem with_is (w:World) {p:Int × Int} {q t:Int} {A B C E A' B' C' E':Int} (hp:Pt p A B C E) (hq:Pt (addp p (q,t)) A' B' C' E') (hx:okq (q,t)) (hD:1<=p.2) :
  Calls Tryz.prog 190 #[vP A B C E,.int .i64 q,.int .i64 t] w fun e w'=>e=.returned (vP A' B' C' E')/\Below w.heap.size w w':=by
 have HP:=mH (pt_pl hp hq hx hD)
 have HQ:=mH hp
 have i1:I64 q:=⟨by have:=hx.1;simp only at this;omega,by have:=hx.2.1;have:=hx.2.2;simp only at *;omega⟩
 have i2:I64 t:=⟨by have:=hx.1;have:=hx.2.1;simp only at *;omega,by have:=hx.2.2;simp only at *;omega⟩
 have HI:=mH (And.intro i1 i2)
 clear hp hq hx hD i1 i2
 go_enter Tryz.func190,Tryz.ntmps190
 go_wp2_with (go_at_call 205;refine(plus_is HQ.out.a HQ.out.b HQ.out.c HQ.out.e HI.out.1 HI.out.2 HP.out).mono ?_;rintro e w1 ⟨rfl,b1⟩;have HB1:=mH b1;clear b1;have h4:P4 w1 (w.heap.size+1) 0 0 0 0:=(by have:=(P4.new (w.alloc (oP A B C E)) 0 0 0 0).below HB1.out;simpa using this);obtain⟨⟨z0,z1,z2,z3⟩,f0,f1,f2,f3⟩:=h4)
 exact bodyPost_ret (v:=vP A' B' C' E') (by simp [results,Tryz.results190,go_sem,z0,z1,z2,z3]) rfl ⟨rfl,((((ba (bt (ba (ba (Below.refl _ _) _) _) HB1.out) _).setCell (Nat.le_add_right _ 1) _).setCell (Nat.le_add_right _ 1) _).setCell (Nat.le_add_right _ 1) _).setCell (Nat.le_add_right _ 1) _⟩
theorem P4.set {w:World} {p:Nat} {A B C E:Int} (h:P4 w p A B C E) (A' B' C' E':Int):P4 ((((w.setCell ⟨p,0,none⟩ (.int .u64 A')).setCell ⟨p,1,none⟩ (.int .u64 B')).setCell ⟨p,2,none⟩ (.int .u64 C')).setCell ⟨p,3,none⟩ (.int .u64 E')) p A' B' C' E':=by
 obtain⟨⟨h0,h1,h2,h3⟩,g0,g1,g2,g3⟩:=h
 refine⟨⟨?_, ?_, ?_, ?_⟩, ?_, ?_, ?_, ?_⟩ <;> simp [go_sem, *]
theorem P4.other {w:World} {p r:Nat} {A B C E:Int} (h:P4 w r A B C E) (hn:r ≠ p) (x0 x1 x2 x3:Value):P4 ((((w.setCell ⟨p,0,none⟩ x0).setCell ⟨p,1,none⟩ x1).setCell ⟨p,2,none⟩ x2).setCell ⟨p,3,none⟩ x3) r A B C E:=by
 obtain⟨⟨h0,h1,h2,h3⟩,g0,g1,g2,g3⟩:=h
 refine⟨⟨?_, ?_, ?_, ?_⟩, ?_, ?_, ?_, ?_⟩ <;> simp [go_sem, *]
theorem ok_at {xs:List Sv} (h:∀ x ∈ xs,okS x) {j:Nat} {x:Sv} (hx:xs[j]?=some x):okS x:=h x (List.mem_of_getElem? hx)
theorem take_qt {xs:List Sv} {j:Nat} {x:Sv} (hx:xs[j]?=some x):(xs.map qt).take (j+1)=(xs.map qt).take j ++ [qt x]:=by
 rw [List.take_add_one]
 simp [hx]
theorem okq_take {xs:List Sv} (h:∀ x ∈ xs,okS x) (j:Nat):∀ y ∈ (xs.map qt).take j,okq y:=by
 intro y hy
 obtain⟨x,hx,rfl⟩:=List.mem_map.mp (List.mem_of_mem_take hy)
 exact(h x hx).q
set_option maxHeartbeats 1600000 in
theorem servers_full (w:World) (v:Value) (xs:List Sv) (a:Addr) (h:Svs w v xs) (hx:∀ x ∈ xs,okS x) (hn:8 < xs.length) (he:w.cell? ⟨6,0,none⟩=some (vE a)) :
  Calls Tryz.prog 175 #[v] w fun e w'=>e=.returned (.tuple #[vP 0 0 0 0,vE a])/\Below w.heap.size w w':=by
 obtain⟨a0,cap,rfl,hl,h9⟩:=id h
 have HS:=mH h
 have HX:=mH hx
 have HE:=mH he
 clear h hx he h9
 go_enter Tryz.func175,Tryz.ntmps175
 go_wp2
 go_loopw [12] (fun iv wr=>∃ j:Nat,iv=.int .i64 (j:Int)/\j<=xs.length/\Hid (Below (w.alloc (oP 0 0 0 0)).heap.size (w.alloc (oP 0 0 0 0)) wr)) (fun iv _=>xs.length - (intOf iv).toNat)
 case atStart=>exact⟨0,rfl,Nat.zero_le _,Below.refl _ _⟩
 case round=>
  obtain⟨j,rfl,hj,HB⟩:=hrel
  by_cases hlt:j < xs.length
  ·obtain⟨b,off,k,q,t,rfl,hxj,c0,c1,c2⟩:=HS.out.at (bt (ba (Below.refl _ _) _) HB.out) j hlt
   have hji:(j:Int) < xs.length:=by omega
   have HK:=mH (ok_at HX.out hxj)
   clear hxj
   go_wp2_with (go_at_call 101;refine(check_ok _ (k,q,t) HK.out).mono ?_;rintro e w1 ⟨rfl,b1⟩;have HB1:=mH (bt (ba HB.out _) b1);clear b1)
   go_roundw
   case rel=>exact⟨j+1,by go_num,by omega,HB1⟩
   case measure=>simp [intOf];omega
  ·obtain rfl:j=xs.length:=by omega
   have hni:(8:Int) < xs.length:=by omega
   obtain⟨⟨z0,z1,z2,z3⟩,f0,f1,f2,f3⟩:=(P4.new w 0 0 0 0).below HB.out
   have ce:=kc (kl HE.out (oP 0 0 0 0)) HB.out
   have hg:=cell_lt HE.out
   have hg1:¬ 6=w.heap.size:=by simp only at hg;omega
   have hg2:¬ w.heap.size=6:=by simp only at hg;omega
   go_wp2
   go_region
   all_goals
    go_wp2
    exact bodyPost_ret (v:=.tuple #[vP 0 0 0 0,vE a]) (by simp [results,Tryz.results175,go_sem,z0,z1,z2,z3]) rfl ⟨rfl,(((((bt (ba (Below.refl _ _) _) HB.out).setCell (Nat.le_refl _) _).setCell (Nat.le_refl _) _).setCell (Nat.le_refl _) _).setCell (Nat.le_refl _) _).drew⟩
set_option maxHeartbeats 1600000 in
theorem servers_ok (w:World) (v:Value) (xs:List Sv) (A B C E:Int) (h:Svs w v xs) (hx:∀ x ∈ xs,okS x) (hn:xs.length<=8) (hp:Pt (sh (xs.map qt)) A B C E) :
  Calls Tryz.prog 175 #[v] w fun e w'=>e=.returned (.tuple #[vP A B C E,.nilIface])/\Below w.heap.size w w':=by
 obtain⟨a0,cap,rfl,hl,h9⟩:=id h
 have HS:=mH h
 have HX:=mH hx
 have HP:=mH hp
 clear h hx h9 hp
 go_enter Tryz.func175,Tryz.ntmps175
 go_wp2
 go_loopw [12] (fun iv wr=>∃ j:Nat,iv=.int .i64 (j:Int)/\j<=xs.length/\Hid (Below (w.alloc (oP 0 0 0 0)).heap.size (w.alloc (oP 0 0 0 0)) wr)) (fun iv _=>xs.length - (intOf iv).toNat)
 case atStart=>exact⟨0,rfl,Nat.zero_le _,Below.refl _ _⟩
 case round=>
  obtain⟨j,rfl,hj,HB⟩:=hrel
  by_cases hlt:j < xs.length
  ·obtain⟨b,off,k,q,t,rfl,hxj,c0,c1,c2⟩:=HS.out.at (bt (ba (Below.refl _ _) _) HB.out) j hlt
   have hji:(j:Int) < xs.length:=by omega
   have HK:=mH (ok_at HX.out hxj)
   clear hxj
   go_wp2_with (go_at_call 101;refine(check_ok _ (k,q,t) HK.out).mono ?_;rintro e w1 ⟨rfl,b1⟩;have HB1:=mH (bt (ba HB.out _) b1);clear b1)
   go_roundw
   case rel=>exact⟨j+1,by go_num,by omega,HB1⟩
   case measure=>simp [intOf];omega
  ·obtain rfl:j=xs.length:=by omega
   have hni:(xs.length:Int)<=8:=by omega
   clear hlt hj
   go_wp2_with (go_at_call 189;refine(nothing_is _).mono ?_;rintro e w1 ⟨rfl,b1⟩;have HB1:=mH (bt HB.out b1);clear b1)
   have HQ:Hid (P4 (w1.alloc (oP 0 0 0 1)) w.heap.size 0 0 0 0):=mH (((P4.new w 0 0 0 0).below HB1.out).alloc _)
   have HR:Hid (P4 (w1.alloc (oP 0 0 0 1)) w1.heap.size 0 0 0 1):=mH (P4.new w1 0 0 0 1)
   have HC:Hid (Below w.heap.size w (w1.alloc (oP 0 0 0 1))):=mH (ba (bt (ba (Below.refl _ _) _) HB1.out) _)
   have HN:Hid (w.heap.size < w1.heap.size):=mH (by have:=HB1.out.size;simp at this;omega)
   clear HB HB1
   go_loopw [31] (fun iv wr=>∃ j:Nat,∃ A B C E:Int,iv=.int .i64 (j:Int)/\j<=xs.length/\Hid (Pt (sh ((xs.map qt).take j)) A B C E)/\Hid (P4 wr w.heap.size 0 0 0 0)/\Hid (P4 wr w1.heap.size A B C E)/\Hid (Below w.heap.size w wr)) (fun iv _=>xs.length - (intOf iv).toNat)
   case atStart=>exact⟨0,0,0,0,1,rfl,Nat.zero_le _,mH (by simpa [sh] using pt01),HQ,HR,HC⟩
   case round=>
    clear HQ HR HC
    obtain⟨j,A1,B1,C1,E1,rfl,hj,HP1,HQ,HR,HC⟩:=hrel
    by_cases hlt:j < xs.length
    ·obtain⟨b,off,k,q,t,rfl,hxj,c0,c1,c2⟩:=HS.out.at HC.out j hlt
     have hji:(j:Int) < xs.length:=by omega
     have HK:=mH (ok_at HX.out hxj)
     obtain⟨A2,B2,C2,E2,hp2⟩:=sh_pt ((xs.map qt).take (j+1)) (okq_take HX.out _) (by rw [List.length_take,List.length_map];omega)
     have HP2:=mH hp2
     rw [take_qt hxj,sh_snoc] at hp2
     have HP3:=mH hp2
     have HD:=mH (sh_fit ((xs.map qt).take j) (okq_take HX.out _) (by rw [List.length_take,List.length_map];omega)).1
     clear hxj hp2
     obtain⟨⟨y0,y1,y2,y3⟩,g0,g1,g2,g3⟩:=id HR.out
     go_wp2_with (go_at_call 190;refine(with_is _ (q:=q) (t:=t) HP1.out HP3.out HK.out.q HD.out).mono ?_;rintro e w2 ⟨rfl,b2⟩;have HR2:=mH ((HR.out.alloc _).below b2);have HQ2:=mH ((HQ.out.alloc _).below b2);have HC2:=mH (bt (ba HC.out _) b2);clear b2 y0 y1 y2 y3 g0 g1 g2 g3 c0 c1 c2;obtain⟨⟨y0,y1,y2,y3⟩,g0,g1,g2,g3⟩:=id HR2.out)
     go_roundw
     case rel=>exact⟨j+1,A2,B2,C2,E2,by go_num,by omega,HP2,mH (HQ2.out.other (by have:=HN.out;omega) _ _ _ _),mH (HR2.out.set A2 B2 C2 E2),mH ((((HC2.out.setCell (Nat.le_of_lt HN.out) _).setCell (Nat.le_of_lt HN.out) _).setCell (Nat.le_of_lt HN.out) _).setCell (Nat.le_of_lt HN.out) _)⟩
     case measure=>simp [intOf];omega
    ·obtain rfl:j=xs.length:=by omega
     have hp1:=HP1.out
     rw [List.take_of_length_le (by simp)] at hp1
     obtain⟨rfl,rfl,rfl,rfl⟩:=hp1.un HP.out
     clear hp1
     obtain⟨⟨y0,y1,y2,y3⟩,g0,g1,g2,g3⟩:=id HR.out
     obtain⟨⟨z0,z1,z2,z3⟩,f0,f1,f2,f3⟩:=id HQ.out
     go_wp2
     exact bodyPost_ret (v:=.tuple #[vP A1 B1 C1 E1,.nilIface]) (by simp [results,Tryz.results175,go_sem,z0,z1,z2,z3]) rfl ⟨rfl,(((HC.out.setCell (Nat.le_refl _) _).setCell (Nat.le_refl _) _).setCell (Nat.le_refl _) _).setCell (Nat.le_refl _) _⟩
end Go.Proofs.YtpdehdomilnmeaaGreatDoor
