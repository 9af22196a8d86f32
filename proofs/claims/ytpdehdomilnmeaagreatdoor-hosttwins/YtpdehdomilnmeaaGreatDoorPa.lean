import Derived.Test.YtpdehdomilnmeaaGreatDoorRf
import Derived.Test.YtpdehdomilnmeaaGreatDoorCross
namespace Go.Proofs.YtpdehdomilnmeaaGreatDoor
open Go.ChangeShapes Go.WideShapes Go.ChangeAt Go.RowKit
set_option maxRecDepth 100000
attribute [local go_sem] World.cell?_alloc_some
structure Lg (D q t:Int):Prop where
 d:D ≠ 0
 q:0<=q
 t:1<=t
theorem dz {dh dl:Int} (h:wv dh dl ≠ 0):(dh=0/\¬ dl=0) ∨ ¬ dh=0:=by
 by_cases e:dh=0
 ·left;refine⟨e,fun e2=>h ?_⟩;rw [e,e2];rfl
 ·exact .inr e
theorem zd {dh dl:Int} (a:Word dh) (b:Word dl) (h:wv dh dl=0):dh=0/\dl=0:=wv_inj a b word0 word0 (by rw [h];rfl)
theorem gw {W:World} {G:World->Prop} (S:World->Prop) (hS:S W) (h:∀ x,S x->G x):G W:=h W hS
theorem ff {w:World} {a:Addr} {v:Value} (h:w.cell? a=some v) (f:w.frozen? a=false) (o:Obj):(w.alloc o).frozen? a=false:=by
 rw [World.frozen?_alloc_old]
 ·exact f
 ·exact Nat.ne_of_lt (cell_lt h)
theorem common_no {nh nl dh dl q t:Int} {w:World} (c:Word dh) (d:Word dl) (h:¬ Lg (wv dh dl) q t) :
  Calls Tryz.prog 216 #[.agg #[.int .u64 nh,.int .u64 nl,.int .u64 dh,.int .u64 dl],.int .i64 q,.int .i64 t] w fun e w'=>e=.returned (.tuple #[.agg #[.int .u64 0,.int .u64 0],.agg #[.int .u64 0,.int .u64 0],.bool false])/\Below w.heap.size w w':=by
 by_cases hd:wv dh dl=0
 ·obtain⟨rfl,rfl⟩:=zd c d hd
  clear h hd
  go_enter Tryz.func216,Tryz.ntmps216
  go_wp2
  exact bodyPost_ret (v:=.tuple #[.agg #[.int .u64 0,.int .u64 0],.agg #[.int .u64 0,.int .u64 0],.bool false]) (by simp [results,Tryz.results216,go_sem]) rfl ⟨rfl,ba (ba (ba (Below.refl _ _) _) _) _⟩
 ·have hne:=dz hd
  by_cases hq:q < 0
  ·clear h hd
   rcases hne with ⟨hA,hA'⟩ | hA
   ·subst hA
    go_enter Tryz.func216,Tryz.ntmps216
    go_wp2
    exact bodyPost_ret (v:=.tuple #[.agg #[.int .u64 0,.int .u64 0],.agg #[.int .u64 0,.int .u64 0],.bool false]) (by simp [results,Tryz.results216,go_sem]) rfl ⟨rfl,ba (ba (ba (Below.refl _ _) _) _) _⟩
   ·go_enter Tryz.func216,Tryz.ntmps216
    go_wp2
    exact bodyPost_ret (v:=.tuple #[.agg #[.int .u64 0,.int .u64 0],.agg #[.int .u64 0,.int .u64 0],.bool false]) (by simp [results,Tryz.results216,go_sem]) rfl ⟨rfl,ba (ba (ba (Below.refl _ _) _) _) _⟩
  ·have ht:t < 1:=Int.not_le.mp fun ht=>h ⟨hd,by omega,ht⟩
   clear h hd
   rcases hne with ⟨hA,hA'⟩ | hA
   ·subst hA
    go_enter Tryz.func216,Tryz.ntmps216
    go_wp2
    exact bodyPost_ret (v:=.tuple #[.agg #[.int .u64 0,.int .u64 0],.agg #[.int .u64 0,.int .u64 0],.bool false]) (by simp [results,Tryz.results216,go_sem]) rfl ⟨rfl,ba (ba (ba (Below.refl _ _) _) _) _⟩
   ·go_enter Tryz.func216,Tryz.ntmps216
    go_wp2
    exact bodyPost_ret (v:=.tuple #[.agg #[.int .u64 0,.int .u64 0],.agg #[.int .u64 0,.int .u64 0],.bool false]) (by simp [results,Tryz.results216,go_sem]) rfl ⟨rfl,ba (ba (ba (Below.refl _ _) _) _) _⟩
set_option maxHeartbeats 4000000 in
theorem common_yes {nh nl dh dl q t MH ML JH JL:Int} {mb jb:Bool} {w:World} (a:Word nh) (b:Word nl) (c:Word dh) (d:Word dl) (hq:I64 q) (ht:I64 t) (h:Lg (wv dh dl) q t)
  (hM:Is (wv nh nl * t) MH ML mb) (hJ:Is (wv dh dl * q) JH JL jb) :
  Calls Tryz.prog 216 #[.agg #[.int .u64 nh,.int .u64 nl,.int .u64 dh,.int .u64 dl],.int .i64 q,.int .i64 t] w fun e w'=>e=.returned (.tuple #[.agg #[.int .u64 MH,.int .u64 ML],.agg #[.int .u64 JH,.int .u64 JL],.bool (mb && jb)])/\Below w.heap.size w w':=by
 have hne:=dz h.d
 obtain⟨q1,q2⟩:=hq;obtain⟨t1,t2⟩:=ht
 have q0:=h.q
 have t0:=h.t
 have wq:Word q:=⟨q0,by omega⟩
 have wt:Word t:=⟨by omega,by omega⟩
 clear h
 rcases hne with ⟨hA,hA'⟩ | hA
 ·subst hA
  go_enter Tryz.func216,Tryz.ntmps216
  go_wp2_with (first
   |(go_at_call 208;with_reducible refine(wmul_is a b wt hM).mono ?_;rintro e w1 ⟨rfl,B1⟩;have c0:=kc (a:=⟨w.heap.size,2,none⟩) (v:=.int .u64 0) (by simp [go_sem]) B1;have c1:=kc (a:=⟨w.heap.size,3,none⟩) (v:=.int .u64 dl) (by simp [go_sem]) B1)
   |(go_at_call 208;with_reducible refine(wmul_is c d wq hJ).mono ?_;rintro e w2 ⟨rfl,B2⟩;have m0:=kc (a:=⟨w1.heap.size,0,none⟩) (v:=.int .u64 MH) (by simp [go_sem]) B2;have m1:=kc (a:=⟨w1.heap.size,1,none⟩) (v:=.int .u64 ML) (by simp [go_sem]) B2;clear c0 c1;have T:Below (((w.alloc (Obj.cells #[Value.int IntKind.u64 nh,Value.int IntKind.u64 nl,Value.int IntKind.u64 0,Value.int IntKind.u64 dl] 201)).alloc (Obj.cells #[Value.int IntKind.u64 0,Value.int IntKind.u64 0] 199)).alloc (Obj.cells #[Value.int IntKind.u64 0,Value.int IntKind.u64 0] 199)).heap.size _ w2:=bt (ba B1 _) B2;have f0:=kc (a:=⟨w.heap.size+1,0,none⟩) (v:=.int .u64 0) (by simp [go_sem]) T;have f1:=kc (a:=⟨w.heap.size+1,1,none⟩) (v:=.int .u64 0) (by simp [go_sem]) T;have f2:=kf (a:=⟨w.heap.size+1,0,none⟩) (v:=.int .u64 0) (by simp [go_sem]) T (by simp [go_sem]);have f3:=kf (a:=⟨w.heap.size+1,1,none⟩) (v:=.int .u64 0) (by simp [go_sem]) T (by simp [go_sem]);have g0:=kc (a:=⟨w.heap.size+2,0,none⟩) (v:=.int .u64 0) (by simp [go_sem]) T;have g1:=kc (a:=⟨w.heap.size+2,1,none⟩) (v:=.int .u64 0) (by simp [go_sem]) T;have g2:=kf (a:=⟨w.heap.size+2,0,none⟩) (v:=.int .u64 0) (by simp [go_sem]) T (by simp [go_sem]);have g3:=kf (a:=⟨w.heap.size+2,1,none⟩) (v:=.int .u64 0) (by simp [go_sem]) T (by simp [go_sem])))
  refine gw (G:=fun x=>Code.wp _ _ _ _ x) (fun x=>(x.cell? ⟨w1.heap.size,0,none⟩=some (.int .u64 MH)/\x.cell? ⟨w1.heap.size,1,none⟩=some (.int .u64 ML))/\(x.cell? ⟨w2.heap.size,0,none⟩=some (.int .u64 JH)/\x.cell? ⟨w2.heap.size,1,none⟩=some (.int .u64 JL))/\(x.cell? ⟨w.heap.size+1,0,none⟩=some (.int .u64 0)/\x.cell? ⟨w.heap.size+1,1,none⟩=some (.int .u64 0)/\x.frozen? ⟨w.heap.size+1,0,none⟩=false/\x.frozen? ⟨w.heap.size+1,1,none⟩=false)/\(x.cell? ⟨w.heap.size+2,0,none⟩=some (.int .u64 0)/\x.cell? ⟨w.heap.size+2,1,none⟩=some (.int .u64 0)/\x.frozen? ⟨w.heap.size+2,0,none⟩=false/\x.frozen? ⟨w.heap.size+2,1,none⟩=false)/\Below w.heap.size w x/\(w.heap.size+2 < w1.heap.size/\w1.heap.size < w2.heap.size)) ?_ ?_
  ·have z1:=B1.size
   have z2:=B2.size
   simp at z1 z2
   exact⟨⟨kl m0 _,kl m1 _⟩,⟨by simp [go_sem],by simp [go_sem]⟩,⟨kl f0 _,kl f1 _,ff f0 f2 _,ff f1 f3 _⟩,⟨kl g0 _,kl g1 _,ff g0 g2 _,ff g1 g3 _⟩,ba (bt (ba (ba (ba (Below.refl _ _) _) _) _) T) _,by omega,by omega⟩
  rintro x ⟨⟨m0,m1⟩,⟨j0,j1⟩,⟨f0,f1,f2,f3⟩,⟨g0,g1,g2,g3⟩,D,z1,z2⟩
  clear B1 B2 T
  cases mb <;> cases jb
  all_goals
   go_region
   go_wp2
   exact bodyPost_ret (v:=.tuple #[.agg #[.int .u64 MH,.int .u64 ML],.agg #[.int .u64 JH,.int .u64 JL],.bool _]) (by simp [results,Tryz.results216,go_sem,f0,f1,g0,g1]) rfl ⟨rfl,((((D.setCell (Nat.le_add_right _ 1) _).setCell (Nat.le_add_right _ 1) _).setCell (Nat.le_add_right _ 2) _).setCell (Nat.le_add_right _ 2) _).drew⟩
 ·go_enter Tryz.func216,Tryz.ntmps216
  go_wp2_with (first
   |(go_at_call 208;with_reducible refine(wmul_is a b wt hM).mono ?_;rintro e w1 ⟨rfl,B1⟩;have c0:=kc (a:=⟨w.heap.size,2,none⟩) (v:=.int .u64 dh) (by simp [go_sem]) B1;have c1:=kc (a:=⟨w.heap.size,3,none⟩) (v:=.int .u64 dl) (by simp [go_sem]) B1)
   |(go_at_call 208;with_reducible refine(wmul_is c d wq hJ).mono ?_;rintro e w2 ⟨rfl,B2⟩;have m0:=kc (a:=⟨w1.heap.size,0,none⟩) (v:=.int .u64 MH) (by simp [go_sem]) B2;have m1:=kc (a:=⟨w1.heap.size,1,none⟩) (v:=.int .u64 ML) (by simp [go_sem]) B2;clear c0 c1;have T:Below (((w.alloc (Obj.cells #[Value.int IntKind.u64 nh,Value.int IntKind.u64 nl,Value.int IntKind.u64 dh,Value.int IntKind.u64 dl] 201)).alloc (Obj.cells #[Value.int IntKind.u64 0,Value.int IntKind.u64 0] 199)).alloc (Obj.cells #[Value.int IntKind.u64 0,Value.int IntKind.u64 0] 199)).heap.size _ w2:=bt (ba B1 _) B2;have f0:=kc (a:=⟨w.heap.size+1,0,none⟩) (v:=.int .u64 0) (by simp [go_sem]) T;have f1:=kc (a:=⟨w.heap.size+1,1,none⟩) (v:=.int .u64 0) (by simp [go_sem]) T;have f2:=kf (a:=⟨w.heap.size+1,0,none⟩) (v:=.int .u64 0) (by simp [go_sem]) T (by simp [go_sem]);have f3:=kf (a:=⟨w.heap.size+1,1,none⟩) (v:=.int .u64 0) (by simp [go_sem]) T (by simp [go_sem]);have g0:=kc (a:=⟨w.heap.size+2,0,none⟩) (v:=.int .u64 0) (by simp [go_sem]) T;have g1:=kc (a:=⟨w.heap.size+2,1,none⟩) (v:=.int .u64 0) (by simp [go_sem]) T;have g2:=kf (a:=⟨w.heap.size+2,0,none⟩) (v:=.int .u64 0) (by simp [go_sem]) T (by simp [go_sem]);have g3:=kf (a:=⟨w.heap.size+2,1,none⟩) (v:=.int .u64 0) (by simp [go_sem]) T (by simp [go_sem])))
  refine gw (G:=fun x=>Code.wp _ _ _ _ x) (fun x=>(x.cell? ⟨w1.heap.size,0,none⟩=some (.int .u64 MH)/\x.cell? ⟨w1.heap.size,1,none⟩=some (.int .u64 ML))/\(x.cell? ⟨w2.heap.size,0,none⟩=some (.int .u64 JH)/\x.cell? ⟨w2.heap.size,1,none⟩=some (.int .u64 JL))/\(x.cell? ⟨w.heap.size+1,0,none⟩=some (.int .u64 0)/\x.cell? ⟨w.heap.size+1,1,none⟩=some (.int .u64 0)/\x.frozen? ⟨w.heap.size+1,0,none⟩=false/\x.frozen? ⟨w.heap.size+1,1,none⟩=false)/\(x.cell? ⟨w.heap.size+2,0,none⟩=some (.int .u64 0)/\x.cell? ⟨w.heap.size+2,1,none⟩=some (.int .u64 0)/\x.frozen? ⟨w.heap.size+2,0,none⟩=false/\x.frozen? ⟨w.heap.size+2,1,none⟩=false)/\Below w.heap.size w x/\(w.heap.size+2 < w1.heap.size/\w1.heap.size < w2.heap.size)) ?_ ?_
  ·have z1:=B1.size
   have z2:=B2.size
   simp at z1 z2
   exact⟨⟨kl m0 _,kl m1 _⟩,⟨by simp [go_sem],by simp [go_sem]⟩,⟨kl f0 _,kl f1 _,ff f0 f2 _,ff f1 f3 _⟩,⟨kl g0 _,kl g1 _,ff g0 g2 _,ff g1 g3 _⟩,ba (bt (ba (ba (ba (Below.refl _ _) _) _) _) T) _,by omega,by omega⟩
  rintro x ⟨⟨m0,m1⟩,⟨j0,j1⟩,⟨f0,f1,f2,f3⟩,⟨g0,g1,g2,g3⟩,D,z1,z2⟩
  clear B1 B2 T
  cases mb <;> cases jb
  all_goals
   go_region
   go_wp2
   exact bodyPost_ret (v:=.tuple #[.agg #[.int .u64 MH,.int .u64 ML],.agg #[.int .u64 JH,.int .u64 JL],.bool _]) (by simp [results,Tryz.results216,go_sem,f0,f1,g0,g1]) rfl ⟨rfl,((((D.setCell (Nat.le_add_right _ 1) _).setCell (Nat.le_add_right _ 1) _).setCell (Nat.le_add_right _ 2) _).setCell (Nat.le_add_right _ 2) _).drew⟩
structure AgIs (N D q t x:Int) (ok:Bool):Prop where
 yes:ok=true->Lg D q t/\N * t < 340282366920938463463374607431768211456/\D * q < 340282366920938463463374607431768211456/\x=cmpI (N * t) (D * q)
 no:ok=false->¬ (Lg D q t/\N * t < 340282366920938463463374607431768211456/\D * q < 340282366920938463463374607431768211456)/\x=0
theorem is_lt {n H L:Int} {ok:Bool} (h:Is n H L ok) (n0:0<=n):ok=true ↔ n < 340282366920938463463374607431768211456:=by
 cases ok
 ·obtain⟨_,_,hn⟩:=h.no rfl
  simp;omega
 ·have:=h.yes rfl;have:=wv_hi h.h h.l
  simp;omega
set_option maxHeartbeats 4000000 in
theorem against_is {nh nl dh dl q t x:Int} {ok:Bool} {w:World} (a:Word nh) (b:Word nl) (c:Word dh) (d:Word dl) (hq:I64 q) (ht:I64 t) (h:AgIs (wv nh nl) (wv dh dl) q t x ok) :
  Calls Tryz.prog 206 #[.agg #[.int .u64 nh,.int .u64 nl,.int .u64 dh,.int .u64 dl],.int .i64 q,.int .i64 t] w fun e w'=>e=.returned (.tuple #[.int .i64 x,.bool ok])/\Below w.heap.size w w':=by
 by_cases hl:Lg (wv dh dl) q t
 ·obtain⟨MH,ML,mb,hM⟩:=is_ex (wv nh nl * t)
  obtain⟨JH,JL,jb,hJ⟩:=is_ex (wv dh dl * q)
  have m1:=is_lt hM (Int.mul_nonneg (wv_lo a b) (by have:=hl.t;omega))
  have m2:=is_lt hJ (Int.mul_nonneg (wv_lo c d) hl.q)
  have hok:ok=(mb && jb):=by
   cases ok
   ·obtain⟨hn,_⟩:=h.no rfl
    cases mb <;> cases jb <;> (try rfl)
    exact absurd ⟨hl,m1.mp rfl,m2.mp rfl⟩ hn
   ·obtain⟨_,p1,p2,_⟩:=h.yes rfl
    rw [m1.mpr p1,m2.mpr p2];rfl
  subst hok
  cases hb:(mb && jb)
  ·rw [hb] at h
   obtain⟨_,rfl⟩:=h.no rfl
   clear h m1 m2
   go_enter Tryz.func206,Tryz.ntmps206
   go_wp2_with (go_at_call 216;with_reducible refine(common_yes a b c d hq ht hl hM hJ).mono ?_;rintro e w1 ⟨rfl,B1⟩)
   go_ret2
   exact⟨rfl,ba (ba (bt (ba (Below.refl _ _) _) B1) _) _⟩
  ·rw [hb] at h
   obtain⟨_,_,_,hx⟩:=h.yes rfl
   have hm:mb=true/\jb=true:=by simpa using hb
   obtain⟨rfl,rfl⟩:=hm
   have HX:Hid (x=cmpI (wv MH ML) (wv JH JL)):=by show x=_;rw [hM.yes rfl,hJ.yes rfl];exact hx
   clear h m1 m2 hx hb
   go_enter Tryz.func206,Tryz.ntmps206
   go_wp2_with (first
    |(go_at_call 216;with_reducible refine(common_yes a b c d hq ht hl hM hJ).mono ?_;rintro e w1 ⟨rfl,B1⟩)
    |(go_at_call 218;refine(wcmp hM.h hM.l hJ.h hJ.l HX).mono ?_;rintro e w2 ⟨rfl,B2⟩))
   go_ret2
   exact⟨rfl,bt (ba (ba (bt (ba (Below.refl _ _) _) B1) _) _) B2⟩
 ·have hok:ok=false:=by
   cases ok
   ·rfl
   ·exact absurd (h.yes rfl).1 hl
  subst hok
  obtain⟨_,rfl⟩:=h.no rfl
  go_enter Tryz.func206,Tryz.ntmps206
  go_wp2_with (go_at_call 216;with_reducible refine(common_no c d hl).mono ?_;rintro e w1 ⟨rfl,B1⟩)
  go_ret2
  exact⟨rfl,ba (ba (bt (ba (Below.refl _ _) _) B1) _) _⟩
end Go.Proofs.YtpdehdomilnmeaaGreatDoor
namespace Go.Proofs.YtpdehdomilnmeaaGreatDoor
open Go.ChangeShapes Go.WideShapes Go.ChangeAt Go.RowKit
set_option maxRecDepth 100000
theorem fAs (w:World) (a:Addr) (o:Obj) (h:(w.cell? a).isSome=true):(w.alloc o).frozen? a=w.frozen? a:=by
 obtain⟨v,hv⟩:=Option.isSome_iff_exists.mp h
 rw [World.frozen?_alloc_old]
 exact Nat.ne_of_lt (cell_lt hv)
attribute [local go_sem] World.cell?_alloc_some fAs
structure PlIs (N D q t A B C E:Int) (ok:Bool):Prop where
 a:Word A
 b:Word B
 c:Word C
 e:Word E
 yes:ok=true->Lg D q t/\wv A B=N * t+D * q/\wv C E=D * t
 no:ok=false->¬ (Lg D q t/\N * t+D * q < 340282366920938463463374607431768211456/\D * t < 340282366920938463463374607431768211456)/\A=0/\B=0/\C=0/\E=0
theorem four_ok {N D q t A B C E MH ML JH JL SH SL EH EL:Int} {ok mb jb sb eb:Bool} (N0:0<=N) (D0:0<=D) (hl:Lg D q t) (h:PlIs N D q t A B C E ok) (hM:Is (N * t) MH ML mb) (hJ:Is (D * q) JH JL jb) (hS:Is (wv MH ML+wv JH JL) SH SL sb) (hE:Is (D * t) EH EL eb) :
  ok=(mb && jb && sb && eb)/\(ok=true->A=SH/\B=SL/\C=EH/\E=EL):=by
 have n1:0<=N * t:=Int.mul_nonneg N0 (by have:=hl.t;omega)
 have n2:0<=D * q:=Int.mul_nonneg D0 hl.q
 have n3:0<=D * t:=Int.mul_nonneg D0 (by have:=hl.t;omega)
 have m1:=is_lt hM n1
 have m2:=is_lt hJ n2
 have m4:=is_lt hE n3
 have m3:mb=true->jb=true->(sb=true ↔ N * t+D * q < 340282366920938463463374607431768211456):=by
  intro p1 p2
  have e1:=hM.yes p1
  have e2:=hJ.yes p2
  have:=is_lt hS (by omega)
  rw [e1,e2] at this
  exact this
 have key:ok=(mb && jb && sb && eb):=by
  cases ok
  ·obtain⟨hn,_⟩:=h.no rfl
   cases mb <;> cases jb <;> cases sb <;> cases eb <;> (try rfl)
   exact absurd ⟨hl,(m3 rfl rfl).mp rfl,m4.mp rfl⟩ hn
  ·obtain⟨_,e1,e2⟩:=h.yes rfl
   have u1:=wv_hi h.a h.b
   have u2:=wv_hi h.c h.e
   have p1:mb=true:=m1.mpr (by omega)
   have p2:jb=true:=m2.mpr (by omega)
   have p3:sb=true:=(m3 p1 p2).mpr (by omega)
   have p4:eb=true:=m4.mpr (by omega)
   rw [p1,p2,p3,p4];rfl
 refine⟨key,fun hk=>?_⟩
 rw [hk] at key
 obtain⟨_,e1,e2⟩:=h.yes hk
 have pp:((mb=true/\jb=true)/\sb=true)/\eb=true:=by simpa using key.symm
 obtain⟨⟨⟨p1,p2⟩,p3⟩,p4⟩:=pp
 obtain⟨f1,f2⟩:=wv_inj h.a h.b hS.h hS.l (by rw [hS.yes p3,hM.yes p1,hJ.yes p2,e1])
 obtain⟨f3,f4⟩:=wv_inj h.c h.e hE.h hE.l (by rw [hE.yes p4,e2])
 exact⟨f1,f2,f3,f4⟩
set_option maxHeartbeats 8000000 in
theorem plus_is {nh nl dh dl q t A B C E:Int} {ok:Bool} {w:World} (a:Word nh) (b:Word nl) (c:Word dh) (d:Word dl) (hq:I64 q) (ht:I64 t) (h:PlIs (wv nh nl) (wv dh dl) q t A B C E ok) :
  Calls Tryz.prog 205 #[.agg #[.int .u64 nh,.int .u64 nl,.int .u64 dh,.int .u64 dl],.int .i64 q,.int .i64 t] w fun e w'=>e=.returned (.tuple #[.agg #[.int .u64 A,.int .u64 B,.int .u64 C,.int .u64 E],.bool ok])/\Below w.heap.size w w':=by
 by_cases hl:Lg (wv dh dl) q t
 ·obtain⟨MH,ML,mb,hM⟩:=is_ex (wv nh nl * t)
  obtain⟨JH,JL,jb,hJ⟩:=is_ex (wv dh dl * q)
  obtain⟨SH,SL,sb,hS⟩:=is_ex (wv MH ML+wv JH JL)
  obtain⟨EH,EL,eb,hE⟩:=is_ex (wv dh dl * t)
  obtain⟨key,hv⟩:=four_ok (wv_lo a b) (wv_lo c d) hl h hM hJ hS hE
  have hz:ok=false->A=0/\B=0/\C=0/\E=0:=fun hk=>(h.no hk).2
  have t0:=hl.t
  have t1:=ht.hi
  have wt:Word t:=⟨by omega,by omega⟩
  clear h
  cases hmj:(mb && jb)
  ·have hk:ok=false:=by rw [key,hmj];rfl
   subst hk
   obtain⟨rfl,rfl,rfl,rfl⟩:=hz rfl
   clear hz hv key
   go_enter Tryz.func205,Tryz.ntmps205
   go_wp2_with (first
    |(go_at_call 216;with_reducible refine(common_yes a b c d hq ht hl hM hJ).mono ?_;rintro e w1 ⟨rfl,B1⟩;have c2:=kc (a:=⟨w.heap.size,2,none⟩) (v:=.int .u64 dh) (by simp [go_sem]) B1;have c3:=kc (a:=⟨w.heap.size,3,none⟩) (v:=.int .u64 dl) (by simp [go_sem]) B1;have x0:=kc (a:=⟨w.heap.size+1,0,none⟩) (v:=.int .u64 0) (by simp [go_sem]) B1;have x1:=kc (a:=⟨w.heap.size+1,1,none⟩) (v:=.int .u64 0) (by simp [go_sem]) B1;have x2:=kc (a:=⟨w.heap.size+1,2,none⟩) (v:=.int .u64 0) (by simp [go_sem]) B1;have x3:=kc (a:=⟨w.heap.size+1,3,none⟩) (v:=.int .u64 0) (by simp [go_sem]) B1;have xf0:=kf (a:=⟨w.heap.size+1,0,none⟩) (v:=.int .u64 0) (by simp [go_sem]) B1 (by simp [go_sem]);have xf1:=kf (a:=⟨w.heap.size+1,1,none⟩) (v:=.int .u64 0) (by simp [go_sem]) B1 (by simp [go_sem]);have xf2:=kf (a:=⟨w.heap.size+1,2,none⟩) (v:=.int .u64 0) (by simp [go_sem]) B1 (by simp [go_sem]);have xf3:=kf (a:=⟨w.heap.size+1,3,none⟩) (v:=.int .u64 0) (by simp [go_sem]) B1 (by simp [go_sem]))
    |(go_at_call 217;with_reducible refine(wadd_is hM.h hM.l hJ.h hJ.l hS).mono ?_;rintro e w2 ⟨rfl,B2⟩;have d2:=kc (kl (kl c2 _) _) B2;have d3:=kc (kl (kl c3 _) _) B2;clear c2 c3;have y0:=kc (kl (kl x0 _) _) B2;have y1:=kc (kl (kl x1 _) _) B2;have y2:=kc (kl (kl x2 _) _) B2;have y3:=kc (kl (kl x3 _) _) B2;have yf0:=kf (kl (kl x0 _) _) B2 (ff (kl x0 _) (ff x0 xf0 _) _);have yf1:=kf (kl (kl x1 _) _) B2 (ff (kl x1 _) (ff x1 xf1 _) _);have yf2:=kf (kl (kl x2 _) _) B2 (ff (kl x2 _) (ff x2 xf2 _) _);have yf3:=kf (kl (kl x3 _) _) B2 (ff (kl x3 _) (ff x3 xf3 _) _);clear x0 xf0 x1 xf1 x2 xf2 x3 xf3)
    |(go_at_call 208;with_reducible refine(wmul_is c d wt hE).mono ?_;rintro e w3 ⟨rfl,B3⟩;clear d2 d3;have s0:=kc (a:=⟨w2.heap.size,0,none⟩) (v:=.int .u64 SH) (by simp [go_sem]) B3;have s1:=kc (a:=⟨w2.heap.size,1,none⟩) (v:=.int .u64 SL) (by simp [go_sem]) B3;have z0:=kc (kl y0 _) B3;have z1:=kc (kl y1 _) B3;have z2:=kc (kl y2 _) B3;have z3:=kc (kl y3 _) B3;have zf0:=kf (kl y0 _) B3 (ff y0 yf0 _);have zf1:=kf (kl y1 _) B3 (ff y1 yf1 _);have zf2:=kf (kl y2 _) B3 (ff y2 yf2 _);have zf3:=kf (kl y3 _) B3 (ff y3 yf3 _);clear y0 yf0 y1 yf1 y2 yf2 y3 yf3))
   exact bodyPost_ret (v:=.tuple #[.agg #[.int .u64 0,.int .u64 0,.int .u64 0,.int .u64 0],.bool false]) (by have y0:=kl (kl x0 (Obj.cells #[Value.int IntKind.u64 MH,Value.int IntKind.u64 ML] 199)) (Obj.cells #[Value.int IntKind.u64 JH,Value.int IntKind.u64 JL] 199);have y1:=kl (kl x1 (Obj.cells #[Value.int IntKind.u64 MH,Value.int IntKind.u64 ML] 199)) (Obj.cells #[Value.int IntKind.u64 JH,Value.int IntKind.u64 JL] 199);have y2:=kl (kl x2 (Obj.cells #[Value.int IntKind.u64 MH,Value.int IntKind.u64 ML] 199)) (Obj.cells #[Value.int IntKind.u64 JH,Value.int IntKind.u64 JL] 199);have y3:=kl (kl x3 (Obj.cells #[Value.int IntKind.u64 MH,Value.int IntKind.u64 ML] 199)) (Obj.cells #[Value.int IntKind.u64 JH,Value.int IntKind.u64 JL] 199);simp [results,Tryz.results205,go_sem,y0,y1,y2,y3]) rfl ⟨rfl,((((ba (ba (bt (ba (ba (Below.refl _ _) _) _) B1) _) _).setCell (Nat.le_add_right _ 1) _).setCell (Nat.le_add_right _ 1) _).setCell (Nat.le_add_right _ 1) _).setCell (Nat.le_add_right _ 1) _⟩
  ·rw [hmj] at key
   have hm:mb=true/\jb=true:=by simpa using hmj
   obtain⟨rfl,rfl⟩:=hm
   clear hmj
   simp only [Bool.true_and] at key
   cases hse:(sb && eb)
   ·have hk:ok=false:=by rw [key,hse]
    subst hk
    obtain⟨rfl,rfl,rfl,rfl⟩:=hz rfl
    clear hz hv key
    cases sb <;> cases eb <;> (try cases hse)
    all_goals
     go_enter Tryz.func205,Tryz.ntmps205
     go_wp2_with (first
      |(go_at_call 216;with_reducible refine(common_yes a b c d hq ht hl hM hJ).mono ?_;rintro e w1 ⟨rfl,B1⟩;have c2:=kc (a:=⟨w.heap.size,2,none⟩) (v:=.int .u64 dh) (by simp [go_sem]) B1;have c3:=kc (a:=⟨w.heap.size,3,none⟩) (v:=.int .u64 dl) (by simp [go_sem]) B1;have x0:=kc (a:=⟨w.heap.size+1,0,none⟩) (v:=.int .u64 0) (by simp [go_sem]) B1;have x1:=kc (a:=⟨w.heap.size+1,1,none⟩) (v:=.int .u64 0) (by simp [go_sem]) B1;have x2:=kc (a:=⟨w.heap.size+1,2,none⟩) (v:=.int .u64 0) (by simp [go_sem]) B1;have x3:=kc (a:=⟨w.heap.size+1,3,none⟩) (v:=.int .u64 0) (by simp [go_sem]) B1;have xf0:=kf (a:=⟨w.heap.size+1,0,none⟩) (v:=.int .u64 0) (by simp [go_sem]) B1 (by simp [go_sem]);have xf1:=kf (a:=⟨w.heap.size+1,1,none⟩) (v:=.int .u64 0) (by simp [go_sem]) B1 (by simp [go_sem]);have xf2:=kf (a:=⟨w.heap.size+1,2,none⟩) (v:=.int .u64 0) (by simp [go_sem]) B1 (by simp [go_sem]);have xf3:=kf (a:=⟨w.heap.size+1,3,none⟩) (v:=.int .u64 0) (by simp [go_sem]) B1 (by simp [go_sem]))
      |(go_at_call 217;with_reducible refine(wadd_is hM.h hM.l hJ.h hJ.l hS).mono ?_;rintro e w2 ⟨rfl,B2⟩;have d2:=kc (kl (kl c2 _) _) B2;have d3:=kc (kl (kl c3 _) _) B2;clear c2 c3;have y0:=kc (kl (kl x0 _) _) B2;have y1:=kc (kl (kl x1 _) _) B2;have y2:=kc (kl (kl x2 _) _) B2;have y3:=kc (kl (kl x3 _) _) B2;have yf0:=kf (kl (kl x0 _) _) B2 (ff (kl x0 _) (ff x0 xf0 _) _);have yf1:=kf (kl (kl x1 _) _) B2 (ff (kl x1 _) (ff x1 xf1 _) _);have yf2:=kf (kl (kl x2 _) _) B2 (ff (kl x2 _) (ff x2 xf2 _) _);have yf3:=kf (kl (kl x3 _) _) B2 (ff (kl x3 _) (ff x3 xf3 _) _);clear x0 xf0 x1 xf1 x2 xf2 x3 xf3)
      |(go_at_call 208;with_reducible refine(wmul_is c d wt hE).mono ?_;rintro e w3 ⟨rfl,B3⟩;clear d2 d3;have s0:=kc (a:=⟨w2.heap.size,0,none⟩) (v:=.int .u64 SH) (by simp [go_sem]) B3;have s1:=kc (a:=⟨w2.heap.size,1,none⟩) (v:=.int .u64 SL) (by simp [go_sem]) B3;have z0:=kc (kl y0 _) B3;have z1:=kc (kl y1 _) B3;have z2:=kc (kl y2 _) B3;have z3:=kc (kl y3 _) B3;have zf0:=kf (kl y0 _) B3 (ff y0 yf0 _);have zf1:=kf (kl y1 _) B3 (ff y1 yf1 _);have zf2:=kf (kl y2 _) B3 (ff y2 yf2 _);have zf3:=kf (kl y3 _) B3 (ff y3 yf3 _);clear y0 yf0 y1 yf1 y2 yf2 y3 yf3))
     exact bodyPost_ret (v:=.tuple #[.agg #[.int .u64 0,.int .u64 0,.int .u64 0,.int .u64 0],.bool false]) (by simp [results,Tryz.results205,go_sem,z0,z1,z2,z3]) rfl ⟨rfl,(((((ba (bt (ba (bt (ba (ba (bt (ba (ba (Below.refl _ _) _) _) B1) _) _) B2) _) B3) _).setCell (Nat.le_add_right _ 1) _).setCell (Nat.le_add_right _ 1) _).setCell (Nat.le_add_right _ 1) _).setCell (Nat.le_add_right _ 1) _)⟩
   ·have hk:ok=true:=by rw [key,hse]
    subst hk
    obtain⟨rfl,rfl,rfl,rfl⟩:=hv rfl
    have hm:sb=true/\eb=true:=by simpa using hse
    obtain⟨rfl,rfl⟩:=hm
    clear hz hv key hse
    go_enter Tryz.func205,Tryz.ntmps205
    go_wp2_with (first
     |(go_at_call 216;with_reducible refine(common_yes a b c d hq ht hl hM hJ).mono ?_;rintro e w1 ⟨rfl,B1⟩;have c2:=kc (a:=⟨w.heap.size,2,none⟩) (v:=.int .u64 dh) (by simp [go_sem]) B1;have c3:=kc (a:=⟨w.heap.size,3,none⟩) (v:=.int .u64 dl) (by simp [go_sem]) B1;have x0:=kc (a:=⟨w.heap.size+1,0,none⟩) (v:=.int .u64 0) (by simp [go_sem]) B1;have x1:=kc (a:=⟨w.heap.size+1,1,none⟩) (v:=.int .u64 0) (by simp [go_sem]) B1;have x2:=kc (a:=⟨w.heap.size+1,2,none⟩) (v:=.int .u64 0) (by simp [go_sem]) B1;have x3:=kc (a:=⟨w.heap.size+1,3,none⟩) (v:=.int .u64 0) (by simp [go_sem]) B1;have xf0:=kf (a:=⟨w.heap.size+1,0,none⟩) (v:=.int .u64 0) (by simp [go_sem]) B1 (by simp [go_sem]);have xf1:=kf (a:=⟨w.heap.size+1,1,none⟩) (v:=.int .u64 0) (by simp [go_sem]) B1 (by simp [go_sem]);have xf2:=kf (a:=⟨w.heap.size+1,2,none⟩) (v:=.int .u64 0) (by simp [go_sem]) B1 (by simp [go_sem]);have xf3:=kf (a:=⟨w.heap.size+1,3,none⟩) (v:=.int .u64 0) (by simp [go_sem]) B1 (by simp [go_sem]))
     |(go_at_call 217;with_reducible refine(wadd_is hM.h hM.l hJ.h hJ.l hS).mono ?_;rintro e w2 ⟨rfl,B2⟩;have d2:=kc (kl (kl c2 _) _) B2;have d3:=kc (kl (kl c3 _) _) B2;clear c2 c3;have y0:=kc (kl (kl x0 _) _) B2;have y1:=kc (kl (kl x1 _) _) B2;have y2:=kc (kl (kl x2 _) _) B2;have y3:=kc (kl (kl x3 _) _) B2;have yf0:=kf (kl (kl x0 _) _) B2 (ff (kl x0 _) (ff x0 xf0 _) _);have yf1:=kf (kl (kl x1 _) _) B2 (ff (kl x1 _) (ff x1 xf1 _) _);have yf2:=kf (kl (kl x2 _) _) B2 (ff (kl x2 _) (ff x2 xf2 _) _);have yf3:=kf (kl (kl x3 _) _) B2 (ff (kl x3 _) (ff x3 xf3 _) _);clear x0 xf0 x1 xf1 x2 xf2 x3 xf3)
     |(go_at_call 208;with_reducible refine(wmul_is c d wt hE).mono ?_;rintro e w3 ⟨rfl,B3⟩;clear d2 d3;have s0:=kc (a:=⟨w2.heap.size,0,none⟩) (v:=.int .u64 A) (by simp [go_sem]) B3;have s1:=kc (a:=⟨w2.heap.size,1,none⟩) (v:=.int .u64 B) (by simp [go_sem]) B3;have z0:=kc (kl y0 _) B3;have z1:=kc (kl y1 _) B3;have z2:=kc (kl y2 _) B3;have z3:=kc (kl y3 _) B3;have zf0:=kf (kl y0 _) B3 (ff y0 yf0 _);have zf1:=kf (kl y1 _) B3 (ff y1 yf1 _);have zf2:=kf (kl y2 _) B3 (ff y2 yf2 _);have zf3:=kf (kl y3 _) B3 (ff y3 yf3 _);clear y0 yf0 y1 yf1 y2 yf2 y3 yf3))
    exact bodyPost_ret (v:=.tuple #[.agg #[.int .u64 A,.int .u64 B,.int .u64 C,.int .u64 E],.bool true]) (by simp [results,Tryz.results205,go_sem,z0,z1,z2,z3]) rfl ⟨rfl,(((((ba (bt (ba (bt (ba (ba (bt (ba (ba (Below.refl _ _) _) _) B1) _) _) B2) _) B3) _).setCell (Nat.le_add_right _ 1) _).setCell (Nat.le_add_right _ 1) _).setCell (Nat.le_add_right _ 1) _).setCell (Nat.le_add_right _ 1) _)⟩
 ·have hk:ok=false:=by
   cases ok
   ·rfl
   ·exact absurd (h.yes rfl).1 hl
  subst hk
  obtain⟨_,rfl,rfl,rfl,rfl⟩:=h.no rfl
  clear h
  go_enter Tryz.func205,Tryz.ntmps205
  go_wp2_with (go_at_call 216;with_reducible refine(common_no c d hl).mono ?_;rintro e w1 ⟨rfl,B1⟩;have x0:=kc (a:=⟨w.heap.size+1,0,none⟩) (v:=.int .u64 0) (by simp [go_sem]) B1;have x1:=kc (a:=⟨w.heap.size+1,1,none⟩) (v:=.int .u64 0) (by simp [go_sem]) B1;have x2:=kc (a:=⟨w.heap.size+1,2,none⟩) (v:=.int .u64 0) (by simp [go_sem]) B1;have x3:=kc (a:=⟨w.heap.size+1,3,none⟩) (v:=.int .u64 0) (by simp [go_sem]) B1;have xf0:=kf (a:=⟨w.heap.size+1,0,none⟩) (v:=.int .u64 0) (by simp [go_sem]) B1 (by simp [go_sem]);have xf1:=kf (a:=⟨w.heap.size+1,1,none⟩) (v:=.int .u64 0) (by simp [go_sem]) B1 (by simp [go_sem]);have xf2:=kf (a:=⟨w.heap.size+1,2,none⟩) (v:=.int .u64 0) (by simp [go_sem]) B1 (by simp [go_sem]);have xf3:=kf (a:=⟨w.heap.size+1,3,none⟩) (v:=.int .u64 0) (by simp [go_sem]) B1 (by simp [go_sem]))
  exact bodyPost_ret (v:=.tuple #[.agg #[.int .u64 0,.int .u64 0,.int .u64 0,.int .u64 0],.bool false]) (by have y0:=kl (kl x0 (Obj.cells #[Value.int IntKind.u64 0,Value.int IntKind.u64 0] 199)) (Obj.cells #[Value.int IntKind.u64 0,Value.int IntKind.u64 0] 199);have y1:=kl (kl x1 (Obj.cells #[Value.int IntKind.u64 0,Value.int IntKind.u64 0] 199)) (Obj.cells #[Value.int IntKind.u64 0,Value.int IntKind.u64 0] 199);have y2:=kl (kl x2 (Obj.cells #[Value.int IntKind.u64 0,Value.int IntKind.u64 0] 199)) (Obj.cells #[Value.int IntKind.u64 0,Value.int IntKind.u64 0] 199);have y3:=kl (kl x3 (Obj.cells #[Value.int IntKind.u64 0,Value.int IntKind.u64 0] 199)) (Obj.cells #[Value.int IntKind.u64 0,Value.int IntKind.u64 0] 199);simp [results,Tryz.results205,go_sem,y0,y1,y2,y3]) rfl ⟨rfl,((((ba (ba (bt (ba (ba (Below.refl _ _) _) _) B1) _) _).setCell (Nat.le_add_right _ 1) _).setCell (Nat.le_add_right _ 1) _).setCell (Nat.le_add_right _ 1) _).setCell (Nat.le_add_right _ 1) _⟩
end Go.Proofs.YtpdehdomilnmeaaGreatDoor
