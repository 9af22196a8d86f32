import Derived.Test.YtpdehdomilnmeaaGreatDoorM1
import Derived.Test.YtpdehdomilnmeaaGreatDoorPx
import Derived.Deep.RegionHeld3
import Derived.BigQuiet
namespace Go.Proofs.YtpdehdomilnmeaaGreatDoor
open Go.ChangeShapes Go.WideShapes Go.ChangeAt Go.RowKit
set_option maxRecDepth 100000
theorem wfit {n:Int} (h1:-9223372036854775808<=n) (h2:n<=9223372036854775807):IntKind.i64.wrap n=n:=by rw [IntKind.wrap_i64];omega
theorem bdN {B:Nat} {a w:World} (h:Below B a w) (n:Nat):Below B a (w.drewN n):=⟨h.os,h.tape,h.output,h.size,h.block⟩
theorem bd1 {B:Nat} {a w:World} (h:Below B a w):Below B a w.drew:=⟨h.os,h.tape,h.output,h.size,h.block⟩
theorem hold {w w':World} {b:Nat} {o:Obj} (h:w.heap[b]?=some o) (hb:Below w.heap.size w w'):w'.heap[b]?=some o:=by
 rw [hb.block _ (Array.getElem?_eq_some_iff.1 h).1];exact h
theorem prod_fit {q A l:Int} (q0:1<=q) (q1:q<=256) (a0:0<=A) (a1:A<=l) (l1:l<=1099511628032):0<=q * A/\q * A<=281474976776192:=by
 refine⟨Int.mul_nonneg (by omega) a0, ?_⟩
 have h:q * A<=256 * 1099511628032:=Int.mul_le_mul q1 (by omega) a0 (by omega)
 omega
set_option maxHeartbeats 1600000 in
theorem sdem_is (w:World) (s:Sv) (l:Int) (h:okS s) (l0:0<=l) (l1:l<=1099511627776):Calls Tryz.prog 191 #[vS s,.int .i64 l] w fun e w'=>e=.returned (.int .i64 (sdem s l))/\Below w.heap.size w w':=by
 obtain⟨k,q,t⟩:=s
 obtain⟨h1,h2,h3,h4,h5⟩:=h
 simp only at h1 h2 h3 h4 h5
 obtain⟨A,hA⟩:∃ A,l / t=A:=⟨_,rfl⟩
 obtain⟨R,hR⟩:∃ R,l % t=R:=⟨_,rfl⟩
 have eA:l.tdiv t=A:=by rw [Int.tdiv_eq_ediv_of_nonneg l0,hA]
 have eR:l.tmod t=R:=by rw [Int.tmod_eq_emod_of_nonneg l0,hR]
 have a0:0<=A:=by rw [<- hA];exact Int.ediv_nonneg l0 (by omega)
 have a1:A<=l:=by rw [<- hA];exact Int.ediv_le_self _ l0
 have r0:0<=R:=by rw [<- hR];exact Int.emod_nonneg _ (by omega)
 have r1:R < t:=by rw [<- hR];exact Int.emod_lt_of_pos _ (by omega)
 obtain⟨p0,p1⟩:=prod_fit h3 (by omega) a0 a1 (by omega)
 obtain⟨P,hP⟩:∃ P,P=q * A:=⟨_,rfl⟩
 have HS:Hid (sdem (k,q,t) l=P+if k=3 then min q R else 0):=mH (by rw [hP,<- hA,<- hR];rfl)
 rw [<- hP] at p0 p1
 have e1:IntKind.i64.wrap (q * A)=P:=by rw [<- hP];exact wfit (by omega) (by omega)
 have e2:IntKind.i64.wrap A=A:=wfit (by omega) (by omega)
 have e3:IntKind.i64.wrap R=R:=wfit (by omega) (by omega)
 have t0:¬ t=0:=by omega
 clear hA hR hP
 by_cases hk:k=3
 ·subst hk
  have e4:IntKind.i64.wrap (P+q)=P+q:=wfit (by omega) (by omega)
  have e5:IntKind.i64.wrap (P+R)=P+R:=wfit (by omega) (by omega)
  have hc:(R < q/\min q R=R) ∨ (¬ R < q/\min q R=q):=by omega
  rcases hc with ⟨hq,hm⟩ | ⟨hq,hm⟩
  all_goals
   go_enter Tryz.func191,Tryz.ntmps191
   go_wp2
   go_quiet (fail)
   go_wp2
   go_region_held (fun w'=>w'.cell? ⟨w.heap.size,1,none⟩=some (.int .i64 q)/\w'.cell? ⟨w.heap.size,2,none⟩=some (.int .i64 t)) (go_keep) (fail)
   all_goals
    go_wp2
    go_ret
    exact⟨by rw [HS.out,hm];rfl,bdN (ba (Below.refl _ _) _) _⟩
 ·go_enter Tryz.func191,Tryz.ntmps191
  go_wp2
  go_quiet (fail)
  go_wp2
  go_ret
  exact⟨by rw [HS.out,if_neg hk];simp,bdN (ba (Below.refl _ _) _) _⟩
theorem bgn_bounds {l p:Int} (l0:0<=l) (p0:1<=p) (p1:p<=256):0<=bgn l p/\bgn l p<=l+255:=by
 unfold bgn
 refine⟨Int.ediv_nonneg (by omega) (by omega), ?_⟩
 have:(l+p - 1) / p<=l+p - 1:=Int.ediv_le_self _ (by omega)
 omega
theorem bgn_is (w:World) (l p:Int) (l0:0<=l) (l1:l<=1099511627776) (p0:1<=p) (p1:p<=256):Calls Tryz.prog 196 #[.int .i64 l,.int .i64 p] w fun e w'=>e=.returned (.int .i64 (bgn l p))/\w'=w:=by
 obtain⟨b0,b1⟩:=bgn_bounds l0 p0 p1
 obtain⟨A,hA⟩:∃ A,bgn l p=A:=⟨_,rfl⟩
 have e1:(l+p - 1).tdiv p=A:=by rw [Int.tdiv_eq_ediv_of_nonneg (by omega)];exact hA
 rw [hA] at b0 b1 ⊢
 have e2:IntKind.i64.wrap A=A:=wfit (by omega) (by omega)
 have q0:¬ p=0:=by omega
 clear hA
 go_enter Tryz.func196,Tryz.ntmps196
 go_wp2
 go_ret
 exact⟨rfl,rfl⟩
theorem bgn_to (w:World) (l p A:Int) (l0:0<=l) (l1:l<=1099511627776) (p0:1<=p) (p1:p<=256) (h:Hid (bgn l p=A)):Calls Tryz.prog 196 #[.int .i64 l,.int .i64 p] w fun e w'=>e=.returned (.int .i64 A)/\w'=w:=by
 rw [<- h.out];exact bgn_is w l p l0 l1 p0 p1
set_option maxHeartbeats 1600000 in
theorem sreq_is (w:World) (s:Sv) (l:Int) (h:okS s) (l0:0<=l) (l1:l<=1099511627776):Calls Tryz.prog 182 #[vS s,.int .i64 l] w fun e w'=>e=.returned (.int .i64 (sreq s l))/\Below w.heap.size w w':=by
 obtain⟨k,q,t⟩:=s
 obtain⟨h1,h2,h3,h4,h5⟩:=h
 simp only at h1 h2 h3 h4 h5
 obtain⟨a0,a1⟩:=bgn_bounds l0 (show 1<=t by omega) h5
 obtain⟨A,hA⟩:∃ A,bgn l t=A:=⟨_,rfl⟩
 have HA:=mH hA
 rw [hA] at a0 a1
 obtain⟨p0,p1⟩:=prod_fit h3 (by omega) a0 a1 (by omega)
 obtain⟨P,hP⟩:∃ P,P=q * A:=⟨_,rfl⟩
 have HS:Hid (sreq (k,q,t) l=P+if k=3/\0 < l then q else 0):=mH (by rw [hP,<- hA];rfl)
 rw [<- hP] at p0 p1
 have e1:IntKind.i64.wrap (q * A)=P:=by rw [<- hP];exact wfit (by omega) (by omega)
 have t1:1<=t:=by omega
 clear hA hP
 have hc:(k=3/\0 < l/\sreq (k,q,t) l=P+q) ∨ (k=3/\¬ 0 < l/\sreq (k,q,t) l=P) ∨ (¬ k=3/\sreq (k,q,t) l=P):=by
  rw [HS.out]
  by_cases x:k=3
  ·by_cases y:0 < l
   ·left;simp [x,y]
   ·right;left;simp [x];omega
  ·right;right;simp [x]
 clear HS
 rcases hc with ⟨rfl,hl,hv⟩ | ⟨rfl,hl,hv⟩ | ⟨hk,hv⟩
 all_goals
  rw [hv]
  clear hv
  go_enter Tryz.func182,Tryz.ntmps182
  go_wp2
  go_quiet (first | (exact Calls.quiet_of_same (bgn_to _ l t A l0 l1 t1 h5 HA)))
  go_wp2
  go_ret
  exact⟨rfl,bdN (ba (Below.refl _ _) _) _⟩
set_option maxHeartbeats 1600000 in
theorem tdem_is (w:World) (s:Tk) (l:Int) (h:okT s) (l0:0<=l) (l1:l<=1099511627776):Calls Tryz.prog 202 #[vT s,.int .i64 l] w fun e w'=>e=.returned (.int .i64 (tdem s l))/\Below w.heap.size w w':=by
 obtain⟨c,p,d,s⟩:=s
 obtain⟨h1,h2,h3,h4,h5,h6⟩:=h
 simp only at h1 h2 h3 h4 h5 h6
 by_cases hl:l < d
 ·have hv:tdem (c,p,d,s) l=0:=if_pos hl
  rw [hv]
  clear hv
  go_enter Tryz.func202,Tryz.ntmps202
  go_wp2
  go_ret
  exact⟨rfl,ba (Below.refl _ _) _⟩
 ·have hv:tdem (c,p,d,s) l=c * ((l - d) / p+1):=if_neg hl
  obtain⟨A,hA⟩:∃ A,(l - d) / p=A:=⟨_,rfl⟩
  have a0:0<=A:=by rw [<- hA];exact Int.ediv_nonneg (by omega) (by omega)
  have a1:A<=l - d:=by rw [<- hA];exact Int.ediv_le_self _ (by omega)
  have eA:(l - d).tdiv p=A:=by rw [Int.tdiv_eq_ediv_of_nonneg (by omega),hA]
  obtain⟨p0,p1⟩:=prod_fit (q:=c) (A:=A+1) (l:=l) h1 (by omega) (by omega) (by omega) (by omega)
  rw [hv,hA]
  obtain⟨P,hP⟩:∃ P,P=c * (A+1):=⟨_,rfl⟩
  rw [<- hP] at p0 p1 ⊢
  have e1:IntKind.i64.wrap (c * (A+1))=P:=by rw [<- hP];exact wfit (by omega) (by omega)
  have e2:IntKind.i64.wrap A=A:=wfit (by omega) (by omega)
  have e3:IntKind.i64.wrap (l - d)=l - d:=wfit (by omega) (by omega)
  have e4:IntKind.i64.wrap (A+1)=A+1:=wfit (by omega) (by omega)
  have q0:¬ p=0:=by omega
  clear hP hA hv
  go_enter Tryz.func202,Tryz.ntmps202
  go_wp2
  go_quiet (fail)
  go_wp2
  go_ret
  exact⟨rfl,bdN (ba (Below.refl _ _) _) _⟩
set_option maxHeartbeats 1600000 in
theorem treq_is (w:World) (s:Tk) (l:Int) (h:okT s) (l0:0<=l) (l1:l<=1099511627776):Calls Tryz.prog 214 #[vT s,.int .i64 l] w fun e w'=>e=.returned (.int .i64 (treq s l))/\Below w.heap.size w w':=by
 obtain⟨c,p,d,s⟩:=s
 obtain⟨h1,h2,h3,h4,h5,h6⟩:=h
 simp only at h1 h2 h3 h4 h5 h6
 obtain⟨a0,a1⟩:=bgn_bounds l0 (show 1<=p by omega) h4
 obtain⟨A,hA⟩:∃ A,bgn l p=A:=⟨_,rfl⟩
 have HA:=mH hA
 rw [hA] at a0 a1
 obtain⟨p0,p1⟩:=prod_fit (q:=c) h1 (by omega) a0 a1 (by omega)
 have hv:treq (c,p,d,s) l=c * A:=by rw [<- hA];rfl
 rw [hv]
 obtain⟨P,hP⟩:∃ P,P=c * A:=⟨_,rfl⟩
 rw [<- hP] at p0 p1 ⊢
 have e1:IntKind.i64.wrap (c * A)=P:=by rw [<- hP];exact wfit (by omega) (by omega)
 have t1:1<=p:=by omega
 clear hA hP hv
 go_enter Tryz.func214,Tryz.ntmps214
 go_wp2
 go_quiet (first | (exact Calls.quiet_of_same (bgn_to _ l p A l0 l1 t1 h4 HA)))
 go_wp2
 go_ret
 exact⟨rfl,bdN (ba (Below.refl _ _) _) _⟩
theorem len_ok (w:World) (l:Int) (l0:0<=l) (l1:l<=1099511627776):Calls Tryz.prog 195 #[.int .i64 l] w fun e w'=>e=.returned .nilIface/\Below w.heap.size w w':=by
 go_enter Tryz.func195,Tryz.ntmps195
 go_wp2
 go_ret
 exact⟨rfl,Below.refl _ _⟩
end Go.Proofs.YtpdehdomilnmeaaGreatDoor
