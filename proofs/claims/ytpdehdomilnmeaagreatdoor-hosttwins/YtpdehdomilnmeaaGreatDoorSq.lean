import Derived.Test.YtpdehdomilnmeaaGreatDoorSp
import Derived.Deep.RegionHeld3
import Derived.BigQuiet
namespace Go.Proofs.YtpdehdomilnmeaaGreatDoor
open Go.ChangeShapes Go.WideShapes Go.ChangeAt Go.RowKit
set_option maxRecDepth 100000
theorem split_to (w:World) (n z A R:Int) (h0:0<=n) (h1:n<=9223372036854775807) (z0:1<=z) (z1:z<=9223372036854775807) (hA:Hid (n / z=A)) (hR:Hid (n % z=R)):Calls Tryz.prog 211 #[.int .i64 n,.int .i64 z] w fun e w'=>e=.returned (.tuple #[.int .i64 A,.int .i64 R])/\w'=w:=by
 rw [<- hA.out,<- hR.out];exact split_is w n z h0 h1 z0 z1
def ShapeIs (w:World) (s:Sv) (G D Q:Int) (ev:Value):Prop:=∀ o,Calls Tryz.prog 209 #[vS s] (w.alloc o) fun e w'=>e=.returned (.tuple #[vH G D Q,ev])/\Below (w.alloc o).heap.size (w.alloc o) w'
theorem shapeIs_yes (w:World) (s:Sv) (h:okW s):ShapeIs w s (gS s) (dS s) (qS s) .nilIface:=fun _=>shape_yes _ s h
def Small (G D Q:Int):Prop:=0<=G/\G<=255/\0<=D/\D<=256/\0<=Q/\Q<=256
theorem small_yes {s:Sv} (h:okW s):Small (gS s) (dS s) (qS s):=by obtain⟨h1,h2,h3,h4,h5⟩:=h.nums;exact⟨by omega,by omega,by omega,by omega,by omega,by omega⟩
theorem ret4 {fn:Func} {a b c d:Tmp} (h:fn.results=#[.tmp a,.tmp b,.tmp c,.tmp d]) (tmps:Array Value) (P:Program) (w:World):(results fn tmps).run P w=.ok (.tuple #[tmps.getD a undef,tmps.getD b undef,tmps.getD c undef,tmps.getD d undef]) w:=by
 simp only [results,h]
 simp
set_option maxHeartbeats 1600000 in
theorem slope_is (w:World) (s:Sv) (G D Q:Int) (ev:Value) (hs:Small G D Q) (H:ShapeIs w s G D Q ev):Calls Tryz.prog 207 #[vS s] w fun e w'=>e=.returned (.tuple #[.int .i64 Q,.int .i64 (D+Q),.int .i64 (G+D),ev])/\Below w.heap.size w w':=by
 obtain⟨k,q,t⟩:=s
 obtain⟨n1,n2,n3,n4,n5,n6⟩:=hs
 have HS:=mH H
 clear H
 go_enter Tryz.func207,Tryz.ntmps207
 go_wp2_with (first | (go_at_call 209;refine(HS.out _).mono ?_;rintro e w3 ⟨rfl,hb3⟩;have HB:=mH (new_last hb3).2;clear hb3))
 obtain⟨W1,hW1⟩:∃ W1,W1=w3.alloc (.cells #[.int .i64 G,.int .i64 D,.int .i64 Q] 276):=⟨_,rfl⟩
 have r1:W1.heap[w3.heap.size]?=some (.cells #[.int .i64 G,.int .i64 D,.int .i64 Q] 276 (0,0)):=by rw [hW1];exact heap_alloc_new _ _
 have HB1:Hid (Below w.heap.size w W1):=mH (by rw [hW1];exact ba HB.out _)
 rw [<- hW1]
 generalize w3.heap.size=B at *
 have c0:W1.cell? ⟨B,0,none⟩=some (.int .i64 G):=cOb (i:=0) r1 rfl
 have c1:W1.cell? ⟨B,1,none⟩=some (.int .i64 D):=cOb (i:=1) r1 rfl
 have c2:W1.cell? ⟨B,2,none⟩=some (.int .i64 Q):=cOb (i:=2) r1 rfl
 clear hW1 r1
 go_region_held3 (fun w'=>w'.cell? ⟨B,0,none⟩=some (.int .i64 G)/\w'.cell? ⟨B,1,none⟩=some (.int .i64 D)/\w'.cell? ⟨B,2,none⟩=some (.int .i64 Q)) (go_keep) (first | (go_at_call 213;refine(period_is W1.drew G D Q (by omega) (by omega) (by omega) (by omega)).mono ?_;rintro e w5 ⟨rfl,hb5⟩;have HB5:=mH hb5;have q0:w5.cell? ⟨B,0,none⟩=some (.int .i64 G):=kc (w:=W1.drew) (a:=⟨B,0,none⟩) c0 hb5;have q1:w5.cell? ⟨B,1,none⟩=some (.int .i64 D):=kc (w:=W1.drew) (a:=⟨B,1,none⟩) c1 hb5;have q2:w5.cell? ⟨B,2,none⟩=some (.int .i64 Q):=kc (w:=W1.drew) (a:=⟨B,2,none⟩) c2 hb5;clear hb5) | (go_at_call 212;refine(silence_is w5 G D Q (by omega) (by omega) (by omega) (by omega)).mono ?_;rintro e w6 ⟨rfl,hb6⟩;have HB6:=mH hb6;have p0:w6.cell? ⟨B,0,none⟩=some (.int .i64 G):=kc q0 hb6;have p1:w6.cell? ⟨B,1,none⟩=some (.int .i64 D):=kc q1 hb6;have p2:w6.cell? ⟨B,2,none⟩=some (.int .i64 Q):=kc q2 hb6;clear hb6))
 all_goals
  go_wp2
  exact bodyPost_ret (ret4 Tryz.results207 _ _ _) rfl ⟨rfl,bt (bt HB1.out.drew HB5.out) HB6.out⟩
theorem least_zero (w:World) (s:Sv) (h:okW s):Calls Tryz.prog 197 #[vS s,.int .i64 0] w fun e w'=>e=.returned (.tuple #[.int .i64 0,.nilIface])/\Below w.heap.size w w':=by
 obtain⟨k,q,t⟩:=s
 go_enter Tryz.func197,Tryz.ntmps197
 go_wp2_with (first | (go_at_call 209;refine(shape_yes _ (_,_,_) h).mono ?_;rintro e w3 ⟨rfl,hb3⟩;have HB:=mH (new_last hb3).2;clear hb3) | (go_at_call 210;refine(range_ok _ _ (by decide) (by decide)).mono ?_;rintro e w4 ⟨rfl,hw⟩;rw [hw];clear hw))
 go_ret2
 exact⟨rfl,ba HB.out _⟩
def LeastE (v:Int) (a:Addr):Value:=if v<=1099511627776 then .tuple #[.int .i64 v,.nilIface] else .tuple #[.int .i64 0,vE a]
set_option maxHeartbeats 3200000 in
theorem least_pos (w:World) (s:Sv) (x:Int) (h:okW s) (h0:1<=x) (h1:x<=1099511627776) (a:Addr) (he:w.cell? ⟨1,0,none⟩=some (vE a)):Calls Tryz.prog 197 #[vS s,.int .i64 x] w fun e w'=>e=.returned (LeastE (lsF (gS s) (dS s) (qS s) x) a)/\Below w.heap.size w w':=by
 obtain⟨k,q,t⟩:=s
 obtain⟨n1,n2,n3,n4,n5⟩:=h.nums
 have HO:=mH h
 have HE:=mH he
 clear h he
 generalize hg:gS (k,q,t)=G at *
 generalize hd:dS (k,q,t)=D at *
 generalize hq:qS (k,q,t)=Q at *
 have HS:Hid (∀ w,Calls Tryz.prog 209 #[vS (k,q,t)] w fun e w'=>e=.returned (.tuple #[vH G D Q,.nilIface])/\Below w.heap.size w w'):=mH (by rw [<- hg,<- hd,<- hq];exact fun w=>shape_yes w _ HO.out)
 clear hg hd hq HO
 obtain⟨X,hX⟩:∃ X,X=x - 1:=⟨_,rfl⟩
 have ex:IntKind.i64.wrap (x - 1)=X:=by rw [hX];exact wfit (by omega) (by omega)
 obtain⟨A,hA⟩:∃ A,X / Q=A:=⟨_,rfl⟩
 obtain⟨R,hR⟩:∃ R,X % Q=R:=⟨_,rfl⟩
 obtain⟨P,hP⟩:∃ P,P=A * (D+Q):=⟨_,rfl⟩
 have hR0:0<=R:=by rw [<- hR];exact Int.emod_nonneg _ (by omega)
 have hR1:R < Q:=by rw [<- hR];exact Int.emod_lt_of_pos _ (by omega)
 have hA0:0<=A:=by rw [<- hA];exact Int.ediv_nonneg (by omega) (by omega)
 have hA1:A<=X:=by rw [<- hA];exact Int.ediv_le_self _ (by omega)
 have hP0:0<=P:=by rw [hP];exact Int.mul_nonneg hA0 (by omega)
 have hP1:P<=1099511627776 * 256:=by rw [hP];exact Int.mul_le_mul (by omega) (by omega) (by omega) (by omega)
 have ep:IntKind.i64.wrap (A * (D+Q))=P:=by rw [hP] at hP0 hP1 ⊢;exact wfit (by omega) (by omega)
 obtain⟨V,hV⟩:∃ V,V=G+D+P+R+1:=⟨_,rfl⟩
 obtain⟨V1,hV1⟩:∃ V1,V1=G+D+P:=⟨_,rfl⟩
 obtain⟨V2,hV2⟩:∃ V2,V2=V1+R:=⟨_,rfl⟩
 have e1:IntKind.i64.wrap (G+D+P)=V1:=by rw [hV1];exact wfit (by omega) (by omega)
 have e2:IntKind.i64.wrap (V1+R)=V2:=by rw [hV2];exact wfit (by omega) (by omega)
 have e3:IntKind.i64.wrap (V2+1)=V:=by rw [hV];rw [hV2,hV1];exact wfit (by omega) (by omega)
 have HV:Hid (lsF G D Q x=V):=mH (by unfold lsF;rw [if_neg (by omega),<- hX,hA,hR,<- hP,hV])
 have HA:=mH hA
 have HR:=mH hR
 have X0:0<=X:=by omega
 have X1:X<=1099511627776:=by omega
 have x0:¬ x=0:=by omega
 have hc:V<=1099511627776 ∨ 1099511627776 < V:=by omega
 clear hX hA hR hP hV hV1 hV2 hR0 hR1 hA0 hA1 hP0 hP1
 rcases hc with hc | hc
 all_goals
  go_enter Tryz.func197,Tryz.ntmps197
  go_wp2_with (first | (go_at_call 209;refine(HS.out _).mono ?_;rintro e w3 ⟨rfl,hb3⟩;have HB:=mH (new_last hb3).2;have HE3:=mH (kc (kl HE.out _) hb3);clear hb3) | (go_at_call 210;refine(range_ok _ _ (by omega) (by omega)).mono ?_;rintro e w4 ⟨rfl,hw⟩;rw [hw];clear hw) | (go_at_call 211;refine(split_to _ X Q A R (by omega) (by omega) (by omega) (by omega) HA HR).mono ?_;rintro e w6 ⟨rfl,hw⟩;rw [hw];clear hw))
  obtain⟨W1,hW1⟩:∃ W1,W1=w3.alloc (.cells #[.int .i64 G,.int .i64 D,.int .i64 Q] 276):=⟨_,rfl⟩
  have r1:W1.heap[w3.heap.size]?=some (.cells #[.int .i64 G,.int .i64 D,.int .i64 Q] 276 (0,0)):=by rw [hW1];exact heap_alloc_new _ _
  have HB1:Hid (Below w.heap.size w W1):=mH (by rw [hW1];exact ba HB.out _)
  have HE1:Hid (W1.cell? ⟨1,0,none⟩=some (vE a)):=mH (by rw [hW1];exact kl HE3.out _)
  rw [<- hW1]
  generalize w3.heap.size=B at *
  have c0:W1.cell? ⟨B,0,none⟩=some (.int .i64 G):=cOb (i:=0) r1 rfl
  have c1:W1.cell? ⟨B,1,none⟩=some (.int .i64 D):=cOb (i:=1) r1 rfl
  have c2:W1.cell? ⟨B,2,none⟩=some (.int .i64 Q):=cOb (i:=2) r1 rfl
  clear hW1 r1
  go_region_held3 (fun w'=>w'.cell? ⟨B,0,none⟩=some (.int .i64 G)/\w'.cell? ⟨B,1,none⟩=some (.int .i64 D)/\w'.cell? ⟨B,2,none⟩=some (.int .i64 Q)) (go_keep) (first | (go_at_call 212;refine(silence_is W1.drew G D Q (by omega) (by omega) (by omega) (by omega)).mono ?_;rintro e w5 ⟨rfl,hb5⟩;have HB5:=mH hb5;have q0:w5.cell? ⟨B,0,none⟩=some (.int .i64 G):=kc (w:=W1.drew) (a:=⟨B,0,none⟩) c0 hb5;have q1:w5.cell? ⟨B,1,none⟩=some (.int .i64 D):=kc (w:=W1.drew) (a:=⟨B,1,none⟩) c1 hb5;have q2:w5.cell? ⟨B,2,none⟩=some (.int .i64 Q):=kc (w:=W1.drew) (a:=⟨B,2,none⟩) c2 hb5;clear hb5) | (go_at_call 213;refine(period_is w5 G D Q (by omega) (by omega) (by omega) (by omega)).mono ?_;rintro e w6 ⟨rfl,hb6⟩;have HB6:=mH hb6;have p0:w6.cell? ⟨B,0,none⟩=some (.int .i64 G):=kc q0 hb6;have p1:w6.cell? ⟨B,1,none⟩=some (.int .i64 D):=kc q1 hb6;have p2:w6.cell? ⟨B,2,none⟩=some (.int .i64 Q):=kc q2 hb6;clear hb6))
  all_goals
   have he6:w6.cell? ⟨1,0,none⟩=some (vE a):=kc (kc (w:=W1.drew) (a:=⟨1,0,none⟩) HE1.out HB5.out) HB6.out
   go_wp2
   try (go_quiet (fail);go_wp2)
   go_ret2
   first | exact⟨by rw [HV.out];unfold LeastE;rw [if_pos (by omega)];rfl,bt (bt HB1.out.drew HB5.out) HB6.out⟩ | exact⟨by rw [HV.out];unfold LeastE;rw [if_neg (by omega)];rfl,bdN (bt (bt HB1.out.drew HB5.out) HB6.out) _⟩
end Go.Proofs.YtpdehdomilnmeaaGreatDoor
