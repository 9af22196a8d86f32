import Derived.Test.YtpdehdomilnmeaaGreatDoorSq
import Derived.Test.YtpdehdomilnmeaaGreatDoorDx
import Derived.Test.YtpdehdomilnmeaaGreatDoorM1
import Derived.Test.YtpdehdomilnmeaaGreatDoorPlan5
namespace Go.Proofs.YtpdehdomilnmeaaGreatDoor
open Go.ChangeShapes Go.WideShapes Go.ChangeAt Go.RowKit
set_option maxRecDepth 100000
theorem checkParent_ok (w:World) (s:Sv) (h:okW s):Calls Tryz.prog 169 #[vS s] w fun e w'=>e=.returned .nilIface/\Below w.heap.size w w':=by
 rcases h with rfl | h
 ·go_enter Tryz.func169,Tryz.ntmps169
  go_wp2
  go_ret
  exact⟨rfl,ba (Below.refl _ _) _⟩
 ·obtain⟨k,q,t⟩:=s
  have HO:=mH h
  have hk:¬ k=0:=by have:=h.1;simp only at this;omega
  clear h
  go_enter Tryz.func169,Tryz.ntmps169
  go_wp2_with (go_at_call 101;refine(check_ok _ (k,q,t) HO.out).mono ?_;rintro e w3 ⟨rfl,hb3⟩;have HB:=mH (new_last hb3).2;clear hb3)
  go_ret
  exact⟨rfl,HB.out⟩
theorem checkParent_no (w:World) (s:Sv) (h:¬ okW s) (a:Addr) (he:w.cell? ⟨9,0,none⟩=some (vE a)):Calls Tryz.prog 169 #[vS s] w fun e w'=>e=.returned (vE a)/\Below w.heap.size w w':=by
 obtain⟨k,q,t⟩:=s
 have HO:Hid (¬ okS (k,q,t)):=mH (fun e=>h (.inr e))
 have HE:=mH he
 clear he
 have hc:¬ k=0 ∨ (k=0/\¬ q=0) ∨ (k=0/\q=0/\¬ t=0):=by
  refine Decidable.byContradiction fun hn=>h (.inl ?_)
  simp only [Prod.mk.injEq];omega
 clear h
 rcases hc with h1 | ⟨rfl,h1⟩ | ⟨rfl,rfl,h1⟩
 all_goals
  go_enter Tryz.func169,Tryz.ntmps169
  go_wp2_with (go_at_call 101;refine(check_no _ (_,_,_) HO.out a (kl HE.out _)).mono ?_;rintro e w3 ⟨rfl,hb3⟩;have HB:=mH (new_last hb3).2;clear hb3)
  go_ret
  exact⟨rfl,HB.out⟩
def Asks (w:World) (F:Nat) (cap:Array Value) (dem:Int->Int) (most:Int):Prop:=
 ∀ l W,0<=l->l<=most->Below w.heap.size w W->Calls Tryz.prog F (#[.int .i64 l] ++ cap) W fun e w'=>e=.returned (.tuple #[.int .i64 (dem l),.nilIface])/\Below W.heap.size W w'
theorem Asks.late {w w':World} {F:Nat} {cap:Array Value} {dem:Int->Int} {most:Int} (h:Asks w F cap dem most) (hb:Below w.heap.size w w'):Asks w' F cap dem most:=fun l W l0 l1 hW=>h l W l0 l1 (bt hb hW)
theorem least_few (w:World) (s:Sv) (x:Int) (h:okW s) (h0:0<=x) (h1:x<=40960) (a:Addr) (he:w.cell? ⟨1,0,none⟩=some (vE a)):Calls Tryz.prog 197 #[vS s,.int .i64 x] w fun e w'=>e=.returned (.tuple #[.int .i64 (lsF (gS s) (dS s) (qS s) x),.nilIface])/\Below w.heap.size w w':=by
 by_cases e:x=0
 ·subst e
  rw [lsF_zero]
  exact least_zero w s h
 ·have:=least_pos w s x h (by omega) (by omega) a he
  obtain⟨n1,n2,n3,n4,n5⟩:=h.nums
  have hb:=lsF_bound (g:=gS s) (d:=dS s) (q:=qS s) (x:=x) n2 n3 (by omega) n5 h0 40960 h1 (by omega)
  unfold LeastE at this
  rwa [if_pos (by omega)] at this
theorem wait_is (w:World) (s:Sv) (l n:Int) (F:Nat) (cap:Array Value) (a:Addr) (h:okW s) (n0:0<=n) (n1:n<=40960) (he:w.cell? ⟨1,0,none⟩=some (vE a)) (hen:∀ args W,Sem.run Tryz.prog (callFunc F args) W=.ok (.enter F args) W)
  (hF:∀ W,Below w.heap.size w W->Calls Tryz.prog F (#[.int .i64 l] ++ cap) W fun e w'=>e=.returned (.tuple #[.int .i64 n,.nilIface])/\Below W.heap.size W w') :
  Calls Tryz.prog 183 #[vS s,.int .i64 l,.func (.func F) #[] cap] w fun e w'=>e=.returned (.tuple #[.int .i64 (lsF (gS s) (dS s) (qS s) n),.nilIface])/\Below w.heap.size w w':=by
 obtain⟨k,q,t⟩:=s
 have HF:=mH hF
 have HE:=mH he
 have HO:=mH h
 clear hF he h
 go_enter Tryz.func183,Tryz.ntmps183
 go_wp2_with (first
  |(go_at_call 197;refine(least_few _ (k,q,t) n HO.out n0 n1 a (kc HE.out HB.out)).mono ?_;rintro e w4 ⟨rfl,hb4⟩;have HB4:=mH (bt HB.out hb4);clear hb4)
  |(refine(HF.out _ (ba (Below.refl _ _) _)).mono ?_;rintro e w3 ⟨rfl,hb3⟩;obtain⟨r0,hb⟩:=new_last hb3;have HB:=mH hb;have c0:w3.cell? ⟨w.heap.size,0,none⟩=some (.int .i64 k):=cOb (i:=0) r0 rfl;have c1:w3.cell? ⟨w.heap.size,1,none⟩=some (.int .i64 q):=cOb (i:=1) r0 rfl;have c2:w3.cell? ⟨w.heap.size,2,none⟩=some (.int .i64 t):=cOb (i:=2) r0 rfl;clear hb3 hb r0))
 go_ret2
 exact⟨rfl,HB4.out⟩
theorem enters_gen {P : Program} {f : Nat} {fn : Func} (h : P.funcs[f]? = some fn) (h1 : (fn.name == "runtime.NumGoroutine") = false) (h2 : fn.body.isNone = false) (args : Array Value) (W : World) : Sem.run P (callFunc f args) W = .ok (.enter f args) W := by
 have h1' : ¬ fn.name = "runtime.NumGoroutine" := fun e => by rw [e] at h1; simp at h1
 have h2':¬ fn.body=none:=fun e=>by rw [e] at h2;simp at h2
 simp [callFunc,h,h1',h2']
theorem enters_kids:∀ (args:Array Value) (W:World),Sem.run Tryz.prog (callFunc 176 args) W=.ok (.enter 176 args) W:=enters_gen Tryz.func176 (by kernel_rfl) (by kernel_rfl)
theorem enters_drain:∀ (args:Array Value) (W:World),Sem.run Tryz.prog (callFunc 166 args) W=.ok (.enter 166 args) W:=enters_gen Tryz.func166 (by kernel_rfl) (by kernel_rfl)
theorem enters_tasks:∀ (args:Array Value) (W:World),Sem.run Tryz.prog (callFunc 186 args) W=.ok (.enter 186 args) W:=enters_gen Tryz.func186 (by kernel_rfl) (by kernel_rfl)
theorem enters_resp:∀ (args:Array Value) (W:World),Sem.run Tryz.prog (callFunc 198 args) W=.ok (.enter 198 args) W:=enters_gen Tryz.func198 (by kernel_rfl) (by kernel_rfl)
def Cov (s:Sv) (dem:Int->Int):Prop:=∀ l,1<=l->l<=4096->dem l<=sb (gS s) (dS s) (qS s) l
set_option maxHeartbeats 1600000 in
theorem covered_is (w:World) (s:Sv) (F:Nat) (cap:Array Value) (dem:Int->Int) (R:Value) (a a2:Addr) (h:okW s) (hm:Mono dem) (hb:∀ l,0<=l->l<=4096->0<=dem l/\dem l<=40960) (he:w.cell? ⟨1,0,none⟩=some (vE a)) (he2:w.cell? ⟨11,0,none⟩=some (vE a2)) (hen:∀ args W,Sem.run Tryz.prog (callFunc F args) W=.ok (.enter F args) W) (hA:Asks w F cap dem 4096)
  (hyes:Cov s dem->R=.nilIface) (hno:¬ Cov s dem->R=vE a2) :
  Calls Tryz.prog 194 #[vS s,.func (.func F) #[] cap] w fun e w'=>e=.returned R/\Below w.heap.size w w':=by
 obtain⟨n1,n2,n3,n4,n5⟩:=h.nums
 have HN:=mH (And.intro n1 (And.intro n2 n3))
 clear n1 n2 n3 n4 n5
 have HW:Hid (∀ l W,0<=l->l<=4096->Below w.heap.size w W->Calls Tryz.prog 183 #[vS s,.int .i64 l,.func (.func F) #[] cap] W fun e w'=>e=.returned (.tuple #[.int .i64 (lsF (gS s) (dS s) (qS s) (dem l)),.nilIface])/\Below W.heap.size W w'):=
  mH (fun l W l0 l1 hW=>wait_is W s l (dem l) F cap a h (hb l l0 l1).1 (hb l l0 l1).2 (kc he hW) hen (fun W' hW'=>hA l W' l0 l1 (bt hW hW')))
 have HE:=mH he2
 have HM:=mH hm
 have HB0:=mH hb
 have HY:=mH hyes
 have HO:=mH hno
 have HL:Hid (∀ l,0<=l->l<=4096->0<=lsF (gS s) (dS s) (qS s) (dem l)/\lsF (gS s) (dS s) (qS s) (dem l)<=20000000):=mH (fun l l0 l1=>by
  obtain⟨n1,n2,n3,n4,n5⟩:=h.nums
  have b:=hb l l0 l1
  have k1:=lsF_ge (g:=gS s) (d:=dS s) (q:=qS s) (by omega) n2 n3 b.1
  have k2:=lsF_bound (g:=gS s) (d:=dS s) (q:=qS s) n2 n3 (by omega) n5 b.1 40960 b.2 (by omega)
  omega)
 clear he he2 hm hb hen hA hyes hno h
 obtain⟨k,q,t⟩:=s
 go_enter Tryz.func194,Tryz.ntmps194
 go_wp2
 go_loopw [5] (fun lv wr=>∃ l:Int,lv=.int .i64 l/\-1<=l/\l<=4096/\Hid (∀ L,1<=L->l < L->L<=4096->dem L<=sb (gS (k,q,t)) (dS (k,q,t)) (qS (k,q,t)) L)/\Hid (Below (w.alloc (oS (k,q,t))).heap.size (w.alloc (oS (k,q,t))) wr)) (fun lv _=>(intOf lv+1).toNat)
 case atStart=>exact⟨4096,rfl,by omega,by omega,mH (fun L a b c=>by omega),mH (Below.refl _ _)⟩
 case round=>
  obtain⟨l,rfl,l0,l1,HC,HB⟩:=hrel
  by_cases hl:0 < l
  ·obtain⟨r0,hbw⟩:=new_last HB.out
   have c0:wr.cell? ⟨w.heap.size,0,none⟩=some (.int .i64 k):=cOb (i:=0) r0 rfl
   have c1:wr.cell? ⟨w.heap.size,1,none⟩=some (.int .i64 q):=cOb (i:=1) r0 rfl
   have c2:wr.cell? ⟨w.heap.size,2,none⟩=some (.int .i64 t):=cOb (i:=2) r0 rfl
   have HBw:=mH hbw
   clear r0 hbw
   obtain⟨N,hN⟩:∃ N,lsF (gS (k,q,t)) (dS (k,q,t)) (qS (k,q,t)) (dem l)=N:=⟨_,rfl⟩
   have HNe:=mH hN
   obtain⟨b1,b2⟩:=HL.out l (by omega) l1
   rw [hN] at b1 b2
   clear hN
   by_cases hc:l < N
   ·have HR:Hid (R=vE a2):=mH (HO.out (fun hcov=>by
     have:=hcov l (by omega) l1
     have:=cov_no (g:=gS (k,q,t)) (d:=dS (k,q,t)) (q:=qS (k,q,t)) (l:=l) (dem:=dem) HN.out.2.1 HN.out.2.2 HM.out (HB0.out l (by omega) l1).1 (by omega) (Int.le_refl _) (by rw [HNe.out];exact hc)
     omega))
    go_wp2_with (go_at_call 183;refine(HW.out l _ (by omega) l1 HBw.out).mono ?_;rw [HNe.out];rintro e w1 ⟨rfl,b1⟩;have ce:=kc (kc HE.out HBw.out) b1;have HB1:=mH (bt HBw.out b1);clear b1)
    go_ret
    exact⟨by rw [HR.out];rfl,HB1.out⟩
   ·go_wp2_with (go_at_call 183;refine(HW.out l _ (by omega) l1 HBw.out).mono ?_;rw [HNe.out];rintro e w1 ⟨rfl,b1⟩;have HB1:=mH (bt HB.out b1);clear b1)
    go_roundw
    case rel=>
     refine⟨N - 1,by go_num,by omega,by omega,mH (fun L a b c=>?_),HB1⟩
     by_cases e:l < L
     ·exact HC.out L a e c
     ·exact cov_yes (l:=l) (by have:=HN.out;omega) HN.out.2.1 HN.out.2.2 HM.out (HB0.out l (by omega) l1).1 (by omega) (by rw [HNe.out];omega) (by omega)
    case measure=>simp [intOf];omega
  ·have HR:Hid (R=.nilIface):=mH (HY.out (fun L a b=>HC.out L a (by omega) b))
   go_wp2
   go_ret
   exact⟨by rw [HR.out];rfl,(new_last HB.out).2⟩
def FstP (s:Sv) (dem:Int->Int) (l:Int):Prop:=dem l<=sb (gS s) (dS s) (qS s) l
set_option maxHeartbeats 1600000 in
theorem first_is (w:World) (s:Sv) (most r:Int) (F:Nat) (cap:Array Value) (dem:Int->Int) (R:Value) (a a2:Addr) (h:okW s) (hm:Mono dem) (m1:most<=4096) (hb:∀ l,0<=l->l<=4096->0<=dem l/\dem l<=40960) (he:w.cell? ⟨1,0,none⟩=some (vE a)) (he2:w.cell? ⟨11,0,none⟩=some (vE a2)) (hen:∀ args W,Sem.run Tryz.prog (callFunc F args) W=.ok (.enter F args) W) (hA:Asks w F cap dem 4096)
  (hr:IsLst (FstP s dem) most r) (hyes:¬ r=0->R=.nilIface) (hno:r=0->R=vE a2) :
  Calls Tryz.prog 168 #[vS s,.int .i64 most,.func (.func F) #[] cap] w fun e w'=>e=.returned (.tuple #[.int .i64 r,R])/\Below w.heap.size w w':=by
 obtain⟨n1,n2,n3,n4,n5⟩:=h.nums
 have HN:=mH (And.intro n1 (And.intro n2 n3))
 clear n1 n2 n3 n4 n5
 have HW:Hid (∀ l W,0<=l->l<=4096->Below w.heap.size w W->Calls Tryz.prog 183 #[vS s,.int .i64 l,.func (.func F) #[] cap] W fun e w'=>e=.returned (.tuple #[.int .i64 (lsF (gS s) (dS s) (qS s) (dem l)),.nilIface])/\Below W.heap.size W w'):=
  mH (fun l W l0 l1 hW=>wait_is W s l (dem l) F cap a h (hb l l0 l1).1 (hb l l0 l1).2 (kc he hW) hen (fun W' hW'=>hA l W' l0 l1 (bt hW hW')))
 have HE:=mH he2
 have HM:=mH hm
 have HB0:=mH hb
 have HY:=mH hyes
 have HO:=mH hno
 have HI:=mH hr
 have HL:Hid (∀ l,0<=l->l<=4096->0<=lsF (gS s) (dS s) (qS s) (dem l)/\lsF (gS s) (dS s) (qS s) (dem l)<=20000000):=mH (fun l l0 l1=>by
  obtain⟨n1,n2,n3,n4,n5⟩:=h.nums
  have b:=hb l l0 l1
  have k1:=lsF_ge (g:=gS s) (d:=dS s) (q:=qS s) (by omega) n2 n3 b.1
  have k2:=lsF_bound (g:=gS s) (d:=dS s) (q:=qS s) n2 n3 (by omega) n5 b.1 40960 b.2 (by omega)
  omega)
 clear he he2 hm hb hen hA hyes hno h hr
 obtain⟨k,q,t⟩:=s
 go_enter Tryz.func168,Tryz.ntmps168
 go_wp2
 go_loopw [8] (fun lv wr=>∃ l:Int,lv=.int .i64 l/\1<=l/\l<=20000000/\Hid (∀ L,1<=L->L < l->¬ FstP (k,q,t) dem L)/\Hid (Below (w.alloc (oS (k,q,t))).heap.size (w.alloc (oS (k,q,t))) wr)) (fun lv _=>(20000000 - intOf lv).toNat)
 case atStart=>exact⟨1,rfl,by omega,by omega,mH (fun L a b=>by omega),mH (Below.refl _ _)⟩
 case round=>
  obtain⟨l,rfl,l0,l1,HC,HB⟩:=hrel
  by_cases hl:l<=most
  ·obtain⟨r0,hbw⟩:=new_last HB.out
   have c0:wr.cell? ⟨w.heap.size,0,none⟩=some (.int .i64 k):=cOb (i:=0) r0 rfl
   have c1:wr.cell? ⟨w.heap.size,1,none⟩=some (.int .i64 q):=cOb (i:=1) r0 rfl
   have c2:wr.cell? ⟨w.heap.size,2,none⟩=some (.int .i64 t):=cOb (i:=2) r0 rfl
   have HBw:=mH hbw
   clear r0 hbw
   obtain⟨N,hN⟩:∃ N,lsF (gS (k,q,t)) (dS (k,q,t)) (qS (k,q,t)) (dem l)=N:=⟨_,rfl⟩
   have HNe:=mH hN
   obtain⟨b1,b2⟩:=HL.out l (by omega) (by omega)
   rw [hN] at b1 b2
   clear hN
   by_cases hc:N<=l
   ·have hp:FstP (k,q,t) dem l:=cov_yes (l:=l) (by have:=HN.out;omega) HN.out.2.1 HN.out.2.2 HM.out (HB0.out l (by omega) (by omega)).1 (by omega) (by rw [HNe.out];omega) (Int.le_refl _)
    have hrl:r=l:=HI.out.un (.inr ⟨l0,hl,hp,HC.out⟩)
    have HR:Hid (R=.nilIface):=mH (HY.out (by omega))
    have HRL:=mH hrl
    clear hp hrl
    go_wp2_with (go_at_call 183;refine(HW.out l _ (by omega) (by omega) HBw.out).mono ?_;rw [HNe.out];rintro e w1 ⟨rfl,b1⟩;have HB1:=mH (bt HBw.out b1);clear b1)
    go_ret2
    exact⟨by rw [HR.out,HRL.out];rfl,HB1.out⟩
   ·go_wp2_with (go_at_call 183;refine(HW.out l _ (by omega) (by omega) HBw.out).mono ?_;rw [HNe.out];rintro e w1 ⟨rfl,b1⟩;have HB1:=mH (bt HB.out b1);clear b1)
    go_roundw
    case rel=>
     refine⟨N,rfl,by omega,by omega,mH (fun L a b=>?_),HB1⟩
     by_cases e:L < l
     ·exact HC.out L a e
     ·intro hp
      have:=cov_no (g:=gS (k,q,t)) (d:=dS (k,q,t)) (q:=qS (k,q,t)) (l:=l) (L:=L) (dem:=dem) HN.out.2.1 HN.out.2.2 HM.out (HB0.out l (by omega) (by omega)).1 (by omega) (by omega) (by rw [HNe.out];omega)
      unfold FstP at hp
      omega
    case measure=>simp [intOf];omega
  ·have hr0:r=0:=HI.out.un (.inl ⟨rfl,fun L a b=>HC.out L a (by omega)⟩)
   have HR:Hid (R=vE a2):=mH (HO.out hr0)
   have HR0:=mH hr0
   clear hr0
   have ce:=kc HE.out (new_last HB.out).2
   go_wp2
   go_quiet (fail)
   go_wp2
   go_ret2
   exact⟨by rw [HR.out,HR0.out];rfl,bdN (new_last HB.out).2 _⟩
end Go.Proofs.YtpdehdomilnmeaaGreatDoor
namespace Go.Proofs.YtpdehdomilnmeaaGreatDoor
open Go.ChangeShapes Go.WideShapes Go.ChangeAt Go.RowKit
set_option maxRecDepth 100000
attribute [local go_sem] World.cell?_alloc_some fAs
abbrev LineP (s:Sv) (N D more:Int):Prop:=(N * 4096+D * more) * (dS s+qS s)<=D * (qS s * (4096 - (gS s+dS s)))
theorem slope_yes (w:World) (s:Sv) (h:okW s):Calls Tryz.prog 207 #[vS s] w fun e w'=>e=.returned (.tuple #[.int .i64 (qS s),.int .i64 (dS s+qS s),.int .i64 (gS s+dS s),.nilIface])/\Below w.heap.size w w':=slope_is w s _ _ _ _ (small_yes h) (shapeIs_yes w s h)
theorem cmpI_le {a b:Int}:decide (cmpI a b<=0)=decide (a<=b):=by
 unfold cmpI
 by_cases h1:a < b
 ·simp [h1];omega
 ·by_cases h2:b < a
  ·simp [h1,h2]
  ·simp [h1,h2];omega
set_option maxHeartbeats 3200000 in
theorem under_is (w:World) (s:Sv) (N D more:Int) {A B C E:Int} (h:okW s) (hp:Pt (N,D) A B C E) (N0:0<=N) (N1:N<=147573952589676412928) (D0:1<=D) (D1:D<=18446744073709551616) (m0:0<=more) (m1:more<=10000) (b:Bool) (hb:b=decide (LineP s N D more)) :
  Calls Tryz.prog 193 #[vS s,vP A B C E,.int .i64 more] w fun e w'=>e=.returned (.bool b)/\Below w.heap.size w w':=by
 obtain⟨n1,n2,n3,n4,n5⟩:=h.nums
 have HS:Hid (∀ W,Calls Tryz.prog 207 #[vS s] W fun e w'=>e=.returned (.tuple #[.int .i64 (qS s),.int .i64 (dS s+qS s),.int .i64 (gS s+dS s),.nilIface])/\Below W.heap.size W w'):=mH (fun W=>slope_yes W s h)
 obtain⟨pa,pb,pc,pe,e1,e2⟩:=hp
 simp only at e1 e2
 obtain⟨Q,hQ⟩:∃ Q,Q=qS s:=⟨_,rfl⟩
 obtain⟨T,hT⟩:∃ T,T=dS s+qS s:=⟨_,rfl⟩
 obtain⟨G,hG⟩:∃ G,G=gS s+dS s:=⟨_,rfl⟩
 obtain⟨M,hM⟩:∃ M,M=4096 - G:=⟨_,rfl⟩
 obtain⟨X,hX⟩:∃ X,X=Q * M:=⟨_,rfl⟩
 have hM0:0<=M:=by omega
 have hX0:0<=X:=by rw [hX];exact Int.mul_nonneg (by omega) hM0
 have hX1:X<=256 * 4096:=by rw [hX];exact Int.mul_le_mul (by omega) (by omega) (by omega) (by omega)
 have ew1:IntKind.i64.wrap (4096 - G)=M:=by rw [hM];exact wfit (by omega) (by omega)
 have ew2:IntKind.i64.wrap (Q * M)=X:=by rw [<- hX];exact wfit (by omega) (by omega)
 have hDm:D * more<=18446744073709551616 * 10000:=Int.mul_le_mul (by omega) (by omega) (by omega) (by omega)
 have hDm0:0<=D * more:=Int.mul_nonneg (by omega) m0
 obtain⟨H,L,w1,w2,eq1⟩:=halves (N * 4096) (by omega) (by omega)
 have hI:Is (wv A B * 4096) H L true:=⟨w1,w2,fun _=>by rw [e1];exact eq1.symm,fun h=>(by cases h)⟩
 obtain⟨A2,B2,w3,w4,eq2⟩:=halves (N * 4096+D * more) (by omega) (by omega)
 have hPl:PlIs (wv H L) (wv C E) more 1 A2 B2 C E true:=⟨w3,w4,pc,pe,fun _=>⟨⟨by rw [e2];omega,m0,by omega⟩,by show A2 * 18446744073709551616+B2=(H * 18446744073709551616+L) * 1+wv C E * more;rw [<- eq2,<- eq1,e2];omega,by omega⟩,fun h=>(by cases h)⟩
 have hDX:D * X<=18446744073709551616 * (256 * 4096):=Int.mul_le_mul (by omega) (by omega) (by omega) (by omega)
 have hNT:(N * 4096+D * more) * T<=(147573952589676412928 * 4096+18446744073709551616 * 10000) * 256:=Int.mul_le_mul (by omega) (by omega) (by omega) (by omega)
 have hAg:AgIs (wv A2 B2) (wv C E) X T (cmpI ((N * 4096+D * more) * T) (D * X)) true:=⟨fun _=>by
  have ev:wv A2 B2=N * 4096+D * more:=eq2.symm
  rw [ev,e2]
  exact⟨⟨by omega,hX0,by omega⟩,by omega,by omega,rfl⟩,fun h=>(by cases h)⟩
 have hbb:b=decide (cmpI ((N * 4096+D * more) * T) (D * X)<=0):=by
  rw [hb,cmpI_le]
  unfold LineP
  rw [hX,hM,hQ,hT,hG]
 generalize cmpI ((N * 4096+D * more) * T) (D * X)=c at *
 rw [<- hT,<- hG,<- hQ] at HS
 have iX:I64 X:=⟨by omega,by omega⟩
 have iT:I64 T:=⟨by omega,by omega⟩
 have im:I64 more:=⟨by omega,by omega⟩
 have i1:I64 1:=⟨by decide,by decide⟩
 have HI:=mH hI
 have HP:=mH hPl
 have HA:=mH hAg
 have u4:Word 4096:=⟨by decide,by decide⟩
 obtain⟨k,q,t⟩:=s
 clear hI hPl hAg hb hDX hNT eq1 eq2 hX0 hX1 hM0 hX hM hG hT hQ hDm hDm0 e1 e2 n1 n2 n3 n4 n5 h N0 N1 D0 D1
 go_enter Tryz.func193,Tryz.ntmps193
 go_wp2_with (first
  |(go_at_call 207;refine(HS.out _).mono ?_;rintro e w5 ⟨rfl,b5⟩;have d0:=kc (a:=⟨w.heap.size+1,0,none⟩) (v:=.int .u64 A) (by simp [go_sem]) b5;have d1:=kc (a:=⟨w.heap.size+1,1,none⟩) (v:=.int .u64 B) (by simp [go_sem]) b5;have d2:=kc (a:=⟨w.heap.size+1,2,none⟩) (v:=.int .u64 C) (by simp [go_sem]) b5;have d3:=kc (a:=⟨w.heap.size+1,3,none⟩) (v:=.int .u64 E) (by simp [go_sem]) b5;have HB5:=mH (bt (ba (ba (Below.refl _ _) _) _) b5);clear b5)
  |(go_at_call 208;refine(wmul_is pa pb u4 HI.out).mono ?_;rintro e w6 ⟨rfl,b6⟩;have f2:=kc d2 b6;have f3:=kc d3 b6;have HB6:=mH (bt HB5.out b6);clear b6 d0 d1 d2 d3)
  |(go_at_call 205;refine(plus_is w1 w2 pc pe im i1 HP.out).mono ?_;rintro e w7 ⟨rfl,b7⟩;have HB7:=mH (bt (ba HB6.out _) b7);clear b7 f2 f3)
  |(go_at_call 206;refine(against_is w3 w4 pc pe iX iT HA.out).mono ?_;rintro e w8 ⟨rfl,b8⟩;have HB8:=mH (bt (ba HB7.out _) b8);clear b8))
 go_ret
 exact⟨by rw [hbb];rfl,HB8.out⟩
theorem okS.nums3 {s:Sv} (h:okS s):qS s=s.2.1/\dS s+qS s=s.2.2:=by
 obtain⟨k,q,t⟩:=s
 obtain⟨h1,h2,h3,h4,h5⟩:=h
 simp only at h1 h2 h3 h4 h5
 simp only [qS,dS]
 rw [if_neg (show ¬ k=0 by omega),if_neg (show ¬ k=0 by omega)]
 omega
theorem within_yes (w:World) (s:Sv) (N D:Int) {A B C E:Int} (h:okW s) (hp:Pt (N,D) A B C E) (N1:N<=147573952589676412928) (D0:1<=D) (D1:D<=18446744073709551616) :
  Calls Tryz.prog 192 #[vP A B C E,vS s] w fun e w'=>e=.returned (.tuple #[.int .i64 (cmpI (N * (dS s+qS s)) (D * qS s)),.bool true])/\Below w.heap.size w w':=by
 obtain⟨n1,n2,n3,n4,n5⟩:=h.nums
 obtain⟨pa,pb,pc,pe,e1,e2⟩:=hp
 simp only at e1 e2
 have hDQ:D * qS s<=18446744073709551616 * 256:=Int.mul_le_mul (by omega) (by omega) (by omega) (by omega)
 have hNT:N * (dS s+qS s)<=147573952589676412928 * 256:=Int.mul_le_mul (by omega) (by omega) (by omega) (by omega)
 have hAg:AgIs (wv A B) (wv C E) (qS s) (dS s+qS s) (cmpI (N * (dS s+qS s)) (D * qS s)) true:=⟨fun _=>by
  rw [e1,e2]
  exact⟨⟨by omega,by omega,by omega⟩,by omega,by omega,rfl⟩,fun h=>(by cases h)⟩
 rcases h with rfl | h
 ·exact within_whole w pa pb pc pe hAg
 ·rw [h.nums3.2,h.nums3.1] at hAg ⊢
  exact within_ok w s pa pb pc pe h hAg
set_option maxHeartbeats 3200000 in
theorem fit_is (w:World) (s:Sv) (N D more:Int) {A B C E:Int} (F:Nat) (cap:Array Value) (dem:Int->Int) (R:Value) (a a2:Addr) (h:okW s) (hp:Pt (N,D) A B C E) (N0:0<=N) (N1:N<=147573952589676412928) (D0:1<=D) (D1:D<=18446744073709551616) (m0:0<=more) (m1:more<=10000)
  (hm:Mono dem) (hb:∀ l,0<=l->l<=4096->0<=dem l/\dem l<=40960) (he:w.cell? ⟨1,0,none⟩=some (vE a)) (he2:w.cell? ⟨11,0,none⟩=some (vE a2)) (hen:∀ args W,Sem.run Tryz.prog (callFunc F args) W=.ok (.enter F args) W) (hA:Asks w F cap dem 4096)
  (hyes:Fits (gS s) (dS s) (qS s) N D more dem->R=.nilIface) (hno:¬ Fits (gS s) (dS s) (qS s) N D more dem->R=vE a2) :
  Calls Tryz.prog 178 #[vS s,vP A B C E,.int .i64 more,.func (.func F) #[] cap] w fun e w'=>e=.returned R/\Below w.heap.size w w':=by
 have H1:Hid (∀ W,Calls Tryz.prog 192 #[vP A B C E,vS s] W fun e w'=>e=.returned (.tuple #[.int .i64 (cmpI (N * (dS s+qS s)) (D * qS s)),.bool true])/\Below W.heap.size W w'):=mH (fun W=>within_yes W s N D h hp N1 D0 D1)
 have H2:Hid (∀ W b,b=decide (LineP s N D more)->Calls Tryz.prog 193 #[vS s,vP A B C E,.int .i64 more] W fun e w'=>e=.returned (.bool b)/\Below W.heap.size W w'):=mH (fun W b hb=>under_is W s N D more h hp N0 N1 D0 D1 m0 m1 b hb)
 have H3:Hid (∀ W R,Below w.heap.size w W->(Cov s dem->R=.nilIface)->(¬ Cov s dem->R=vE a2)->Calls Tryz.prog 194 #[vS s,.func (.func F) #[] cap] W fun e w'=>e=.returned R/\Below W.heap.size W w'):=mH (fun W R hW y n=>covered_is W s F cap dem R a a2 h hm hb (kc he hW) (kc he2 hW) hen (hA.late hW) y n)
 have HE:=mH he2
 have HY:=mH hyes
 have HO:=mH hno
 clear hm hb he he2 hen hA hyes hno
 obtain⟨k,q,t⟩:=s
 by_cases c1:N * (dS (k,q,t)+qS (k,q,t)) < D * qS (k,q,t)
 ·have e1:cmpI (N * (dS (k,q,t)+qS (k,q,t))) (D * qS (k,q,t)) = -1:=if_pos c1
  rw [e1] at H1
  clear e1
  have HC1:=mH c1
  clear c1
  by_cases c2:LineP (k,q,t) N D more
  ·have HC2:=mH c2
   have HR:Hid (Cov (k,q,t) dem->R=.nilIface):=mH (fun hc=>HY.out ⟨HC1.out,HC2.out,hc⟩)
   have HR2:Hid (¬ Cov (k,q,t) dem->R=vE a2):=mH (fun hc=>HO.out (fun hf=>hc hf.2.2))
   clear c2
   go_enter Tryz.func178,Tryz.ntmps178
   go_wp2_with (first
    |(go_at_call 192;refine(H1.out _).mono ?_;rintro e w5 ⟨rfl,b5⟩;have d0:=kc (a:=⟨w.heap.size+1,0,none⟩) (v:=.int .u64 A) (by simp [go_sem]) b5;have d1:=kc (a:=⟨w.heap.size+1,1,none⟩) (v:=.int .u64 B) (by simp [go_sem]) b5;have d2:=kc (a:=⟨w.heap.size+1,2,none⟩) (v:=.int .u64 C) (by simp [go_sem]) b5;have d3:=kc (a:=⟨w.heap.size+1,3,none⟩) (v:=.int .u64 E) (by simp [go_sem]) b5;have f0:=kc (a:=⟨w.heap.size,0,none⟩) (v:=.int .i64 k) (by simp [go_sem]) b5;have f1:=kc (a:=⟨w.heap.size,1,none⟩) (v:=.int .i64 q) (by simp [go_sem]) b5;have f2:=kc (a:=⟨w.heap.size,2,none⟩) (v:=.int .i64 t) (by simp [go_sem]) b5;have HB5:=mH (bt (ba (ba (Below.refl _ _) _) _) b5);clear b5)
    |(go_at_call 193;refine(H2.out _ true (decide_eq_true HC2.out).symm).mono ?_;rintro e w6 ⟨rfl,b6⟩;have g0:=kc f0 b6;have g1:=kc f1 b6;have g2:=kc f2 b6;have HB6:=mH (bt HB5.out b6);clear b6 d0 d1 d2 d3 f0 f1 f2)
    |(go_at_call 194;refine(H3.out _ R HB6.out HR.out HR2.out).mono ?_;rintro e w7 ⟨rfl,b7⟩;have HB7:=mH (bt HB6.out b7);clear b7))
   go_ret
   exact⟨rfl,HB7.out⟩
  ·have HC2:=mH c2
   have HR2:Hid (R=vE a2):=mH (HO.out (fun hf=>HC2.out hf.2.1))
   have H2f:Hid (∀ W,Calls Tryz.prog 193 #[vS (k,q,t),vP A B C E,.int .i64 more] W fun e w'=>e=.returned (.bool false)/\Below W.heap.size W w'):=mH (fun W=>H2.out W false (decide_eq_false c2).symm)
   clear c2 HC2 H2
   go_enter Tryz.func178,Tryz.ntmps178
   go_wp2_with (first
    |(go_at_call 192;refine(H1.out _).mono ?_;rintro e w5 ⟨rfl,b5⟩;have d0:=kc (a:=⟨w.heap.size+1,0,none⟩) (v:=.int .u64 A) (by simp [go_sem]) b5;have d1:=kc (a:=⟨w.heap.size+1,1,none⟩) (v:=.int .u64 B) (by simp [go_sem]) b5;have d2:=kc (a:=⟨w.heap.size+1,2,none⟩) (v:=.int .u64 C) (by simp [go_sem]) b5;have d3:=kc (a:=⟨w.heap.size+1,3,none⟩) (v:=.int .u64 E) (by simp [go_sem]) b5;have f0:=kc (a:=⟨w.heap.size,0,none⟩) (v:=.int .i64 k) (by simp [go_sem]) b5;have f1:=kc (a:=⟨w.heap.size,1,none⟩) (v:=.int .i64 q) (by simp [go_sem]) b5;have f2:=kc (a:=⟨w.heap.size,2,none⟩) (v:=.int .i64 t) (by simp [go_sem]) b5;have HB5:=mH (bt (ba (ba (Below.refl _ _) _) _) b5);clear b5)
    |(go_at_call 193;refine(H2f.out _).mono ?_;rintro e w6 ⟨rfl,b6⟩;have HB6:=mH (bt HB5.out b6);clear b6 d0 d1 d2 d3 f0 f1 f2;have ce:=kc HE.out HB6.out))
   go_ret
   exact⟨by rw [HR2.out];rfl,HB6.out⟩
 ·have HR2:Hid (R=vE a2):=mH (HO.out (fun hf=>c1 hf.1))
  obtain⟨x,hx⟩:∃ x,x=cmpI (N * (dS (k,q,t)+qS (k,q,t))) (D * qS (k,q,t)):=⟨_,rfl⟩
  have x0:0<=x:=by rw [hx];unfold cmpI;rw [if_neg c1];split <;> omega
  rw [<- hx] at H1
  clear hx c1
  go_enter Tryz.func178,Tryz.ntmps178
  go_wp2_with (first
   |(go_at_call 192;refine(H1.out _).mono ?_;rintro e w5 ⟨rfl,b5⟩;have HB5:=mH (bt (ba (ba (Below.refl _ _) _) _) b5);clear b5;have ce:=kc HE.out HB5.out))
  go_ret
  exact⟨by rw [HR2.out];rfl,HB5.out⟩
theorem asks_kids (w:World) (v:Value) (xs:List Sv) (p:Nat) (h:Svs w v xs) (hx:∀ x ∈ xs,okS x) (hn:xs.length<=8) (hc:w.cell? ⟨p,0,none⟩=some v):Asks w 176 #[.pointer (some ⟨p,0,none⟩)] (fun l=>tot (sdem · l) xs) 4096:=by
 intro l W l0 l1 hW
 have H:=mH (dsdem_ok W v xs l (h.below hW) hx hn l0 (by omega))
 have c0:=kc hc hW
 obtain⟨a0,cap,rfl,_⟩:=h
 clear hc hx hn
 show Calls Tryz.prog 176 #[.int .i64 l,.pointer (some ⟨p,0,none⟩)] W _
 simp only
 generalize tot (sdem · l) xs=N at *
 go_enter Tryz.func176,Tryz.ntmps176
 go_wp2_with (go_at_call 177;refine H.out.mono ?_;rintro e w1 ⟨rfl,b1⟩)
 go_ret2
 exact⟨rfl,b1⟩
theorem asks_drain (w:World) (v:Value) (xs:List Sv) (p:Nat) (h:Svs w v xs) (hx:∀ x ∈ xs,okS x) (hn:xs.length<=8) (hc:w.cell? ⟨p,0,none⟩=some v):Asks w 166 #[.pointer (some ⟨p,0,none⟩)] (fun l=>tot (sreq · l) xs) 4096:=by
 intro l W l0 l1 hW
 have H:=mH (dsreq_ok W v xs l (h.below hW) hx hn l0 (by omega))
 have c0:=kc hc hW
 obtain⟨a0,cap,rfl,_⟩:=h
 clear hc hx hn
 show Calls Tryz.prog 166 #[.int .i64 l,.pointer (some ⟨p,0,none⟩)] W _
 simp only
 generalize tot (sreq · l) xs=N at *
 go_enter Tryz.func166,Tryz.ntmps166
 go_wp2_with (go_at_call 167;refine H.out.mono ?_;rintro e w1 ⟨rfl,b1⟩)
 go_ret2
 exact⟨rfl,b1⟩
theorem tskM_eq (xs:List Tk) (l:Int):tsk xs l=tskM xs l:=rfl
theorem untM_eq (xs:List Tk) (i:Nat) (l:Int):unt xs i l=untM xs i l:=rfl
theorem asks_tasks (w:World) (v:Value) (xs:List Tk) (p:Nat) (h:Tks w v xs) (hx:okTs xs) (hc:w.cell? ⟨p,0,none⟩=some v):Asks w 186 #[.pointer (some ⟨p,0,none⟩)] (tskM xs) 4096:=by
 intro l W l0 l1 hW
 have H:=mH (dtasks_ok W v xs l (h.below hW) hx l0 (by omega))
 have c0:=kc hc hW
 obtain⟨a0,cap,rfl,_⟩:=h
 clear hc hx
 show Calls Tryz.prog 186 #[.int .i64 l,.pointer (some ⟨p,0,none⟩)] W _
 rw [tskM_eq] at H
 generalize tskM xs l=N at *
 go_enter Tryz.func186,Tryz.ntmps186
 go_wp2_with (go_at_call 187;refine H.out.mono ?_;rintro e w1 ⟨rfl,b1⟩)
 go_ret2
 exact⟨rfl,b1⟩
theorem asks_resp (w:World) (a0:Option Addr) (cap:Nat) (xs:List Tk) (i p p2:Nat) (h:Tks w (.slice a0 xs.length cap) xs) (hx:okTs xs) (hi:i < xs.length) (hcap:xs.length<=cap) (hc:w.cell? ⟨p,0,none⟩=some (.slice a0 xs.length cap)) (hc2:w.cell? ⟨p2,0,none⟩=some (.int .i64 (i:Int))):Asks w 198 #[.pointer (some ⟨p,0,none⟩),.pointer (some ⟨p2,0,none⟩)] (untM xs i) 4096:=by
 intro l W l0 l1 hW
 have H:=mH (until_ok W a0 cap xs i l (h.below hW) hx l0 (by omega) hi hcap)
 have c0:=kc hc hW
 have c1:=kc hc2 hW
 clear hc hc2 hx h
 show Calls Tryz.prog 198 #[.int .i64 l,.pointer (some ⟨p,0,none⟩),.pointer (some ⟨p2,0,none⟩)] W _
 rw [untM_eq] at H
 generalize untM xs i l=N at *
 go_enter Tryz.func198,Tryz.ntmps198
 go_wp2_with (go_at_call 199;refine H.out.mono ?_;rintro e w1 ⟨rfl,b1⟩)
 go_ret2
 exact⟨rfl,b1⟩
end Go.Proofs.YtpdehdomilnmeaaGreatDoor
