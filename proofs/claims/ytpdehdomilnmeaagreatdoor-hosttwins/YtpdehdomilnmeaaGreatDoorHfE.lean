import Derived.Test.YtpdehdomilnmeaaGreatDoorHf5
import Derived.Test.YtpdehdomilnmeaaGreatDoorHfB
import Derived.Deep.QuietTactic
import Derived.BigQuiet
import Derived.Test.YtpdehdomilnmeaaGreatDoorHsE
namespace Go.Proofs.YtpdehdomilnmeaaGreatDoor
open Go.ChangeShapes Go.WideShapes Go.ChangeAt Go.RowKit
set_option maxRecDepth 100000
set_option maxRecDepth 100000
attribute [local go_sem] World.cell?_alloc_some fAs
theorem seven_cells {w:World} {p:Nat} {a0 a1 a2 a3 a4 a5 a6:Value} {T:TypeId} (h:w.heap[p]?=some (.cells #[a0,a1,a2,a3,a4,a5,a6] T (0,0))):w.cell? ⟨p,0,none⟩=some a0/\w.cell? ⟨p,1,none⟩=some a1/\w.cell? ⟨p,2,none⟩=some a2/\w.cell? ⟨p,3,none⟩=some a3/\w.cell? ⟨p,4,none⟩=some a4/\w.cell? ⟨p,5,none⟩=some a5/\w.cell? ⟨p,6,none⟩=some a6:=
 ⟨cOb (i:=0) h rfl,cOb (i:=1) h rfl,cOb (i:=2) h rfl,cOb (i:=3) h rfl,cOb (i:=4) h rfl,cOb (i:=5) h rfl,cOb (i:=6) h rfl⟩
set_option maxHeartbeats 51200000 in
theorem path_is (w:World) (t:Tr) (al:Option Addr) (cl:Nat) (gv:Value) (qs:List Np) (f:Nd->Mk) (c0 G n4 n5 n6 n7 n8:Int) (e9:Bool) (ra ma:Option Addr) (rl rc mc:Nat) (hq:RowIn 7 c7 w (.slice al qs.length cl) qs) (hm:RowIn 3 c3m w (.slice ma qs.length mc) ((nds qs).map f)) (H:PathOk (nds qs) f G) (hl:qs.length<=1000) :
  Calls Tryz.prog 66 #[vTr (.slice al qs.length cl) gv t,.agg #[.int .i64 c0,.slice ra rl rc,.slice ma qs.length mc,.int .i64 G,.int .i64 n4,.int .i64 n5,.int .i64 n6,.int .i64 n7,.int .i64 n8,.bool e9]] w fun e w'=>e=.returned (.bool true)/\Below w.heap.size w w':=by
 have HQ:=mH hq
 have HM:=mH hm
 have HH:=mH H
 have HL:=mH hl
 have hli:(qs.length:Int)<=1000:=by omega
 clear hq hm H hl
 have hlm:((nds qs).map f).length=qs.length:=by rw [List.length_map,List.length_map]
 have HLM:=mH hlm
 clear hlm
 go_enter Tryz.func66,Tryz.ntmps66
 go_wp2
 obtain⟨W,hW⟩:∃ W,W=(w.alloc (oTr (.slice al qs.length cl) gv t)).alloc (.cells #[.int .i64 c0,.slice ra rl rc,.slice ma qs.length mc,.int .i64 G,.int .i64 n4,.int .i64 n5,.int .i64 n6,.int .i64 n7,.int .i64 n8,.bool e9] 57):=⟨_,rfl⟩
 have HB0:Hid (Below w.heap.size w W):=mH (by rw [hW];exact ba (ba (Below.refl _ w) _) _)
 have HT0:Hid (W.heap[w.heap.size]?=some (oTr (.slice al qs.length cl) gv t)):=mH (by rw [hW];exact(heap_alloc_old _ _ (by simp)).trans (heap_alloc_new w _))
 have HR0:Hid (W.heap[w.heap.size+1]?=some (.cells #[.int .i64 c0,.slice ra rl rc,.slice ma qs.length mc,.int .i64 G,.int .i64 n4,.int .i64 n5,.int .i64 n6,.int .i64 n7,.int .i64 n8,.bool e9] 57)):=mH (by rw [hW];exact two_of2 w _ _)
 rw [<- hW]
 clear hW
 generalize w.heap.size+1=rb at HR0 ⊢
 go_loopw [5,21] (fun tv iv wr=>∃ i:Nat,iv=.int .i64 (i:Int)/\i<=qs.length/\tv=.int .i64 (kidN ((nds qs).take i) f 0:Int)/\Hid (Below w.heap.size w wr/\Below W.heap.size W wr)) (fun _ iv _=>qs.length - (intOf iv).toNat)
 case atStart=>exact⟨0,rfl,Nat.zero_le _,rfl,mH ⟨HB0.out,Below.refl _ _⟩⟩
 case round=>
  obtain⟨i,rfl,hi,rfl,HB⟩:=hrel
  have htb:=(HB.out.2.block _ (lOh HT0.out)).trans HT0.out
  have hrb:=(HB.out.2.block _ (lOh HR0.out)).trans HR0.out
  obtain⟨u0,u1,u2,u3⟩:=four htb
  obtain⟨r0,r1,r2,r3,r4,r5,r6,r7,r8,r9⟩:=rp_cells' hrb
  clear htb hrb
  have hkb:=kid_le ((nds qs).take i) f 0
  rw [List.length_take] at hkb
  have hkb2:(kidN ((nds qs).take i) f 0:Int)<=1000:=by have:=HL.out;omega
  by_cases hlt:i < qs.length
  ·obtain⟨b1,o1,x,hal,hx,hat⟩:=HQ.out.at HB.out.1 i hlt
   obtain⟨b2,o2,m,hma,hmx,hatm⟩:=HM.out.at HB.out.1 i (by rw [HLM.out];exact hlt)
   subst hal
   subst hma
   have hxn:=nds_at hx
   have hfm:f x.1=m:=by rw [List.getElem?_map,hxn] at hmx;exact Option.some.inj hmx
   obtain⟨q0,q1,q2,q3,q4,q5,q6⟩:=seven hat
   obtain⟨a0,a1,a2⟩:=three_atm hatm
   obtain⟨g1,g2,g3⟩:=HH.out.each _ (List.mem_of_getElem? hxn)
   have HST:=mH (kid_step (f:=f) (q:=0) hxn)
   have HMX:=mH hmx
   clear hat hatm hx hxn hmx
   obtain⟨⟨id,pa,⟨k,q,T⟩,po,ts⟩,ta,tc⟩:=x
   obtain⟨mi,mw,mr⟩:=m
   rw [hfm] at g1 g2 g3 HST
   simp only [tvN] at q0 q1 q2 q3 q4 q5 q6
   simp only at a0 a1 a2 g1 g2 g3 HST
   subst g1
   have HG:=mH (And.intro g2 g3)
   clear g2 g3 hfm
   have hii:(i:Int) < qs.length:=by omega
   go_wp2
   have HN7:Hid ((wr.alloc (.cells #[.int .i64 mi,.int .i64 pa,.int .i64 k,.int .i64 q,.int .i64 T,.int .i64 po,.slice ta ts.length tc] 69)).heap[wr.heap.size]?=some (.cells #[.int .i64 mi,.int .i64 pa,.int .i64 k,.int .i64 q,.int .i64 T,.int .i64 po,.slice ta ts.length tc] 69)):=mH (heap_alloc_new wr _)
   have HB7:Hid (Below w.heap.size w (wr.alloc (.cells #[.int .i64 mi,.int .i64 pa,.int .i64 k,.int .i64 q,.int .i64 T,.int .i64 po,.slice ta ts.length tc] 69))/\Below W.heap.size W (wr.alloc (.cells #[.int .i64 mi,.int .i64 pa,.int .i64 k,.int .i64 q,.int .i64 T,.int .i64 po,.slice ta ts.length tc] 69))):=mH ⟨ba HB.out.1 _,ba HB.out.2 _⟩
   generalize wr.alloc (.cells #[.int .i64 mi,.int .i64 pa,.int .i64 k,.int .i64 q,.int .i64 T,.int .i64 po,.slice ta ts.length tc] 69)=w7 at HN7 HB7 ⊢
   generalize wr.heap.size=bn at HN7 ⊢
   clear q0 q1 q2 q3 q4 q5 q6 a0 a1 a2 u0 u1 u2 u3 r0 r1 r2 r3 r4 r5 r6 r7 r8 r9
   go_loopw [8,29] (fun cv jv w8=>∃ j:Nat,jv=.int .i64 (j:Int)/\j<=qs.length/\cv=.int .i64 (kidN ((nds qs).take j) f mi:Int)/\Hid (Below w7.heap.size w7 w8)) (fun _ jv _=>qs.length - (intOf jv).toNat)
   case atStart=>exact⟨0,rfl,Nat.zero_le _,rfl,mH (Below.refl _ _)⟩
   case round=>
    rename World=>w8
    obtain⟨j,rfl,hj,rfl,HB8⟩:=hrel
    have HBw:=mH (And.intro (bt HB7.out.1 HB8.out) (bt HB7.out.2 HB8.out))
    have hnb:=(HB8.out.block _ (lOh HN7.out)).trans HN7.out
    have htb:=(HBw.out.2.block _ (lOh HT0.out)).trans HT0.out
    have hrb:=(HBw.out.2.block _ (lOh HR0.out)).trans HR0.out
    obtain⟨u0,u1,u2,u3⟩:=four htb
    obtain⟨r0,r1,r2,r3,r4,r5,r6,r7,r8,r9⟩:=rp_cells' hrb
    obtain⟨v0,v1,v2,v3,v4,v5,v6⟩:=seven_cells hnb
    clear htb hrb hnb
    by_cases hlt2:j < qs.length
    ·obtain⟨b3,o3,y,hal,hy,hat⟩:=HQ.out.at HBw.out.1 j hlt2
     obtain⟨b4,o4,m2,hma,hmy,hatm⟩:=HM.out.at HBw.out.1 j (by rw [HLM.out];exact hlt2)
     simp only [Option.some.injEq,Addr.mk.injEq] at hal hma
     obtain⟨rfl,rfl,_⟩:=hal
     obtain⟨rfl,rfl,_⟩:=hma
     have hyn:=nds_at hy
     have hfm:f y.1=m2:=by rw [List.getElem?_map,hyn] at hmy;exact Option.some.inj hmy
     obtain⟨p0,p1,p2,p3,p4,p5,p6⟩:=seven hat
     obtain⟨a0,a1,a2⟩:=three_atm hatm
     have HS2:=mH (kid_step (f:=f) (q:=mi) hyn)
     clear hat hatm hy hyn hmy
     obtain⟨⟨id2,pa2,⟨k2,q2,T2⟩,po2,ts2⟩,ta2,tc2⟩:=y
     obtain⟨mi2,mw2,mr2⟩:=m2
     rw [hfm] at HS2
     simp only [tvN] at p0 p1 p2 p3 p4 p5 p6
     simp only at a0 a1 a2 HS2
     clear hfm
     have hjj:(j:Int) < qs.length:=by omega
     have hkb3:=kid_le ((nds qs).take j) f mi
     rw [List.length_take] at hkb3
     have hkb4:(kidN ((nds qs).take j) f mi:Int)<=1000:=by have:=HL.out;omega
     clear hkb3
     have HB10:=mH (ba HB8.out (.cells #[.int .i64 id2,.int .i64 pa2,.int .i64 k2,.int .i64 q2,.int .i64 T2,.int .i64 po2,.slice ta2 ts2.length tc2] 69))
     by_cases hp:pa2=mi
     ·subst hp
      cases mr2 with
      |true=>
       have hst:kidN ((nds qs).take (j+1)) f pa2=kidN ((nds qs).take j) f pa2+1:=by have:=HS2.out;simpa using this
       have HS3:=mH hst
       clear hst HS2
       go_wp2
       go_roundw
       case rel=>exact⟨j+1,by go_num,by omega,by rw [HS3.out];go_num,HB10⟩
       case measure=>simp [intOf];omega
      |false=>
       have hst:kidN ((nds qs).take (j+1)) f pa2=kidN ((nds qs).take j) f pa2:=by have:=HS2.out;simpa using this
       have HS3:=mH hst
       clear hst HS2
       go_wp2
       go_roundw
       case rel=>exact⟨j+1,by go_num,by omega,by rw [HS3.out],HB10⟩
       case measure=>simp [intOf];omega
     ·have hst:kidN ((nds qs).take (j+1)) f mi=kidN ((nds qs).take j) f mi:=by have:=HS2.out;simpa [hp] using this
      have HS3:=mH hst
      clear hst HS2
      go_wp2
      go_roundw
      case rel=>exact⟨j+1,by go_num,by omega,by rw [HS3.out],HB10⟩
      case measure=>simp [intOf];omega
    ·obtain rfl:j=qs.length:=by omega
     obtain⟨b5,o5,m5,hma,hmx5,hatm⟩:=HM.out.at HBw.out.1 i (by rw [HLM.out];exact hlt)
     simp only [Option.some.injEq,Addr.mk.injEq] at hma
     obtain⟨rfl,rfl,_⟩:=hma
     obtain rfl:m5=(mi,mw,mr):=by rw [HMX.out] at hmx5;exact(Option.some.inj hmx5).symm
     obtain⟨a0,a1,a2⟩:=three_atm hatm
     simp only at a0 a1 a2
     clear hatm hmx5 hlt2 hj HB8
     have HBF:Hid (Below w.heap.size w w8/\Below W.heap.size W w8):=HBw
     have hc:kidN ((nds qs).take qs.length) f mi=kidN (nds qs) f mi:=by rw [List.take_of_length_le (by simp [nds])]
     rw [hc]
     clear hc
     rcases HG.out with ⟨hw,⟨hpo,hG,hk,hr⟩ | ⟨hno,hk,hr⟩ | ⟨hno,hk,hr⟩⟩
     ·rw [hk]
      obtain rfl:=hr
      obtain rfl:=hw rfl
      obtain rfl:=hG
      clear hk hw HG
      by_cases hp0:pa=0
      ·obtain rfl:=hp0
       have hst:kidN ((nds qs).take (i+1)) f 0=kidN ((nds qs).take i) f 0+1:=by have:=HST.out;simpa using this
       have HS3:=mH hst
       clear hst HST
       go_wp2
       go_quiet (fail)
       go_wp2
       go_roundw
       case rel=>exact⟨i+1,by go_num,by omega,by rw [HS3.out];go_num,mH ⟨below_drewG HBF.out.1 _,below_drewG HBF.out.2 _⟩⟩
       case measure=>simp [intOf];omega
      ·skip
       have hst:kidN ((nds qs).take (i+1)) f 0=kidN ((nds qs).take i) f 0:=by have:=HST.out;simpa [hp0] using this
       have HS3:=mH hst
       clear hst HST
       go_wp2
       go_quiet (fail)
       go_wp2
       go_roundw
       case rel=>exact⟨i+1,by go_num,by omega,by rw [HS3.out],mH ⟨below_drewG HBF.out.1 _,below_drewG HBF.out.2 _⟩⟩
       case measure=>simp [intOf];omega
     ·rw [hk]
      obtain rfl:=hr
      obtain rfl:=hw rfl
      clear hk hw HG
      have hno2:po=0 ∨ (¬ po=0/\¬ G=mi):=by by_cases c:po=0;exact .inl c;exact .inr ⟨c,fun e=>hno ⟨c,e⟩⟩
      clear hno
      rcases hno2 with rfl | ⟨hpo,hGn⟩
      ·by_cases hp0:pa=0
       ·obtain rfl:=hp0
        have hst:kidN ((nds qs).take (i+1)) f 0=kidN ((nds qs).take i) f 0+1:=by have:=HST.out;simpa using this
        have HS3:=mH hst
        clear hst HST
        go_wp2
        go_quiet (fail)
        go_wp2
        go_roundw
        case rel=>exact⟨i+1,by go_num,by omega,by rw [HS3.out];go_num,mH ⟨below_drewG HBF.out.1 _,below_drewG HBF.out.2 _⟩⟩
        case measure=>simp [intOf];omega
       ·skip
        have hst:kidN ((nds qs).take (i+1)) f 0=kidN ((nds qs).take i) f 0:=by have:=HST.out;simpa [hp0] using this
        have HS3:=mH hst
        clear hst HST
        go_wp2
        go_quiet (fail)
        go_wp2
        go_roundw
        case rel=>exact⟨i+1,by go_num,by omega,by rw [HS3.out],mH ⟨below_drewG HBF.out.1 _,below_drewG HBF.out.2 _⟩⟩
        case measure=>simp [intOf];omega
      ·have hGb:(G == mi)=false:=beq_false_of_ne hGn
       clear hGn
       by_cases hp0:pa=0
       ·obtain rfl:=hp0
        have hst:kidN ((nds qs).take (i+1)) f 0=kidN ((nds qs).take i) f 0+1:=by have:=HST.out;simpa using this
        have HS3:=mH hst
        clear hst HST
        go_wp2
        go_quiet (fail)
        go_wp2
        go_roundw
        case rel=>exact⟨i+1,by go_num,by omega,by rw [HS3.out];go_num,mH ⟨below_drewG HBF.out.1 _,below_drewG HBF.out.2 _⟩⟩
        case measure=>simp [intOf];omega
       ·skip
        have hst:kidN ((nds qs).take (i+1)) f 0=kidN ((nds qs).take i) f 0:=by have:=HST.out;simpa [hp0] using this
        have HS3:=mH hst
        clear hst HST
        go_wp2
        go_quiet (fail)
        go_wp2
        go_roundw
        case rel=>exact⟨i+1,by go_num,by omega,by rw [HS3.out],mH ⟨below_drewG HBF.out.1 _,below_drewG HBF.out.2 _⟩⟩
        case measure=>simp [intOf];omega
     ·rw [hk]
      obtain rfl:=hr
      clear hk hw HG
      have hno2:po=0 ∨ (¬ po=0/\¬ G=mi):=by by_cases c:po=0;exact .inl c;exact .inr ⟨c,fun e=>hno ⟨c,e⟩⟩
      clear hno
      rcases hno2 with rfl | ⟨hpo,hGn⟩
      ·by_cases hp0:pa=0
       ·obtain rfl:=hp0
        have hst:kidN ((nds qs).take (i+1)) f 0=kidN ((nds qs).take i) f 0:=by have:=HST.out;simpa using this
        have HS3:=mH hst
        clear hst HST
        go_wp2
        go_quiet (fail)
        go_wp2
        go_roundw
        case rel=>exact⟨i+1,by go_num,by omega,by rw [HS3.out],mH ⟨below_drewG HBF.out.1 _,below_drewG HBF.out.2 _⟩⟩
        case measure=>simp [intOf];omega
       ·skip
        have hst:kidN ((nds qs).take (i+1)) f 0=kidN ((nds qs).take i) f 0:=by have:=HST.out;simpa [hp0] using this
        have HS3:=mH hst
        clear hst HST
        go_wp2
        go_quiet (fail)
        go_wp2
        go_roundw
        case rel=>exact⟨i+1,by go_num,by omega,by rw [HS3.out],mH ⟨below_drewG HBF.out.1 _,below_drewG HBF.out.2 _⟩⟩
        case measure=>simp [intOf];omega
      ·have hGb:(G == mi)=false:=beq_false_of_ne hGn
       clear hGn
       by_cases hp0:pa=0
       ·obtain rfl:=hp0
        have hst:kidN ((nds qs).take (i+1)) f 0=kidN ((nds qs).take i) f 0:=by have:=HST.out;simpa using this
        have HS3:=mH hst
        clear hst HST
        go_wp2
        go_quiet (fail)
        go_wp2
        go_roundw
        case rel=>exact⟨i+1,by go_num,by omega,by rw [HS3.out],mH ⟨below_drewG HBF.out.1 _,below_drewG HBF.out.2 _⟩⟩
        case measure=>simp [intOf];omega
       ·skip
        have hst:kidN ((nds qs).take (i+1)) f 0=kidN ((nds qs).take i) f 0:=by have:=HST.out;simpa [hp0] using this
        have HS3:=mH hst
        clear hst HST
        go_wp2
        go_quiet (fail)
        go_wp2
        go_roundw
        case rel=>exact⟨i+1,by go_num,by omega,by rw [HS3.out],mH ⟨below_drewG HBF.out.1 _,below_drewG HBF.out.2 _⟩⟩
        case measure=>simp [intOf];omega
  ·obtain rfl:i=qs.length:=by omega
   have hc:kidN ((nds qs).take qs.length) f 0=kidN (nds qs) f 0:=by rw [List.take_of_length_le (by simp [nds])]
   rw [hc]
   clear hc hlt hi
   rcases HH.out.top with ⟨hk,hG⟩ | ⟨hk,hG⟩
   ·rw [hk]
    have hGb:(G != 0)=true:=bne_iff_ne.mpr hG
    clear hk hG
    go_wp2
    go_ret
    exact⟨by simp,HB.out.1⟩
   ·rw [hk]
    clear hk
    subst hG
    go_wp2
    go_ret
    exact⟨rfl,HB.out.1⟩
end Go.Proofs.YtpdehdomilnmeaaGreatDoor
namespace Go.Proofs.YtpdehdomilnmeaaGreatDoor
open Go.ChangeShapes Go.WideShapes Go.ChangeAt Go.RowKit Go.Joins
set_option maxRecDepth 100000
theorem cellsCall:Tryz.prog.cellsOf 42=12:=by kernel_rfl
theorem bytesCall:Tryz.prog.bytesOf 42=112:=by kernel_rfl
abbrev Cl:=Int × Int × Int × Int × Op
def c12 (t:Cl):List Value:=[.int .i64 t.1,.int .i64 t.2.1,.int .i64 t.2.2.1,.int .i64 t.2.2.2.1,.int .i64 t.2.2.2.2.1.ki,.int .i64 t.2.2.2.2.1.id,.int .i64 t.2.2.2.2.1.sv.1,.int .i64 t.2.2.2.2.1.sv.2.1,.int .i64 t.2.2.2.2.1.sv.2.2,.int .i64 t.2.2.2.2.1.po,tvO t.2.2.2.2,.int .i64 t.2.2.2.2.1.tm]
structure ClW (w:World) (t:Cl):Prop where
 ki:I64 t.1
 id:I64 t.2.1
 ta:I64 t.2.2.1
 n:I64 t.2.2.2.1
 o:OpW w t.2.2.2.2
abbrev smallC (t:Cl):Prop:=smallO t.2.2.2.2
theorem ClW.below {w w':World} {t:Cl} (h:ClW w t) (hb:Below w.heap.size w w'):ClW w' t:=⟨h.ki,h.id,h.ta,h.n,h.o.below hb⟩
structure Cls (w:World) (v:Value) (ps:List Cl):Prop where
 row:RowIn 12 c12 w v ps
 each:∀ t ∈ ps,ClW w t/\smallC t
theorem Cls.below {w w':World} {v:Value} {ps:List Cl} (h:Cls w v ps) (hb:Below w.heap.size w w'):Cls w' v ps:=⟨h.row.below hb,fun t ht=>⟨(h.each t ht).1.below hb,(h.each t ht).2⟩⟩
theorem list5c {α:Type} {l:List α} (h:l.length=5):∃ y0 y1 y2 y3 y4,l=[y0,y1,y2,y3,y4]:=by
 match l,h with
 |[y0,y1,y2,y3,y4],_=>exact⟨_,_,_,_,_,rfl⟩
theorem list12 {α:Type} {l:List α} (h:l.length=12):∃ y0 y1 y2 y3 y4 y5 y6 y7 y8 y9 y10 y11,l=[y0,y1,y2,y3,y4,y5,y6,y7,y8,y9,y10,y11]:=by
 match l,h with
 |[y0,y1,y2,y3,y4,y5,y6,y7,y8,y9,y10,y11],_=>exact⟨_,_,_,_,_,_,_,_,_,_,_,_,rfl⟩
theorem trod_call {H:Type} {enc:TypeId × Value->H} {W:World} {fuel:Nat} {cs:List Value} {x:DataW H × List MemPlace} (h:DataW.trod enc Tryz.prog W 0 (fun _=>true) true fuel 42 cs=some x) :
  ∃ t:Cl,cs=c12 t/\ClW W t/\((∀ n ∈ x.1.weights Tryz.prog 42,n<=reachBytes)->smallC t):=by
 obtain⟨zs2,n2,_,hx2,hc,hlen2,hfs2⟩:=DataW.trod_struct Tryz.underlying42 h
 rw [cellsCall] at hc
 obtain⟨c0,c1,c2,c3,c4,c5,c6,c7,c8',c9,c10,c11,rfl⟩:=list12 hc
 obtain⟨z0,z1,z2,z3,z4,rfl⟩:=list5c hlen2
 have g0:=hfs2 0 _ rfl
 have g1:=hfs2 1 _ rfl
 have g2:=hfs2 2 _ rfl
 have g3:=hfs2 3 _ rfl
 have g4:=hfs2 4 _ rfl
 simp [cellsInt,cellsOrder] at g0 g1 g2 g3 g4
 obtain⟨ki,e0,_,w0⟩:=DataW.trod_int Tryz.underlying3 g0
 obtain⟨di,e1,_,w1⟩:=DataW.trod_int Tryz.underlying3 g1
 obtain⟨ta,e2,_,w2⟩:=DataW.trod_int Tryz.underlying3 g2
 obtain⟨nn,e3,_,w3⟩:=DataW.trod_int Tryz.underlying3 g3
 obtain⟨o,e4,hw,hs⟩:=trod_order g4
 simp at e0 e1 e2 e3
 simp only [c8,List.cons.injEq] at e4
 obtain⟨f0,f1,f2,f3,f4,f5,f6,f7,_⟩:=e4
 subst e0 e1 e2 e3 f0 f1 f2 f3 f4 f5 f6 f7
 refine⟨(ki,di,ta,nn,o),rfl,⟨i64_of_wf w0,i64_of_wf w1,i64_of_wf w2,i64_of_wf w3,hw⟩,fun hwt=>hs fun k hk=>hwt k ?_⟩
 rw [hx2]
 show k ∈ DataW.weights Tryz.prog 42 (.agg [z0.1,z1.1,z2.1,z3.1,z4.1])
 simp only [DataW.weights,Tryz.underlying42]
 exact DataW.weights_mem_each (j:=4) rfl rfl k hk
theorem open_calls {H:Type} {enc:TypeId × Value->H} {W:World} {base:Nat} {v:Value} {d:DataW H} {p:List MemPlace} {ts:List TypeId} {ds:List (DataW H)} {j:Nat} (hv:Value.okWide Tryz.prog W .any base 22 v) (h:DataW.Trod enc Tryz.prog W 0 (fun _=>true) true 22 v d p)
  (hs:(DataW.weightsEach Tryz.prog ts ds).all (·<=reachBytes)=true) (ht:ts[j]?=some 22) (hd:ds[j]?=some d):∃ ps:List Cl,Cls W v ps/\ps.length * 112<=140737488355328:=by
 obtain⟨a,len,cap,rfl⟩:=okWide_slice Tryz.underlying22 hv
 obtain⟨fuel,hf⟩:=h
 rcases Go.Deep.open_slice Tryz.underlying22 (by simpa [Value.cells] using hf) with ⟨hcs,hx⟩ | ⟨x,l,c,m,n,D,Pl,hcs,_,hl,hm,hme,hx,hall⟩
 ·simp at hcs
  obtain⟨rfl,rfl,rfl⟩:=hcs
  exact⟨[],⟨⟨none,0,rfl,by simp,by simp,fun hp=>by simp at hp⟩,fun t ht=>by simp at ht⟩,by simp⟩
 ·simp at hcs
  obtain⟨rfl,rfl,rfl⟩:=hcs
  have hlm:len<=m:=by rw [hme];simp;omega
  have hdx:d=.slice ((List.range len).map D) ((List.range (m - len)).map fun j=>D (len+j)):=congrArg Prod.fst hx
  have hb:=sized_slice hs ht (hdx ▸ hd) Tryz.underlying22
  rw [bytesCall] at hb
  simp only [reachBytes,List.length_map,List.length_range] at hb
  have each:∀ i,i < len->∃ y:Cl,∃ b o,x.add (i * 12)=⟨b,o,none⟩/\(∀ r u,r < 12->(c12 y)[r]?=some u->W.cell? ⟨b,o+r,none⟩=some u)/\ClW W y/\smallC y:=by
   intro i hi
   obtain⟨cs,hc,htr⟩:=hall i (by omega)
   rw [cellsCall] at hc
   obtain⟨_,hlen,hcell⟩:=World.cells?_some hc
   obtain⟨t,rfl,hw,hsm⟩:=trod_call htr
   generalize x.add (i * 12)=z at hcell ⊢
   obtain⟨b,o,spot⟩:=z
   have h0:=hcell 0 (by simp)
   have hspot:spot=none:=by simpa [Addr.add] using World.cell?_spot h0
   subst hspot
   refine⟨t,b,o,rfl,fun r u hr hu=>?_,hw,hsm fun k hk=>all_le hs k (DataW.weights_mem_each ht (hdx ▸ hd) k ?_)⟩
   ·have:=hcell r hr
    rw [add_none] at this
    rw [this]
    exact hu
   ·simp only [DataW.weights,Tryz.underlying22]
    refine List.mem_cons_of_mem _ (List.mem_append_left _ (weights_all (d:=D i) ?_ k hk))
    exact List.mem_map.mpr ⟨i,List.mem_range.mpr hi,rfl⟩
  haveI:Inhabited Cl:=⟨(0,0,0,0,(⟨0,0,(0,0,0),0,[],0⟩,none,0))⟩
  obtain⟨f,hf'⟩:=Go.Deep.choose_lt each
  have hlen:((List.range len).map f).length=len:=by simp
  refine⟨(List.range len).map f,⟨⟨some x,cap,by rw [hlen],by rw [hlen];exact hl,by rw [hlen];unfold maxLen at hm;omega,fun hp=>?_⟩,fun t ht=>?_⟩,by rw [hlen];omega⟩
  ·rw [hlen] at hp
   obtain⟨b,o,he,hat,_⟩:=hf' 0 hp
   obtain⟨xb,xo,xs⟩:=x
   simp [Addr.add] at he
   obtain⟨rfl,rfl,rfl⟩:=he
   refine⟨xb,xo,rfl,fun k y hk=>?_⟩
   have hkl:k < len:=by
    have:=(List.getElem?_eq_some_iff.mp hk).1
    simpa using this
   obtain⟨b,o,he,hat',_⟩:=hf' k hkl
   rw [add_none] at he
   simp at he
   obtain⟨rfl,rfl⟩:=he
   have:y=f k:=by simpa [hkl] using hk.symm
   rw [this]
   exact hat'
  ·obtain⟨k,hk,rfl⟩:=List.mem_map.mp ht
   obtain⟨b,o,_,_,hi⟩:=hf' k (by simpa using hk)
   exact hi
end Go.Proofs.YtpdehdomilnmeaaGreatDoor
namespace Go.Proofs.YtpdehdomilnmeaaGreatDoor
open Go.ChangeShapes Go.WideShapes Go.ChangeAt Go.RowKit
set_option maxRecDepth 100000
attribute [local go_sem] World.cell?_alloc_some fAs
theorem twelve_at {w:World} {b o:Nat} {t:Cl} (h:∀ r u,r < 12->(c12 t)[r]?=some u->w.cell? ⟨b,o+r,none⟩=some u):w.cell? ⟨b,o,none⟩=some (.int .i64 t.1)/\w.cell? ⟨b,o+1,none⟩=some (.int .i64 t.2.1)/\w.cell? ⟨b,o+2,none⟩=some (.int .i64 t.2.2.1)/\w.cell? ⟨b,o+3,none⟩=some (.int .i64 t.2.2.2.1)/\w.cell? ⟨b,o+4,none⟩=some (.int .i64 t.2.2.2.2.1.ki)/\w.cell? ⟨b,o+5,none⟩=some (.int .i64 t.2.2.2.2.1.id)/\w.cell? ⟨b,o+6,none⟩=some (.int .i64 t.2.2.2.2.1.sv.1)/\w.cell? ⟨b,o+7,none⟩=some (.int .i64 t.2.2.2.2.1.sv.2.1)/\w.cell? ⟨b,o+8,none⟩=some (.int .i64 t.2.2.2.2.1.sv.2.2)/\w.cell? ⟨b,o+9,none⟩=some (.int .i64 t.2.2.2.2.1.po)/\w.cell? ⟨b,o+10,none⟩=some (tvO t.2.2.2.2)/\w.cell? ⟨b,o+11,none⟩=some (.int .i64 t.2.2.2.2.1.tm):=
 ⟨h 0 _ (by omega) rfl,h 1 _ (by omega) rfl,h 2 _ (by omega) rfl,h 3 _ (by omega) rfl,h 4 _ (by omega) rfl,h 5 _ (by omega) rfl,h 6 _ (by omega) rfl,h 7 _ (by omega) rfl,h 8 _ (by omega) rfl,h 9 _ (by omega) rfl,h 10 _ (by omega) rfl,h 11 _ (by omega) rfl⟩
def cntO (ps:List Cl):Nat:=ps.countP (fun c=>decide (c.1=1))
theorem cntO_step {ps:List Cl} {j:Nat} {x:Cl} (h:ps[j]?=some x):cntO (ps.take (j+1))=cntO (ps.take j)+(if x.1=1 then 1 else 0):=by
 unfold cntO
 rw [List.take_add_one,h,List.countP_append]
 by_cases c:x.1=1 <;> simp [c]
set_option maxRecDepth 100000 in
set_option maxHeartbeats 25600000 in
theorem few_is (w:World) (al:Option Addr) (cl:Nat) (ps:List Cl) (h:Cls w (.slice al ps.length cl) ps) :
  Calls Tryz.prog 26 #[.slice al ps.length cl] w fun e w'=>e=.returned (.bool (decide (cntO ps<=60)))/\Below w.heap.size w w':=by
 have hlen:(ps.length:Int)<=9223372036854775807:=by
  obtain⟨_,_,_,_,hl,_⟩:=h.row
  exact hl
 have HE:=mH h
 clear h
 go_enter Tryz.func26,Tryz.ntmps26
 go_wp2
 go_loopw [3,8] (fun nv iv wr=>∃ (j:Nat) (N:Int),nv=.int .i64 N/\iv=.int .i64 (j:Int)/\j<=ps.length/\N=(cntO (ps.take j):Int)/\N<=j/\Hid (Below w.heap.size w wr)) (fun _ iv _=>ps.length - (intOf iv).toNat)
 case atStart=>exact⟨0,0,rfl,rfl,Nat.zero_le _,by simp [cntO],by omega,mH (Below.refl _ w)⟩
 case round=>
  obtain⟨j,N,rfl,rfl,hj,hN,hNj,HB⟩:=hrel
  by_cases hlt:j < ps.length
  ·obtain⟨b,off,x,rfl,hxj,hat⟩:=HE.out.row.at HB.out j hlt
   obtain⟨q0,q1,q2,q3,q4,q5,q6,q7,q8,q9,q10,q11⟩:=twelve_at hat
   have hst:=cntO_step hxj
   obtain⟨ck,ci,ct,cn,⟨⟨ki,id,⟨k,q,T⟩,po,ts,tm⟩,ta,tc⟩⟩:=x
   simp only [tvO] at q0 q1 q2 q3 q4 q5 q6 q7 q8 q9 q10 q11
   have hji:(j:Int) < ps.length:=by omega
   have hN0:0<=N:=by omega
   have hN9:N < 9223372036854775807:=by omega
   clear hat hxj
   by_cases hc:ck=1
   ·subst hc
    simp only [if_true] at hst
    go_wp2
    go_roundw
    case rel=>exact⟨j+1,N+1,by rw [hN],by go_num,hlt,by omega,by omega,mH (ba HB.out _)⟩
    case measure=>simp [intOf];omega
   ·have hc':(ck == 1)=false:=by simpa using hc
    simp only [hc,if_false] at hst
    go_wp2
    go_roundw
    case rel=>exact⟨j+1,N,rfl,by go_num,hlt,by omega,by omega,mH (ba HB.out _)⟩
    case measure=>simp [intOf];omega
  ·obtain rfl:j=ps.length:=by omega
   rw [List.take_length] at hN
   subst hN
   go_wp2
   go_ret
   exact⟨by simp;omega,HB.out⟩
end Go.Proofs.YtpdehdomilnmeaaGreatDoor
namespace Go.Proofs.YtpdehdomilnmeaaGreatDoor
open Go.ChangeShapes Go.WideShapes Go.ChangeAt Go.RowKit
set_option maxRecDepth 100000
set_option maxRecDepth 100000
attribute [local go_sem] World.cell?_alloc_some fAs
theorem path_is' (w:World) (t:Tr) (al:Option Addr) (cl:Nat) (gv:Value) (qs:List Np) (f:Nd->Mk) (c0 G n4 n5 n6 n7 n8:Int) (e9:Bool) (ra ma:Option Addr) (rl rc mc ml:Nat) (hml:ml=qs.length) (ms:List Mk) (hms:ms=(nds qs).map f) (hq:RowIn 7 c7 w (.slice al qs.length cl) qs) (hm:RowIn 3 c3m w (.slice ma ml mc) ms) (H:PathOk (nds qs) f G) (hl:qs.length<=1000) :
  Calls Tryz.prog 66 #[vTr (.slice al qs.length cl) gv t,.agg #[.int .i64 c0,.slice ra rl rc,.slice ma ml mc,.int .i64 G,.int .i64 n4,.int .i64 n5,.int .i64 n6,.int .i64 n7,.int .i64 n8,.bool e9]] w fun e w'=>e=.returned (.bool true)/\Below w.heap.size w w':=by
 subst hml
 subst hms
 exact path_is w t al cl gv qs f c0 G n4 n5 n6 n7 n8 e9 ra ma rl rc mc hq hm H hl
theorem rpC_g (out:Option (Int × Jb × Bool)):∃ (n4 n5 n6 n7 n8:Int) (e:Bool),∀ c0 c1 c2,rpC c0 c1 c2 out=#[c0,c1,c2,.int .i64 (gO out),.int .i64 n4,.int .i64 n5,.int .i64 n6,.int .i64 n7,.int .i64 n8,.bool e]:=by
 rcases out with _ | ⟨i,j,e⟩
 ·exact⟨_,_,_,_,_,_,fun _ _ _=>rfl⟩
 ·exact⟨_,_,_,_,_,_,fun _ _ _=>rfl⟩
set_option maxHeartbeats 51200000 in
theorem each_path {B:Nat} {W:World} {own:Nat->Int} {tg:Nat->Int × Int} {w:World} {fb b mb:Nat} {h':Hs} {asks:Int} {tk:Nat} {v:Value} {ps:List Spv} (X:FX B W own tg w fb b mb h' asks tk v ps) (ha:asks=0 ∨ asks=3) (c0:Int) (ra ma:Option Addr) (rl rc mc:Nat) (ms:List Mk) (out:Option (Int × Jb × Bool)) (hm:RowIn 3 c3m w (.slice ma ms.length mc) ms) (hme:ms=h'.t.ns.map (mkOf h'.rv)) (hp:PathOk h'.t.ns (mkOf h'.rv) (gO out)) (hs:h'.t.Sm 1000) :
  Calls Tryz.prog 47 #[pB fb,.agg (rpC (.int .i64 c0) (.slice ra rl rc) (.slice ma ms.length mc) out)] w fun e w'=>e=.returned (.bool true)/\Below w.heap.size w w':=by
 obtain⟨n4,n5,n6,n7,n8,e9,hrp⟩:=rpC_g out
 rw [hrp]
 have HX0:=mH X
 have HM:=mH hm
 have HME:=mH hme
 have HPO:=mH hp
 have HS:=mH hs
 obtain⟨x0,x1,x2,x3,f2,f3⟩:=HX0.out.cells
 clear X hm hme hp hs hrp
 rcases ha with rfl | rfl
 all_goals
  go_enter Tryz.func47,Tryz.ntmps47
  go_wp2
  have X1:=mH (HX0.out.late (ba (Below.refl _ w) (.cells #[.int .i64 c0,.slice ra rl rc,.slice ma ms.length mc,.int .i64 (gO out),.int .i64 n4,.int .i64 n5,.int .i64 n6,.int .i64 n7,.int .i64 n8,.bool e9] 57)))
  have HW1:Hid (Below w.heap.size w (w.alloc (.cells #[.int .i64 c0,.slice ra rl rc,.slice ma ms.length mc,.int .i64 (gO out),.int .i64 n4,.int .i64 n5,.int .i64 n6,.int .i64 n7,.int .i64 n8,.bool e9] 57))):=mH (ba (Below.refl _ w) _)
  have HR1:=heap_alloc_new w (.cells #[.int .i64 c0,.slice ra rl rc,.slice ma ms.length mc,.int .i64 (gO out),.int .i64 n4,.int .i64 n5,.int .i64 n6,.int .i64 n7,.int .i64 n8,.bool e9] 57)
  generalize w.alloc (.cells #[.int .i64 c0,.slice ra rl rc,.slice ma ms.length mc,.int .i64 (gO out),.int .i64 n4,.int .i64 n5,.int .i64 n6,.int .i64 n7,.int .i64 n8,.bool e9] 57)=W1 at X1 HW1 HR1 ⊢
  obtain⟨r0,r1,r2,r3,r4,r5,r6,r7,r8,r9⟩:=rp_cells' HR1
  have d0:=X1.out.cells.1
  clear HR1 x0 x1 x2 x3 f2 f3
  have hT:W1.drew.cell? ⟨fb,0,none⟩=some (pB b)/\W1.drew.cell? ⟨w.heap.size,0,none⟩=some (.int .i64 c0)/\W1.drew.cell? ⟨w.heap.size,1,none⟩=some (.slice ra rl rc)/\W1.drew.cell? ⟨w.heap.size,2,none⟩=some (.slice ma ms.length mc)/\W1.drew.cell? ⟨w.heap.size,3,none⟩=some (.int .i64 (gO out))/\W1.drew.cell? ⟨w.heap.size,4,none⟩=some (.int .i64 n4)/\W1.drew.cell? ⟨w.heap.size,5,none⟩=some (.int .i64 n5)/\W1.drew.cell? ⟨w.heap.size,6,none⟩=some (.int .i64 n6)/\W1.drew.cell? ⟨w.heap.size,7,none⟩=some (.int .i64 n7)/\W1.drew.cell? ⟨w.heap.size,8,none⟩=some (.int .i64 n8)/\W1.drew.cell? ⟨w.heap.size,9,none⟩=some (.bool e9):=⟨d0,r0,r1,r2,r3,r4,r5,r6,r7,r8,r9⟩
  refine wp_region_till (fun w'=>w'.cell? ⟨fb,0,none⟩=some (pB b)/\w'.cell? ⟨w.heap.size,0,none⟩=some (.int .i64 c0)/\w'.cell? ⟨w.heap.size,1,none⟩=some (.slice ra rl rc)/\w'.cell? ⟨w.heap.size,2,none⟩=some (.slice ma ms.length mc)/\w'.cell? ⟨w.heap.size,3,none⟩=some (.int .i64 (gO out))/\w'.cell? ⟨w.heap.size,4,none⟩=some (.int .i64 n4)/\w'.cell? ⟨w.heap.size,5,none⟩=some (.int .i64 n5)/\w'.cell? ⟨w.heap.size,6,none⟩=some (.int .i64 n6)/\w'.cell? ⟨w.heap.size,7,none⟩=some (.int .i64 n7)/\w'.cell? ⟨w.heap.size,8,none⟩=some (.int .i64 n8)/\w'.cell? ⟨w.heap.size,9,none⟩=some (.bool e9)) 7 (by kernel_rfl) ?_
  refine frE 0 54 (.pointer (some ⟨fb,0,none⟩)) rfl rfl (fun _=>hT) ?_
  (try simp only [sZ,sS])
  refine frE 1 55 (.pointer (some ⟨fb,0,none⟩)) rfl rfl (fun _=>hT) ?_
  (try simp only [sZ,sS])
  refine frE 2 56 (.pointer (some ⟨fb,0,none⟩)) rfl rfl (fun _=>hT) ?_
  (try simp only [sZ,sS])
  refine fiE 3 57 (pB b) rfl rfl hT ?_
  (try simp only [sZ,sS])
  refine fiE 5 59 (.agg #[.int .i64 c0,.slice ra rl rc,.slice ma ms.length mc,.int .i64 (gO out),.int .i64 n4,.int .i64 n5,.int .i64 n6,.int .i64 n7,.int .i64 n8,.bool e9]) rfl rfl hT ?_
  (try simp only [sZ,sS])
  refine wpT_ready (rs:=[4]) (by kernel_rfl) (by simp) (AllT.cons rfl (fun K2 hK2=>?_) AllT.nil)
  go_simp
  obtain⟨s0,s1,s2,s3,s4,s5,s6,s7,s8,s9,s10⟩:=hT
  have HN:=HX.tree (X1.out.late (Below.refl _ W1).drew).hx HS.out
  (with_reducible refine HN.mono ?_)
  clear HN
  rintro e w3 ⟨nv,gv,qs,rfl,hto,hnd,hx3,b3⟩
  obtain⟨na,nc,rfl,hnc⟩:=own_sh hto.nown
  obtain⟨ga,gc,rfl,_⟩:=own_sh hto.gown
  have hb13:Below W1.heap.size W1 w3:=(Below.refl _ W1).drew.trans b3
  have hql:qs.length=h'.t.ns.length:=by rw [<- hnd,List.length_map]
  have hq1:(qs.length:Int)<=9223372036854775807:=by have h1:=HS.out.n;omega
  have HQ:=mH (RowIn.of_owns (n:=7) (f:=c7) (fun _=>rfl) hq1 hto.nown)
  have HP:=mH (path_is' w3 h'.t na nc (.slice ga h'.t.gs.length gc) qs (mkOf h'.rv) c0 (gO out) n4 n5 n6 n7 n8 e9 ra ma rl rc mc ms.length (by rw [HME.out,List.length_map,hql]) ms (by rw [HME.out,hnd]) HQ.out (HM.out.below (bt HW1.out hb13)) (by rw [hnd];exact HPO.out) (by have:=HS.out.n;omega))
  have HB3:=mH (bt HW1.out hb13)
  have z0:=kc s0 b3
  have z1:=kc s1 b3
  have z2:=kc s2 b3
  have z3:=kc s3 b3
  have z4:=kc s4 b3
  have z5:=kc s5 b3
  have z6:=kc s6 b3
  have z7:=kc s7 b3
  have z8:=kc s8 b3
  have z9:=kc s9 b3
  have z10:=kc s10 b3
  clear hto hnd hx3 b3 hb13 s0 s1 s2 s3 s4 s5 s6 s7 s8 s9 s10 hql
  refine hK2.out _ _ (fun _=>⟨z0,z1,z2,z3,z4,z5,z6,z7,z8,z9,z10⟩) ?_
  clear hK2 K2
  (try simp only [Act.put])
  refine wpT_ready (rs:=[6]) (by kernel_rfl) (by simp) (AllT.cons rfl (fun K2 hK2=>?_) AllT.nil)
  go_simp
  (with_reducible refine HP.out.mono ?_)
  rintro e w4 ⟨rfl,b4⟩
  have s0:=kc z0 b4
  have s1:=kc z1 b4
  have s2:=kc z2 b4
  have s3:=kc z3 b4
  have s4:=kc z4 b4
  have s5:=kc z5 b4
  have s6:=kc z6 b4
  have s7:=kc z7 b4
  have s8:=kc z8 b4
  have s9:=kc z9 b4
  have s10:=kc z10 b4
  have HB4:=mH (bt HB3.out b4)
  clear b4 z0 z1 z2 z3 z4 z5 z6 z7 z8 z9 z10
  refine hK2.out _ _ (fun _=>⟨s0,s1,s2,s3,s4,s5,s6,s7,s8,s9,s10⟩) ?_
  clear hK2 K2
  (try simp only [Act.put])
  refine wpT_ready (rs:=[7]) (by kernel_rfl) (by simp) (AllT.cons rfl (fun K2 hK2=>?_) AllT.nil)
  go_simp
  refine hK2.out _ _ (bool_no (by kernel_rfl)) ?_
  clear hK2 K2 s0 s1 s2 s3 s4 s5 s6 s7 s8 s9 s10
  refine wpT_done (by kernel_rfl) ?_ _
  go_wp2
  go_ret
  exact⟨rfl,HB4.out⟩
end Go.Proofs.YtpdehdomilnmeaaGreatDoor
namespace Go.Proofs.YtpdehdomilnmeaaGreatDoor
open Go.ChangeShapes Go.WideShapes Go.ChangeAt Go.RowKit
set_option maxRecDepth 100000
set_option maxRecDepth 100000
def DSt (N tk:Nat) (h:Hs):Prop:=∃ K0,TOk K0 h.now h.t h.rv/\K0+h.ws.length<=N/\h.now=(tk:Int)
theorem DSt.tick {A:Ops} {N tk:Nat} {h h':Hs} {rs:List Rs} {ms:List Mk} {out:Option (Int × Jb × Bool)} (hd:DSt N tk h) (r:TickR A h h' rs ms out):DSt N (tk+1) h'/\PathOk h'.t.ns (mkOf h'.rv) (gO out)/\(N<=60->h'.t.Sm 1000):=by
 obtain⟨K0,hok,hn,hnow⟩:=hd
 have n0:0<=h.now:=by omega
 obtain⟨h1,h2⟩:=r.ok hok n0
 have hnw:=r.nw
 refine⟨⟨K0+rs.length,h1, ?_,by omega⟩,r.pathOk hok n0 (fun n hn=>?_),fun hN=>?_⟩
 ·rw [r.we,List.length_drop];omega
 ·obtain⟨q,hq,_⟩:=h1.at_ n hn
  exact⟨q,hq⟩
 ·exact⟨by have:=h1.sm.n;omega,by have:=h1.sm.g;omega,by have:=h1.sm.l;omega,h1.sm.s⟩
theorem DSt.sub {N tk:Nat} {h:Hs} (hd:DSt N tk h) (o:Od):DSt (N+1) tk ⟨h.now,h.t,h.rv,h.ws ++ [o]⟩:=by
 obtain⟨K0,hok,hn,hnow⟩:=hd
 exact⟨K0,hok,by simp;omega,hnow⟩
end Go.Proofs.YtpdehdomilnmeaaGreatDoor
namespace Go.Proofs.YtpdehdomilnmeaaGreatDoor
open Go.ChangeShapes Go.WideShapes Go.ChangeAt Go.RowKit
set_option maxRecDepth 100000
set_option maxRecDepth 100000
attribute [local go_sem] World.cell?_alloc_some fAs
theorem field_tree (nv gv:Value) (t:Tr) (w:World):(Instr.field 30 (vTr nv gv t) 0).run Tryz.prog w=.ok nv w:=by kernel_rfl
def FL (B:Nat) (W:World) (tg:Nat->Int × Int) (fb b mb:Nat) (asks:Int) (tk:Nat) (v:Value) (ps:List Spv) (N:Nat) (own2:Nat->Int) (w3:World) (own5:Nat->Int) (h5:Hs) (w':World):Prop:=FX B W own5 tg w' fb b mb h5 asks tk v ps/\DSt N tk h5/\Kept (fun k=>own2 k ≠ 0) w3 w'/\∀ k,k < w3.heap.size->own5 k=own2 k
theorem FL.late {B:Nat} {W:World} {tg:Nat->Int × Int} {fb b mb:Nat} {asks:Int} {tk:Nat} {v:Value} {ps:List Spv} {N:Nat} {own2 own5:Nat->Int} {w3 w' w'':World} {h5:Hs} (F:FL B W tg fb b mb asks tk v ps N own2 w3 own5 h5 w') (hb:Below w'.heap.size w' w''):FL B W tg fb b mb asks tk v ps N own2 w3 own5 h5 w'':=
 ⟨F.1.late hb,F.2.1,F.2.2.1.trans (kept_new (F:=fun _=>False) hb) (fun _ f=>f.elim),F.2.2.2⟩
theorem fx_new (w:World) (asks:Int) {own:Nat->Int} {b mb:Nat} {w1:World} (X:HX w.heap.size w own w1 b mb hs0) (hz:own w1.heap.size=0):FX w.heap.size w own (fun _=>(0,0)) (w1.alloc (oFo b asks (.slice none 0 0) 0)) w1.heap.size b mb hs0 asks 0 (.slice none 0 0) []:=
 ⟨X.late (ba (Below.refl _ w1) _),heap_alloc_new w1 _,⟨World.ownsRow_nil _ _ _ _,fun p hp=>by simp at hp,fun p hp=>by simp at hp,fun k e=>by simp [Value.ownBlock] at e,fun p hp=>by simp at hp,fun p hp=>by simp at hp,List.Pairwise.nil,fun k e=>absurd rfl e⟩,⟨rfl,hz,X.le⟩,fun _ _=>rfl⟩
theorem dst_if {N tk:Nat} {h:Hs} {ki:Int} (hd:DSt (if ki=1 then N+1 else N) tk h):DSt (N+(if ki=1 then 1 else 0)) tk h:=by
 by_cases c:ki=1
 ·rw [if_pos c] at hd ⊢
  exact hd
 ·rw [if_neg c] at hd ⊢
  exact hd
theorem dst_zero:DSt 0 0 hs0:=⟨0,by have:=TOk.zero;simpa [hs0] using this,by simp [hs0],rfl⟩
end Go.Proofs.YtpdehdomilnmeaaGreatDoor
