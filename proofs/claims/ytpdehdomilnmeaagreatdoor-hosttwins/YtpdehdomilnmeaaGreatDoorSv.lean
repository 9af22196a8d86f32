import Derived.Test.YtpdehdomilnmeaaGreatDoorSvM
import Derived.Test.YtpdehdomilnmeaaGreatDoorTrA
import Derived.Below
import Derived.BigQuiet
import Derived.Deep.RegionHeld3
import Derived.Laws.ResultCell
import Derived.Laws.Rows
namespace Go.Proofs.YtpdehdomilnmeaaGreatDoor
open Go.ChangeShapes Go.WideShapes Go.ChangeAt Go.RowKit
set_option maxRecDepth 100000
def ent (s:Sv):FuncId:=if s.1=1 then 125 else if s.1=2 then 126 else 127
def SB (w:World) (b:Nat) (s:Sv) (m:Int) (wk:Bool) (x:Ss):Prop:=w.heap[b]?=some (.cells #[.bool x.on,.int .i64 x.bud,.int .i64 x.dl,.int .i64 s.1,.int .i64 s.2.1,.int .i64 s.2.2,.int .i64 m,.bool wk,.func (.func (ent s)) #[] #[]] 167 (0,0))
theorem SB.lt {w:World} {b:Nat} {s:Sv} {m:Int} {wk:Bool} {x:Ss} (h:SB w b s m wk x):b < w.heap.size:=(Array.getElem?_eq_some_iff.1 h).1
theorem SB.alloc {w:World} {b:Nat} {s:Sv} {m:Int} {wk:Bool} {x:Ss} (h:SB w b s m wk x) (o:Obj):SB (w.alloc o) b s m wk x:=(Below.heap_alloc w o b h.lt).trans h
theorem SB.kept {w w':World} {F:Nat->Prop} {b:Nat} {s:Sv} {m:Int} {wk:Bool} {x:Ss} (h:SB w b s m wk x) (hk:Kept F w w') (hn:¬ F b):SB w' b s m wk x:=(hk.block b h.lt hn).trans h
abbrev Kb (b:Nat) (w w':World):Prop:=Kept (fun k=>k=b) w w'
theorem Kb.trans {b:Nat} {w w1 w2:World} (h:Kb b w w1) (h2:Kb b w1 w2):Kb b w w2:=Kept.trans h h2 (fun _ h=>.inl h)
theorem SB.c0 {w:World} {b:Nat} {s:Sv} {m:Int} {wk:Bool} {x:Ss} (h:SB w b s m wk x):w.cell? ⟨b,0,none⟩=some (.bool x.on):=cOb (i:=0) h rfl
theorem SB.c1 {w:World} {b:Nat} {s:Sv} {m:Int} {wk:Bool} {x:Ss} (h:SB w b s m wk x):w.cell? ⟨b,1,none⟩=some (.int .i64 x.bud):=cOb (i:=1) h rfl
theorem SB.c2 {w:World} {b:Nat} {s:Sv} {m:Int} {wk:Bool} {x:Ss} (h:SB w b s m wk x):w.cell? ⟨b,2,none⟩=some (.int .i64 x.dl):=cOb (i:=2) h rfl
theorem SB.c3 {w:World} {b:Nat} {s:Sv} {m:Int} {wk:Bool} {x:Ss} (h:SB w b s m wk x):w.cell? ⟨b,3,none⟩=some (.int .i64 s.1):=cOb (i:=3) h rfl
theorem SB.c4 {w:World} {b:Nat} {s:Sv} {m:Int} {wk:Bool} {x:Ss} (h:SB w b s m wk x):w.cell? ⟨b,4,none⟩=some (.int .i64 s.2.1):=cOb (i:=4) h rfl
theorem SB.c5 {w:World} {b:Nat} {s:Sv} {m:Int} {wk:Bool} {x:Ss} (h:SB w b s m wk x):w.cell? ⟨b,5,none⟩=some (.int .i64 s.2.2):=cOb (i:=5) h rfl
theorem SB.c6 {w:World} {b:Nat} {s:Sv} {m:Int} {wk:Bool} {x:Ss} (h:SB w b s m wk x):w.cell? ⟨b,6,none⟩=some (.int .i64 m):=cOb (i:=6) h rfl
theorem SB.c7 {w:World} {b:Nat} {s:Sv} {m:Int} {wk:Bool} {x:Ss} (h:SB w b s m wk x):w.cell? ⟨b,7,none⟩=some (.bool wk):=cOb (i:=7) h rfl
theorem SB.c8 {w:World} {b:Nat} {s:Sv} {m:Int} {wk:Bool} {x:Ss} (h:SB w b s m wk x):w.cell? ⟨b,8,none⟩=some (.func (.func (ent s)) #[] #[]):=cOb (i:=8) h rfl
theorem SB.fz {w:World} {b:Nat} {s:Sv} {m:Int} {wk:Bool} {x:Ss} (h:SB w b s m wk x) (i:Nat):w.frozen? ⟨b,i,none⟩=false:=fOb h
theorem SB.put3 {w:World} {b:Nat} {s:Sv} {m:Int} {wk:Bool} {x:Ss} (h:SB w b s m wk x) (on:Bool) (bud dl:Int):SB (((w.setCell ⟨b,0,none⟩ (.bool on)).setCell ⟨b,1,none⟩ (.int .i64 bud)).setCell ⟨b,2,none⟩ (.int .i64 dl)) b s m wk ⟨on,bud,dl⟩:=by
 unfold SB at *
 rw [hSt (hSt (hSt h))];rfl
theorem SB.put2 {w:World} {b:Nat} {s:Sv} {m:Int} {wk:Bool} {x:Ss} (h:SB w b s m wk x) (on:Bool) (bud:Int):SB ((w.setCell ⟨b,0,none⟩ (.bool on)).setCell ⟨b,1,none⟩ (.int .i64 bud)) b s m wk ⟨on,bud,x.dl⟩:=by
 unfold SB at *
 rw [hSt (hSt h)];rfl
theorem SB.put1 {w:World} {b:Nat} {s:Sv} {m:Int} {wk:Bool} {x:Ss} (h:SB w b s m wk x) (bud:Int):SB (w.setCell ⟨b,1,none⟩ (.int .i64 bud)) b s m wk ⟨x.on,bud,x.dl⟩:=by
 unfold SB at *
 rw [hSt h];rfl
theorem SB.putw {w:World} {b:Nat} {s:Sv} {m:Int} {wk:Bool} {x:Ss} (h:SB w b s m wk x) (wk':Bool):SB (w.setCell ⟨b,7,none⟩ (.bool wk')) b s m wk' x:=by
 unfold SB at *
 rw [hSt h];rfl
theorem kb_alloc (b:Nat) (w:World) (o:Obj):Kb b w (w.alloc o):=Kept.alloc _ w o
theorem kb_set {b:Nat} {w w1:World} (h:Kb b w w1) (i:Nat) (v:Value):Kb b w (w1.setCell ⟨b,i,none⟩ v):=Kb.trans h (Kept.setCell (F:=fun k=>k=b) w1 rfl v)
theorem fill_is (w:World) (b:Nat) (s:Sv) (m now:Int) (wk:Bool) (x:Ss) (h:SB w b s m wk x) (n0:0<=now) (n1:now<=1099511727776) (hs:okS s):Calls Tryz.prog 158 #[.pointer (some ⟨b,0,none⟩),vS s,.int .i64 now] w fun e w'=>e=.returned (.tuple #[])/\SB w' b s m wk (fillS s now)/\Kb b w w':=by
 have h2:=h.alloc (.cells #[.int .i64 s.1,.int .i64 s.2.1,.int .i64 s.2.2] 37)
 obtain⟨k,q,t⟩:=s
 obtain⟨h1,h3,h4,h5,h6⟩:=hs
 simp only at h1 h3 h4 h5 h6
 have c0:=h2.c0
 have c1:=h2.c1
 have c2:=h2.c2
 have f0:=h2.fz 0
 have f1:=h2.fz 1
 have f2:=h2.fz 2
 have HS:=mH h2
 clear h2 h
 go_enter Tryz.func158,Tryz.ntmps158
 go_wp2
 go_end0
 exact⟨rfl,HS.out.put3 _ _ _,kb_set (kb_set (kb_set (kb_alloc b w _) _ _) _ _) _ _⟩
theorem drop_is (w:World) (b:Nat) (s:Sv) (m:Int) (wk:Bool) (x:Ss) (h:SB w b s m wk x):Calls Tryz.prog 156 #[.pointer (some ⟨b,0,none⟩)] w fun e w'=>e=.returned (.tuple #[])/\SB w' b s m wk (dropS x)/\Kb b w w':=by
 have c0:=h.c0
 have c1:=h.c1
 have f0:=h.fz 0
 have f1:=h.fz 1
 have HS:=mH h
 clear h
 go_enter Tryz.func156,Tryz.ntmps156
 go_wp2
 go_end0
 exact⟨rfl,HS.out.put2 _ _,kb_set (kb_set (Kept.refl _ w) _ _) _ _⟩
theorem ready_is (w:World) (b:Nat) (s:Sv) (m:Int) (wk:Bool) (x:Ss) (h:SB w b s m wk x):Calls Tryz.prog 77 #[.pointer (some ⟨b,0,none⟩)] w fun e w'=>e=.returned (.bool (rdyS wk x))/\w'=w:=by
 have c1:=h.c1
 have c7:=h.c7
 clear h
 obtain⟨on,bud,dl⟩:=x
 simp only at c1
 have hc:wk=false ∨ (wk=true/\bud=0) ∨ (wk=true/\¬ bud=0):=by cases wk <;> simp;omega
 rcases hc with rfl | ⟨rfl,rfl⟩ | ⟨rfl,hb⟩
 all_goals
  go_enter Tryz.func77,Tryz.ntmps77
  go_wp2
  go_ret
  exact⟨by simp [rdyS, *],rfl⟩
theorem sdl_is (w:World) (b:Nat) (s:Sv) (m:Int) (wk:Bool) (x:Ss) (h:SB w b s m wk x):Calls Tryz.prog 78 #[.pointer (some ⟨b,0,none⟩)] w fun e w'=>e=.returned (.int .i64 x.dl)/\w'=w:=by
 have c2:=h.c2
 clear h
 go_enter Tryz.func78,Tryz.ntmps78
 go_wp2
 go_ret
 exact⟨rfl,rfl⟩
theorem charge_yes (w:World) (b:Nat) (s:Sv) (m:Int) (wk:Bool) (x:Ss) (h:SB w b s m wk x) (hr:rdyS wk x=true) (h0:0<=x.bud) (h1:x.bud<=256):Calls Tryz.prog 56 #[.pointer (some ⟨b,0,none⟩)] w fun e w'=>e=.returned .nilIface/\SB w' b s m wk (chS x)/\Kb b w w':=by
 have c1:=h.c1
 have f1:=h.fz 1
 have HS:=mH h
 clear h
 go_enter Tryz.func56,Tryz.ntmps56
 go_wp2_with (go_at_call 77;refine(ready_is w b s m wk x HS.out).mono ?_;rintro e w1 ⟨rfl,hw⟩;rw [hw];clear hw;rw [hr])
 go_ret
 exact⟨rfl,HS.out.put1 _,kb_set (Kept.refl _ w) _ _⟩
theorem kb_drewN (b:Nat) (w:World) (n:Nat):Kb b w (w.drewN n):=⟨rfl,rfl,rfl,Nat.le_refl _,fun _ _ _=>rfl⟩
theorem boundary_is (w:World) (b:Nat) (s:Sv) (m now:Int) (wk:Bool) (x:Ss) (h:SB w b s m wk x) (m0:0<=m) (hm:m<=now) (n1:now<=1099511727776) (hs:okS s):Calls Tryz.prog 157 #[.pointer (some ⟨b,0,none⟩),.int .i64 now] w fun e w'=>e=.returned (.bool (decide ((now - m) % s.2.2=0)))/\Kb b w w'/\SB w' b s m wk x:=by
 have c6:=h.c6
 have c5:=h.c5
 have HS:=mH h
 clear h
 obtain⟨k,q,t⟩:=s
 obtain⟨h1,h3,h4,h5,h6⟩:=hs
 simp only at h1 h3 h4 h5 h6 c5 ⊢
 obtain⟨X,hX⟩:∃ X,X=now - m:=⟨_,rfl⟩
 obtain⟨R,hR⟩:∃ R,R=X % t:=⟨_,rfl⟩
 have ex:IntKind.i64.wrap (now - m)=X:=by rw [hX];exact wfit (by omega) (by omega)
 have er:X.tmod t=R:=by rw [hR];exact Int.tmod_eq_emod_of_nonneg (by omega)
 have hR0:0<=R:=by rw [hR];exact Int.emod_nonneg _ (by omega)
 have hR1:R < t:=by rw [hR];exact Int.emod_lt_of_pos _ (by omega)
 have ew:IntKind.i64.wrap R=R:=wfit (by omega) (by omega)
 have t0:¬ t=0:=by omega
 rw [<- hX,<- hR]
 clear hX hR
 go_enter Tryz.func157,Tryz.ntmps157
 go_wp2
 go_quiet (fail)
 go_wp2
 go_ret
 exact⟨rfl,kb_drewN b w _,HS.out⟩
theorem poll_no (w:World) (b:Nat) (s:Sv) (m now:Int) (x:Ss) (h:SB w b s m false x):Calls Tryz.prog 125 #[.pointer (some ⟨b,0,none⟩),.int .i64 now] w fun e w'=>e=.returned (.tuple #[])/\SB w' b s m false (dropS x)/\Kb b w w':=by
 have c7:=h.c7
 have HS:=mH h
 clear h
 go_enter Tryz.func125,Tryz.ntmps125
 go_wp2_with (go_at_call 156;refine(drop_is w b s m false x HS.out).mono ?_;rintro e w1 ⟨rfl,hs1,hk1⟩;have HS1:=mH hs1;have HK1:=mH hk1;clear hs1 hk1)
 go_end0
 exact⟨rfl,HS1.out,HK1.out⟩
theorem wake_no (w:World) (b:Nat) (s:Sv) (m now:Int) (x:Ss) (h:SB w b s m false x):Calls Tryz.prog 126 #[.pointer (some ⟨b,0,none⟩),.int .i64 now] w fun e w'=>e=.returned (.tuple #[])/\SB w' b s m false (dropS x)/\Kb b w w':=by
 have c7:=h.c7
 have HS:=mH h
 clear h
 go_enter Tryz.func126,Tryz.ntmps126
 go_wp2_with (go_at_call 156;refine(drop_is w b s m false x HS.out).mono ?_;rintro e w1 ⟨rfl,hs1,hk1⟩;have HS1:=mH hs1;have HK1:=mH hk1;clear hs1 hk1)
 go_end0
 exact⟨rfl,HS1.out,HK1.out⟩
set_option maxHeartbeats 1600000 in
theorem poll_yes (w:World) (b:Nat) (s:Sv) (m now:Int) (x:Ss) (h:SB w b s m true x) (m0:0<=m) (hm:m<=now) (n1:now<=1099511727776) (hs:okS s):Calls Tryz.prog 125 #[.pointer (some ⟨b,0,none⟩),.int .i64 now] w fun e w'=>e=.returned (.tuple #[])/\SB w' b s m true (if (now - m) % s.2.2=0 then fillS s now else x)/\Kb b w w':=by
 have c7:=h.c7
 have HS:=mH h
 have HO:=mH hs
 have HC:=mH (boundary_is w b s m now true x h m0 hm n1 hs)
 clear h hs
 by_cases e:(now - m) % s.2.2=0
 ·rw [if_pos e]
  rw [decide_eq_true e] at HC
  clear e
  go_enter Tryz.func125,Tryz.ntmps125
  go_wp2_with (first | (go_at_call 157;refine HC.out.mono ?_;rintro e w1 ⟨rfl,hk1,hs1⟩;have HS1:=mH hs1;have HK1:=mH hk1;have d3:=hs1.c3;have d4:=hs1.c4;have d5:=hs1.c5;clear hs1 hk1))
  go_region_held3 (fun w'=>w'.cell? ⟨b,3,none⟩=some (.int .i64 s.1)/\w'.cell? ⟨b,4,none⟩=some (.int .i64 s.2.1)/\w'.cell? ⟨b,5,none⟩=some (.int .i64 s.2.2)) (go_keep) (first | (go_at_call 158;refine(fill_is w1.drew b s m now true x HS1.out (by omega) n1 HO.out).mono ?_;rintro e w2 ⟨rfl,hs2,hk2⟩;have HS2:=mH hs2;have HK2:=mH hk2;have e3:=hs2.c3;have e4:=hs2.c4;have e5:=hs2.c5;clear hs2 hk2))
  all_goals
   go_wp2
   go_end0
   exact⟨rfl,HS2.out,Kb.trans (Kb.trans HK1.out (Kept.drew _ w1)) HK2.out⟩
 ·rw [if_neg e]
  rw [decide_eq_false e] at HC
  clear e
  go_enter Tryz.func125,Tryz.ntmps125
  go_wp2_with (first | (go_at_call 157;refine HC.out.mono ?_;rintro e w1 ⟨rfl,hk1,hs1⟩;have HS1:=mH hs1;have HK1:=mH hk1;have d3:=hs1.c3;have d4:=hs1.c4;have d5:=hs1.c5;clear hs1 hk1))
  go_end0
  exact⟨rfl,HS1.out,HK1.out⟩
set_option maxHeartbeats 1600000 in
theorem renew_is (w:World) (b:Nat) (s:Sv) (m now:Int) (wk:Bool) (x:Ss) (h:SB w b s m wk x) (m0:0<=m) (hm:m<=now) (n1:now<=1099511727776) (hs:okS s):Calls Tryz.prog 127 #[.pointer (some ⟨b,0,none⟩),.int .i64 now] w fun e w'=>e=.returned (.tuple #[])/\SB w' b s m wk (if (now - m) % s.2.2=0 then fillS s now else x)/\Kb b w w':=by
 have c7:=h.c7
 have HS:=mH h
 have HO:=mH hs
 have HC:=mH (boundary_is w b s m now wk x h m0 hm n1 hs)
 clear h hs
 by_cases e:(now - m) % s.2.2=0
 ·rw [if_pos e]
  rw [decide_eq_true e] at HC
  clear e
  go_enter Tryz.func127,Tryz.ntmps127
  go_wp2_with (first | (go_at_call 157;refine HC.out.mono ?_;rintro e w1 ⟨rfl,hk1,hs1⟩;have HS1:=mH hs1;have HK1:=mH hk1;have d3:=hs1.c3;have d4:=hs1.c4;have d5:=hs1.c5;clear hs1 hk1))
  go_region_held3 (fun w'=>w'.cell? ⟨b,3,none⟩=some (.int .i64 s.1)/\w'.cell? ⟨b,4,none⟩=some (.int .i64 s.2.1)/\w'.cell? ⟨b,5,none⟩=some (.int .i64 s.2.2)) (go_keep) (first | (go_at_call 158;refine(fill_is w1.drew b s m now wk x HS1.out (by omega) n1 HO.out).mono ?_;rintro e w2 ⟨rfl,hs2,hk2⟩;have HS2:=mH hs2;have HK2:=mH hk2;have e3:=hs2.c3;have e4:=hs2.c4;have e5:=hs2.c5;clear hs2 hk2))
  all_goals
   go_wp2
   go_end0
   exact⟨rfl,HS2.out,Kb.trans (Kb.trans HK1.out (Kept.drew _ w1)) HK2.out⟩
 ·rw [if_neg e]
  rw [decide_eq_false e] at HC
  clear e
  go_enter Tryz.func127,Tryz.ntmps127
  go_wp2_with (first | (go_at_call 157;refine HC.out.mono ?_;rintro e w1 ⟨rfl,hk1,hs1⟩;have HS1:=mH hs1;have HK1:=mH hk1;have d3:=hs1.c3;have d4:=hs1.c4;have d5:=hs1.c5;clear hs1 hk1))
  go_end0
  exact⟨rfl,HS1.out,HK1.out⟩
set_option maxHeartbeats 1600000 in
theorem wake_yes (w:World) (b:Nat) (s:Sv) (m now:Int) (x:Ss) (h:SB w b s m true x) (m0:0<=m) (hm:m<=now) (n1:now<=1099511727776) (hs:okS s):Calls Tryz.prog 126 #[.pointer (some ⟨b,0,none⟩),.int .i64 now] w fun e w'=>e=.returned (.tuple #[])/\SB w' b s m true (if x.dl<=now then fillS s now else x)/\Kb b w w':=by
 have c7:=h.c7
 have c2:=h.c2
 have d3:=h.c3
 have d4:=h.c4
 have d5:=h.c5
 have HS:=mH h
 have HO:=mH hs
 clear h hs
 by_cases e:x.dl<=now
 ·rw [if_pos e]
  go_enter Tryz.func126,Tryz.ntmps126
  go_wp2
  go_region_held3 (fun w'=>w'.cell? ⟨b,3,none⟩=some (.int .i64 s.1)/\w'.cell? ⟨b,4,none⟩=some (.int .i64 s.2.1)/\w'.cell? ⟨b,5,none⟩=some (.int .i64 s.2.2)) (go_keep) (first | (go_at_call 158;refine(fill_is w.drew b s m now true x HS.out (by omega) n1 HO.out).mono ?_;rintro e w2 ⟨rfl,hs2,hk2⟩;have HS2:=mH hs2;have HK2:=mH hk2;have e3:=hs2.c3;have e4:=hs2.c4;have e5:=hs2.c5;clear hs2 hk2))
  all_goals
   go_wp2
   go_end0
   exact⟨rfl,HS2.out,Kb.trans (Kept.drew _ w) HK2.out⟩
 ·rw [if_neg e]
  go_enter Tryz.func126,Tryz.ntmps126
  go_wp2
  go_end0
  exact⟨rfl,HS.out,Kept.refl _ w⟩
theorem enter_is (w:World) (b:Nat) (s:Sv) (m now:Int) (wk:Bool) (x:Ss) (h:SB w b s m wk x) (m0:0<=m) (hm:m<=now) (n1:now<=1099511727776) (hs:okS s):Calls Tryz.prog (ent s) #[.pointer (some ⟨b,0,none⟩),.int .i64 now] w fun e w'=>e=.returned (.tuple #[])/\SB w' b s m wk (begS s m now wk x)/\Kb b w w':=by
 have hk:s.1=1 ∨ s.1=2 ∨ s.1=3:=by obtain⟨h1,h2,_⟩:=hs;omega
 rcases hk with e | e | e
 ·have e2:ent s=125:=by unfold ent;rw [if_pos e]
  rw [e2]
  cases wk
  ·have:=poll_no w b s m now x h
   have eb:begS s m now false x=dropS x:=by simp [begS,flS,e]
   rw [eb];exact this
  ·have:=poll_yes w b s m now x h m0 hm n1 hs
   have eb:begS s m now true x=if (now - m) % s.2.2=0 then fillS s now else x:=by simp [begS,flS,e]
   rw [eb];exact this
 ·have e2:ent s=126:=by unfold ent;rw [if_neg (by omega),if_pos e]
  rw [e2]
  cases wk
  ·have:=wake_no w b s m now x h
   have eb:begS s m now false x=dropS x:=by simp [begS,flS,e]
   rw [eb];exact this
  ·have:=wake_yes w b s m now x h m0 hm n1 hs
   have eb:begS s m now true x=if x.dl<=now then fillS s now else x:=by simp [begS,flS,e]
   rw [eb];exact this
 ·have e2:ent s=127:=by unfold ent;rw [if_neg (by omega),if_neg (by omega)]
  rw [e2]
  have:=renew_is w b s m now wk x h m0 hm n1 hs
  have eb:begS s m now wk x=if (now - m) % s.2.2=0 then fillS s now else x:=by simp [begS,flS,e]
  rw [eb];exact this
set_option maxHeartbeats 1600000 in
theorem begin_is (w:World) (b:Nat) (s:Sv) (m now:Int) (wk0 wk:Bool) (x:Ss) (h:SB w b s m wk0 x) (m0:0<=m) (hm:m<=now) (n1:now<=1099511727776) (hs:okS s):Calls Tryz.prog 54 #[.pointer (some ⟨b,0,none⟩),.int .i64 now,.bool wk] w fun e w'=>e=.returned (.bool (rdyS wk (begS s m now wk x)))/\SB w' b s m wk (begS s m now wk x)/\Kb b w w':=by
 have c7:=h.c7
 have f7:=h.fz 7
 have h7:=h.putw wk
 have c8:=h7.c8
 have HC:=mH (enter_is _ b s m now wk x h7 m0 hm n1 hs)
 have HK:=mH (kb_set (Kept.refl (fun k=>k=b) w) 7 (.bool wk))
 clear h h7
 have hk:s.1=1 ∨ s.1=2 ∨ s.1=3:=by obtain⟨h1,h2,_⟩:=hs;omega
 have he:ent s=125 ∨ ent s=126 ∨ ent s=127:=by unfold ent;rcases hk with e | e | e <;> simp [e]
 clear hk
 generalize begS s m now wk x=y at *
 rcases he with e | e | e
 ·rw [e] at HC c8
  clear e
  go_enter Tryz.func54,Tryz.ntmps54
  go_wp2_with (first | (go_at_call 125;refine HC.out.mono ?_;rintro e w1 ⟨rfl,hs1,hk1⟩;have HS1:=mH hs1;have HK1:=mH hk1;clear hs1 hk1) | (go_at_call 77;refine(ready_is _ b s m wk y HS1.out).mono ?_;rintro e w2 ⟨rfl,hw⟩;rw [hw];clear hw))
  go_ret
  exact⟨rfl,HS1.out,Kb.trans HK.out HK1.out⟩
 ·rw [e] at HC c8
  clear e
  go_enter Tryz.func54,Tryz.ntmps54
  go_wp2_with (first | (go_at_call 126;refine HC.out.mono ?_;rintro e w1 ⟨rfl,hs1,hk1⟩;have HS1:=mH hs1;have HK1:=mH hk1;clear hs1 hk1) | (go_at_call 77;refine(ready_is _ b s m wk y HS1.out).mono ?_;rintro e w2 ⟨rfl,hw⟩;rw [hw];clear hw))
  go_ret
  exact⟨rfl,HS1.out,Kb.trans HK.out HK1.out⟩
 ·rw [e] at HC c8
  clear e
  go_enter Tryz.func54,Tryz.ntmps54
  go_wp2_with (first | (go_at_call 127;refine HC.out.mono ?_;rintro e w1 ⟨rfl,hs1,hk1⟩;have HS1:=mH hs1;have HK1:=mH hk1;clear hs1 hk1) | (go_at_call 77;refine(ready_is _ b s m wk y HS1.out).mono ?_;rintro e w2 ⟨rfl,hw⟩;rw [hw];clear hw))
  go_ret
  exact⟨rfl,HS1.out,Kb.trans HK.out HK1.out⟩
theorem entry_is (w:World) (s:Sv) (h:okS s):Calls Tryz.prog 102 #[.int .i64 s.1] w fun e w'=>e=.returned (.func (.func (ent s)) #[] #[])/\w'=w:=by
 obtain⟨k,q,t⟩:=s
 have hk:k=1 ∨ k=2 ∨ k=3:=by obtain⟨h1,h2,_⟩:=h;simp only at h1 h2;omega
 rcases hk with rfl | rfl | rfl
 all_goals
  go_enter Tryz.func102,Tryz.ntmps102
  go_wp2
  go_ret
  exact⟨rfl,rfl⟩
def okN (s:Sv) (now:Int):Prop:=okS s/\0<=now/\now<=1099511627776
set_option maxHeartbeats 1600000 in
theorem snew_ok (w:World) (s:Sv) (now:Int) (h:okN s now):Calls Tryz.prog 73 #[vS s,.int .i64 now] w fun e w'=>∃ b,e=.returned (.tuple #[.pointer (some ⟨b,0,none⟩),.nilIface])/\w.heap.size<=b/\SB w' b s now false ⟨false,0,now⟩/\Below w.heap.size w w':=by
 obtain⟨hs,h0,h1⟩:=h
 have HO:=mH hs
 clear hs
 obtain⟨k,q,t⟩:=s
 have HE:Hid (∀ w,Calls Tryz.prog 102 #[.int .i64 k] w fun e w'=>e=.returned (.func (.func (ent (k,q,t))) #[] #[])/\w'=w):=mH (fun w=>entry_is w (k,q,t) HO.out)
 go_enter Tryz.func73,Tryz.ntmps73
 go_wp2_with (go_at_call 101;refine(check_ok _ (k,q,t) HO.out).mono ?_;rintro e w3 ⟨rfl,hb3⟩;obtain⟨r0,hb⟩:=new_last hb3;have HB3:=mH hb;have c0:w3.cell? ⟨w.heap.size,0,none⟩=some (.int .i64 k):=cOb (i:=0) r0 rfl;have c1:w3.cell? ⟨w.heap.size,1,none⟩=some (.int .i64 q):=cOb (i:=1) r0 rfl;have c2:w3.cell? ⟨w.heap.size,2,none⟩=some (.int .i64 t):=cOb (i:=2) r0 rfl;clear hb3 r0 hb)
 obtain⟨B,hB⟩:∃ B,B=w.heap.size:=⟨_,rfl⟩
 rw [<- hB] at c0 c1 c2 ⊢
 have HBB:=mH hB
 clear hB
 obtain⟨E,hE⟩:∃ E,E=ent (k,q,t):=⟨_,rfl⟩
 rw [<- hE] at HE
 have HEE:=mH hE
 clear hE
 go_region_held3 (fun w'=>w'.cell? ⟨B,0,none⟩=some (.int .i64 k)/\w'.cell? ⟨B,1,none⟩=some (.int .i64 q)/\w'.cell? ⟨B,2,none⟩=some (.int .i64 t)) (go_keep) (first | (go_at_call 102;refine(HE.out _).mono ?_;rintro e w5 ⟨rfl,hw⟩;rw [hw];clear hw))
 all_goals
  go_wp2
  go_ret2
  refine⟨w3.heap.size,rfl,HB3.out.size, ?_,(HB3.out.alloc HB3.out.size _).drew⟩
  unfold SB
  rw [<- HEE.out]
  exact heap_alloc_new w3 _
end Go.Proofs.YtpdehdomilnmeaaGreatDoor
