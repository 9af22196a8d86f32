import Derived.Test.YtpdehdomilnmeaaGreatDoorM1
import Derived.Test.YtpdehdomilnmeaaGreatDoorPlan5
import Derived.Test.YtpdehdomilnmeaaGreatDoorDm1
import Derived.Test.YtpdehdomilnmeaaGreatDoorTick
import Derived.Below
import Derived.Laws.ResultCell
import Derived.Laws.Rows
namespace Go.Proofs.YtpdehdomilnmeaaGreatDoor
open Go.ChangeShapes Go.WideShapes Go.ChangeAt Go.RowKit
set_option maxRecDepth 100000
abbrev vH (g d q:Int):Value:=.agg #[.int .i64 g,.int .i64 d,.int .i64 q]
def okW (s:Sv):Prop:=s=(0,0,0) ∨ okS s
def gS (s:Sv):Int:=if s.1=0 then 0 else if s.1=3 then s.2.2 - s.2.1 else s.2.2 - 1
def dS (s:Sv):Int:=if s.1=0 then 0 else s.2.2 - s.2.1
def qS (s:Sv):Int:=if s.1=0 then 1 else s.2.1
theorem okW.nums {s:Sv} (h:okW s):dS s<=gS s/\0<=dS s/\1<=qS s/\gS s<=255/\dS s+qS s<=256:=by
 obtain⟨k,q,t⟩:=s
 rcases h with h | ⟨h1,h2,h3,h4,h5⟩
 ·obtain⟨rfl,rfl,rfl⟩:=by simpa using h
  decide
 ·simp only at h1 h2 h3 h4 h5
  simp only [gS,dS,qS]
  rw [if_neg (show ¬ k=0 by omega),if_neg (show ¬ k=0 by omega),if_neg (show ¬ k=0 by omega)]
  split <;> omega
theorem period_is (w:World) (g d q:Int) (hd:0<=d) (hd':d<=256) (hq:0<=q) (hq':q<=256):Calls Tryz.prog 213 #[vH g d q] w fun e w'=>e=.returned (.int .i64 (d+q))/\Below w.heap.size w w':=by
 go_enter Tryz.func213,Tryz.ntmps213
 go_wp2
 go_ret
 exact⟨rfl,ba (Below.refl _ _) _⟩
theorem silence_is (w:World) (g d q:Int) (hd:0<=d) (hd':d<=256) (hg:0<=g) (hg':g<=256):Calls Tryz.prog 212 #[vH g d q] w fun e w'=>e=.returned (.int .i64 (g+d))/\Below w.heap.size w w':=by
 go_enter Tryz.func212,Tryz.ntmps212
 go_wp2
 go_ret
 exact⟨rfl,ba (Below.refl _ _) _⟩
theorem range_ok (w:World) (n:Int) (h0:0<=n) (h1:n<=1099511627776):Calls Tryz.prog 210 #[.int .i64 n] w fun e w'=>e=.returned (.bool false)/\w'=w:=by
 go_enter Tryz.func210,Tryz.ntmps210
 go_wp2
 go_ret
 exact⟨by simp [show ¬ n < 0 by omega,show ¬ 1099511627776 < n by omega],rfl⟩
theorem split_is (w:World) (n z:Int) (h0:0<=n) (h1:n<=9223372036854775807) (z0:1<=z) (z1:z<=9223372036854775807):Calls Tryz.prog 211 #[.int .i64 n,.int .i64 z] w fun e w'=>e=.returned (.tuple #[.int .i64 (n / z),.int .i64 (n % z)])/\w'=w:=by
 go_enter Tryz.func211,Tryz.ntmps211
 go_wp2_with (first | (go_at_call 220;refine(floor_any _ _ _ (by omega) (by omega) (by omega) (by omega)).mono ?_;rintro e w' ⟨rfl,rfl⟩) | (go_at_call 221;refine(mod_any _ _ _ (by omega) (by omega)).mono ?_;rintro e w' ⟨rfl,rfl⟩))
 go_ret2
 exact⟨rfl,rfl⟩
theorem cOb {w:World} {p i:Nat} {c:Array Value} {t:TypeId} {v:Value} (h:w.heap[p]?=some (.cells c t (0,0))) (hi:c[i]?=some v):w.cell? ⟨p,i,none⟩=some v:=by
 rw [cell_of_row w p i c t (0,0) h];exact hi
theorem fOb {w:World} {p i:Nat} {c:Array Value} {t:TypeId} (h:w.heap[p]?=some (.cells c t (0,0))):w.frozen? ⟨p,i,none⟩=false:=by
 simp [World.frozen?,h]
theorem hSt {w:World} {p i:Nat} {c:Array Value} {t:TypeId} {v:Value} (h:w.heap[p]?=some (.cells c t (0,0))):(w.setCell ⟨p,i,none⟩ v).heap[p]?=some (.cells (c.set! i v) t (0,0)):=by
 simp [World.setCell,Array.getElem?_modify,h]
theorem new_last {w w3:World} {o:Obj} (h:Below (w.alloc o).heap.size (w.alloc o) w3):w3.heap[w.heap.size]?=some o/\Below w.heap.size w w3:=by
 have hz:(w.alloc o).heap.size=w.heap.size+1:=by simp
 refine⟨by rw [h.block _ (by omega)];exact heap_alloc_new w o,((Below.refl _ w).alloc (Nat.le_refl _) o).trans (h.mono (by omega))⟩
theorem new_two {w w3:World} {o o2:Obj} (h:Below ((w.alloc o).alloc o2).heap.size ((w.alloc o).alloc o2) w3):w3.heap[w.heap.size]?=some o/\w3.heap[w.heap.size+1]?=some o2/\Below w.heap.size w w3:=by
 obtain⟨h1,h2⟩:=new_last h
 obtain⟨h3,h4⟩:=new_last h2
 exact⟨h3,by rw [show w.heap.size+1=(w.alloc o).heap.size by simp];exact h1,h4⟩
theorem size_shape:(Tryz.prog.info? 276).map (·.size)=some 3:=by kernel_rfl
theorem shape_leaves {W:World} {R:Nat} {a b c:Value} (hR:W.heap[R]?=some (.cells #[a,b,c] 276 (0,0))) (tmps:Array Value) (h2:tmps.getD 2 undef=.pointer (some ⟨R,0,none⟩)):(results Tryz.f209 tmps).run Tryz.prog W=.ok (.tuple #[.agg #[a,b,c],tmps.getD 3 undef]) W:=by
 have hl:=run_loadVar_row (P:=Tryz.prog) W R 276 276 #[a,b,c] (0,0) _ hR Tryz.underlying276 rfl size_shape
 rw [results_cell_tmp (p:=2) (u:=3) (ty:=276) rfl,h2]
 simp [asAddr,Result.andThen,hl]
theorem shape_whole (w:World):Calls Tryz.prog 209 #[vS (0,0,0)] w fun e w'=>e=.returned (.tuple #[vH 0 0 1,.nilIface])/\Below w.heap.size w w':=by
 go_enter Tryz.func209,Tryz.ntmps209
 go_wp2
 exact bodyPost_ret (shape_leaves (heap_alloc_new _ _) _ (by simp)) rfl ⟨rfl,ba (ba (Below.refl _ _) _) _⟩
set_option maxHeartbeats 1600000 in
theorem shape_ok (w:World) (s:Sv) (h:okS s):Calls Tryz.prog 209 #[vS s] w fun e w'=>e=.returned (.tuple #[vH (gS s) (dS s) (qS s),.nilIface])/\Below w.heap.size w w':=by
 obtain⟨k,q,t⟩:=s
 have HO:=mH h
 obtain⟨h1,h2,h3,h4,h5⟩:=h
 simp only at h1 h2 h3 h4 h5
 have hk:¬ k=0:=by omega
 have hk1:(0:Int) ≠ k:=by omega
 have hc:k=3 ∨ ¬ k=3:=by omega
 rcases hc with rfl | hc
 all_goals
  go_enter Tryz.func209,Tryz.ntmps209
  go_wp2_with (go_at_call 101;refine(check_ok _ (_,q,t) HO.out).mono ?_;rintro e w3 ⟨rfl,hb3⟩;obtain⟨r0,r1,hb⟩:=new_two hb3;have HB:=mH (And.intro r1 hb);have c0:=cOb (i:=0) r0 rfl;have c1:=cOb (i:=1) r0 rfl;have c2:=cOb (i:=2) r0 rfl;have d0:=cOb (i:=0) r1 rfl;have d1:=cOb (i:=1) r1 rfl;have d2:=cOb (i:=2) r1 rfl;have f0:=fOb (i:=0) r1;have f1:=fOb (i:=1) r1;have f2:=fOb (i:=2) r1;clear hb3 r0 r1 hb)
  obtain⟨r1,hb⟩:=HB.out
  refine bodyPost_ret (shape_leaves (hSt (hSt (hSt r1))) _ (by simp)) rfl ⟨?_,((hb.setCell (p:=⟨_,_,none⟩) (by simp) _).setCell (p:=⟨_,_,none⟩) (by simp) _).setCell (p:=⟨_,_,none⟩) (by simp) _⟩
  first | simp [gS,dS,qS,hk,hc] | simp [gS,dS,qS]
theorem shape_yes (w:World) (s:Sv) (h:okW s):Calls Tryz.prog 209 #[vS s] w fun e w'=>e=.returned (.tuple #[vH (gS s) (dS s) (qS s),.nilIface])/\Below w.heap.size w w':=by
 rcases h with rfl | h
 ·exact shape_whole w
 ·exact shape_ok w s h
end Go.Proofs.YtpdehdomilnmeaaGreatDoor
