import Derived.Test.YtpdehdomilnmeaaGreatDoorPx
import Derived.Deep.RegionHeld3
namespace Go.Proofs.YtpdehdomilnmeaaGreatDoor
open Go.ChangeShapes Go.WideShapes Go.ChangeAt Go.RowKit
set_option maxRecDepth 100000
attribute [local go_sem] World.cell?_alloc_some fAs
theorem okS.i64 {s:Sv} (h:okS s):I64 s.2.1/\I64 s.2.2:=by
 obtain⟨_,_,h1,h2,h3⟩:=h
 exact⟨⟨by omega,by omega⟩,⟨by omega,by omega⟩⟩
set_option maxHeartbeats 1600000 in
theorem within_whole {nh nl dh dl x:Int} {ok:Bool} (w:World) (a:Word nh) (b:Word nl) (c:Word dh) (d:Word dl) (h:AgIs (wv nh nl) (wv dh dl) 1 1 x ok) :
  Calls Tryz.prog 192 #[vP nh nl dh dl,vS (0,0,0)] w fun e w'=>e=.returned (.tuple #[.int .i64 x,.bool ok])/\Below w.heap.size w w':=by
 have i1:I64 1:=⟨by decide,by decide⟩
 go_enter Tryz.func192,Tryz.ntmps192
 go_wp2_with (go_at_call 206;refine(against_is a b c d i1 i1 h).mono ?_;rintro e w1 ⟨rfl,b1⟩)
 go_ret2
 exact⟨rfl,bt (ba (ba (Below.refl _ _) _) _) b1⟩
set_option maxHeartbeats 1600000 in
theorem within_ok {nh nl dh dl x:Int} {ok:Bool} (w:World) (s:Sv) (a:Word nh) (b:Word nl) (c:Word dh) (d:Word dl) (hs:okS s) (h:AgIs (wv nh nl) (wv dh dl) s.2.1 s.2.2 x ok) :
  Calls Tryz.prog 192 #[vP nh nl dh dl,vS s] w fun e w'=>e=.returned (.tuple #[.int .i64 x,.bool ok])/\Below w.heap.size w w':=by
 obtain⟨k,q,t⟩:=s
 obtain⟨i1,i2⟩:=hs.i64
 have HS:=mH hs
 have hk:¬ k=0:=by have:=hs.1;simp only at this;omega
 clear hs
 go_enter Tryz.func192,Tryz.ntmps192
 go_wp2_with (first
  |(go_at_call 101;refine(check_ok _ (k,q,t) HS.out).mono ?_;rintro e w1 ⟨rfl,b1⟩;have c0:=kc (a:=⟨w.heap.size,0,none⟩) (v:=.int .u64 nh) (by simp [go_sem]) b1;have c1:=kc (a:=⟨w.heap.size,1,none⟩) (v:=.int .u64 nl) (by simp [go_sem]) b1;have c2:=kc (a:=⟨w.heap.size,2,none⟩) (v:=.int .u64 dh) (by simp [go_sem]) b1;have c3:=kc (a:=⟨w.heap.size,3,none⟩) (v:=.int .u64 dl) (by simp [go_sem]) b1;have d1:=kc (a:=⟨w.heap.size+1,1,none⟩) (v:=.int .i64 q) (by simp [go_sem]) b1;have d2:=kc (a:=⟨w.heap.size+1,2,none⟩) (v:=.int .i64 t) (by simp [go_sem]) b1;have HB1:=mH b1;clear b1)
  |(go_at_call 206;refine(against_is a b c d i1 i2 h).mono ?_;rintro e w2 ⟨rfl,b2⟩))
 go_ret2
 exact⟨rfl,bt (bt (ba (ba (Below.refl _ _) _) _) HB1.out) b2⟩
end Go.Proofs.YtpdehdomilnmeaaGreatDoor
