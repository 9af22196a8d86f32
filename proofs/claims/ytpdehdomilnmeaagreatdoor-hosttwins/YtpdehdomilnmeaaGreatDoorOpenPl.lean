import Derived.Test.YtpdehdomilnmeaaGreatDoorTk
import Derived.OpenShut
import Derived.Deep.Slices
import Derived.SizedLaws
import Derived.Lib.SmallJoins
namespace Go.Proofs.YtpdehdomilnmeaaGreatDoor
open Go.ChangeShapes Go.WideShapes Go.ChangeAt Go.RowKit Go.Joins
set_option maxRecDepth 100000
theorem cellsServer:Tryz.prog.cellsOf 37=3:=by kernel_rfl
theorem cellsInt:Tryz.prog.cellsOf 3=1:=by kernel_rfl
theorem i64_of_wf {x:Int} (h:(Lit.int .i64 x).wf=true):I64 x:=⟨(bounds_i64 h).1,(bounds_i64 h).2⟩
theorem list3 {α:Type} {l:List α} (h:l.length=3):∃ y0 y1 y2,l=[y0,y1,y2]:=by
 match l,h with
 |[y0,y1,y2],_=>exact⟨_,_,_,rfl⟩
theorem trod_server {H:Type} {enc:TypeId × Value->H} {w:World} {base:Nat} {sp:Nat->Bool} {held:Bool} {fuel:Nat} {c0 c1 c2:Value} {x:DataW H × List MemPlace} (h:DataW.trod enc Tryz.prog w base sp held fuel 37 [c0,c1,c2]=some x) :
  ∃ k q t:Int,c0=.int .i64 k/\c1=.int .i64 q/\c2=.int .i64 t/\I64 k/\I64 q/\I64 t:=by
 obtain⟨xs,n,_,hx,_,hlen,hfs⟩:=DataW.trod_struct Tryz.underlying37 h
 obtain⟨y0,y1,y2,rfl⟩:=list3 hlen
 have h0:=hfs 0 _ rfl
 have h1:=hfs 1 _ rfl
 have h2:=hfs 2 _ rfl
 simp [cellsInt] at h0 h1 h2
 obtain⟨k,e0,_,wk⟩:=DataW.trod_int Tryz.underlying3 h0
 obtain⟨q,e1,_,wq⟩:=DataW.trod_int Tryz.underlying3 h1
 obtain⟨t,e2,_,wt⟩:=DataW.trod_int Tryz.underlying3 h2
 simp at e0 e1 e2
 exact⟨k,q,t,e0,e1,e2,i64_of_wf wk,i64_of_wf wq,i64_of_wf wt⟩
theorem cellsTask:Tryz.prog.cellsOf 45=4:=by kernel_rfl
theorem list4 {α:Type} {l:List α} (h:l.length=4):∃ y0 y1 y2 y3,l=[y0,y1,y2,y3]:=by
 match l,h with
 |[y0,y1,y2,y3],_=>exact⟨_,_,_,_,rfl⟩
theorem trod_task {H:Type} {enc:TypeId × Value->H} {w:World} {base:Nat} {sp:Nat->Bool} {held:Bool} {fuel:Nat} {c0 c1 c2 c3:Value} {x:DataW H × List MemPlace} (h:DataW.trod enc Tryz.prog w base sp held fuel 45 [c0,c1,c2,c3]=some x) :
  ∃ k q t s:Int,c0=.int .i64 k/\c1=.int .i64 q/\c2=.int .i64 t/\c3=.int .i64 s/\I64 k/\I64 q/\I64 t/\I64 s:=by
 obtain⟨xs,n,_,hx,_,hlen,hfs⟩:=DataW.trod_struct Tryz.underlying45 h
 obtain⟨y0,y1,y2,y3,rfl⟩:=list4 hlen
 have h0:=hfs 0 _ rfl
 have h1:=hfs 1 _ rfl
 have h2:=hfs 2 _ rfl
 have h3:=hfs 3 _ rfl
 simp [cellsInt] at h0 h1 h2 h3
 obtain⟨k,e0,_,wk⟩:=DataW.trod_int Tryz.underlying3 h0
 obtain⟨q,e1,_,wq⟩:=DataW.trod_int Tryz.underlying3 h1
 obtain⟨t,e2,_,wt⟩:=DataW.trod_int Tryz.underlying3 h2
 obtain⟨s,e3,_,ws⟩:=DataW.trod_int Tryz.underlying3 h3
 simp at e0 e1 e2 e3
 exact⟨k,q,t,s,e0,e1,e2,e3,i64_of_wf wk,i64_of_wf wq,i64_of_wf wt,i64_of_wf ws⟩
theorem bytesTask:Tryz.prog.bytesOf 45=32:=by kernel_rfl
end Go.Proofs.YtpdehdomilnmeaaGreatDoor
