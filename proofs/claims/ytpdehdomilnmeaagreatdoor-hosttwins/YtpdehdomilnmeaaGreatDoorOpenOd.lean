import Derived.Test.YtpdehdomilnmeaaGreatDoorTrMem
import Derived.Test.YtpdehdomilnmeaaGreatDoorOpenPl
namespace Go.Proofs.YtpdehdomilnmeaaGreatDoor
open Go.ChangeShapes Go.WideShapes Go.ChangeAt Go.RowKit Go.Joins
set_option maxRecDepth 100000
theorem cellsTasks:Tryz.prog.cellsOf 38=1:=by kernel_rfl
theorem cellsOrder:Tryz.prog.cellsOf 40=8:=by kernel_rfl
abbrev Op:=Od × Option Addr × Nat
abbrev tvO (t:Op):Value:=.slice t.2.1 t.1.ts.length t.2.2
abbrev vOp (t:Op):Value:=vOd t.1 (tvO t)
def c8 (t:Op):List Value:=[.int .i64 t.1.ki,.int .i64 t.1.id,.int .i64 t.1.sv.1,.int .i64 t.1.sv.2.1,.int .i64 t.1.sv.2.2,.int .i64 t.1.po,tvO t,.int .i64 t.1.tm]
theorem c8_len (t:Op):(c8 t).length=8:=rfl
structure OpW (w:World) (t:Op):Prop where
 ts:Tks w (tvO t) t.1.ts
 cap:t.1.ts.length<=t.2.2
 ki:I64 t.1.ki
 id:I64 t.1.id
 sv:I64 t.1.sv.1/\I64 t.1.sv.2.1/\I64 t.1.sv.2.2
 po:I64 t.1.po
 tm:I64 t.1.tm
abbrev smallO (t:Op):Prop:=t.1.ts.length * 32<=140737488355328
theorem OpW.below {w w':World} {t:Op} (h:OpW w t) (hb:Below w.heap.size w w'):OpW w' t:=⟨h.ts.below hb,h.cap,h.ki,h.id,h.sv,h.po,h.tm⟩
theorem list6 {α:Type} {l:List α} (h:l.length=6):∃ y0 y1 y2 y3 y4 y5,l=[y0,y1,y2,y3,y4,y5]:=by
 match l,h with
 |[y0,y1,y2,y3,y4,y5],_=>exact⟨_,_,_,_,_,_,rfl⟩
theorem list8 {α:Type} {l:List α} (h:l.length=8):∃ y0 y1 y2 y3 y4 y5 y6 y7,l=[y0,y1,y2,y3,y4,y5,y6,y7]:=by
 match l,h with
 |[y0,y1,y2,y3,y4,y5,y6,y7],_=>exact⟨_,_,_,_,_,_,_,_,rfl⟩
theorem open_tasks_c {H:Type} {enc:TypeId × Value->H} {W:World} {fuel:Nat} {c:Value} {x:DataW H × List MemPlace} (hf:DataW.trod enc Tryz.prog W 0 (fun _=>true) true fuel 38 [c]=some x) :
  ∃ (a:Option Addr) (xs:List Tk) (cap:Nat),c=.slice a xs.length cap/\xs.length<=cap/\Tks W (.slice a xs.length cap) xs/\((∀ n ∈ x.1.weights Tryz.prog 38,n<=reachBytes)->xs.length * 32<=140737488355328):=by
 rcases Go.Deep.open_slice Tryz.underlying38 hf with ⟨hcs,hx⟩ | ⟨x0,l,cp,m,n,D,Pl,hcs,_,hl,hm,hme,hx,hall⟩
 ·simp at hcs
  subst hcs
  exact⟨none,[],0,rfl,by simp,⟨none,0,rfl,by simp,fun hp=>by simp at hp⟩,fun _=>by simp⟩
 ·simp at hcs
  subst hcs
  have hlm:l<=m:=by rw [hme];simp;omega
  have each:∀ i,i < l->∃ y:Tk,∃ b o,x0.add (i * 4)=⟨b,o,none⟩/\TkAt W b o y:=by
   intro i hi
   obtain⟨cs,hc,ht⟩:=hall i (by omega)
   rw [cellsTask] at hc
   obtain⟨_,hlen,hcell⟩:=World.cells?_some hc
   obtain⟨c0,c1,c2,c3,rfl⟩:=list4 (l:=cs) (by omega)
   obtain⟨k,q,t,s,rfl,rfl,rfl,rfl,_⟩:=trod_task ht
   generalize x0.add (i * 4)=z at hcell ⊢
   obtain⟨b,o,spot⟩:=z
   have h0:=hcell 0 (by omega)
   have hspot:spot=none:=by simpa [Addr.add] using World.cell?_spot h0
   subst hspot
   exact⟨(k,q,t,s),b,o,rfl,by simpa [add_none] using hcell 0 (by omega),by simpa [add_none] using hcell 1 (by omega),by simpa [add_none] using hcell 2 (by omega),by simpa [add_none] using hcell 3 (by omega)⟩
  obtain⟨f,hf'⟩:=Go.Deep.choose_lt each
  have hlen:((List.range l).map f).length=l:=by simp
  refine⟨some x0,(List.range l).map f,cp,by rw [hlen],by rw [hlen];exact hl,⟨some x0,cp,rfl,by rw [hlen];unfold maxLen at hm;omega,fun hp=>?_⟩,fun hw=>?_⟩
  ·rw [hlen] at hp
   obtain⟨b,o,he,hat⟩:=hf' 0 hp
   obtain⟨xb,xo,xs⟩:=x0
   simp [Addr.add] at he
   obtain⟨rfl,rfl,rfl⟩:=he
   refine⟨xb,xo,rfl,fun k y hk=>?_⟩
   have hkl:k < l:=by
    have:=(List.getElem?_eq_some_iff.mp hk).1
    simpa using this
   obtain⟨b,o,he,hat'⟩:=hf' k hkl
   rw [add_none] at he
   simp at he
   obtain⟨rfl,rfl⟩:=he
   have:y=f k:=by simpa [hkl] using hk.symm
   rw [this]
   exact hat'
  ·rw [hx] at hw
   have h1:=hw _ (show (((List.range l).map D).length+((List.range (m - l)).map fun j=>D (l+j)).length) * 32 ∈ _ by simp [DataW.weights,Tryz.underlying38,bytesTask])
   simp only [List.length_map,List.length_range,reachBytes] at h1
   rw [hlen]
   omega
theorem trod_order {H:Type} {enc:TypeId × Value->H} {W:World} {fuel:Nat} {cs:List Value} {x:DataW H × List MemPlace} (h:DataW.trod enc Tryz.prog W 0 (fun _=>true) true fuel 40 cs=some x) :
  ∃ t:Op,cs=c8 t/\OpW W t/\((∀ n ∈ x.1.weights Tryz.prog 40,n<=reachBytes)->smallO t):=by
 obtain⟨zs2,n2,_,hx2,hc,hlen2,hfs2⟩:=DataW.trod_struct Tryz.underlying40 h
 rw [cellsOrder] at hc
 obtain⟨c0,c1,c2,c3,c4,c5,c6,c7,rfl⟩:=list8 hc
 obtain⟨z0,z1,z2,z3,z4,z5,rfl⟩:=list6 hlen2
 have g0:=hfs2 0 _ rfl
 have g1:=hfs2 1 _ rfl
 have g2:=hfs2 2 _ rfl
 have g3:=hfs2 3 _ rfl
 have g4:=hfs2 4 _ rfl
 have g5:=hfs2 5 _ rfl
 simp [cellsInt,cellsServer,cellsTasks] at g0 g1 g2 g3 g4 g5
 obtain⟨ki,e0,_,w0⟩:=DataW.trod_int Tryz.underlying3 g0
 obtain⟨di,e1,_,w1⟩:=DataW.trod_int Tryz.underlying3 g1
 obtain⟨sk,sq,st,rfl,rfl,rfl,i1,i2,i3⟩:=trod_server g2
 obtain⟨po,e3,_,w3⟩:=DataW.trod_int Tryz.underlying3 g3
 obtain⟨tm,e5,_,w5⟩:=DataW.trod_int Tryz.underlying3 g5
 obtain⟨a,ts,cap,rfl,hcap,hw,hs⟩:=open_tasks_c g4
 simp at e0 e1 e3 e5
 subst e0 e1 e3 e5
 refine⟨(⟨ki,di,(sk,sq,st),po,ts,tm⟩,a,cap),rfl,⟨hw,hcap,i64_of_wf w0,i64_of_wf w1,⟨i1,i2,i3⟩,i64_of_wf w3,i64_of_wf w5⟩,fun hwt=>hs fun k hk=>hwt k ?_⟩
 rw [hx2]
 show k ∈ DataW.weights Tryz.prog 40 (.agg [z0.1,z1.1,z2.1,z3.1,z4.1,z5.1])
 simp only [DataW.weights,Tryz.underlying40]
 exact DataW.weights_mem_each (j:=4) rfl rfl k hk
theorem all_le {l:List Nat} (h:l.all (·<=reachBytes)=true):∀ n ∈ l,n<=reachBytes:=fun n hn=>by simpa using List.all_eq_true.1 h n hn
theorem weights_all {H:Type} {P:Program} {e:TypeId}:∀ {ds:List (DataW H)} {d:DataW H},d ∈ ds->∀ n ∈ d.weights P e,n ∈ DataW.weightsAll P e ds
 |d0 :: ds,d,hd,n,hn=>by
  simp only [DataW.weightsAll,List.mem_append]
  rcases List.mem_cons.mp hd with rfl | hd
  ·exact .inl hn
  ·exact .inr (weights_all hd n hn)
 |[],d,hd,_,_=>by simp at hd
end Go.Proofs.YtpdehdomilnmeaaGreatDoor
