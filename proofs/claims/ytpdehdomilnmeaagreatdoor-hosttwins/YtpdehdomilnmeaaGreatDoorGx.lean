import Derived.Test.YtpdehdomilnmeaaGreatDoorSvM
import Derived.Test.YtpdehdomilnmeaaGreatDoorTrE
import Derived.Test.YtpdehdomilnmeaaGreatDoorTiX
import Derived.Test.YtpdehdomilnmeaaGreatDoorSv
import Derived.Below
import Derived.BigQuiet
import Derived.Deep.RegionHeld3
import Derived.Deep.AppendSrc
import Derived.Lib.SliceRun
import Derived.Laws.CopyRow
import Derived.Laws.ResultCell
import Derived.Laws.Rows
import Derived.Test.YtpdehdomilnmeaaGreatDoorTk
namespace Go.Proofs.YtpdehdomilnmeaaGreatDoor
open Go.ChangeShapes Go.WideShapes Go.ChangeAt Go.RowKit
set_option maxRecDepth 100000
theorem results_cell_tmp {fn:Func} {p u:Tmp} {ty:TypeId} (h:fn.results=#[.cell p ty,.tmp u]) (tmps:Array Value) (P:Program) (w:World) :
  (results fn tmps).run P w=((asAddr (tmps.getD p undef)).run P w).andThen fun a w₁=>((loadVar ty a).run P w₁).andThen fun v w₂=>.ok (.tuple #[v,tmps.getD u undef]) w₂:=by
 simp only [results,h]
 simp [Sem.run_bind,Result.andThen]
theorem results_cell_tmp2 {fn:Func} {p u x:Tmp} {ty:TypeId} (h:fn.results=#[.cell p ty,.tmp u,.tmp x]) (tmps:Array Value) (P:Program) (w:World) :
  (results fn tmps).run P w =
   ((asAddr (tmps.getD p undef)).run P w).andThen fun a w₁=>((loadVar ty a).run P w₁).andThen fun v w₂=>.ok (.tuple #[v,tmps.getD u undef,tmps.getD x undef]) w₂:=by
 simp only [results,h]
 simp [Sem.run_bind,Result.andThen]
theorem run_append_room5 {P:Program} (w:World) (base:Nat) (t tx ty e:TypeId) (i:TypeInfo) (ht:P.underlying t=some (.slice e)) (hi:P.info? e=some i)
  (hsize:i.size=5) (g n cap:Nat) (xs:List Value) (hown:w.ownsRow base e 5 (.slice (some ⟨g,0,none⟩) n cap) n xs) (x:Value) (m:Nat) (news:List Value) (hs:Src P 5 tx x m news w) (hroom:n+m<=cap) :
  ∃ w',(Builtin.append_ #[t,tx] ty #[.slice (some ⟨g,0,none⟩) n cap,x]).run P w=.ok (.slice (some ⟨g,0,none⟩) (n+m) cap) w'/\w'.ownsRow base e 5 (.slice (some ⟨g,0,none⟩) (n+m) cap) (n+m) (xs ++ news)/\w.grownBy w' (some g):=by
 have hxl:xs.length=n * 5:=hown.1
 have hnl:news.length=m * 5:=hs.newsLen
 have hlen:(xs ++ news).length=(n+m) * 5:=by rw [List.length_append,hxl,hnl];omega
 rcases hown.2 with ⟨e',_⟩ | ⟨g',cap',cur,e1,hbg,hg,hnc,hcm,hcs,htake⟩
 ·simp at e'
 simp only [Value.slice.injEq,Option.some.injEq,Addr.mk.injEq] at e1
 obtain⟨⟨rfl,_⟩,_,rfl⟩:=e1
 have hcs':cur.size=cap * 5:=hcs
 have hst:=run_storeCells_at P g (n * 5) e news 0 cur w hg (by rw [hnl];omega) hs.one
 simp only [Nat.add_zero,hnl] at hst
 have hr:(Builtin.append_ #[t,tx] ty #[.slice (some ⟨g,0,none⟩) n cap,x]).run P w=.ok (.slice (some ⟨g,0,none⟩) (n+m) cap) (w.setRow g (cur.toList.take (n * 5) ++ news ++ cur.toList.drop (n * 5+m * 5)).toArray):=by
  have hf:=hs.cells
  have hl:=hs.len
  rcases hs.kind with ⟨e',hk⟩ | hk <;> simp [Builtin.append_,run_underlying ht,run_underlying hk,sizeOf,typeInfo,hi,hsize,hl,hroom,hf,Addr.add_lit,hst]
 refine⟨_,hr,⟨hlen,.inr ⟨g,cap,_,rfl,hbg,setRow_heap w g cur _ e _ hg,hroom,hcm, ?_, ?_⟩⟩,⟨rfl,rfl,rfl,by simp,fun k _ hk=>setRow_other w g k _ (fun e=>hk (by rw [e]))⟩⟩
 ·simp only [List.size_toArray,List.length_append,List.length_take,List.length_drop,Array.length_toList,hnl]
  omega
 ·have ht':cur.toList.take (n * 5)=xs:=htake
  rw [ht',<- hlen]
  exact List.take_left
theorem step_append_room5 {P:Program} {ops:Array Oper} {o:Oper} {a:Act} {w:World} {K:Act->World->Prop} {Q:Exit->Act->World->Prop} {E:Prop} (hgd:o.guard=none) (sl x:Operand) (t tx:TypeId)
  (hop:o.op=.call { callee:=.builtin .append,args:=#[sl,x],argTypes:=#[t,tx] })
  (base:Nat) (e:TypeId) (i:TypeInfo) (ht:P.underlying t=some (.slice e)) (hi:P.info? e=some i) (hsize:i.size=5)
  (g n cap:Nat) (xs:List Value) (hs:a.eval sl=.slice (some ⟨g,0,none⟩) n cap) (hown:w.ownsRow base e 5 (.slice (some ⟨g,0,none⟩) n cap) n xs) (xv:Value) (m:Nat) (news:List Value) (hx:a.eval x=xv) (hsrc:Src P 5 tx xv m news w) (hroom:n+m<=cap)
  (h:∀ w',w'.ownsRow base e 5 (.slice (some ⟨g,0,none⟩) (n+m) cap) (n+m) (xs ++ news)->w.grownBy w' (some g)->K (a.put o.dst (.slice (some ⟨g,0,none⟩) (n+m) cap)) w') :
  if Region.wanted o (yielded ops a.tmps)=true then Oper.wp P o a w K Q else E:=by
 have hw:Region.wanted o (yielded ops a.tmps)=true:=by simp [Region.wanted,hgd]
 rw [if_pos hw]
 obtain⟨w',hr,h2,h3⟩:=run_append_room5 (P:=P) w base t tx o.type e i ht hi hsize g n cap xs hown xv m news hsrc hroom
 unfold Oper.wp execOp
 simp only [hop,resolve,invoke,builtin,Sem.run_bind,Sem.run_pure,Result.andThen_ok,List.map_toArray,List.map_cons,List.map_nil,hs,hx,hr]
 exact h w' h2 h3
end Go.Proofs.YtpdehdomilnmeaaGreatDoor
namespace Go.Proofs.YtpdehdomilnmeaaGreatDoor
open Go.ChangeShapes Go.WideShapes Go.ChangeAt Go.RowKit
set_option maxRecDepth 100000
attribute [local go_sem] World.cell?_alloc_some fAs
abbrev vJ (j:Jb):Value:=.agg #[.int .i64 (j.tk:Int),.int .i64 j.rl,.int .i64 j.dl,.int .i64 j.lf,.int .i64 j.dn]
abbrev oJ (j:Jb):Obj:=.cells #[.int .i64 (j.tk:Int),.int .i64 j.rl,.int .i64 j.dl,.int .i64 j.lf,.int .i64 j.dn] 55
abbrev j0:Jb:=⟨0,0,0,0,0⟩
def cj (j:Jb):List Value:=[.int .i64 (j.tk:Int),.int .i64 j.rl,.int .i64 j.dl,.int .i64 j.lf,.int .i64 j.dn]
def cq (x:Tq):List Value:=[.int .i64 x.1.1,.int .i64 x.1.2.1,.int .i64 x.1.2.2.1,.int .i64 x.1.2.2.2,.int .i64 x.2]
theorem cj_len (j:Jb):(cj j).length=5:=rfl
theorem cq_len (x:Tq):(cq x).length=5:=rfl
theorem onej (j:Jb):∀ u ∈ cj j,u.oneCell'=true:=by
 intro u hx
 simp only [cj,List.mem_cons,List.not_mem_nil,or_false] at hx
 rcases hx with rfl | rfl | rfl | rfl | rfl <;> rfl
theorem oneq (x:Tq):∀ u ∈ cq x,u.oneCell'=true:=by
 intro u hx
 simp only [cq,List.mem_cons,List.not_mem_nil,or_false] at hx
 rcases hx with rfl | rfl | rfl | rfl | rfl <;> rfl
theorem info_job:(Tryz.prog.info? 55).map (fun i=>(i.zero,i.size,i.bytes))=some (some (.agg #[.int .i64 0,.int .i64 0,.int .i64 0,.int .i64 0,.int .i64 0]),5,40):=by kernel_rfl
theorem size_job:(Tryz.prog.info? 55).map (·.size)=some 5:=by kernel_rfl
structure J5 (w:World) (g o:Nat) (j:Jb):Prop where
 c0:w.cell? ⟨g,o,none⟩=some (.int .i64 (j.tk:Int))
 c1:w.cell? ⟨g,o+1,none⟩=some (.int .i64 j.rl)
 c2:w.cell? ⟨g,o+2,none⟩=some (.int .i64 j.dl)
 c3:w.cell? ⟨g,o+3,none⟩=some (.int .i64 j.lf)
 c4:w.cell? ⟨g,o+4,none⟩=some (.int .i64 j.dn)
 f:∀ i,w.frozen? ⟨g,i,none⟩=false
structure Q5 (w:World) (g o:Nat) (x:Tq):Prop where
 c0:w.cell? ⟨g,o,none⟩=some (.int .i64 x.1.1)
 c1:w.cell? ⟨g,o+1,none⟩=some (.int .i64 x.1.2.1)
 c2:w.cell? ⟨g,o+2,none⟩=some (.int .i64 x.1.2.2.1)
 c3:w.cell? ⟨g,o+3,none⟩=some (.int .i64 x.1.2.2.2)
 c4:w.cell? ⟨g,o+4,none⟩=some (.int .i64 x.2)
 f:∀ i,w.frozen? ⟨g,i,none⟩=false
theorem J5.of_blk {w:World} {g:Nat} {j:Jb} (h:w.heap[g]?=some (oJ j)):J5 w g 0 j:=
 ⟨cOb h rfl,cOb h rfl,cOb h rfl,cOb h rfl,cOb h rfl,fun _=>fOb h⟩
def rul (p:Int):FuncId:=if p=1 then 129 else 130
structure GB (base:Nat) (w:World) (b:Nat) (p:Int) (tv jv:Value) (s:Gt):Prop where
 blk:w.heap[b]?=some (.cells #[tv,jv,.func (.func (rul p)) #[] #[]] 123 (0,0))
 town:w.ownsRow base 126 5 tv s.xs.length (s.xs.flatMap cq)
 jown:w.ownsRow base 55 5 jv s.js.length (s.js.flatMap cj)
 bb:base<=b
 tb:tv.ownBlock ≠ some b
 jb:jv.ownBlock ≠ some b
 tj:∀ k,tv.ownBlock=some k->jv.ownBlock ≠ some k
def Ft (tv jv:Value) (b k:Nat):Prop:=k=b ∨ tv.ownBlock=some k ∨ jv.ownBlock=some k
theorem GB.lt {base:Nat} {w:World} {b:Nat} {p:Int} {tv jv:Value} {s:Gt} (h:GB base w b p tv jv s):b < w.heap.size:=lOh h.blk
theorem GB.base_le {base:Nat} {w:World} {b:Nat} {p:Int} {tv jv:Value} {s:Gt} (h:GB base w b p tv jv s):base<=w.heap.size:=by
 have:=h.lt;have:=h.bb;omega
theorem GB.foot {base:Nat} {w:World} {b:Nat} {p:Int} {tv jv:Value} {s:Gt} (h:GB base w b p tv jv s) {k:Nat} (hk:Ft tv jv b k):base<=k/\k < w.heap.size:=by
 rcases hk with rfl | e | e
 ·exact⟨h.bb,h.lt⟩
 ·exact h.town.lt k e
 ·exact h.jown.lt k e
theorem GB.kept {F:Nat->Prop} {base:Nat} {w w':World} {b:Nat} {p:Int} {tv jv:Value} {s:Gt} (h:GB base w b p tv jv s) (hk:Kept F w w') (hF:∀ k,F k->Ft tv jv b k->False):GB base w' b p tv jv s:=
 ⟨(hk.block b h.lt (fun f=>hF b f (.inl rfl))).trans h.blk,oNk h.town hk (fun k e f=>hF k f (.inr (.inl e))),oNk h.jown hk (fun k e f=>hF k f (.inr (.inr e))),h.bb,h.tb,h.jb,h.tj⟩
theorem GB.below {base:Nat} {w w':World} {b:Nat} {p:Int} {tv jv:Value} {s:Gt} (h:GB base w b p tv jv s) (hb:Below w.heap.size w w'):GB base w' b p tv jv s:=
 h.kept (kept_new (F:=fun _=>False) hb) (fun _ f _=>f)
theorem GB.c0 {base:Nat} {w:World} {b:Nat} {p:Int} {tv jv:Value} {s:Gt} (h:GB base w b p tv jv s):w.cell? ⟨b,0,none⟩=some tv:=cOb h.blk rfl
theorem GB.c1 {base:Nat} {w:World} {b:Nat} {p:Int} {tv jv:Value} {s:Gt} (h:GB base w b p tv jv s):w.cell? ⟨b,1,none⟩=some jv:=cOb h.blk rfl
theorem GB.c2 {base:Nat} {w:World} {b:Nat} {p:Int} {tv jv:Value} {s:Gt} (h:GB base w b p tv jv s):w.cell? ⟨b,2,none⟩=some (.func (.func (rul p)) #[] #[]):=cOb h.blk rfl
theorem own_job {w:World} {base:Nat} {jv:Value} {js:List Jb} (h:w.ownsRow base 55 5 jv js.length (js.flatMap cj)) {i:Nat} {j:Jb} (hj:js[i]?=some j):∃ g c,jv=.slice (some ⟨g,0,none⟩) js.length c/\J5 w g (i * 5) j:=by
 obtain⟨g,c,rfl,hg,hl⟩:=own_addr h (List.getElem?_eq_some_iff.mp hj).1
 have hc:∀ r u,r < 5->(cj j)[r]?=some u->w.cell? ⟨g,i * 5+r,none⟩=some u/\∀ i,w.frozen? ⟨g,i,none⟩=false:=fun r u hr hu=>by
  have hq:=own_cell h ((fl_get cj 5 cj_len js i r j hj hr).trans hu)
  refine⟨hq.1,fun i=>?_⟩
  rcases h.2 with ⟨e,_⟩ | ⟨g',cap',cur,e1,hb,hg,_⟩
  ·simp at e
  ·simp only [Value.slice.injEq,Option.some.injEq,Addr.mk.injEq] at e1
   obtain⟨⟨rfl,_⟩,_⟩:=e1
   exact fOb hg
 exact⟨g,c,rfl,⟨(hc 0 _ (by omega) rfl).1,(hc 1 _ (by omega) rfl).1,(hc 2 _ (by omega) rfl).1,(hc 3 _ (by omega) rfl).1,(hc 4 _ (by omega) rfl).1,(hc 0 _ (by omega) rfl).2⟩⟩
theorem own_task {w:World} {base:Nat} {tv:Value} {xs:List Tq} (h:w.ownsRow base 126 5 tv xs.length (xs.flatMap cq)) {i:Nat} {x:Tq} (hj:xs[i]?=some x):∃ g c,tv=.slice (some ⟨g,0,none⟩) xs.length c/\Q5 w g (i * 5) x:=by
 obtain⟨g,c,rfl,hg,hl⟩:=own_addr h (List.getElem?_eq_some_iff.mp hj).1
 have hc:∀ r u,r < 5->(cq x)[r]?=some u->w.cell? ⟨g,i * 5+r,none⟩=some u/\∀ i,w.frozen? ⟨g,i,none⟩=false:=fun r u hr hu=>by
  have hq:=own_cell h ((fl_get cq 5 cq_len xs i r x hj hr).trans hu)
  refine⟨hq.1,fun i=>?_⟩
  rcases h.2 with ⟨e,_⟩ | ⟨g',cap',cur,e1,hb,hg,_⟩
  ·simp at e
  ·simp only [Value.slice.injEq,Option.some.injEq,Addr.mk.injEq] at e1
   obtain⟨⟨rfl,_⟩,_⟩:=e1
   exact fOb hg
 exact⟨g,c,rfl,⟨(hc 0 _ (by omega) rfl).1,(hc 1 _ (by omega) rfl).1,(hc 2 _ (by omega) rfl).1,(hc 3 _ (by omega) rfl).1,(hc 4 _ (by omega) rfl).1,(hc 0 _ (by omega) rfl).2⟩⟩
theorem before_is (w:World) (a b:Jb):Calls Tryz.prog 130 #[vJ a,vJ b] w fun e w'=>e=.returned (.bool (decide (a.tk < b.tk)))/\Below w.heap.size w w':=by
 obtain⟨ta,ra,da,la,na⟩:=a
 obtain⟨tb,rb,db,lb,nb⟩:=b
 go_enter Tryz.func130,Tryz.ntmps130
 go_wp2
 go_ret
 exact⟨by simp,ba (ba (Below.refl _ _) _) _⟩
theorem earlier_is (w:World) (a b:Jb):Calls Tryz.prog 129 #[vJ a,vJ b] w fun e w'=>e=.returned (.bool (ahd 1 a b))/\Below w.heap.size w w':=by
 obtain⟨ta,ra,da,la,na⟩:=a
 obtain⟨tb,rb,db,lb,nb⟩:=b
 by_cases e:da=db
 ·subst e
  have ea:ahd 1 ⟨ta,ra,da,la,na⟩ ⟨tb,rb,da,lb,nb⟩=decide (ta < tb):=by simp [ahd]
  rw [ea]
  go_enter Tryz.func129,Tryz.ntmps129
  go_wp2_with (go_at_call 130;refine(before_is _ ⟨ta,ra,da,la,na⟩ ⟨tb,rb,da,lb,nb⟩).mono ?_;rintro e w2 ⟨rfl,b2⟩;have HB2:=mH (bt (ba (ba (Below.refl _ w) _) _) b2);clear b2)
  go_ret
  exact⟨rfl,HB2.out⟩
 ·have ea:ahd 1 ⟨ta,ra,da,la,na⟩ ⟨tb,rb,db,lb,nb⟩=decide (da < db):=by simp [ahd,e]
  rw [ea]
  go_enter Tryz.func129,Tryz.ntmps129
  go_wp2
  go_ret
  exact⟨rfl,ba (ba (Below.refl _ _) _) _⟩
theorem rule_is (w:World) (p:Int) (hp:p=1 ∨ p=2):Calls Tryz.prog 104 #[.int .i64 p] w fun e w'=>e=.returned (.func (.func (rul p)) #[] #[])/\w'=w:=by
 rcases hp with rfl | rfl
 all_goals
  go_enter Tryz.func104,Tryz.ntmps104
  go_wp2
  go_ret
  exact⟨rfl,rfl⟩
theorem work_is (base:Nat) (w:World) (b:Nat) (p:Int) (tv jv:Value) (s:Gt) (h:GB base w b p tv jv s):Calls Tryz.prog 76 #[.pointer (some ⟨b,0,none⟩)] w fun e w'=>e=.returned (.bool (decide (0 < (s.js.length:Int))))/\w'=w:=by
 have c1:=h.c1
 obtain⟨a,c,rfl,hc⟩:=own_sh h.jown
 clear h
 go_enter Tryz.func76,Tryz.ntmps76
 go_wp2
 go_ret
 exact⟨by simp,rfl⟩
set_option maxHeartbeats 1600000 in
theorem holds_is (base:Nat) (w:World) (b:Nat) (p:Int) (tv jv:Value) (s:Gt) (j:Jb) (h:GB base w b p tv jv s) (hj:j.tk < s.xs.length):Calls Tryz.prog 105 #[.pointer (some ⟨b,0,none⟩),vJ j] w fun e w'=>e=.returned (.bool (hol s.ts j))/\Below w.heap.size w w':=by
 obtain⟨x,hx⟩:∃ x,s.xs[j.tk]?=some x:=⟨_,List.getElem?_eq_getElem hj⟩
 have eS:=tkS_at (ts_at hx)
 obtain⟨g,c,rfl,q⟩:=own_task h.town hx
 have c0:=h.c0
 have q3:=q.c3
 have hB:=GB.lt h
 clear q h
 unfold hol
 rw [eS]
 clear eS
 obtain⟨⟨xc,xp,xd,xS⟩,xa⟩:=x
 simp only at q3 ⊢
 obtain⟨k,rl,dl,lf,dn⟩:=j
 simp only at q3 hj ⊢
 have hji:(k:Int) < s.xs.length:=by omega
 clear hx
 by_cases e1:0 < dn
 ·by_cases e2:dn < xS
  ·rw [decide_eq_true e1,decide_eq_true e2]
   go_enter Tryz.func105,Tryz.ntmps105
   go_wp2
   go_quiet (fail)
   go_wp2
   go_ret
   exact⟨rfl,⟨rfl,rfl,rfl,by simp,fun _ hk=>heap_alloc_old w _ hk⟩⟩
  ·rw [decide_eq_true e1,decide_eq_false e2]
   have n2:decide (dn < xS)=false:=decide_eq_false e2
   go_enter Tryz.func105,Tryz.ntmps105
   go_wp2
   go_quiet (fail)
   go_wp2
   go_ret
   exact⟨by simp,⟨rfl,rfl,rfl,by simp,fun _ hk=>heap_alloc_old w _ hk⟩⟩
 ·rw [decide_eq_false e1]
  have n1:decide (0 < dn)=false:=decide_eq_false e1
  go_enter Tryz.func105,Tryz.ntmps105
  go_wp2
  go_quiet (fail)
  go_wp2
  go_ret
  exact⟨rfl,⟨rfl,rfl,rfl,by simp,fun _ hk=>heap_alloc_old w _ hk⟩⟩
theorem below_drewG {B:Nat} {W w:World} (h:Below B W w) (n:Nat):Below B W (w.drewN n):=⟨h.os,h.tape,h.output,h.size,h.block⟩
theorem ahd2 (a b:Jb):ahd 2 a b=decide (a.tk < b.tk):=by simp [ahd]
theorem GB.okj {base:Nat} {w:World} {b:Nat} {p:Int} {tv jv:Value} {s:Gt} (_:GB base w b p tv jv s) (ok:s.Ok p) {i:Nat} {j:Jb} (hj:s.js[i]?=some j):j.tk < s.xs.length:=by
 obtain⟨x,hx,_⟩:=ok.j i j hj
 exact(List.getElem?_eq_some_iff.mp hx).1
set_option maxHeartbeats 3200000 in
theorem next_1 (base:Nat) (w:World) (b:Nat) (tv jv:Value) (s:Gt) (h:GB base w b 1 tv jv s) (ok:s.Ok 1) (hl:0 < s.js.length):Calls Tryz.prog 79 #[.pointer (some ⟨b,0,none⟩)] w fun e w'=>e=.returned (.int .i64 (nx 1 s.ts s.js:Int))/\Below w.heap.size w w':=by
 obtain⟨x0,hx0⟩:∃ x0,s.js[0]?=some x0:=⟨_,List.getElem?_eq_getElem hl⟩
 obtain⟨g,c,rfl,_⟩:=own_job h.jown hx0
 have HG:=mH h
 have HOK:=mH ok
 have hln:s.js.length<=64:=ok.l
 have c1:=h.c1
 clear h ok hx0
 go_enter Tryz.func79,Tryz.ntmps79
 go_wp2
 go_loopw [3,11] (fun bv iv wr=>∃ k m:Nat,bv=.int .i64 (m:Int)/\iv=.int .i64 (k:Int)/\k<=s.js.length/\m < s.js.length/\Hid (m=bst 1 s.js k)/\Hid (∀ (i:Nat) (x:Jb),i < k->s.js[i]?=some x->hol s.ts x=false)/\Hid (Below w.heap.size w wr)) (fun _ iv _=>s.js.length - (intOf iv).toNat)
 case atStart=>exact⟨0,0,rfl,rfl,Nat.zero_le _,hl,rfl,mH (fun i x hi=>by omega),Below.refl _ _⟩
 case round=>
  obtain⟨k,m,rfl,rfl,hk,hm,HM,HN,HB⟩:=hrel
  clear c1
  have HGR:=mH (HG.out.below HB.out)
  have c1:=HGR.out.c1
  by_cases hlt:k < s.js.length
  ·obtain⟨x,hx⟩:∃ x,s.js[k]?=some x:=⟨_,List.getElem?_eq_getElem hlt⟩
   obtain⟨y,hy⟩:∃ y,s.js[m]?=some y:=⟨_,List.getElem?_eq_getElem hm⟩
   obtain⟨g',c',e,qx⟩:=own_job HGR.out.jown hx
   simp only [Value.slice.injEq,Option.some.injEq,Addr.mk.injEq] at e
   obtain⟨⟨rfl,_⟩,_,rfl⟩:=e
   obtain⟨g',c',e,qy⟩:=own_job HGR.out.jown hy
   simp only [Value.slice.injEq,Option.some.injEq,Addr.mk.injEq] at e
   obtain⟨⟨rfl,_⟩,_,rfl⟩:=e
   obtain⟨x0,x1,x2,x3,x4,_⟩:=qx
   obtain⟨y0,y1,y2,y3,y4,_⟩:=qy
   have hki:(k:Int) < s.js.length:=by omega
   have hmi:(m:Int) < s.js.length:=by omega
   have HJ:=mH (HGR.out.okj HOK.out hx)
   have HX:=mH (And.intro hx hy)
   have c2:wr.cell? ⟨b,2,none⟩=some (.func (.func 129) #[] #[]):=HGR.out.c2
   obtain⟨H,hH⟩:∃ H,H=hol s.ts x:=⟨_,rfl⟩
   obtain⟨A,hA⟩:∃ A,A=ahd 1 x y:=⟨_,rfl⟩
   have HH:=mH hH
   have HA:=mH hA
   clear hx hy hH hA
   obtain⟨tx,rx,dx,lx,ex⟩:=x
   obtain⟨ty,ry,dy,ly,ey⟩:=y
   simp only at x0 x1 x2 x3 x4 y0 y1 y2 y3 y4
   have HC:Hid (∀ W,Below wr.heap.size wr W->Calls Tryz.prog 105 #[.pointer (some ⟨b,0,none⟩),vJ ⟨tx,rx,dx,lx,ex⟩] W fun e w'=>e=.returned (.bool H)/\Below W.heap.size W w'):=mH (fun W hW=>by rw [HH.out];exact holds_is base W b 1 tv _ s _ (HGR.out.below hW) HJ.out)
   have HD:Hid (∀ W,Calls Tryz.prog 129 #[vJ ⟨tx,rx,dx,lx,ex⟩,vJ ⟨ty,ry,dy,ly,ey⟩] W fun e w'=>e=.returned (.bool A)/\Below W.heap.size W w'):=mH (fun W=>by rw [HA.out];exact earlier_is W _ _)
   cases H
   ·go_wp2_with (go_at_call 105;refine(HC.out _ (ba (Below.refl _ wr) _)).mono ?_;rintro e w1 ⟨rfl,b1⟩;obtain⟨hn1,hb1⟩:=new_last b1;have HB1:=mH hb1;have HN1:=mH hn1;have HB1O:=mH b1;clear b1 hn1 hb1;have d1:=kc c1 HB1.out;have d2:=kc c2 HB1.out;obtain⟨z0,z1,z2,z3,z4,_⟩:=J5.of_blk (j:=⟨tx,rx,dx,lx,ex⟩) HN1.out;have v0:=kc y0 HB1.out;have v1:=kc y1 HB1.out;have v2:=kc y2 HB1.out;have v3:=kc y3 HB1.out;have v4:=kc y4 HB1.out;simp only [Nat.zero_add] at z0 z1 z2 z3 z4)
    clear c1 c2 x0 x1 x2 x3 x4 y0 y1 y2 y3 y4
    go_region_held3 (fun w'=>w'.cell? ⟨b,1,none⟩=some (.slice (some ⟨g,0,none⟩) s.js.length c)/\w'.cell? ⟨b,2,none⟩=some (.func (.func 129) #[] #[])/\w'.cell? ⟨wr.heap.size,0,none⟩=some (.int .i64 (tx:Int))/\w'.cell? ⟨wr.heap.size,1,none⟩=some (.int .i64 rx)/\w'.cell? ⟨wr.heap.size,2,none⟩=some (.int .i64 dx)/\w'.cell? ⟨wr.heap.size,3,none⟩=some (.int .i64 lx)/\w'.cell? ⟨wr.heap.size,4,none⟩=some (.int .i64 ex)/\w'.cell? ⟨g,m * 5,none⟩=some (.int .i64 (ty:Int))/\w'.cell? ⟨g,m * 5+1,none⟩=some (.int .i64 ry)/\w'.cell? ⟨g,m * 5+2,none⟩=some (.int .i64 dy)/\w'.cell? ⟨g,m * 5+3,none⟩=some (.int .i64 ly)/\w'.cell? ⟨g,m * 5+4,none⟩=some (.int .i64 ey)) (go_keep) (first | (go_at_call 129;refine(HD.out _).mono ?_;rintro e w2 ⟨rfl,b2⟩;have HB2:=mH (bt (bt (ba HB.out _) HB1O.out).drew b2);have k1:=kc (show w1.drew.cell? _=_ from d1) b2;have k2:=kc (show w1.drew.cell? _=_ from d2) b2;have k3:=kc (show w1.drew.cell? _=_ from z0) b2;have k4:=kc (show w1.drew.cell? _=_ from z1) b2;have k5:=kc (show w1.drew.cell? _=_ from z2) b2;have k6:=kc (show w1.drew.cell? _=_ from z3) b2;have k7:=kc (show w1.drew.cell? _=_ from z4) b2;have k8:=kc (show w1.drew.cell? _=_ from v0) b2;have k9:=kc (show w1.drew.cell? _=_ from v1) b2;have k10:=kc (show w1.drew.cell? _=_ from v2) b2;have k11:=kc (show w1.drew.cell? _=_ from v3) b2;have k12:=kc (show w1.drew.cell? _=_ from v4) b2;clear b2))
    all_goals
     have HS:=mH (bst_step HX.out.1 (by rw [<- HM.out];exact HX.out.2))
     have HNN:Hid (∀ (i:Nat) (x:Jb),i < k+1->s.js[i]?=some x->hol s.ts x=false):=mH (fun i x hi hx=>by
      by_cases e:i=k
      ·subst e
       rw [HX.out.1] at hx
       rw [<- Option.some.inj hx]
       exact HH.out.symm
      ·exact HN.out i x (by omega) hx)
     cases A
     ·go_wp2
      go_roundw
      case rel=>exact⟨k+1,m,rfl,by go_num,by omega,hm,mH (by rw [HS.out,<- HA.out,<- HM.out];rfl),HNN,HB2⟩
      case measure=>simp [intOf];omega
     ·go_wp2
      go_roundw
      case rel=>exact⟨k+1,k,rfl,by go_num,by omega,hlt,mH (by rw [HS.out,<- HA.out];rfl),HNN,HB2⟩
      case measure=>simp [intOf];omega
   ·go_wp2_with (go_at_call 105;refine(HC.out _ (ba (Below.refl _ wr) _)).mono ?_;rintro e w1 ⟨rfl,b1⟩;have HB1:=mH (bt (ba HB.out _) b1);clear b1)
    go_ret
    exact⟨by rw [nx_hol HX.out.1 HH.out.symm HN.out];rfl,HB1.out⟩
  ·obtain rfl:k=s.js.length:=by omega
   go_wp2
   go_ret
   exact⟨by rw [nx_none (fun i x hx=>HN.out i x (List.getElem?_eq_some_iff.mp hx).1 hx),<- HM.out];rfl,HB.out⟩
set_option maxHeartbeats 3200000 in
theorem next_2 (base:Nat) (w:World) (b:Nat) (tv jv:Value) (s:Gt) (h:GB base w b 2 tv jv s) (ok:s.Ok 2) (hl:0 < s.js.length):Calls Tryz.prog 79 #[.pointer (some ⟨b,0,none⟩)] w fun e w'=>e=.returned (.int .i64 (nx 2 s.ts s.js:Int))/\Below w.heap.size w w':=by
 obtain⟨x0,hx0⟩:∃ x0,s.js[0]?=some x0:=⟨_,List.getElem?_eq_getElem hl⟩
 obtain⟨g,c,rfl,_⟩:=own_job h.jown hx0
 have HG:=mH h
 have HOK:=mH ok
 have hln:s.js.length<=64:=ok.l
 have c1:=h.c1
 clear h ok hx0
 go_enter Tryz.func79,Tryz.ntmps79
 go_wp2
 go_loopw [3,11] (fun bv iv wr=>∃ k m:Nat,bv=.int .i64 (m:Int)/\iv=.int .i64 (k:Int)/\k<=s.js.length/\m < s.js.length/\Hid (m=bst 2 s.js k)/\Hid (∀ (i:Nat) (x:Jb),i < k->s.js[i]?=some x->hol s.ts x=false)/\Hid (Below w.heap.size w wr)) (fun _ iv _=>s.js.length - (intOf iv).toNat)
 case atStart=>exact⟨0,0,rfl,rfl,Nat.zero_le _,hl,rfl,mH (fun i x hi=>by omega),Below.refl _ _⟩
 case round=>
  obtain⟨k,m,rfl,rfl,hk,hm,HM,HN,HB⟩:=hrel
  clear c1
  have HGR:=mH (HG.out.below HB.out)
  have c1:=HGR.out.c1
  by_cases hlt:k < s.js.length
  ·obtain⟨x,hx⟩:∃ x,s.js[k]?=some x:=⟨_,List.getElem?_eq_getElem hlt⟩
   obtain⟨y,hy⟩:∃ y,s.js[m]?=some y:=⟨_,List.getElem?_eq_getElem hm⟩
   obtain⟨g',c',e,qx⟩:=own_job HGR.out.jown hx
   simp only [Value.slice.injEq,Option.some.injEq,Addr.mk.injEq] at e
   obtain⟨⟨rfl,_⟩,_,rfl⟩:=e
   obtain⟨g',c',e,qy⟩:=own_job HGR.out.jown hy
   simp only [Value.slice.injEq,Option.some.injEq,Addr.mk.injEq] at e
   obtain⟨⟨rfl,_⟩,_,rfl⟩:=e
   obtain⟨x0,x1,x2,x3,x4,_⟩:=qx
   obtain⟨y0,y1,y2,y3,y4,_⟩:=qy
   have hki:(k:Int) < s.js.length:=by omega
   have hmi:(m:Int) < s.js.length:=by omega
   have HJ:=mH (HGR.out.okj HOK.out hx)
   have HX:=mH (And.intro hx hy)
   have c2:wr.cell? ⟨b,2,none⟩=some (.func (.func 130) #[] #[]):=HGR.out.c2
   obtain⟨H,hH⟩:∃ H,H=hol s.ts x:=⟨_,rfl⟩
   obtain⟨A,hA⟩:∃ A,A=ahd 2 x y:=⟨_,rfl⟩
   have HH:=mH hH
   have HA:=mH hA
   clear hx hy hH hA
   obtain⟨tx,rx,dx,lx,ex⟩:=x
   obtain⟨ty,ry,dy,ly,ey⟩:=y
   simp only at x0 x1 x2 x3 x4 y0 y1 y2 y3 y4
   have HC:Hid (∀ W,Below wr.heap.size wr W->Calls Tryz.prog 105 #[.pointer (some ⟨b,0,none⟩),vJ ⟨tx,rx,dx,lx,ex⟩] W fun e w'=>e=.returned (.bool H)/\Below W.heap.size W w'):=mH (fun W hW=>by rw [HH.out];exact holds_is base W b 2 tv _ s _ (HGR.out.below hW) HJ.out)
   have HD:Hid (∀ W,Calls Tryz.prog 130 #[vJ ⟨tx,rx,dx,lx,ex⟩,vJ ⟨ty,ry,dy,ly,ey⟩] W fun e w'=>e=.returned (.bool A)/\Below W.heap.size W w'):=mH (fun W=>by rw [HA.out];exact(by rw [ahd2];exact before_is W _ _))
   cases H
   ·go_wp2_with (go_at_call 105;refine(HC.out _ (ba (Below.refl _ wr) _)).mono ?_;rintro e w1 ⟨rfl,b1⟩;obtain⟨hn1,hb1⟩:=new_last b1;have HB1:=mH hb1;have HN1:=mH hn1;have HB1O:=mH b1;clear b1 hn1 hb1;have d1:=kc c1 HB1.out;have d2:=kc c2 HB1.out;obtain⟨z0,z1,z2,z3,z4,_⟩:=J5.of_blk (j:=⟨tx,rx,dx,lx,ex⟩) HN1.out;have v0:=kc y0 HB1.out;have v1:=kc y1 HB1.out;have v2:=kc y2 HB1.out;have v3:=kc y3 HB1.out;have v4:=kc y4 HB1.out;simp only [Nat.zero_add] at z0 z1 z2 z3 z4)
    clear c1 c2 x0 x1 x2 x3 x4 y0 y1 y2 y3 y4
    go_region_held3 (fun w'=>w'.cell? ⟨b,1,none⟩=some (.slice (some ⟨g,0,none⟩) s.js.length c)/\w'.cell? ⟨b,2,none⟩=some (.func (.func 130) #[] #[])/\w'.cell? ⟨wr.heap.size,0,none⟩=some (.int .i64 (tx:Int))/\w'.cell? ⟨wr.heap.size,1,none⟩=some (.int .i64 rx)/\w'.cell? ⟨wr.heap.size,2,none⟩=some (.int .i64 dx)/\w'.cell? ⟨wr.heap.size,3,none⟩=some (.int .i64 lx)/\w'.cell? ⟨wr.heap.size,4,none⟩=some (.int .i64 ex)/\w'.cell? ⟨g,m * 5,none⟩=some (.int .i64 (ty:Int))/\w'.cell? ⟨g,m * 5+1,none⟩=some (.int .i64 ry)/\w'.cell? ⟨g,m * 5+2,none⟩=some (.int .i64 dy)/\w'.cell? ⟨g,m * 5+3,none⟩=some (.int .i64 ly)/\w'.cell? ⟨g,m * 5+4,none⟩=some (.int .i64 ey)) (go_keep) (first | (go_at_call 130;refine(HD.out _).mono ?_;rintro e w2 ⟨rfl,b2⟩;have HB2:=mH (bt (bt (ba HB.out _) HB1O.out).drew b2);have k1:=kc (show w1.drew.cell? _=_ from d1) b2;have k2:=kc (show w1.drew.cell? _=_ from d2) b2;have k3:=kc (show w1.drew.cell? _=_ from z0) b2;have k4:=kc (show w1.drew.cell? _=_ from z1) b2;have k5:=kc (show w1.drew.cell? _=_ from z2) b2;have k6:=kc (show w1.drew.cell? _=_ from z3) b2;have k7:=kc (show w1.drew.cell? _=_ from z4) b2;have k8:=kc (show w1.drew.cell? _=_ from v0) b2;have k9:=kc (show w1.drew.cell? _=_ from v1) b2;have k10:=kc (show w1.drew.cell? _=_ from v2) b2;have k11:=kc (show w1.drew.cell? _=_ from v3) b2;have k12:=kc (show w1.drew.cell? _=_ from v4) b2;clear b2))
    all_goals
     have HS:=mH (bst_step HX.out.1 (by rw [<- HM.out];exact HX.out.2))
     have HNN:Hid (∀ (i:Nat) (x:Jb),i < k+1->s.js[i]?=some x->hol s.ts x=false):=mH (fun i x hi hx=>by
      by_cases e:i=k
      ·subst e
       rw [HX.out.1] at hx
       rw [<- Option.some.inj hx]
       exact HH.out.symm
      ·exact HN.out i x (by omega) hx)
     cases A
     ·go_wp2
      go_roundw
      case rel=>exact⟨k+1,m,rfl,by go_num,by omega,hm,mH (by rw [HS.out,<- HA.out,<- HM.out];rfl),HNN,HB2⟩
      case measure=>simp [intOf];omega
     ·go_wp2
      go_roundw
      case rel=>exact⟨k+1,k,rfl,by go_num,by omega,hlt,mH (by rw [HS.out,<- HA.out];rfl),HNN,HB2⟩
      case measure=>simp [intOf];omega
   ·go_wp2_with (go_at_call 105;refine(HC.out _ (ba (Below.refl _ wr) _)).mono ?_;rintro e w1 ⟨rfl,b1⟩;have HB1:=mH (bt (ba HB.out _) b1);clear b1)
    go_ret
    exact⟨by rw [nx_hol HX.out.1 HH.out.symm HN.out];rfl,HB1.out⟩
  ·obtain rfl:k=s.js.length:=by omega
   go_wp2
   go_ret
   exact⟨by rw [nx_none (fun i x hx=>HN.out i x (List.getElem?_eq_some_iff.mp hx).1 hx),<- HM.out];rfl,HB.out⟩
theorem set5k (F:Nat->Prop) (w:World) (R:Nat) (h:F R) (v0 v1 v2 v3 v4:Value):Kept F w (((((w.setCell ⟨R,0,none⟩ v0).setCell ⟨R,1,none⟩ v1).setCell ⟨R,2,none⟩ v2).setCell ⟨R,3,none⟩ v3).setCell ⟨R,4,none⟩ v4):=
 kset (kset (kset (kset (kset (Kept.refl F w) (.inl h) 0 v0) (.inl h) 1 v1) (.inl h) 2 v2) (.inl h) 3 v3) (.inl h) 4 v4
theorem next_is (base:Nat) (w:World) (b:Nat) (p:Int) (tv jv:Value) (s:Gt) (h:GB base w b p tv jv s) (ok:s.Ok p) (hl:0 < s.js.length):Calls Tryz.prog 79 #[.pointer (some ⟨b,0,none⟩)] w fun e w'=>e=.returned (.int .i64 (nx p s.ts s.js:Int))/\Below w.heap.size w w':=by
 rcases ok.pol with rfl | rfl
 ·exact next_1 base w b tv jv s h ok hl
 ·exact next_2 base w b tv jv s h ok hl
def lateN (now:Int) (js:List Jb):Nat:=js.countP (fun j=>decide (j.dl<=now))
theorem late_step {now:Int} {js:List Jb} {k:Nat} {x:Jb} (hx:js[k]?=some x):lateN now (js.take (k+1))=lateN now (js.take k)+(if x.dl<=now then 1 else 0):=by
 unfold lateN
 rw [List.take_add_one,hx,List.countP_append]
 simp [List.countP_cons]
set_option maxHeartbeats 1600000 in
theorem late_is (base:Nat) (w:World) (b:Nat) (p:Int) (tv jv:Value) (s:Gt) (now:Int) (h:GB base w b p tv jv s) (hl:s.js.length<=64):Calls Tryz.prog 44 #[.pointer (some ⟨b,0,none⟩),.int .i64 now] w fun e w'=>e=.returned (.int .i64 (lateN now s.js:Int))/\Below w.heap.size w w':=by
 have c1:=h.c1
 obtain⟨a,c,rfl,hc⟩:=own_sh h.jown
 have HG:=mH h
 clear h hc
 go_enter Tryz.func44,Tryz.ntmps44
 go_wp2
 go_loopw [5,13] (fun cv iv wr=>∃ k n:Nat,cv=.int .i64 (n:Int)/\iv=.int .i64 (k:Int)/\k<=s.js.length/\n<=k/\Hid (n=lateN now (s.js.take k))/\Hid (Below w.heap.size w wr)) (fun _ iv _=>s.js.length - (intOf iv).toNat)
 case atStart=>exact⟨0,0,rfl,rfl,Nat.zero_le _,Nat.le_refl _,rfl,Below.refl _ _⟩
 case round=>
  obtain⟨k,n,rfl,rfl,hk,hnk,HN,HB⟩:=hrel
  clear c1
  by_cases hlt:k < s.js.length
  ·obtain⟨x,hx⟩:∃ x,s.js[k]?=some x:=⟨_,List.getElem?_eq_getElem hlt⟩
   obtain⟨g,c',e,qx⟩:=own_job (HG.out.below HB.out).jown hx
   simp only [Value.slice.injEq] at e
   obtain⟨rfl,_,rfl⟩:=e
   obtain⟨x0,x1,x2,x3,x4,_⟩:=qx
   have hki:(k:Int) < s.js.length:=by omega
   have HS:=mH (late_step (now:=now) hx)
   clear hx
   obtain⟨tx,rx,dx,lx,ex⟩:=x
   simp only at x0 x1 x2 x3 x4
   by_cases hd:dx<=now
   ·go_wp2
    go_roundw
    case rel=>exact⟨k+1,n+1,by go_num,by go_num,by omega,by omega,mH (by rw [HS.out,<- HN.out,if_pos hd]),mH (ba HB.out _)⟩
    case measure=>simp [intOf];omega
   ·go_wp2
    go_roundw
    case rel=>exact⟨k+1,n,rfl,by go_num,by omega,by omega,mH (by rw [HS.out,<- HN.out,if_neg hd];rfl),mH (ba HB.out _)⟩
    case measure=>simp [intOf];omega
  ·obtain rfl:k=s.js.length:=by omega
   have HT:Hid (n=lateN now s.js):=mH (by rw [HN.out,List.take_of_length_le (Nat.le_refl _)])
   go_wp2
   go_ret
   exact⟨by rw [<- HT.out];rfl,HB.out⟩
theorem sizeJ (W:World):(Go.sizeOf 55).run Tryz.prog W=.ok 5 W:=by
 obtain⟨i,hi,_,hs,_⟩:=info_parts info_job
 simp [Go.sizeOf,typeInfo,hi,hs]
theorem elemJ:Tryz.prog.underlying 64=some (.slice (Tryz.prog.elem 64))/\Tryz.prog.elem 64=55:=by
 constructor <;> kernel_rfl
set_option maxHeartbeats 12800000 in
theorem delJ_is (base:Nat) (w:World) (g cap J:Nat) (ps:List Jb) (hown:w.ownsRow base 55 5 (.slice (some ⟨g,0,none⟩) ps.length cap) ps.length (ps.flatMap cj)) (hl:ps.length<=1000) (hJ:J < ps.length) :
  Calls Tryz.prog 80 #[.slice (some ⟨g,0,none⟩) ps.length cap,.int .i64 (J:Int),.int .i64 ((J:Int)+1)] w fun e w'=>e=.returned (.slice (some ⟨g,0,none⟩) (ps.length - 1) cap)/\w'.ownsRow base 55 5 (.slice (some ⟨g,0,none⟩) (ps.length - 1) cap) (ps.length - 1) ((ps.eraseIdx J).flatMap cj)/\Kept (fun k=>k=g) w w':=by
 obtain⟨ie,hi,hz0,hz1,hz2⟩:=info_parts info_job
 have hie:=mH (And.intro hi (And.intro hz0 (And.intro hz1 hz2)))
 clear hi hz0 hz1 hz2
 have hcap:ps.length<=cap:=by obtain⟨_,_,e,h⟩:=own_sh hown;simp only [Value.slice.injEq] at e;rw [e.2.2];exact h
 have HO:=mH hown
 have hsl0:∀ W,(Instr.slice 64 (.slice (some ⟨g,0,none⟩) ps.length cap) (some (.int .i64 (J:Int))) (some (.int .i64 ((J:Int)+1))) (some (.int .i64 (ps.length:Int)))).run Tryz.prog W=.ok (Go.sliced (some ⟨g,0,none⟩) J (J+1) ps.length 5) W:=fun W=>by
  rw [run_slice_lhm W 64 _ _ _ elemJ.1 .i64 .i64 .i64 _ _ _ (by omega) (by omega) (by omega) (by omega),elemJ.2,sizeJ]
  simp only [Result.andThen]
  rfl
 have hsl1:∀ W,(Instr.slice 64 (.slice (some ⟨g,0,none⟩) ps.length cap) none (some (.int .i64 (J:Int))) none).run Tryz.prog W=.ok (.slice (some ⟨g,0,none⟩) J cap) W:=fun W=>by
  rw [run_slice_h W 64 _ _ _ elemJ.1 .i64 _ (by omega) (by omega),elemJ.2,sizeJ]
  simp only [Result.andThen,Go.sliced]
  simp [add_none]
 obtain⟨SV,hSV⟩:∃ SV,SV=Go.sliced (some ⟨g,0,none⟩) (J+1) ps.length cap 5:=⟨_,rfl⟩
 have hsl2:∀ W,(Instr.slice 64 (.slice (some ⟨g,0,none⟩) ps.length cap) (some (.int .i64 ((J:Int)+1))) none none).run Tryz.prog W=.ok SV W:=fun W=>by
  rw [run_slice_l W 64 _ _ _ elemJ.1 .i64 _ (by omega) (by omega),elemJ.2,sizeJ,hSV]
  simp only [Result.andThen]
  rfl
 have HSR:Hid (∀ W,Below w.heap.size w W->Src Tryz.prog 5 64 SV (ps.drop (J+1)).length ((ps.drop (J+1)).flatMap cj) W):=mH (fun W hW=>by
  refine RowIn.src Tryz.underlying64 (by omega) cj_len onej (RowIn.below ?_ hW)
  rw [hSV]
  unfold Go.sliced
  by_cases hc:cap=J+1
  ·have:ps.drop (J+1)=[]:=by rw [List.drop_eq_nil_iff];omega
   rw [if_pos hc,this]
   exact⟨_,_,by rw [show ps.length - (J+1)=0 by omega];rfl,Nat.zero_le _,by simp,fun hp=>by simp at hp⟩
  ·rw [if_neg hc]
   refine⟨_,_,by rw [List.length_drop],by rw [List.length_drop];omega,by rw [List.length_drop];omega,fun hp=>⟨g,(J+1) * 5,by simp [add_none],fun i x hx r u hr hu=>?_⟩⟩
   rw [List.getElem?_drop] at hx
   have:=(own_cell HO.out ((fl_get cj 5 cj_len ps (J+1+i) r x hx hr).trans hu)).1
   rw [show (J+1) * 5+i * 5+r=(J+1+i) * 5+r by omega]
   exact this)
 have HO1:Hid (w.ownsRow base 55 5 (.slice (some ⟨g,0,none⟩) J cap) J ((ps.take J).flatMap cj)):=mH (by
  have:=own_shorter (m:=J) HO.out (by omega)
  rwa [fl_take cj 5 cj_len] at this)
 have hne:((J:Int) == (J:Int)+1)=false:=by simp;omega
 have hsl3:∀ W,(Instr.slice 64 (.slice (some ⟨g,0,none⟩) (ps.length - 1) cap) (some (.int .i64 ((ps.length - 1:Nat):Int))) (some (.int .i64 (ps.length:Int))) none).run Tryz.prog W=.ok (.slice (some ⟨g,(ps.length - 1) * 5,none⟩) (ps.length - (ps.length - 1)) (cap - (ps.length - 1))) W:=fun W=>by
  rw [run_slice_lh W 64 _ _ _ elemJ.1 .i64 .i64 _ _ (by omega) (by omega) (by omega),elemJ.2,sizeJ]
  simp only [Result.andThen,Go.sliced]
  rw [if_neg (by simp;omega)]
  simp [add_none]
 clear hown hSV
 go_enter Tryz.func80,Tryz.ntmps80
 go_wp2
 refine wp_region_held_drew (S:=fun _=>True) (by kernel_rfl) trivial (fun hHeld=>?_)
 refine tkE 0 20 (.slice (some ⟨g,0,none⟩) ps.length cap) rfl rfl hHeld ?_
 simp only [sZ,sS]
 refine tkE 1 21 (.int .i64 (J:Int)) rfl rfl hHeld ?_
 simp only [sZ,sS]
 refine takeD 2 22 (.slice (some ⟨g,0,none⟩) J cap) rfl rfl (by kernel_rfl) (by kernel_rfl) (by kernel_rfl) (fun _ _ _ h=>h) (Or.inl ⟨by kernel_rfl,by intro w _;exact yields_slice (t:=64) rfl elemJ.1 (by simpa [Act.eval] using hsl1) w⟩) hHeld ?_
 simp only [sZ,sS]
 refine tkE 3 23 (.slice (some ⟨g,0,none⟩) ps.length cap) rfl rfl hHeld ?_
 simp only [sZ,sS]
 refine tkE 4 24 (.int .i64 ((J:Int)+1)) rfl rfl hHeld ?_
 simp only [sZ,sS]
 refine takeD 5 25 (SV) rfl rfl (by kernel_rfl) (by kernel_rfl) (by kernel_rfl) (fun _ _ _ h=>h) (Or.inl ⟨by kernel_rfl,by intro w _;exact yields_slice (t:=64) rfl elemJ.1 (by simpa [Act.eval] using hsl2) w⟩) hHeld ?_
 simp only [sZ,sS]
 refine wpAnyH_ready (rs:=[6]) (by kernel_rfl) (by simp) (AllReadyH.cons rfl (fun K hK=>?_) AllReadyH.nil)
 refine step_append_room5 (w:=w.drew) rfl (.tmp 22) (.tmp 25) 64 64 rfl base 55 ie Tryz.underlying64 hie.out.1 hie.out.2.2.1 g J cap ((ps.take J).flatMap cj) (by simp [Act.eval]) (oNk HO1.out (Kept.drew (fun _=>False) w) (fun _ _ h=>h)) SV (ps.drop (J+1)).length ((ps.drop (J+1)).flatMap cj) (by simp [Act.eval]) (HSR.out _ (Below.refl _ w).drew) (by rw [List.length_drop];omega) ?_
 intro w4 ho4 hg4
 have elen:J+(ps.drop (J+1)).length=ps.length - 1:=by rw [List.length_drop];omega
 rw [elen] at ho4 ⊢
 rw [<- List.flatMap_append,<- List.eraseIdx_eq_take_drop_succ] at ho4
 have HO4:=mH ho4
 have HK4:Hid (Kept (fun k=>k=g) w w4):=mH ((Kept.drew _ w).trans (Kept.grown hg4 (F:=fun k=>k=g) (fun k e=>by cases e;rfl)) (fun _ h=>.inl h))
 refine hK.out _ _ trivial (fun hHeld=>?_)
 clear hK K ho4 hg4 elen
 (try simp only [Act.put])
 refine tkE 7 0 (.slice (some ⟨g,0,none⟩) (ps.length - 1) cap) rfl rfl hHeld ?_
 simp only [sZ,sS]
 refine wpAnyH_done (by kernel_rfl) ?_ _
 clear hHeld
 obtain⟨ys,hy1,hy2⟩:=own_longer (n:=ps.length) HO4.out (by omega) hcap
 obtain⟨w5,hr5,ho5,hg5⟩:=run_clear_own (P:=Tryz.prog) w4 base 64 0 55 ie Tryz.underlying64 hie.out.1 (.agg #[.int .i64 0,.int .i64 0,.int .i64 0,.int .i64 0,.int .i64 0]) 5 (by omega) hie.out.2.1 rfl (by intro u hu;simp [Value.cells] at hu;rcases hu with rfl | rfl | rfl | rfl | rfl <;> rfl) g ps.length cap (ps.length - 1) (cap - (ps.length - 1)) ys hy1 (by omega)
 rw [hy2] at ho5
 have HO5:=mH ho5
 have HK5:=mH (HK4.out.trans (Kept.grown hg5 (F:=fun k=>k=g) (fun k e=>by cases e;rfl)) (fun _ h=>.inl h))
 have ep:((ps.length - 1:Nat):Int)=(ps.length:Int) - 1:=by omega
 clear ho5 hg5 hy1 hy2 HO4 HK4
 go_wp2
 go_ret
 exact⟨rfl,HO5.out,HK5.out⟩
def GcB (base:Nat) (w:World) (b:Nat) (p:Int) (tv jv:Value) (s':Gt) (w':World):Prop:=∃ jv',GB base w' b p tv jv' s'/\Kept (Ft tv jv b) w w'/\∀ k,jv'.ownBlock=some k->jv.ownBlock=some k ∨ w.heap.size<=k
theorem GcB.mk {base:Nat} {w w':World} {b:Nat} {p:Int} {tv jv jv':Value} {s':Gt} (h1:GB base w' b p tv jv' s') (h2:Kept (Ft tv jv b) w w') (h3:∀ k,jv'.ownBlock=some k->jv.ownBlock=some k ∨ w.heap.size<=k):GcB base w b p tv jv s' w':=⟨jv',h1,h2,h3⟩
theorem leavesCTT {W:World} {R:Nat} {p u x:Tmp} {fn:Func} {ty:TypeId} {fs:Array Go.Field} {cs:Array Value} (hf:fn.results=#[.cell p ty,.tmp u,.tmp x]) (hR:W.heap[R]?=some (.cells cs ty (0,0))) (hu:Tryz.prog.underlying ty=some (.struct fs)) (hs:(Tryz.prog.info? ty).map (·.size)=some cs.size) (tmps:Array Value) (h2:tmps.getD p undef=.pointer (some ⟨R,0,none⟩)):(results fn tmps).run Tryz.prog W=.ok (.tuple #[.agg cs,tmps.getD u undef,tmps.getD x undef]) W:=by
 have hl:=run_loadVar_row (P:=Tryz.prog) W R ty ty cs (0,0) _ hR hu rfl hs
 rw [results_cell_tmp2 (p:=p) (u:=u) (x:=x) (ty:=ty) hf,h2]
 simp [asAddr,Result.andThen,hl]
theorem own_setJ {w:World} {base:Nat} {e:TypeId} {g n cap:Nat} {js:List Jb} (h:w.ownsRow base e 5 (.slice (some ⟨g,0,none⟩) n cap) n (js.flatMap cj)) {j:Nat} {x:Jb} (hx:js[j]?=some x) (y:Jb) :
  (((((w.setCell ⟨g,j * 5,none⟩ (.int .i64 (y.tk:Int))).setCell ⟨g,j * 5+1,none⟩ (.int .i64 y.rl)).setCell ⟨g,j * 5+2,none⟩ (.int .i64 y.dl)).setCell ⟨g,j * 5+3,none⟩ (.int .i64 y.lf)).setCell ⟨g,j * 5+4,none⟩ (.int .i64 y.dn)).ownsRow base e 5 (.slice (some ⟨g,0,none⟩) n cap) n ((js.set j y).flatMap cj):=by
 have a0:=own_put h (j * 5+0) (.int .i64 (y.tk:Int))
 rw [fl_set cj 5 cj_len js j 0 x ⟨y.tk,x.rl,x.dl,x.lf,x.dn⟩ _ hx (by omega) rfl] at a0
 have l:j < js.length:=(List.getElem?_eq_some_iff.mp hx).1
 have g1:(js.set j ⟨y.tk,x.rl,x.dl,x.lf,x.dn⟩)[j]?=some ⟨y.tk,x.rl,x.dl,x.lf,x.dn⟩:=by simp [l]
 have a1:=own_put a0 (j * 5+1) (.int .i64 y.rl)
 rw [fl_set cj 5 cj_len _ j 1 _ ⟨y.tk,y.rl,x.dl,x.lf,x.dn⟩ _ g1 (by omega) rfl,List.set_set] at a1
 have g2:(js.set j ⟨y.tk,y.rl,x.dl,x.lf,x.dn⟩)[j]?=some ⟨y.tk,y.rl,x.dl,x.lf,x.dn⟩:=by simp [l]
 have a2:=own_put a1 (j * 5+2) (.int .i64 y.dl)
 rw [fl_set cj 5 cj_len _ j 2 _ ⟨y.tk,y.rl,y.dl,x.lf,x.dn⟩ _ g2 (by omega) rfl,List.set_set] at a2
 have g3:(js.set j ⟨y.tk,y.rl,y.dl,x.lf,x.dn⟩)[j]?=some ⟨y.tk,y.rl,y.dl,x.lf,x.dn⟩:=by simp [l]
 have a3:=own_put a2 (j * 5+3) (.int .i64 y.lf)
 rw [fl_set cj 5 cj_len _ j 3 _ ⟨y.tk,y.rl,y.dl,y.lf,x.dn⟩ _ g3 (by omega) rfl,List.set_set] at a3
 have g4:(js.set j ⟨y.tk,y.rl,y.dl,y.lf,x.dn⟩)[j]?=some ⟨y.tk,y.rl,y.dl,y.lf,x.dn⟩:=by simp [l]
 have a4:=own_put a3 (j * 5+4) (.int .i64 y.dn)
 rw [fl_set cj 5 cj_len _ j 4 _ y _ g4 (by omega) rfl,List.set_set] at a4
 exact a4
set_option maxHeartbeats 6400000 in
theorem run_end (base:Nat) (w:World) (b:Nat) (p:Int) (tv jv:Value) (s:Gt) (j:Jb) (h:GB base w b p tv jv s) (ok:s.Ok p) (hj:s.js[nx p s.ts s.js]?=some j) (hlf:j.lf=1):Calls Tryz.prog 57 #[.pointer (some ⟨b,0,none⟩)] w fun e w'=>e=.returned (.tuple #[vJ j.ran,.bool true,.nilIface])/\GcB base w b p tv jv ⟨s.xs,runL (nx p s.ts s.js) j s.js⟩ w':=by
 have hn:=(List.getElem?_eq_some_iff.mp hj).1
 have hl:0 < s.js.length:=by omega
 have hl64:=ok.l
 obtain⟨_,_,jok,_⟩:=ok.j _ _ hj
 have hlf1:=jok.l
 have hdn0:=jok.n
 have hcap:j.lf+j.dn<=256:=by
  obtain⟨x,hx,jo,_⟩:=ok.j _ _ hj
  obtain⟨k1,k2,k3,k4,k5,k6⟩:=ok.ok x (List.mem_of_getElem? hx)
  have:=jo.c
  omega
 clear jok
 obtain⟨N,hN⟩:∃ N,N=nx p s.ts s.js:=⟨_,rfl⟩
 have HW:Hid (∀ W,Below w.heap.size w W->Calls Tryz.prog 76 #[.pointer (some ⟨b,0,none⟩)] W fun e w'=>e=.returned (.bool true)/\w'=W):=mH (fun W hW=>by
  have:=work_is base W b p tv jv s (h.below hW)
  rwa [decide_eq_true (show (0:Int) < s.js.length by omega)] at this)
 have HN:Hid (∀ W,Below w.heap.size w W->Calls Tryz.prog 79 #[.pointer (some ⟨b,0,none⟩)] W fun e w'=>e=.returned (.int .i64 (N:Int))/\Below W.heap.size W w'):=mH (fun W hW=>by rw [hN];exact next_is base W b p tv jv s (h.below hW) ok hl)
 rw [<- hN] at hj hn ⊢
 obtain⟨g,c,rfl,_⟩:=own_job h.jown hj
 have hNi:(N:Int) < s.js.length:=by omega
 have HG:=mH h
 have HJ:=mH hj
 clear h ok hj hN hl
 obtain⟨tj,rj,dj,lj,nj⟩:=j
 simp only at hlf hlf1 hdn0 hcap
 subst hlf
 have eD:IntKind.i64.wrap (nj+1)=nj+1:=wfit (by omega) (by omega)
 go_enter Tryz.func57,Tryz.ntmps57
 go_wp2_with (first | (go_at_call 76;refine(HW.out _ (ba (Below.refl _ w) _)).mono ?_;rintro e w1 ⟨rfl,hw⟩;rw [hw];clear hw) | (go_at_call 79;refine(HN.out _ (ba (Below.refl _ w) _)).mono ?_;rintro e w2 ⟨rfl,b2⟩;obtain⟨hr2,hb2⟩:=new_last b2;have HR2:=mH hr2;have HB2:=mH hb2;have HG2:=mH (HG.out.below hb2);clear b2 hr2 hb2;have c1:=HG2.out.c1;obtain⟨g',c',eg,q⟩:=own_job HG2.out.jown HJ.out;simp only [Value.slice.injEq,Option.some.injEq,Addr.mk.injEq] at eg;obtain⟨⟨rfl,_⟩,_,rfl⟩:=eg;obtain⟨q0,q1,q2,q3,q4,_⟩:=q;simp only at q0 q1 q2 q3 q4) | (go_at_call 80;obtain⟨X,hX⟩:∃ X,X=w2.alloc (.cells #[.int .i64 (tj:Int),.int .i64 rj,.int .i64 dj,.int .i64 0,.int .i64 (nj+1)] 55):=⟨_,rfl⟩;have hkX:Kept (fun _=>False) w2 X:=(by rw [hX];exact Kept.alloc _ w2 _);have HGX:Hid (GB base X b p tv (.slice (some ⟨g,0,none⟩) s.js.length c) s):=mH (HG2.out.kept hkX (fun k e f=>e));have hBX:X.heap[w2.heap.size]?=some (oJ ⟨tj,rj,dj,0,nj+1⟩):=(by rw [hX];exact heap_alloc_new w2 _);rw [<- hX];have HR4:Hid (X.heap[w.heap.size]?=some (.cells #[.int .i64 0,.int .i64 0,.int .i64 0,.int .i64 0,.int .i64 0] 55)):=mH ((hkX.block _ (lOh HR2.out) (fun e=>e)).trans HR2.out);have HK4:Hid (Kept (Ft tv (.slice (some ⟨g,0,none⟩) s.js.length c) b) w X):=mH ((kept_new HB2.out).trans hkX (fun k e=>e.elim));have HBB:Hid (¬ w2.heap.size=g/\¬ w2.heap.size=b/\w.heap.size < w2.heap.size/\b < w.heap.size/\g < w.heap.size):=mH ⟨fun e=>by have:=(HG.out.foot (k:=g) (.inr (.inr rfl))).2;have:=HB2.out.size;omega,fun e=>by have:=HG.out.lt;have:=HB2.out.size;omega,lOh HR2.out,HG.out.lt,(HG.out.foot (k:=g) (.inr (.inr rfl))).2⟩;clear hX hkX;generalize w2.heap.size=B at *;refine(delJ_is base X g c N s.js HGX.out.jown (by omega) (by omega)).mono ?_;rintro e w4 ⟨rfl,ho4,hk4⟩;have HO4:=mH ho4;have HK5:=mH hk4;have hb4:=(hk4.block _ (lOh hBX) HBB.out.1).trans hBX;have hr4:=(hk4.block _ (lOh HR4.out) (by have:=HBB.out;omega)).trans HR4.out;have hg4:=(hk4.block _ HGX.out.lt (by intro e;exact HGX.out.jb (by simp [Value.ownBlock,e]))).trans HGX.out.blk;have HR5:=mH hr4;have HGB:=mH hg4;obtain⟨z0,z1,z2,z3,z4,zf⟩:=J5.of_blk hb4;obtain⟨r0,r1,r2,r3,r4,rf⟩:=J5.of_blk (j:=j0) hr4;have f0:=rf 0;have f1:=rf 1;have f2:=rf 2;have f3:=rf 3;have f4:=rf 4;have m1:w4.cell? ⟨b,1,none⟩=some (.slice (some ⟨g,0,none⟩) s.js.length c):=cOb hg4 rfl;have mf:w4.frozen? ⟨b,1,none⟩=false:=fOb hg4;simp only [Nat.zero_add] at z0 z1 z2 z3 z4 r0 r1 r2 r3 r4;clear ho4 hk4 hb4 hr4 hg4 rf zf c1 q0 q1 q2 q3 q4;have n1:¬ b=w.heap.size:=(by have:=HBB.out;omega);have n2:¬ w.heap.size=b:=(by have:=HBB.out;omega);have n3:¬ b=B:=(by have:=HBB.out;omega);have n4:¬ B=b:=(by have:=HBB.out;omega);have n5:¬ B=w.heap.size:=(by have:=HBB.out;omega);have n6:¬ w.heap.size=B:=(by have:=HBB.out;omega)))
 have hbg:¬ b=g:=fun e=>HGX.out.jb (by simp [Value.ownBlock,e])
 have hk8:Kept (fun k=>k=b ∨ k=w.heap.size) w4 ((((((w4.setCell ⟨b,1,none⟩ (.slice (some ⟨g,0,none⟩) (s.js.length - 1) c)).setCell ⟨w.heap.size,0,none⟩ (.int .i64 (tj:Int))).setCell ⟨w.heap.size,1,none⟩ (.int .i64 rj)).setCell ⟨w.heap.size,2,none⟩ (.int .i64 dj)).setCell ⟨w.heap.size,3,none⟩ (.int .i64 0)).setCell ⟨w.heap.size,4,none⟩ (.int .i64 (nj+1))):=(kset (Kept.refl (fun k=>k=b ∨ k=w.heap.size) w4) (.inl (.inl rfl)) 1 _).trans (set5k (fun k=>k=b ∨ k=w.heap.size) _ _ (.inr rfl) _ _ _ _ _) (fun _ h=>.inl h)
 have eR:runL N ⟨tj,rj,dj,1,nj⟩ s.js=s.js.eraseIdx N:=if_pos rfl
 have eN:(s.js.eraseIdx N).length=s.js.length - 1:=by rw [List.length_eraseIdx];simp [hn]
 refine bodyPost_ret (leavesCTT (cs:=#[.int .i64 (tj:Int),.int .i64 rj,.int .i64 dj,.int .i64 0,.int .i64 (nj+1)]) rfl ?_ Tryz.underlying55 size_job _ rfl) rfl ⟨rfl, ?_⟩
 ·rw [hSt (hSt (hSt (hSt (hSt ((Below.heap_setCell _ _ _ _ n2).trans HR5.out)))))];rfl
 ·rw [eR]
  refine GcB.mk (jv':=.slice (some ⟨g,0,none⟩) (s.js.length - 1) c) ⟨?_, ?_, ?_,HGX.out.bb,HGX.out.tb,fun e=>hbg (by simpa [Value.ownBlock] using e.symm),HGX.out.tj⟩ ?_ (fun k e=>.inl e)
  ·refine((set5k (fun k=>k=w.heap.size) _ _ rfl _ _ _ _ _).block b ?_ n1).trans (hSt HGB.out)
   have:=HBB.out
   have:=HR5.out
   have:=lOh HGB.out
   simpa [World.setCell] using this
  ·exact oNk (oNk HGX.out.town HK5.out (fun k e e2=>HGX.out.tj k e (by simp [Value.ownBlock,e2]))) hk8 (fun k e e2=>by
    rcases e2 with e2 | e2
    ·exact HGX.out.tb (by rw [<- e2];exact e)
    ·have:=(HG.out.town.lt k e).2;omega)
  ·rw [eN]
   exact oNk HO4.out hk8 (fun k e e2=>by
    simp [Value.ownBlock] at e
    have:=HBB.out
    omega)
  ·refine(HK4.out.trans HK5.out (fun k e=>.inl (.inr (.inr (by simp [Value.ownBlock,e]))))).trans hk8 (fun k e=>?_)
   rcases e with e | e
   ·exact .inl (.inl e)
   ·exact .inr (by omega)
set_option maxHeartbeats 6400000 in
theorem run_on (base:Nat) (w:World) (b:Nat) (p:Int) (tv jv:Value) (s:Gt) (j:Jb) (h:GB base w b p tv jv s) (ok:s.Ok p) (hj:s.js[nx p s.ts s.js]?=some j) (hlf:¬ j.lf=1):Calls Tryz.prog 57 #[.pointer (some ⟨b,0,none⟩)] w fun e w'=>e=.returned (.tuple #[vJ j.ran,.bool false,.nilIface])/\GcB base w b p tv jv ⟨s.xs,runL (nx p s.ts s.js) j s.js⟩ w':=by
 have hn:=(List.getElem?_eq_some_iff.mp hj).1
 have hl:0 < s.js.length:=by omega
 have hl64:=ok.l
 obtain⟨_,_,jok,_⟩:=ok.j _ _ hj
 have hlf1:=jok.l
 have hdn0:=jok.n
 have hcap:j.lf+j.dn<=256:=by
  obtain⟨x,hx,jo,_⟩:=ok.j _ _ hj
  obtain⟨k1,k2,k3,k4,k5,k6⟩:=ok.ok x (List.mem_of_getElem? hx)
  have:=jo.c
  omega
 clear jok
 obtain⟨N,hN⟩:∃ N,N=nx p s.ts s.js:=⟨_,rfl⟩
 have HW:Hid (∀ W,Below w.heap.size w W->Calls Tryz.prog 76 #[.pointer (some ⟨b,0,none⟩)] W fun e w'=>e=.returned (.bool true)/\w'=W):=mH (fun W hW=>by
  have:=work_is base W b p tv jv s (h.below hW)
  rwa [decide_eq_true (show (0:Int) < s.js.length by omega)] at this)
 have HN:Hid (∀ W,Below w.heap.size w W->Calls Tryz.prog 79 #[.pointer (some ⟨b,0,none⟩)] W fun e w'=>e=.returned (.int .i64 (N:Int))/\Below W.heap.size W w'):=mH (fun W hW=>by rw [hN];exact next_is base W b p tv jv s (h.below hW) ok hl)
 rw [<- hN] at hj hn ⊢
 obtain⟨g,c,rfl,_⟩:=own_job h.jown hj
 have hNi:(N:Int) < s.js.length:=by omega
 have HG:=mH h
 have HJ:=mH hj
 clear h ok hj hN hl
 obtain⟨tj,rj,dj,lj,nj⟩:=j
 simp only at hlf hlf1 hdn0 hcap
 have eD:IntKind.i64.wrap (nj+1)=nj+1:=wfit (by omega) (by omega)
 obtain⟨L,hL⟩:∃ L,L=lj - 1:=⟨_,rfl⟩
 have eL:IntKind.i64.wrap (lj - 1)=L:=by rw [hL];exact wfit (by omega) (by omega)
 have hL0:(L == 0)=false:=by rw [hL];simp;omega
 have HL:=mH hL
 clear hL
 go_enter Tryz.func57,Tryz.ntmps57
 go_wp2_with (first | (go_at_call 76;refine(HW.out _ (ba (Below.refl _ w) _)).mono ?_;rintro e w1 ⟨rfl,hw⟩;rw [hw];clear hw) | (go_at_call 79;refine(HN.out _ (ba (Below.refl _ w) _)).mono ?_;rintro e w2 ⟨rfl,b2⟩;obtain⟨hr2,hb2⟩:=new_last b2;have HR2:=mH hr2;have HB2:=mH hb2;have HG2:=mH (HG.out.below hb2);clear b2 hr2 hb2;have c1:=HG2.out.c1;obtain⟨g',c',eg,q⟩:=own_job HG2.out.jown HJ.out;simp only [Value.slice.injEq,Option.some.injEq,Addr.mk.injEq] at eg;obtain⟨⟨rfl,_⟩,_,rfl⟩:=eg;obtain⟨q0,q1,q2,q3,q4,_⟩:=q;simp only at q0 q1 q2 q3 q4))
 obtain⟨X,hX⟩:∃ X,X=w2.alloc (.cells #[.int .i64 (tj:Int),.int .i64 rj,.int .i64 dj,.int .i64 L,.int .i64 (nj+1)] 55):=⟨_,rfl⟩;have hkX:Kept (fun _=>False) w2 X:=(by rw [hX];exact Kept.alloc _ w2 _);have HGX:Hid (GB base X b p tv (.slice (some ⟨g,0,none⟩) s.js.length c) s):=mH (HG2.out.kept hkX (fun k e f=>e));have hBX:X.heap[w2.heap.size]?=some (oJ ⟨tj,rj,dj,L,nj+1⟩):=(by rw [hX];exact heap_alloc_new w2 _);rw [<- hX];have HR4:Hid (X.heap[w.heap.size]?=some (.cells #[.int .i64 0,.int .i64 0,.int .i64 0,.int .i64 0,.int .i64 0] 55)):=mH ((hkX.block _ (lOh HR2.out) (fun e=>e)).trans HR2.out);have HK4:Hid (Kept (Ft tv (.slice (some ⟨g,0,none⟩) s.js.length c) b) w X):=mH ((kept_new HB2.out).trans hkX (fun k e=>e.elim));have HBB:Hid (¬ w2.heap.size=g/\¬ w2.heap.size=b/\w.heap.size < w2.heap.size/\b < w.heap.size/\g < w.heap.size):=mH ⟨fun e=>by have:=(HG.out.foot (k:=g) (.inr (.inr rfl))).2;have:=HB2.out.size;omega,fun e=>by have:=HG.out.lt;have:=HB2.out.size;omega,lOh HR2.out,HG.out.lt,(HG.out.foot (k:=g) (.inr (.inr rfl))).2⟩;clear hX hkX;generalize w2.heap.size=B at *
 clear c1 q0 q1 q2 q3 q4
 obtain⟨z0,z1,z2,z3,z4,zf⟩:=J5.of_blk hBX
 have c1:=HGX.out.c1
 obtain⟨g',c',eg,q⟩:=own_job HGX.out.jown HJ.out
 simp only [Value.slice.injEq,Option.some.injEq,Addr.mk.injEq] at eg
 obtain⟨⟨rfl,_⟩,_,rfl⟩:=eg
 obtain⟨q0,q1,q2,q3,q4,qf⟩:=q
 simp only [Nat.zero_add] at q0 q1 q2 q3 q4 z0 z1 z2 z3 z4
 have f0:=qf (N * 5)
 have f1:=qf (N * 5+1)
 have f2:=qf (N * 5+2)
 have f3:=qf (N * 5+3)
 have f4:=qf (N * 5+4)
 have HBX:=mH hBX
 clear qf zf hBX
 have hbg:¬ b=g:=fun e=>HGX.out.jb (by simp [Value.ownBlock,e])
 have hgb:¬ g=b:=fun e=>hbg e.symm
 have hBg:¬ B=g:=HBB.out.1
 have hgB:¬ g=B:=fun e=>hBg e.symm
 go_region_held3 (fun w'=>w'.cell? ⟨b,1,none⟩=some (.slice (some ⟨g,0,none⟩) s.js.length c)/\w'.cell? ⟨B,0,none⟩=some (.int .i64 (tj:Int))/\w'.cell? ⟨B,1,none⟩=some (.int .i64 rj)/\w'.cell? ⟨B,2,none⟩=some (.int .i64 dj)/\w'.cell? ⟨B,3,none⟩=some (.int .i64 L)/\w'.cell? ⟨B,4,none⟩=some (.int .i64 (nj+1))) (go_keep) (fail)
 all_goals
  obtain⟨Y,hY⟩:∃ Y,Y=(((((X.setCell ⟨g,N * 5,none⟩ (.int .i64 (tj:Int))).setCell ⟨g,N * 5+1,none⟩ (.int .i64 rj)).setCell ⟨g,N * 5+2,none⟩ (.int .i64 dj)).setCell ⟨g,N * 5+3,none⟩ (.int .i64 L)).setCell ⟨g,N * 5+4,none⟩ (.int .i64 (nj+1))).drew:=⟨_,rfl⟩
  have hkY:Kept (fun k=>k=g) X Y:=by
   rw [hY]
   exact(kset (kset (kset (kset (kset (Kept.refl (fun k=>k=g) X) (.inl rfl) _ _) (.inl rfl) _ _) (.inl rfl) _ _) (.inl rfl) _ _) (.inl rfl) _ _).trans (Kept.drew (fun k=>k=g) _) (fun _ h=>.inl h)
  have HO4:Hid (Y.ownsRow base 55 5 (.slice (some ⟨g,0,none⟩) s.js.length c) s.js.length ((s.js.set N ⟨tj,rj,dj,L,nj+1⟩).flatMap cj)):=mH (by
   rw [hY]
   exact oNk (own_setJ HGX.out.jown HJ.out ⟨tj,rj,dj,L,nj+1⟩) (Kept.drew (fun _=>False) _) (fun _ _ h=>h))
  have hb4:=(hkY.block _ (lOh HBX.out) hBg).trans HBX.out
  have hr4:=(hkY.block _ (lOh HR4.out) (by have:=HBB.out;omega)).trans HR4.out
  have hg4:=(hkY.block _ HGX.out.lt hbg).trans HGX.out.blk
  have HR5:=mH hr4
  have HGB:=mH hg4
  have HK5:=mH hkY
  rw [<- hY]
  clear hY hkY c1 z0 z1 z2 z3 z4 q0 q1 q2 q3 q4 f0 f1 f2 f3 f4
  obtain⟨z0,z1,z2,z3,z4,zf⟩:=J5.of_blk hb4
  obtain⟨r0,r1,r2,r3,r4,rf⟩:=J5.of_blk (j:=j0) hr4
  have f0:=rf 0
  have f1:=rf 1
  have f2:=rf 2
  have f3:=rf 3
  have f4:=rf 4
  simp only [Nat.zero_add] at z0 z1 z2 z3 z4 r0 r1 r2 r3 r4
  clear hb4 hr4 hg4 rf zf
  have n1:¬ b=w.heap.size:=(by have:=HBB.out;omega)
  have n2:¬ w.heap.size=b:=(by have:=HBB.out;omega)
  have n5:¬ B=w.heap.size:=(by have:=HBB.out;omega)
  have n6:¬ w.heap.size=B:=(by have:=HBB.out;omega)
  go_wp2
  have hk8:=set5k (fun k=>k=w.heap.size) Y w.heap.size rfl (.int .i64 (tj:Int)) (.int .i64 rj) (.int .i64 dj) (.int .i64 L) (.int .i64 (nj+1))
  have eR:runL N ⟨tj,rj,dj,lj,nj⟩ s.js=s.js.set N ⟨tj,rj,dj,L,nj+1⟩:=by
   rw [HL.out]
   exact if_neg hlf
  have eN:(s.js.set N ⟨tj,rj,dj,L,nj+1⟩).length=s.js.length:=by simp
  refine bodyPost_ret (leavesCTT (cs:=#[.int .i64 (tj:Int),.int .i64 rj,.int .i64 dj,.int .i64 L,.int .i64 (nj+1)]) rfl ?_ Tryz.underlying55 size_job _ rfl) rfl ⟨by rw [HL.out];rfl, ?_⟩
  ·rw [hSt (hSt (hSt (hSt (hSt HR5.out))))];rfl
  ·rw [eR]
   refine GcB.mk (jv':=.slice (some ⟨g,0,none⟩) s.js.length c) ⟨(hk8.block b (lOh HGB.out) n1).trans HGB.out, ?_, ?_,HGX.out.bb,HGX.out.tb,HGX.out.jb,HGX.out.tj⟩ ?_ (fun k e=>.inl e)
   ·exact oNk (oNk HGX.out.town HK5.out (fun k e e2=>HGX.out.tj k e (by simp [Value.ownBlock,e2]))) hk8 (fun k e e2=>by have:=(HG.out.town.lt k e).2;omega)
   ·show World.ownsRow _ _ _ _ _ (s.js.set N ⟨tj,rj,dj,L,nj+1⟩).length _
    rw [eN]
    exact oNk HO4.out hk8 (fun k e e2=>by
     simp [Value.ownBlock] at e
     have:=HBB.out
     omega)
   ·refine(HK4.out.trans HK5.out (fun k e=>.inl (.inr (.inr (by simp [Value.ownBlock,e]))))).trans hk8 (fun k e=>.inr (by omega))
theorem GB.pushJ {base:Nat} {w w1:World} {b:Nat} {p:Int} {tv jv v1:Value} {s:Gt} {x:Jb} (h:GB base w b p tv jv s) (hown:w1.ownsRow base 55 5 v1 (s.js.length+1) (s.js.flatMap cj ++ cj x)) (hg:w.grownBy w1 jv.ownBlock) (hat:v1.ownBlock=jv.ownBlock ∨ v1.ownBlock=some w.heap.size) :
  GB base (w1.setCell ⟨b,1,none⟩ v1) b p tv v1 ⟨s.xs,s.js ++ [x]⟩:=by
 have hk:=Kept.grown hg (F:=fun k=>jv.ownBlock=some k) (fun k hk=>hk)
 have hk1:=Kept.setCell (F:=fun k=>k=b) w1 (p:=⟨b,1,none⟩) rfl v1
 have hv:∀ k,v1.ownBlock=some k->jv.ownBlock=some k ∨ k=w.heap.size:=fun k e=>by
  rcases hat with a | a
  ·exact .inl (a ▸ e)
  ·rw [a] at e;simp at e;exact .inr e.symm
 have hpg:v1.ownBlock ≠ some b:=fun e=>by
  rcases hv b e with a | a
  ·exact h.jb a
  ·have:=h.lt;omega
 refine⟨hSt ((hk.block b h.lt h.jb).trans h.blk), ?_, ?_,h.bb,h.tb,hpg,fun k e e2=>?_⟩
 ·exact oNk (oNk h.town hk (fun k e e2=>h.tj k e e2)) hk1 (fun k e e2=>h.tb (by rw [<- e2];exact e))
 ·rw [List.flatMap_append,List.length_append]
  refine oNk ?_ hk1 (fun k e e2=>hpg (by rw [<- e2];exact e))
  simpa using hown
 ·rcases hv k e2 with a | a
  ·exact h.tj k e a
  ·have:=(h.town.lt k e).2;omega
theorem GB.setAg {base:Nat} {w:World} {b:Nat} {p:Int} {jv:Value} {s:Gt} {g c i n:Nat} {x:Tq} (h:GB base w b p (.slice (some ⟨g,0,none⟩) n c) jv s) (hn:n=s.xs.length) (hx:s.xs[i]?=some x) (v:Int):GB base (w.setCell ⟨g,i * 5+4,none⟩ (.int .i64 v)) b p (.slice (some ⟨g,0,none⟩) n c) jv ⟨s.xs.set i (x.1,v),s.js⟩:=by
 subst hn
 have hk1:=Kept.setCell (F:=fun k=>k=g) w (p:=⟨g,i * 5+4,none⟩) rfl (.int .i64 v)
 have a0:=own_put h.town (i * 5+4) (.int .i64 v)
 rw [fl_set cq 5 cq_len s.xs i 4 x (x.1,v) _ hx (by omega) rfl] at a0
 refine⟨(hk1.block b h.lt (fun e=>h.tb (by simp [Value.ownBlock,e]))).trans h.blk, ?_,oNk h.jown hk1 (fun k e e2=>h.tj k (by simp [Value.ownBlock,e2]) e),h.bb,h.tb,h.jb,h.tj⟩
 simpa using a0
structure Eg (w:World) (a:Nat->Addr):Prop where
 num:w.cell? ⟨0,0,none⟩=some (vE (a 0))
 busy:w.cell? ⟨13,0,none⟩=some (vE (a 13))
 full:w.cell? ⟨6,0,none⟩=some (vE (a 6))
 task:w.cell? ⟨10,0,none⟩=some (vE (a 10))
def eg (a:Nat->Addr) (n:Int):Value:=if n=1 then vE (a 0) else if n=14 then vE (a 13) else if n=7 then vE (a 6) else .nilIface
theorem GcB.same {base:Nat} {w:World} {b:Nat} {p:Int} {tv jv:Value} {s:Gt} (h:GB base w b p tv jv s):GcB base w b p tv jv s w:=GcB.mk h (Kept.refl _ _) (fun _ e=>.inl e)
set_option maxHeartbeats 1600000 in
theorem rel_num (base:Nat) (w:World) (b:Nat) (p:Int) (tv jv:Value) (s:Gt) (k now ticks:Int) (a:Addr) (h:GB base w b p tv jv s) (he:w.cell? ⟨0,0,none⟩=some (vE a)) (hc:k < 0 ∨ (0<=k/\(s.xs.length:Int)<=k) ∨ (0<=k/\k < s.xs.length/\now < 0) ∨ (0<=k/\k < s.xs.length/\0<=now/\1099511627776 < now)):Calls Tryz.prog 30 #[.pointer (some ⟨b,0,none⟩),.int .i64 k,.int .i64 now,.int .i64 ticks] w fun e w'=>e=.returned (vE a)/\w'=w:=by
 have c0:=h.c0
 obtain⟨t,c,rfl,hcap⟩:=own_sh h.town
 clear h
 rcases hc with h1 | ⟨h1,h2⟩ | ⟨h1,h2,h3⟩ | ⟨h1,h2,h3,h4⟩
 all_goals
  go_enter Tryz.func30,Tryz.ntmps30
  go_wp2
  go_ret
  exact⟨rfl,rfl⟩
set_option maxHeartbeats 1600000 in
theorem rel_busy (base:Nat) (w:World) (b:Nat) (p:Int) (tv jv:Value) (s:Gt) (i:Nat) (x:Tq) (now ticks:Int) (a:Addr) (h:GB base w b p tv jv s) (he:w.cell? ⟨13,0,none⟩=some (vE a)) (hx:s.xs[i]?=some x) (n0:0<=now) (n1:now<=1099511627776) (hb:now < x.2):Calls Tryz.prog 30 #[.pointer (some ⟨b,0,none⟩),.int .i64 (i:Int),.int .i64 now,.int .i64 ticks] w fun e w'=>e=.returned (vE a)/\w'=w:=by
 have c0:=h.c0
 have hi:=(List.getElem?_eq_some_iff.mp hx).1
 have hii:(i:Int) < s.xs.length:=by omega
 obtain⟨g,c,rfl,q⟩:=own_task h.town hx
 have q4:=q.c4
 clear h q hx
 go_enter Tryz.func30,Tryz.ntmps30
 go_wp2
 go_ret
 exact⟨rfl,rfl⟩
set_option maxHeartbeats 1600000 in
theorem rel_full (base:Nat) (w:World) (b:Nat) (p:Int) (tv jv:Value) (s:Gt) (i:Nat) (x:Tq) (now ticks:Int) (a:Addr) (h:GB base w b p tv jv s) (he:w.cell? ⟨6,0,none⟩=some (vE a)) (hx:s.xs[i]?=some x) (n0:0<=now) (n1:now<=1099511627776) (hb:x.2<=now) (hf:64<=s.js.length):Calls Tryz.prog 30 #[.pointer (some ⟨b,0,none⟩),.int .i64 (i:Int),.int .i64 now,.int .i64 ticks] w fun e w'=>e=.returned (vE a)/\w'=w:=by
 have c0:=h.c0
 have c1:=h.c1
 have hi:=(List.getElem?_eq_some_iff.mp hx).1
 have hii:(i:Int) < s.xs.length:=by omega
 obtain⟨g,c,rfl,q⟩:=own_task h.town hx
 obtain⟨ja,jc,rfl,_⟩:=own_sh h.jown
 have q4:=q.c4
 have hb2:decide (now < x.2)=false:=decide_eq_false (by omega)
 have hfi:(64:Int)<=s.js.length:=by omega
 clear h q hx
 go_enter Tryz.func30,Tryz.ntmps30
 go_wp2
 go_ret
 exact⟨rfl,rfl⟩
set_option maxHeartbeats 12800000 in
theorem rel_ok (base:Nat) (w:World) (b:Nat) (p:Int) (tv jv:Value) (s:Gt) (i:Nat) (x:Tq) (now ticks:Int) (h:GB base w b p tv jv s) (hok:okT x.1) (hx:s.xs[i]?=some x) (n0:0<=now) (n1:now<=1099511627776) (hb:x.2<=now) (hf:s.js.length < 64):Calls Tryz.prog 30 #[.pointer (some ⟨b,0,none⟩),.int .i64 (i:Int),.int .i64 now,.int .i64 ticks] w fun e w'=>e=.returned .nilIface/\GcB base w b p tv jv (s.put i x now ticks) w':=by
 obtain⟨ie,hie1,hz0,hz1,hz2⟩:=info_parts info_job
 have hie:=mH (And.intro hie1 (And.intro hz0 (And.intro hz1 hz2)))
 clear hie1 hz0 hz1 hz2
 have c0:=h.c0
 have c1:=h.c1
 have hi:=(List.getElem?_eq_some_iff.mp hx).1
 have hii:(i:Int) < s.xs.length:=by omega
 obtain⟨g,c,rfl,q⟩:=own_task h.town hx
 obtain⟨ja,jc,rfl,_⟩:=own_sh h.jown
 obtain⟨q0,q1,q2,q3,q4,qf⟩:=q
 have HG:=mH h
 have HX:=mH hx
 obtain⟨k1,k2,k3,k4,k5,k6⟩:=hok
 obtain⟨⟨xc,xp,xd,xs⟩,xa⟩:=x
 simp only at q0 q1 q2 q3 q4 k1 k2 k3 k4 k5 k6 hb
 have hb2:decide (now < xa)=false:=decide_eq_false (by omega)
 have hfi:¬ (64:Int)<=s.js.length:=by omega
 have hfd:decide ((64:Int)<=s.js.length)=false:=decide_eq_false hfi
 have eD:IntKind.i64.wrap (now+xd)=now+xd:=wfit (by omega) (by omega)
 have eP:IntKind.i64.wrap (now+xp)=now+xp:=wfit (by omega) (by omega)
 obtain⟨L,hL⟩:∃ L,L=min (max ticks 1) xc:=⟨_,rfl⟩
 have HL:=mH hL
 clear h qf hx hb
 have hcase:(ticks < 1/\L=1) ∨ (1<=ticks/\ticks<=xc/\L=ticks) ∨ (1<=ticks/\xc < ticks/\L=xc):=by omega
 clear hL
 have hxc:¬ xc < 1:=by omega
 rcases hcase with ⟨t1,e⟩ | ⟨t1,t2,e⟩ | ⟨t1,t2,e⟩ <;> subst e
 ·go_enter Tryz.func30,Tryz.ntmps30
  go_wp2
  have HE:Hid (newJ (xc,xp,xd,xs) i now ticks=⟨i,now,now+xd,1,0⟩):=mH (by unfold newJ;rw [<- HL.out])
  have hT:w.drew.cell? ⟨b,1,none⟩=some (.slice ja s.js.length jc)/\w.drew.cell? ⟨g,i * 5+2,none⟩=some (.int .i64 xd):=⟨c1,q2⟩
  refine wp_region_till (fun w'=>w'.cell? ⟨b,1,none⟩=some (.slice ja s.js.length jc)/\w'.cell? ⟨g,i * 5+2,none⟩=some (.int .i64 xd)) 20 (by kernel_rfl) ?_
  refine frE 0 59 (.pointer (some ⟨b,0,none⟩)) rfl rfl (fun _=>hT) ?_
  simp only [sZ,sS]
  refine frE 1 60 (.pointer (some ⟨b,0,none⟩)) rfl rfl (fun _=>hT) ?_
  simp only [sZ,sS]
  refine frE 2 61 (.pointer (some ⟨b,0,none⟩)) rfl rfl (fun _=>hT) ?_
  simp only [sZ,sS]
  refine frE 3 62 (.pointer (some ⟨b,1,none⟩)) rfl rfl (fun _=>hT) ?_
  simp only [sZ,sS]
  refine fiE 4 63 (.slice ja s.js.length jc) rfl rfl hT ?_
  simp only [sZ,sS]
  refine frE 5 64 (.int .i64 (i:Int)) rfl rfl (fun _=>hT) ?_
  simp only [sZ,sS]
  refine frE 6 65 (.int .i64 now) rfl rfl (fun _=>hT) ?_
  simp only [sZ,sS]
  refine frE 7 66 (.int .i64 now) rfl rfl (fun _=>hT) ?_
  simp only [sZ,sS]
  refine frE 8 67 (.pointer (some ⟨g,i * 5,none⟩)) rfl rfl (fun _=>hT) ?_
  simp only [sZ,sS]
  refine frE 9 68 (.pointer (some ⟨g,i * 5,none⟩)) rfl rfl (fun _=>hT) ?_
  simp only [sZ,sS]
  refine frE 10 69 (.pointer (some ⟨g,i * 5,none⟩)) rfl rfl (fun _=>hT) ?_
  simp only [sZ,sS]
  refine frE 11 70 (.pointer (some ⟨g,i * 5+2,none⟩)) rfl rfl (fun _=>hT) ?_
  simp only [sZ,sS]
  refine fiE 12 71 (.int .i64 xd) rfl rfl hT ?_
  simp only [sZ,sS]
  refine frE 13 72 (.int .i64 (now+xd)) rfl rfl (fun _=>hT) ?_
  simp only [sZ,sS]
  refine frE 14 73 (.int .i64 1) rfl rfl (fun _=>hT) ?_
  simp only [sZ,sS]
  refine frE 15 74 (.agg #[.int .i64 (i:Int),.int .i64 now,.int .i64 (now+xd),.int .i64 1,.int .i64 0]) rfl rfl (fun _=>hT) ?_
  simp only [sZ,sS]
  refine wpT_ready (rs:=[16]) (by kernel_rfl) (by simp) (AllT.cons rfl (fun K hK=>?_) AllT.nil)
  go_simp
  obtain⟨W4,hW4⟩:∃ W4,W4=(w.alloc (.cells #[.int .i64 (i:Int),.int .i64 now,.int .i64 (now+xd),.int .i64 1,.int .i64 0] 55)).drew:=⟨_,rfl⟩
  have b4:Below w.heap.size w W4:=by rw [hW4];exact(ba (Below.refl _ _) _).drew
  have HR4:Hid (RowIn 5 cj W4 (.slice (some ⟨w.heap.size,0,none⟩) 1 1) [(⟨i,now,now+xd,1,0⟩:Jb)]):=mH (by
   rw [hW4]
   exact RowIn.below (rowOne (f:=cj) (⟨i,now,now+xd,1,0⟩:Jb) w 55) (Below.refl _ _).drew)
  have HP4:=mH (HG.out.below b4)
  have HB4:=mH b4
  have HKB:Hid (Kept (Ft (.slice (some ⟨g,0,none⟩) s.xs.length c) (.slice ja s.js.length jc) b) w W4):=mH (kept_new b4)
  rw [<- hW4]
  clear hW4 b4 hT
  have d1:=HP4.out.c1
  have d2:=kc q2 HB4.out
  refine hK.out _ _ (fun _=>⟨d1,d2⟩) ?_
  clear hK K
  (try simp only [Act.put])
  generalize w.heap.size=z3 at *
  refine wpT_ready (rs:=[17]) (by kernel_rfl) (by simp) (AllT.cons rfl (fun K hK=>?_) AllT.nil)
  refine step_append_src5 (w:=W4) rfl (.tmp 63) (.tmp 75) 64 64 rfl base 55 ie Tryz.underlying64 hie.out.1 (.agg #[.int .i64 0,.int .i64 0,.int .i64 0,.int .i64 0,.int .i64 0]) 40 hie.out.2.1 rfl hie.out.2.2.1 hie.out.2.2.2 (.slice ja s.js.length jc) s.js.length (s.js.flatMap cj) (by simp [Act.eval]) HP4.out.jown _ 1 (cj ⟨i,now,now+xd,1,0⟩) (by simp [Act.eval]) (srcOne (f:=cj) (x:=(⟨i,now,now+xd,1,0⟩:Jb)) Tryz.underlying64 (by omega) cj_len onej HR4.out) (by unfold maxLen;omega) (by omega) HP4.out.base_le ?_
  intro v6 w6 ho6 hg6 hat6
  have HPN:=mH (HP4.out.pushJ (x:=⟨i,now,now+xd,1,0⟩) ho6 hg6 hat6)
  have hk6:=Kept.grown hg6 (F:=fun k=>(Value.slice ja s.js.length jc).ownBlock=some k) (fun k hk=>hk)
  obtain⟨na6,nc6,hv6,_⟩:=own_sh ho6
  subst hv6
  have hpb:=(hk6.block b HP4.out.lt HP4.out.jb).trans HP4.out.blk
  have e1:w6.cell? ⟨b,1,none⟩=some (.slice ja s.js.length jc):=cOb hpb rfl
  have g1:w6.frozen? ⟨b,1,none⟩=false:=fOb hpb
  have e2:=hk6.cell d2 (fun e=>HP4.out.tj g rfl e)
  have HK6:=mH hk6
  have HA6:Hid (∀ k,(Value.slice na6 (s.js.length+1) nc6).ownBlock=some k->(Value.slice ja s.js.length jc).ownBlock=some k ∨ k=W4.heap.size):=mH (fun k e=>by
   rcases hat6 with a | a
   ·exact .inl (a ▸ e)
   ·rw [a] at e;simp at e;exact .inr e.symm)
  clear ho6 hg6 hat6 hk6 hpb
  refine hK.out _ _ (fun _=>⟨e1,e2⟩) ?_
  clear hK K
  (try simp only [Act.put])
  refine freeD 18 77 (.pointer (some ⟨b,0,none⟩)) rfl rfl (by kernel_rfl) (by kernel_rfl) (by kernel_rfl) (by decide) (fun _ _ _ h=>h) (fun _=>⟨e1,e2⟩) (Or.inl ⟨by kernel_rfl,by intro w _;go_simp⟩) ?_
  simp only [sZ,sS]
  refine freeD 19 78 (.pointer (some ⟨b,1,none⟩)) rfl rfl (by kernel_rfl) (by kernel_rfl) (by kernel_rfl) (by decide) (fun _ _ _ h=>h) (fun _=>⟨e1,e2⟩) (Or.inl ⟨by kernel_rfl,by intro w _;go_simp⟩) ?_
  simp only [sZ,sS]
  refine wpT_ready (rs:=[20]) (by kernel_rfl) (by simp) (AllT.cons rfl (fun K hK=>?_) AllT.nil)
  go_simp
  refine hK.out _ _ (bool_no (by kernel_rfl)) ?_
  clear hK K e1 e2 g1
  refine wpT_done (by kernel_rfl) ?_ _
  have HK7:Hid (Kept (fun k=>k=b) w6 (w6.setCell ⟨b,1,none⟩ (.slice na6 (s.js.length+1) nc6))):=mH (Kept.setCell (F:=fun k=>k=b) w6 (p:=⟨b,1,none⟩) rfl (.slice na6 (s.js.length+1) nc6))
  generalize w6.setCell ⟨b,1,none⟩ (.slice na6 (s.js.length+1) nc6)=W7 at *
  clear c0 c1 q0 q1 q2 q3 q4 d1 d2
  have c0:=HPN.out.c0
  obtain⟨g',c',eg,q⟩:=own_task HPN.out.town HX.out
  simp only [Value.slice.injEq,Option.some.injEq,Addr.mk.injEq] at eg
  obtain⟨⟨rfl,_⟩,_,rfl⟩:=eg
  obtain⟨q0,q1,q2,q3,q4,qf⟩:=q
  simp only at q0 q1 q2 q3 q4
  have f4:=qf (i * 5+4)
  clear qf
  go_wp2
  go_ret
  refine⟨rfl, ?_⟩
  have hE:s.put i ((xc,xp,xd,xs),xa) now ticks=⟨s.xs.set i ((xc,xp,xd,xs),now+xp),s.js ++ [⟨i,now,now+xd,1,0⟩]⟩:=by
   unfold Gt.put
   rw [HE.out]
  rw [hE]
  refine GcB.mk (HPN.out.setAg rfl HX.out (now+xp)) ?_ (fun k e=>?_)
  ·refine((HKB.out.trans HK6.out (fun k e=>.inl (.inr (.inr e)))).trans HK7.out (fun k e=>.inl (.inl e))).trans (Kept.setCell (F:=fun k=>k=g) W7 (p:=⟨g,i * 5+4,none⟩) rfl (.int .i64 (now+xp))) (fun k e=>.inl (.inr (.inl (by simp [Value.ownBlock,e]))))
  ·rcases HA6.out k e with a | a
   ·exact .inl a
   ·exact .inr (by rw [a];exact HB4.out.size)
 ·go_enter Tryz.func30,Tryz.ntmps30
  go_wp2
  have HE:Hid (newJ (xc,xp,xd,xs) i now L=⟨i,now,now+xd,L,0⟩):=mH (by unfold newJ;rw [<- HL.out])
  have hT:w.drew.cell? ⟨b,1,none⟩=some (.slice ja s.js.length jc)/\w.drew.cell? ⟨g,i * 5+2,none⟩=some (.int .i64 xd):=⟨c1,q2⟩
  refine wp_region_till (fun w'=>w'.cell? ⟨b,1,none⟩=some (.slice ja s.js.length jc)/\w'.cell? ⟨g,i * 5+2,none⟩=some (.int .i64 xd)) 20 (by kernel_rfl) ?_
  refine frE 0 59 (.pointer (some ⟨b,0,none⟩)) rfl rfl (fun _=>hT) ?_
  simp only [sZ,sS]
  refine frE 1 60 (.pointer (some ⟨b,0,none⟩)) rfl rfl (fun _=>hT) ?_
  simp only [sZ,sS]
  refine frE 2 61 (.pointer (some ⟨b,0,none⟩)) rfl rfl (fun _=>hT) ?_
  simp only [sZ,sS]
  refine frE 3 62 (.pointer (some ⟨b,1,none⟩)) rfl rfl (fun _=>hT) ?_
  simp only [sZ,sS]
  refine fiE 4 63 (.slice ja s.js.length jc) rfl rfl hT ?_
  simp only [sZ,sS]
  refine frE 5 64 (.int .i64 (i:Int)) rfl rfl (fun _=>hT) ?_
  simp only [sZ,sS]
  refine frE 6 65 (.int .i64 now) rfl rfl (fun _=>hT) ?_
  simp only [sZ,sS]
  refine frE 7 66 (.int .i64 now) rfl rfl (fun _=>hT) ?_
  simp only [sZ,sS]
  refine frE 8 67 (.pointer (some ⟨g,i * 5,none⟩)) rfl rfl (fun _=>hT) ?_
  simp only [sZ,sS]
  refine frE 9 68 (.pointer (some ⟨g,i * 5,none⟩)) rfl rfl (fun _=>hT) ?_
  simp only [sZ,sS]
  refine frE 10 69 (.pointer (some ⟨g,i * 5,none⟩)) rfl rfl (fun _=>hT) ?_
  simp only [sZ,sS]
  refine frE 11 70 (.pointer (some ⟨g,i * 5+2,none⟩)) rfl rfl (fun _=>hT) ?_
  simp only [sZ,sS]
  refine fiE 12 71 (.int .i64 xd) rfl rfl hT ?_
  simp only [sZ,sS]
  refine frE 13 72 (.int .i64 (now+xd)) rfl rfl (fun _=>hT) ?_
  simp only [sZ,sS]
  refine frE 14 73 (.int .i64 L) rfl rfl (fun _=>hT) ?_
  simp only [sZ,sS]
  refine frE 15 74 (.agg #[.int .i64 (i:Int),.int .i64 now,.int .i64 (now+xd),.int .i64 L,.int .i64 0]) rfl rfl (fun _=>hT) ?_
  simp only [sZ,sS]
  refine wpT_ready (rs:=[16]) (by kernel_rfl) (by simp) (AllT.cons rfl (fun K hK=>?_) AllT.nil)
  go_simp
  obtain⟨W4,hW4⟩:∃ W4,W4=(w.alloc (.cells #[.int .i64 (i:Int),.int .i64 now,.int .i64 (now+xd),.int .i64 L,.int .i64 0] 55)).drew:=⟨_,rfl⟩
  have b4:Below w.heap.size w W4:=by rw [hW4];exact(ba (Below.refl _ _) _).drew
  have HR4:Hid (RowIn 5 cj W4 (.slice (some ⟨w.heap.size,0,none⟩) 1 1) [(⟨i,now,now+xd,L,0⟩:Jb)]):=mH (by
   rw [hW4]
   exact RowIn.below (rowOne (f:=cj) (⟨i,now,now+xd,L,0⟩:Jb) w 55) (Below.refl _ _).drew)
  have HP4:=mH (HG.out.below b4)
  have HB4:=mH b4
  have HKB:Hid (Kept (Ft (.slice (some ⟨g,0,none⟩) s.xs.length c) (.slice ja s.js.length jc) b) w W4):=mH (kept_new b4)
  rw [<- hW4]
  clear hW4 b4 hT
  have d1:=HP4.out.c1
  have d2:=kc q2 HB4.out
  refine hK.out _ _ (fun _=>⟨d1,d2⟩) ?_
  clear hK K
  (try simp only [Act.put])
  generalize w.heap.size=z3 at *
  refine wpT_ready (rs:=[17]) (by kernel_rfl) (by simp) (AllT.cons rfl (fun K hK=>?_) AllT.nil)
  refine step_append_src5 (w:=W4) rfl (.tmp 63) (.tmp 75) 64 64 rfl base 55 ie Tryz.underlying64 hie.out.1 (.agg #[.int .i64 0,.int .i64 0,.int .i64 0,.int .i64 0,.int .i64 0]) 40 hie.out.2.1 rfl hie.out.2.2.1 hie.out.2.2.2 (.slice ja s.js.length jc) s.js.length (s.js.flatMap cj) (by simp [Act.eval]) HP4.out.jown _ 1 (cj ⟨i,now,now+xd,L,0⟩) (by simp [Act.eval]) (srcOne (f:=cj) (x:=(⟨i,now,now+xd,L,0⟩:Jb)) Tryz.underlying64 (by omega) cj_len onej HR4.out) (by unfold maxLen;omega) (by omega) HP4.out.base_le ?_
  intro v6 w6 ho6 hg6 hat6
  have HPN:=mH (HP4.out.pushJ (x:=⟨i,now,now+xd,L,0⟩) ho6 hg6 hat6)
  have hk6:=Kept.grown hg6 (F:=fun k=>(Value.slice ja s.js.length jc).ownBlock=some k) (fun k hk=>hk)
  obtain⟨na6,nc6,hv6,_⟩:=own_sh ho6
  subst hv6
  have hpb:=(hk6.block b HP4.out.lt HP4.out.jb).trans HP4.out.blk
  have e1:w6.cell? ⟨b,1,none⟩=some (.slice ja s.js.length jc):=cOb hpb rfl
  have g1:w6.frozen? ⟨b,1,none⟩=false:=fOb hpb
  have e2:=hk6.cell d2 (fun e=>HP4.out.tj g rfl e)
  have HK6:=mH hk6
  have HA6:Hid (∀ k,(Value.slice na6 (s.js.length+1) nc6).ownBlock=some k->(Value.slice ja s.js.length jc).ownBlock=some k ∨ k=W4.heap.size):=mH (fun k e=>by
   rcases hat6 with a | a
   ·exact .inl (a ▸ e)
   ·rw [a] at e;simp at e;exact .inr e.symm)
  clear ho6 hg6 hat6 hk6 hpb
  refine hK.out _ _ (fun _=>⟨e1,e2⟩) ?_
  clear hK K
  (try simp only [Act.put])
  refine freeD 18 77 (.pointer (some ⟨b,0,none⟩)) rfl rfl (by kernel_rfl) (by kernel_rfl) (by kernel_rfl) (by decide) (fun _ _ _ h=>h) (fun _=>⟨e1,e2⟩) (Or.inl ⟨by kernel_rfl,by intro w _;go_simp⟩) ?_
  simp only [sZ,sS]
  refine freeD 19 78 (.pointer (some ⟨b,1,none⟩)) rfl rfl (by kernel_rfl) (by kernel_rfl) (by kernel_rfl) (by decide) (fun _ _ _ h=>h) (fun _=>⟨e1,e2⟩) (Or.inl ⟨by kernel_rfl,by intro w _;go_simp⟩) ?_
  simp only [sZ,sS]
  refine wpT_ready (rs:=[20]) (by kernel_rfl) (by simp) (AllT.cons rfl (fun K hK=>?_) AllT.nil)
  go_simp
  refine hK.out _ _ (bool_no (by kernel_rfl)) ?_
  clear hK K e1 e2 g1
  refine wpT_done (by kernel_rfl) ?_ _
  have HK7:Hid (Kept (fun k=>k=b) w6 (w6.setCell ⟨b,1,none⟩ (.slice na6 (s.js.length+1) nc6))):=mH (Kept.setCell (F:=fun k=>k=b) w6 (p:=⟨b,1,none⟩) rfl (.slice na6 (s.js.length+1) nc6))
  generalize w6.setCell ⟨b,1,none⟩ (.slice na6 (s.js.length+1) nc6)=W7 at *
  clear c0 c1 q0 q1 q2 q3 q4 d1 d2
  have c0:=HPN.out.c0
  obtain⟨g',c',eg,q⟩:=own_task HPN.out.town HX.out
  simp only [Value.slice.injEq,Option.some.injEq,Addr.mk.injEq] at eg
  obtain⟨⟨rfl,_⟩,_,rfl⟩:=eg
  obtain⟨q0,q1,q2,q3,q4,qf⟩:=q
  simp only at q0 q1 q2 q3 q4
  have f4:=qf (i * 5+4)
  clear qf
  go_wp2
  go_ret
  refine⟨rfl, ?_⟩
  have hE:s.put i ((xc,xp,xd,xs),xa) now L=⟨s.xs.set i ((xc,xp,xd,xs),now+xp),s.js ++ [⟨i,now,now+xd,L,0⟩]⟩:=by
   unfold Gt.put
   rw [HE.out]
  rw [hE]
  refine GcB.mk (HPN.out.setAg rfl HX.out (now+xp)) ?_ (fun k e=>?_)
  ·refine((HKB.out.trans HK6.out (fun k e=>.inl (.inr (.inr e)))).trans HK7.out (fun k e=>.inl (.inl e))).trans (Kept.setCell (F:=fun k=>k=g) W7 (p:=⟨g,i * 5+4,none⟩) rfl (.int .i64 (now+xp))) (fun k e=>.inl (.inr (.inl (by simp [Value.ownBlock,e]))))
  ·rcases HA6.out k e with a | a
   ·exact .inl a
   ·exact .inr (by rw [a];exact HB4.out.size)
 ·go_enter Tryz.func30,Tryz.ntmps30
  go_wp2
  have HE:Hid (newJ (L,xp,xd,xs) i now ticks=⟨i,now,now+xd,L,0⟩):=mH (by unfold newJ;rw [<- HL.out])
  have hT:w.drew.cell? ⟨b,1,none⟩=some (.slice ja s.js.length jc)/\w.drew.cell? ⟨g,i * 5+2,none⟩=some (.int .i64 xd):=⟨c1,q2⟩
  refine wp_region_till (fun w'=>w'.cell? ⟨b,1,none⟩=some (.slice ja s.js.length jc)/\w'.cell? ⟨g,i * 5+2,none⟩=some (.int .i64 xd)) 20 (by kernel_rfl) ?_
  refine frE 0 59 (.pointer (some ⟨b,0,none⟩)) rfl rfl (fun _=>hT) ?_
  simp only [sZ,sS]
  refine frE 1 60 (.pointer (some ⟨b,0,none⟩)) rfl rfl (fun _=>hT) ?_
  simp only [sZ,sS]
  refine frE 2 61 (.pointer (some ⟨b,0,none⟩)) rfl rfl (fun _=>hT) ?_
  simp only [sZ,sS]
  refine frE 3 62 (.pointer (some ⟨b,1,none⟩)) rfl rfl (fun _=>hT) ?_
  simp only [sZ,sS]
  refine fiE 4 63 (.slice ja s.js.length jc) rfl rfl hT ?_
  simp only [sZ,sS]
  refine frE 5 64 (.int .i64 (i:Int)) rfl rfl (fun _=>hT) ?_
  simp only [sZ,sS]
  refine frE 6 65 (.int .i64 now) rfl rfl (fun _=>hT) ?_
  simp only [sZ,sS]
  refine frE 7 66 (.int .i64 now) rfl rfl (fun _=>hT) ?_
  simp only [sZ,sS]
  refine frE 8 67 (.pointer (some ⟨g,i * 5,none⟩)) rfl rfl (fun _=>hT) ?_
  simp only [sZ,sS]
  refine frE 9 68 (.pointer (some ⟨g,i * 5,none⟩)) rfl rfl (fun _=>hT) ?_
  simp only [sZ,sS]
  refine frE 10 69 (.pointer (some ⟨g,i * 5,none⟩)) rfl rfl (fun _=>hT) ?_
  simp only [sZ,sS]
  refine frE 11 70 (.pointer (some ⟨g,i * 5+2,none⟩)) rfl rfl (fun _=>hT) ?_
  simp only [sZ,sS]
  refine fiE 12 71 (.int .i64 xd) rfl rfl hT ?_
  simp only [sZ,sS]
  refine frE 13 72 (.int .i64 (now+xd)) rfl rfl (fun _=>hT) ?_
  simp only [sZ,sS]
  refine frE 14 73 (.int .i64 L) rfl rfl (fun _=>hT) ?_
  simp only [sZ,sS]
  refine frE 15 74 (.agg #[.int .i64 (i:Int),.int .i64 now,.int .i64 (now+xd),.int .i64 L,.int .i64 0]) rfl rfl (fun _=>hT) ?_
  simp only [sZ,sS]
  refine wpT_ready (rs:=[16]) (by kernel_rfl) (by simp) (AllT.cons rfl (fun K hK=>?_) AllT.nil)
  go_simp
  obtain⟨W4,hW4⟩:∃ W4,W4=(w.alloc (.cells #[.int .i64 (i:Int),.int .i64 now,.int .i64 (now+xd),.int .i64 L,.int .i64 0] 55)).drew:=⟨_,rfl⟩
  have b4:Below w.heap.size w W4:=by rw [hW4];exact(ba (Below.refl _ _) _).drew
  have HR4:Hid (RowIn 5 cj W4 (.slice (some ⟨w.heap.size,0,none⟩) 1 1) [(⟨i,now,now+xd,L,0⟩:Jb)]):=mH (by
   rw [hW4]
   exact RowIn.below (rowOne (f:=cj) (⟨i,now,now+xd,L,0⟩:Jb) w 55) (Below.refl _ _).drew)
  have HP4:=mH (HG.out.below b4)
  have HB4:=mH b4
  have HKB:Hid (Kept (Ft (.slice (some ⟨g,0,none⟩) s.xs.length c) (.slice ja s.js.length jc) b) w W4):=mH (kept_new b4)
  rw [<- hW4]
  clear hW4 b4 hT
  have d1:=HP4.out.c1
  have d2:=kc q2 HB4.out
  refine hK.out _ _ (fun _=>⟨d1,d2⟩) ?_
  clear hK K
  (try simp only [Act.put])
  generalize w.heap.size=z3 at *
  refine wpT_ready (rs:=[17]) (by kernel_rfl) (by simp) (AllT.cons rfl (fun K hK=>?_) AllT.nil)
  refine step_append_src5 (w:=W4) rfl (.tmp 63) (.tmp 75) 64 64 rfl base 55 ie Tryz.underlying64 hie.out.1 (.agg #[.int .i64 0,.int .i64 0,.int .i64 0,.int .i64 0,.int .i64 0]) 40 hie.out.2.1 rfl hie.out.2.2.1 hie.out.2.2.2 (.slice ja s.js.length jc) s.js.length (s.js.flatMap cj) (by simp [Act.eval]) HP4.out.jown _ 1 (cj ⟨i,now,now+xd,L,0⟩) (by simp [Act.eval]) (srcOne (f:=cj) (x:=(⟨i,now,now+xd,L,0⟩:Jb)) Tryz.underlying64 (by omega) cj_len onej HR4.out) (by unfold maxLen;omega) (by omega) HP4.out.base_le ?_
  intro v6 w6 ho6 hg6 hat6
  have HPN:=mH (HP4.out.pushJ (x:=⟨i,now,now+xd,L,0⟩) ho6 hg6 hat6)
  have hk6:=Kept.grown hg6 (F:=fun k=>(Value.slice ja s.js.length jc).ownBlock=some k) (fun k hk=>hk)
  obtain⟨na6,nc6,hv6,_⟩:=own_sh ho6
  subst hv6
  have hpb:=(hk6.block b HP4.out.lt HP4.out.jb).trans HP4.out.blk
  have e1:w6.cell? ⟨b,1,none⟩=some (.slice ja s.js.length jc):=cOb hpb rfl
  have g1:w6.frozen? ⟨b,1,none⟩=false:=fOb hpb
  have e2:=hk6.cell d2 (fun e=>HP4.out.tj g rfl e)
  have HK6:=mH hk6
  have HA6:Hid (∀ k,(Value.slice na6 (s.js.length+1) nc6).ownBlock=some k->(Value.slice ja s.js.length jc).ownBlock=some k ∨ k=W4.heap.size):=mH (fun k e=>by
   rcases hat6 with a | a
   ·exact .inl (a ▸ e)
   ·rw [a] at e;simp at e;exact .inr e.symm)
  clear ho6 hg6 hat6 hk6 hpb
  refine hK.out _ _ (fun _=>⟨e1,e2⟩) ?_
  clear hK K
  (try simp only [Act.put])
  refine freeD 18 77 (.pointer (some ⟨b,0,none⟩)) rfl rfl (by kernel_rfl) (by kernel_rfl) (by kernel_rfl) (by decide) (fun _ _ _ h=>h) (fun _=>⟨e1,e2⟩) (Or.inl ⟨by kernel_rfl,by intro w _;go_simp⟩) ?_
  simp only [sZ,sS]
  refine freeD 19 78 (.pointer (some ⟨b,1,none⟩)) rfl rfl (by kernel_rfl) (by kernel_rfl) (by kernel_rfl) (by decide) (fun _ _ _ h=>h) (fun _=>⟨e1,e2⟩) (Or.inl ⟨by kernel_rfl,by intro w _;go_simp⟩) ?_
  simp only [sZ,sS]
  refine wpT_ready (rs:=[20]) (by kernel_rfl) (by simp) (AllT.cons rfl (fun K hK=>?_) AllT.nil)
  go_simp
  refine hK.out _ _ (bool_no (by kernel_rfl)) ?_
  clear hK K e1 e2 g1
  refine wpT_done (by kernel_rfl) ?_ _
  have HK7:Hid (Kept (fun k=>k=b) w6 (w6.setCell ⟨b,1,none⟩ (.slice na6 (s.js.length+1) nc6))):=mH (Kept.setCell (F:=fun k=>k=b) w6 (p:=⟨b,1,none⟩) rfl (.slice na6 (s.js.length+1) nc6))
  generalize w6.setCell ⟨b,1,none⟩ (.slice na6 (s.js.length+1) nc6)=W7 at *
  clear c0 c1 q0 q1 q2 q3 q4 d1 d2
  have c0:=HPN.out.c0
  obtain⟨g',c',eg,q⟩:=own_task HPN.out.town HX.out
  simp only [Value.slice.injEq,Option.some.injEq,Addr.mk.injEq] at eg
  obtain⟨⟨rfl,_⟩,_,rfl⟩:=eg
  obtain⟨q0,q1,q2,q3,q4,qf⟩:=q
  simp only at q0 q1 q2 q3 q4
  have f4:=qf (i * 5+4)
  clear qf
  go_wp2
  go_ret
  refine⟨rfl, ?_⟩
  have hE:s.put i ((L,xp,xd,xs),xa) now ticks=⟨s.xs.set i ((L,xp,xd,xs),now+xp),s.js ++ [⟨i,now,now+xd,L,0⟩]⟩:=by
   unfold Gt.put
   rw [HE.out]
  rw [hE]
  refine GcB.mk (HPN.out.setAg rfl HX.out (now+xp)) ?_ (fun k e=>?_)
  ·refine((HKB.out.trans HK6.out (fun k e=>.inl (.inr (.inr e)))).trans HK7.out (fun k e=>.inl (.inl e))).trans (Kept.setCell (F:=fun k=>k=g) W7 (p:=⟨g,i * 5+4,none⟩) rfl (.int .i64 (now+xp))) (fun k e=>.inl (.inr (.inl (by simp [Value.ownBlock,e]))))
  ·rcases HA6.out k e with a | a
   ·exact .inl a
   ·exact .inr (by rw [a];exact HB4.out.size)
theorem release_is (base:Nat) (w:World) (b:Nat) (p:Int) (tv jv:Value) (s:Gt) (k now ticks:Int) (a:Nat->Addr) (h:GB base w b p tv jv s) (ok:s.Ok p) (E:Eg w a):Calls Tryz.prog 30 #[.pointer (some ⟨b,0,none⟩),.int .i64 k,.int .i64 now,.int .i64 ticks] w fun e w'=>e=.returned (eg a (relC s k now))/\GcB base w b p tv jv (s.rel k now ticks) w':=by
 rcases relC_cases s k now with ⟨e,hc⟩ | ⟨n0,n1,i,x,rfl,hi,hx,⟨e,h1⟩ | ⟨e,h1,h2⟩ | ⟨e,h1,h2⟩⟩
 ·rw [e,rel_no (by omega)]
  refine(rel_num base w b p tv jv s k now ticks _ h E.num hc).mono ?_
  rintro r w' ⟨rfl,rfl⟩
  exact⟨rfl,GcB.same h⟩
 ·rw [e,rel_no (by omega)]
  refine(rel_busy base w b p tv jv s i x now ticks _ h E.busy hx n0 n1 h1).mono ?_
  rintro r w' ⟨rfl,rfl⟩
  exact⟨rfl,GcB.same h⟩
 ·rw [e,rel_no (by omega)]
  refine(rel_full base w b p tv jv s i x now ticks _ h E.full hx n0 n1 h1 h2).mono ?_
  rintro r w' ⟨rfl,rfl⟩
  exact⟨rfl,GcB.same h⟩
 ·rw [e,rel_yes e hx]
  refine(rel_ok base w b p tv jv s i x now ticks h (ok.ok x (List.mem_of_getElem? hx)) hx n0 n1 h1 h2).mono ?_
  rintro r w' ⟨rfl,hg⟩
  exact⟨rfl,hg⟩
theorem GB.pushT {base:Nat} {w w1:World} {b:Nat} {p:Int} {tv jv v1:Value} {s:Gt} {x:Tq} (h:GB base w b p tv jv s) (hown:w1.ownsRow base 126 5 v1 (s.xs.length+1) (s.xs.flatMap cq ++ cq x)) (hg:w.grownBy w1 tv.ownBlock) (hat:v1.ownBlock=tv.ownBlock ∨ v1.ownBlock=some w.heap.size) :
  GB base (w1.setCell ⟨b,0,none⟩ v1) b p v1 jv ⟨s.xs ++ [x],s.js⟩:=by
 have hk:=Kept.grown hg (F:=fun k=>tv.ownBlock=some k) (fun k hk=>hk)
 have hk1:=Kept.setCell (F:=fun k=>k=b) w1 (p:=⟨b,0,none⟩) rfl v1
 have hv:∀ k,v1.ownBlock=some k->tv.ownBlock=some k ∨ k=w.heap.size:=fun k e=>by
  rcases hat with a | a
  ·exact .inl (a ▸ e)
  ·rw [a] at e;simp at e;exact .inr e.symm
 have hpg:v1.ownBlock ≠ some b:=fun e=>by
  rcases hv b e with a | a
  ·exact h.tb a
  ·have:=h.lt;omega
 refine⟨hSt ((hk.block b h.lt h.tb).trans h.blk), ?_, ?_,h.bb,hpg,h.jb,fun k e e2=>?_⟩
 ·rw [List.flatMap_append,List.length_append]
  refine oNk ?_ hk1 (fun k e e2=>hpg (by rw [<- e2];exact e))
  simpa using hown
 ·exact oNk (oNk h.jown hk (fun k e e2=>h.tj k e2 e)) hk1 (fun k e e2=>h.jb (by rw [<- e2];exact e))
 ·rcases hv k e with a | a
  ·exact h.tj k a e2
  ·have:=(h.jown.lt k e2).2;omega
theorem info_gtask:(Tryz.prog.info? 126).map (fun i=>(i.zero,i.size,i.bytes))=some (some (.agg #[.int .i64 0,.int .i64 0,.int .i64 0,.int .i64 0,.int .i64 0]),5,40):=by kernel_rfl
set_option maxHeartbeats 12800000 in
theorem gnew_ok (w:World) (v:Value) (p:Int) (ts:List Tk) (h:Tks w v ts) (hx:okG p ts) :
  Calls Tryz.prog 74 #[.int .i64 p,v] w fun e w'=>∃ b tv,e=.returned (.tuple #[.pointer (some ⟨b,0,none⟩),.nilIface])/\GB w.heap.size w' b p tv (.slice none 0 0) ⟨ts.map (fun t=>(t,0)),[]⟩/\Below w.heap.size w w':=by
 obtain⟨ie,hie1,hz0,hz1,hz2⟩:=info_parts info_gtask
 have hie:=mH (And.intro hie1 (And.intro hz0 (And.intro hz1 hz2)))
 clear hie1 hz0 hz1 hz2
 have HC:=mH (guest_ok w v p ts h hx)
 have HU:Hid (∀ W,Calls Tryz.prog 104 #[.int .i64 p] W fun e w'=>e=.returned (.func (.func (rul p)) #[] #[])/\w'=W):=mH (fun W=>rule_is W p hx.1)
 have hlen:ts.length<=8:=hx.2.2.1
 have HT:=mH h
 obtain⟨a0,cap,rfl,_,_⟩:=h
 clear hx
 generalize hrp:rul p=RP at *
 have HRP:=mH hrp
 clear hrp
 go_enter Tryz.func74,Tryz.ntmps74
 go_wp2_with (first | (go_at_call 103;refine HC.out.mono ?_;rintro e w1 ⟨rfl,b1⟩;have HB:=mH b1;clear b1) | (go_at_call 104;refine(HU.out _).mono ?_;rintro e w2 ⟨rfl,hw⟩;rw [hw];clear hw))
 obtain⟨W,hW⟩:∃ W,W=w1.alloc (.cells #[.slice none 0 0,.slice none 0 0,.func (.func RP) #[] #[]] 123):=⟨_,rfl⟩
 have HGW:Hid (GB w.heap.size W w1.heap.size p (.slice none 0 0) (.slice none 0 0) ⟨(ts.take 0).map (fun t=>(t,0)),[]⟩):=mH ⟨by rw [hW,HRP.out];exact heap_alloc_new w1 _,World.ownsRow_nil _ _ _ _,World.ownsRow_nil _ _ _ _,HB.out.size,by simp [Value.ownBlock],by simp [Value.ownBlock],by simp [Value.ownBlock]⟩
 have HBW:Hid (Below w.heap.size w W):=mH (by rw [hW];exact ba HB.out _)
 rw [<- hW]
 clear hW
 generalize w1.heap.size=b at *
 go_wp2
 go_loopw [22] (fun iv wr=>∃ (j:Nat) (ta:Option Addr) (tc:Nat),iv=.int .i64 (j:Int)/\j<=ts.length/\Hid (GB w.heap.size wr b p (.slice ta j tc) (.slice none 0 0) ⟨(ts.take j).map (fun t=>(t,0)),[]⟩)/\Hid (Below w.heap.size w wr)) (fun iv _=>ts.length - (intOf iv).toNat)
 case atStart=>exact⟨0,none,0,rfl,Nat.zero_le _,HGW,HBW⟩
 case round=>
  clear HGW HBW
  obtain⟨j,ta,tc,rfl,hj,HGR,HBR⟩:=hrel
  by_cases hlt:j < ts.length
  ·obtain⟨tb,off,c,pp,d,s,rfl,hxj,c0,c1,c2,c3⟩:=HT.out.at HBR.out j hlt
   have hji:(j:Int) < ts.length:=by omega
   have HXJ:=mH hxj
   clear hxj
   go_wp2
   obtain⟨W,hW⟩:∃ W,W=wr.alloc (.cells #[.int .i64 c,.int .i64 pp,.int .i64 d,.int .i64 s] 45):=⟨_,rfl⟩
   have HGW:=mH (HGR.out.below (by rw [hW];exact ba (Below.refl _ wr) _:Below wr.heap.size wr W))
   have HBW:Hid (Below w.heap.size w W):=mH (by rw [hW];exact ba HBR.out _)
   have hbx:W.heap[wr.heap.size]?=some (.cells #[.int .i64 c,.int .i64 pp,.int .i64 d,.int .i64 s] 45 (0,0)):=by rw [hW];exact heap_alloc_new wr _
   have HNE:Hid (¬ wr.heap.size=b):=mH (by have:=HGR.out.lt;omega)
   rw [<- hW]
   have HGR0:=mH HGR.out
   clear hW c0 c1 c2 c3 HGR HBR
   have HBO:Hid ((Value.slice ta j tc).ownBlock=some wr.heap.size->False):=mH (fun e=>by have:=(HGR0.out.town.lt _ e).2;omega)
   clear HGR0
   generalize wr.heap.size=Bx at *
   have HBX:=mH hbx
   have z0:W.cell? ⟨Bx,0,none⟩=some (.int .i64 c):=cOb hbx rfl
   have z1:W.cell? ⟨Bx,1,none⟩=some (.int .i64 pp):=cOb hbx rfl
   have z2:W.cell? ⟨Bx,2,none⟩=some (.int .i64 d):=cOb hbx rfl
   have z3:W.cell? ⟨Bx,3,none⟩=some (.int .i64 s):=cOb hbx rfl
   have c0:=HGW.out.c0
   clear hbx
   have hT:W.drew.cell? ⟨b,0,none⟩=some (.slice ta j tc)/\W.drew.cell? ⟨Bx,0,none⟩=some (.int .i64 c)/\W.drew.cell? ⟨Bx,1,none⟩=some (.int .i64 pp)/\W.drew.cell? ⟨Bx,2,none⟩=some (.int .i64 d)/\W.drew.cell? ⟨Bx,3,none⟩=some (.int .i64 s):=⟨c0,z0,z1,z2,z3⟩
   refine wp_region_till (fun w'=>w'.cell? ⟨b,0,none⟩=some (.slice ta j tc)/\w'.cell? ⟨Bx,0,none⟩=some (.int .i64 c)/\w'.cell? ⟨Bx,1,none⟩=some (.int .i64 pp)/\w'.cell? ⟨Bx,2,none⟩=some (.int .i64 d)/\w'.cell? ⟨Bx,3,none⟩=some (.int .i64 s)) 11 (by kernel_rfl) ?_
   refine frE 0 26 (.pointer (some ⟨b,0,none⟩)) rfl rfl (fun _=>hT) ?_
   simp only [sZ,sS]
   refine frE 1 27 (.pointer (some ⟨b,0,none⟩)) rfl rfl (fun _=>hT) ?_
   simp only [sZ,sS]
   refine frE 2 28 (.pointer (some ⟨b,0,none⟩)) rfl rfl (fun _=>hT) ?_
   simp only [sZ,sS]
   refine frE 3 29 (.pointer (some ⟨b,0,none⟩)) rfl rfl (fun _=>hT) ?_
   simp only [sZ,sS]
   refine fiE 4 30 (.slice ta j tc) rfl rfl hT ?_
   simp only [sZ,sS]
   refine fiE 5 31 (.agg #[.int .i64 c,.int .i64 pp,.int .i64 d,.int .i64 s]) rfl rfl hT ?_
   simp only [sZ,sS]
   refine frE 6 32 (.agg #[.int .i64 c,.int .i64 pp,.int .i64 d,.int .i64 s,.int .i64 0]) rfl rfl (fun _=>hT) ?_
   simp only [sZ,sS]
   refine wpT_ready (rs:=[7]) (by kernel_rfl) (by simp) (AllT.cons rfl (fun K hK=>?_) AllT.nil)
   go_simp
   obtain⟨W4,hW4⟩:∃ W4,W4=(W.alloc (.cells #[.int .i64 c,.int .i64 pp,.int .i64 d,.int .i64 s,.int .i64 0] 126)).drew:=⟨_,rfl⟩
   have b4:Below W.heap.size W W4:=by rw [hW4];exact(ba (Below.refl _ _) _).drew
   have HR4:Hid (RowIn 5 cq W4 (.slice (some ⟨W.heap.size,0,none⟩) 1 1) [(((c,pp,d,s),0):Tq)]):=mH (by
    rw [hW4]
    exact RowIn.below (rowOne (f:=cq) (((c,pp,d,s),0):Tq) W 126) (Below.refl _ _).drew)
   have HP4:=mH (HGW.out.below b4)
   have HB4:Hid (Below w.heap.size w W4):=mH (bt HBW.out b4)
   have HX4:=mH (bLt HBX.out b4)
   rw [<- hW4]
   clear hW4 b4 hT c0 z0 z1 z2 z3
   have d0:=HP4.out.c0
   have z0:W4.cell? ⟨Bx,0,none⟩=some (.int .i64 c):=cOb HX4.out rfl
   have z1:W4.cell? ⟨Bx,1,none⟩=some (.int .i64 pp):=cOb HX4.out rfl
   have z2:W4.cell? ⟨Bx,2,none⟩=some (.int .i64 d):=cOb HX4.out rfl
   have z3:W4.cell? ⟨Bx,3,none⟩=some (.int .i64 s):=cOb HX4.out rfl
   refine hK.out _ _ (fun _=>⟨d0,z0,z1,z2,z3⟩) ?_
   clear hK K
   (try simp only [Act.put])
   generalize W.heap.size=y3 at *
   have elen:((ts.take j).map (fun t=>(t,(0:Int)))).length=j:=by rw [List.length_map,List.length_take];omega
   have HT4:Hid (W4.ownsRow w.heap.size 126 5 (.slice ta j tc) j (((ts.take j).map (fun t=>(t,(0:Int)))).flatMap cq)):=mH (by have:=HP4.out.town;simp only at this;rwa [elen] at this)
   have HEL:=mH elen
   clear elen
   refine wpT_ready (rs:=[8]) (by kernel_rfl) (by simp) (AllT.cons rfl (fun K hK=>?_) AllT.nil)
   refine step_append_src5 (w:=W4) rfl (.tmp 30) (.tmp 33) 120 120 rfl w.heap.size 126 ie Tryz.underlying120 hie.out.1 (.agg #[.int .i64 0,.int .i64 0,.int .i64 0,.int .i64 0,.int .i64 0]) 40 hie.out.2.1 rfl hie.out.2.2.1 hie.out.2.2.2 (.slice ta j tc) j (((ts.take j).map (fun t=>(t,(0:Int)))).flatMap cq) (by simp [Act.eval]) HT4.out _ 1 (cq ((c,pp,d,s),0)) (by simp [Act.eval]) (srcOne (f:=cq) (x:=(((c,pp,d,s),0):Tq)) Tryz.underlying120 (by omega) cq_len oneq HR4.out) (by unfold maxLen;omega) (by omega) HP4.out.base_le ?_
   intro v6 w6 ho6 hg6 hat6
   have HPN:=mH (HP4.out.pushT (x:=((c,pp,d,s),0)) (by rw [HEL.out];exact ho6) hg6 hat6)
   have hk6:=Kept.grown hg6 (F:=fun k=>(Value.slice ta j tc).ownBlock=some k) (fun k hk=>hk)
   obtain⟨na6,nc6,hv6,_⟩:=own_sh ho6
   subst hv6
   have hpb:=(hk6.block b HP4.out.lt HP4.out.tb).trans HP4.out.blk
   have hxb:=(hk6.block Bx (lOh HX4.out) (fun e=>HBO.out e)).trans HX4.out
   have e0:w6.cell? ⟨b,0,none⟩=some (.slice ta j tc):=cOb hpb rfl
   have g1:w6.frozen? ⟨b,0,none⟩=false:=fOb hpb
   have u0:w6.cell? ⟨Bx,0,none⟩=some (.int .i64 c):=cOb hxb rfl
   have u1:w6.cell? ⟨Bx,1,none⟩=some (.int .i64 pp):=cOb hxb rfl
   have u2:w6.cell? ⟨Bx,2,none⟩=some (.int .i64 d):=cOb hxb rfl
   have u3:w6.cell? ⟨Bx,3,none⟩=some (.int .i64 s):=cOb hxb rfl
   have HB6:Hid (Below w.heap.size w w6):=mH (HB4.out.grown hg6 HB4.out.size (fun k hk=>(HP4.out.town.lt k hk).1))
   clear ho6 hg6 hat6 hk6 hpb hxb
   refine hK.out _ _ (fun _=>⟨e0,u0,u1,u2,u3⟩) ?_
   clear hK K
   (try simp only [Act.put])
   refine freeD 9 35 (.pointer (some ⟨b,0,none⟩)) rfl rfl (by kernel_rfl) (by kernel_rfl) (by kernel_rfl) (by decide) (fun _ _ _ h=>h) (fun _=>⟨e0,u0,u1,u2,u3⟩) (Or.inl ⟨by kernel_rfl,by intro w _;go_simp⟩) ?_
   simp only [sZ,sS]
   refine freeD 10 36 (.pointer (some ⟨b,0,none⟩)) rfl rfl (by kernel_rfl) (by kernel_rfl) (by kernel_rfl) (by decide) (fun _ _ _ h=>h) (fun _=>⟨e0,u0,u1,u2,u3⟩) (Or.inl ⟨by kernel_rfl,by intro w _;go_simp⟩) ?_
   simp only [sZ,sS]
   refine wpT_ready (rs:=[11]) (by kernel_rfl) (by simp) (AllT.cons rfl (fun K hK=>?_) AllT.nil)
   go_simp
   refine hK.out _ _ (bool_no (by kernel_rfl)) ?_
   clear hK K e0 g1 u0 u1 u2 u3 d0 z0 z1 z2 z3
   refine wpT_done (by kernel_rfl) ?_ _
   have HB7:Hid (Below w.heap.size w (w6.setCell ⟨b,0,none⟩ (.slice na6 (j+1) nc6))):=mH (setG_below HB6.out HP4.out.bb _ HB6.out.size)
   generalize w6.setCell ⟨b,0,none⟩ (.slice na6 (j+1) nc6)=W7 at *
   go_wp2
   go_roundw
   case rel=>
    refine⟨j+1,na6,nc6,by go_num,by omega,mH ?_,HB7⟩
    have:=HPN.out
    rwa [show (ts.take j).map (fun t=>(t,(0:Int))) ++ [((c,pp,d,s),0)]=(ts.take (j+1)).map (fun t=>(t,(0:Int))) by rw [List.take_add_one,HXJ.out,List.map_append];rfl] at this
   case measure=>simp [intOf];omega
  ·obtain rfl:j=ts.length:=by omega
   clear hlt
   go_wp2
   go_ret2
   have:=HGR.out
   rw [List.take_of_length_le (Nat.le_refl _)] at this
   exact⟨b,_,rfl,this,HBR.out⟩
end Go.Proofs.YtpdehdomilnmeaaGreatDoor
