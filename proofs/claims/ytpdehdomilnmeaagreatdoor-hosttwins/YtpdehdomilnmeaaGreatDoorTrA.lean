import Derived.Test.YtpdehdomilnmeaaGreatDoorTrMem
import Derived.Test.YtpdehdomilnmeaaGreatDoorSp
import Derived.Deep.AppendSrc
import Derived.Lib.SliceRun
namespace Go.Proofs.YtpdehdomilnmeaaGreatDoor
open Go.ChangeShapes Go.WideShapes Go.ChangeAt Go.RowKit
set_option maxRecDepth 100000
attribute [local go_sem] World.cell?_alloc_some fAs
theorem info_parts {P:Program} {t:TypeId} {z:Option Value} {s b:Nat} (h:(P.info? t).map (fun i=>(i.zero,i.size,i.bytes))=some (z,s,b)):∃ i,P.info? t=some i/\i.zero=z/\i.size=s/\i.bytes=b:=by
 obtain⟨i,hi,e⟩:=Option.map_eq_some_iff.mp h
 simp at e
 exact⟨i,hi,e.1,e.2.1,e.2.2⟩
theorem results_cell1 {fn:Func} {p:Tmp} {ty:TypeId} (h:fn.results=#[.cell p ty]) (tmps:Array Value) (P:Program) (w:World) :
  (results fn tmps).run P w=((asAddr (tmps.getD p undef)).run P w).andThen fun a w₁=>(loadVar ty a).run P w₁:=by
 simp only [results,h]
 simp [Sem.run_bind,Result.andThen]
theorem leaves1 {W:World} {R:Nat} {p:Tmp} {fn:Func} {ty:TypeId} {fs:Array Go.Field} {cs:Array Value} (hf:fn.results=#[.cell p ty]) (hR:W.heap[R]?=some (.cells cs ty (0,0))) (hu:Tryz.prog.underlying ty=some (.struct fs)) (hs:(Tryz.prog.info? ty).map (·.size)=some cs.size) (tmps:Array Value) (h2:tmps.getD p undef=.pointer (some ⟨R,0,none⟩)):(results fn tmps).run Tryz.prog W=.ok (.agg cs) W:=by
 have hl:=run_loadVar_row (P:=Tryz.prog) W R ty ty cs (0,0) _ hR hu rfl hs
 rw [results_cell1 hf,h2]
 simp [asAddr,Result.andThen,hl]
theorem leavesCT {W:World} {R:Nat} {p u:Tmp} {fn:Func} {ty:TypeId} {fs:Array Go.Field} {cs:Array Value} (hf:fn.results=#[.cell p ty,.tmp u]) (hR:W.heap[R]?=some (.cells cs ty (0,0))) (hu:Tryz.prog.underlying ty=some (.struct fs)) (hs:(Tryz.prog.info? ty).map (·.size)=some cs.size) (tmps:Array Value) (h2:tmps.getD p undef=.pointer (some ⟨R,0,none⟩)):(results fn tmps).run Tryz.prog W=.ok (.tuple #[.agg cs,tmps.getD u undef]) W:=by
 have hl:=run_loadVar_row (P:=Tryz.prog) W R ty ty cs (0,0) _ hR hu rfl hs
 rw [results_cell_tmp (p:=p) (u:=u) (ty:=ty) hf,h2]
 simp [asAddr,Result.andThen,hl]
theorem size_node:(Tryz.prog.info? 69).map (·.size)=some 7:=by kernel_rfl
theorem size_server:(Tryz.prog.info? 37).map (·.size)=some 3:=by kernel_rfl
theorem size_tree:(Tryz.prog.info? 30).map (·.size)=some 4:=by kernel_rfl
theorem size_result:(Tryz.prog.info? 94).map (·.size)=some 2:=by kernel_rfl
theorem own_shape {w:World} {base:Nat} {e:TypeId} {size:Nat} {v:Value} {n:Nat} {xs:List Value} (h:w.ownsRow base e size v n xs):∃ a c,v=.slice a n c:=by
 obtain⟨a,c,e,_⟩:=own_sh h
 exact⟨a,c,e⟩
theorem eql_nilT (w:World) (a:Option Addr) (n c n' c':Nat):(binOp .eql 38 (.slice a n c) (.slice none n' c')).run Tryz.prog w=.ok (.bool a.isNone) w:=
 Lib.run_eql_slice_nil w _ _ a n c n' c' Tryz.underlying38
theorem cloneT_any (w:World) (a:Option Addr) (cap:Nat) (xs:List Tk) (hsrc:∀ W,Below w.heap.size w W->Src Tryz.prog 4 38 (.slice a xs.length cap) xs.length (xs.flatMap c4) W) (h0:a=none->xs=[]) (hs:xs.length * 32<=140737488355328):Calls Tryz.prog 28 #[.slice a xs.length cap] w fun r w'=>∃ a2 c2,r=.returned (.slice a2 xs.length c2)/\w'.ownsRow w.heap.size 45 4 (.slice a2 xs.length c2) xs.length (xs.flatMap c4)/\Below w.heap.size w w':=by
 obtain⟨ie,hi,hz0,hz1,hz2⟩:=info_parts info_task
 obtain⟨zth,hzth⟩:∃ z:Value,z=.agg #[.int .i64 0,.int .i64 0,.int .i64 0,.int .i64 0]:=⟨_,rfl⟩
 rw [<- hzth] at hz0
 have HZ:Hid (zth.cells.size=4):=mH (by rw [hzth];rfl)
 have hie:=mH (And.intro hi (And.intro hz0 (And.intro hz1 hz2)))
 clear hzth hi hz0 hz1 hz2
 have HS:=mH hs
 cases a with
 |none=>
  have h0:=h0 rfl
  subst h0
  have hq:=eql_nilT w none 0 cap 0 0
  clear hsrc hs
  go_enter Tryz.func28,Tryz.ntmps28
  go_wp2
  go_ret
  exact⟨none,0,rfl,World.ownsRow_nil _ _ _ _,Below.refl _ _⟩
 |some ad=>
  have hq:=eql_nilT w (some ad) xs.length cap 0 0
  have HSRC:=mH (hsrc _ (ba (Below.refl _ w) (.cells #[] 45)))
  have HM:Hid ((w.alloc (.cells #[] 45)).ownsRow w.heap.size 45 4 (.slice (some ⟨w.heap.size,0,none⟩) 0 0) 0 []):=mH (World.ownsRow_made (base:=w.heap.size) (e:=45) (size:=4) w #[] 0 (Nat.le_refl _) (by unfold maxLen;omega) rfl)
  clear hsrc hs h0
  go_enter Tryz.func28,Tryz.ntmps28
  go_wp2_with (at_builtin;refine wpList_append_src4 _ rfl (.tmp 5) (.tmp 6) 38 38 rfl w.heap.size 45 ie Tryz.underlying38 hie.out.1 zth 32 hie.out.2.1 HZ.out hie.out.2.2.1 hie.out.2.2.2 _ 0 [] rfl HM.out _ xs.length (xs.flatMap c4) rfl HSRC.out (by have:=HS.out;unfold maxLen;omega) (by have:=HS.out;omega) (by simp) ?_;intro v2 w2 ho2 hg2 _;rw [Nat.zero_add,List.nil_append] at ho2;obtain⟨a2,c2,rfl⟩:=own_shape ho2;have HO2:=mH (And.intro ho2 ((ba (Below.refl _ w) _).grown hg2 (by simp) (fun k hk=>(HM.out.lt k hk).1)));clear ho2 hg2)
  go_ret
  exact⟨a2,c2,rfl,HO2.out.1,HO2.out.2⟩
theorem eql_nilN (w:World) (a:Option Addr) (n c n' c':Nat):(binOp .eql 27 (.slice a n c) (.slice none n' c')).run Tryz.prog w=.ok (.bool a.isNone) w:=
 Lib.run_eql_slice_nil w _ _ a n c n' c' Tryz.underlying27
theorem cloneN_any (w:World) (a:Option Addr) (cap:Nat) (xs:List Np) (hsrc:∀ W,Below w.heap.size w W->Src Tryz.prog 7 27 (.slice a xs.length cap) xs.length (xs.flatMap c7) W) (h0:a=none->xs=[]) (hs:xs.length * 72<=140737488355328):Calls Tryz.prog 41 #[.slice a xs.length cap] w fun r w'=>∃ a2 c2,r=.returned (.slice a2 xs.length c2)/\w'.ownsRow w.heap.size 69 7 (.slice a2 xs.length c2) xs.length (xs.flatMap c7)/\Below w.heap.size w w':=by
 obtain⟨ie,hi,hz0,hz1,hz2⟩:=info_parts info_node
 obtain⟨zth,hzth⟩:∃ z:Value,z=.agg #[.int .i64 0,.int .i64 0,.int .i64 0,.int .i64 0,.int .i64 0,.int .i64 0,.slice none 0 0]:=⟨_,rfl⟩
 rw [<- hzth] at hz0
 have HZ:Hid (zth.cells.size=7):=mH (by rw [hzth];rfl)
 have hie:=mH (And.intro hi (And.intro hz0 (And.intro hz1 hz2)))
 clear hzth hi hz0 hz1 hz2
 have HS:=mH hs
 cases a with
 |none=>
  have h0:=h0 rfl
  subst h0
  have hq:=eql_nilN w none 0 cap 0 0
  clear hsrc hs
  go_enter Tryz.func41,Tryz.ntmps41
  go_wp2
  go_ret
  exact⟨none,0,rfl,World.ownsRow_nil _ _ _ _,Below.refl _ _⟩
 |some ad=>
  have hq:=eql_nilN w (some ad) xs.length cap 0 0
  have HSRC:=mH (hsrc _ (ba (Below.refl _ w) (.cells #[] 69)))
  have HM:Hid ((w.alloc (.cells #[] 69)).ownsRow w.heap.size 69 7 (.slice (some ⟨w.heap.size,0,none⟩) 0 0) 0 []):=mH (World.ownsRow_made (base:=w.heap.size) (e:=69) (size:=7) w #[] 0 (Nat.le_refl _) (by unfold maxLen;omega) rfl)
  clear hsrc hs h0
  go_enter Tryz.func41,Tryz.ntmps41
  go_wp2_with (at_builtin;refine wpList_append_src7 _ rfl (.tmp 5) (.tmp 6) 27 27 rfl w.heap.size 69 ie Tryz.underlying27 hie.out.1 zth 72 hie.out.2.1 HZ.out hie.out.2.2.1 hie.out.2.2.2 _ 0 [] rfl HM.out _ xs.length (xs.flatMap c7) rfl HSRC.out (by have:=HS.out;unfold maxLen;omega) (by have:=HS.out;omega) (by simp) ?_;intro v2 w2 ho2 hg2 _;rw [Nat.zero_add,List.nil_append] at ho2;obtain⟨a2,c2,rfl⟩:=own_shape ho2;have HO2:=mH (And.intro ho2 ((ba (Below.refl _ w) _).grown hg2 (by simp) (fun k hk=>(HM.out.lt k hk).1)));clear ho2 hg2)
  go_ret
  exact⟨a2,c2,rfl,HO2.out.1,HO2.out.2⟩
theorem eql_nilG (w:World) (a:Option Addr) (n c n' c':Nat):(binOp .eql 28 (.slice a n c) (.slice none n' c')).run Tryz.prog w=.ok (.bool a.isNone) w:=
 Lib.run_eql_slice_nil w _ _ a n c n' c' Tryz.underlying28
theorem cloneG_any (w:World) (a:Option Addr) (cap:Nat) (xs:List Gh) (hsrc:∀ W,Below w.heap.size w W->Src Tryz.prog 5 28 (.slice a xs.length cap) xs.length (xs.flatMap c5) W) (h0:a=none->xs=[]) (hs:xs.length * 40<=140737488355328):Calls Tryz.prog 42 #[.slice a xs.length cap] w fun r w'=>∃ a2 c2,r=.returned (.slice a2 xs.length c2)/\w'.ownsRow w.heap.size 111 5 (.slice a2 xs.length c2) xs.length (xs.flatMap c5)/\Below w.heap.size w w':=by
 obtain⟨ie,hi,hz0,hz1,hz2⟩:=info_parts info_ghost
 obtain⟨zth,hzth⟩:∃ z:Value,z=.agg #[.int .i64 0,.int .i64 0,.int .i64 0,.int .i64 0,.int .i64 0]:=⟨_,rfl⟩
 rw [<- hzth] at hz0
 have HZ:Hid (zth.cells.size=5):=mH (by rw [hzth];rfl)
 have hie:=mH (And.intro hi (And.intro hz0 (And.intro hz1 hz2)))
 clear hzth hi hz0 hz1 hz2
 have HS:=mH hs
 cases a with
 |none=>
  have h0:=h0 rfl
  subst h0
  have hq:=eql_nilG w none 0 cap 0 0
  clear hsrc hs
  go_enter Tryz.func42,Tryz.ntmps42
  go_wp2
  go_ret
  exact⟨none,0,rfl,World.ownsRow_nil _ _ _ _,Below.refl _ _⟩
 |some ad=>
  have hq:=eql_nilG w (some ad) xs.length cap 0 0
  have HSRC:=mH (hsrc _ (ba (Below.refl _ w) (.cells #[] 111)))
  have HM:Hid ((w.alloc (.cells #[] 111)).ownsRow w.heap.size 111 5 (.slice (some ⟨w.heap.size,0,none⟩) 0 0) 0 []):=mH (World.ownsRow_made (base:=w.heap.size) (e:=111) (size:=5) w #[] 0 (Nat.le_refl _) (by unfold maxLen;omega) rfl)
  clear hsrc hs h0
  go_enter Tryz.func42,Tryz.ntmps42
  go_wp2_with (at_builtin;refine wpList_append_src5 _ rfl (.tmp 5) (.tmp 6) 28 28 rfl w.heap.size 111 ie Tryz.underlying28 hie.out.1 zth 40 hie.out.2.1 HZ.out hie.out.2.2.1 hie.out.2.2.2 _ 0 [] rfl HM.out _ xs.length (xs.flatMap c5) rfl HSRC.out (by have:=HS.out;unfold maxLen;omega) (by have:=HS.out;omega) (by simp) ?_;intro v2 w2 ho2 hg2 _;rw [Nat.zero_add,List.nil_append] at ho2;obtain⟨a2,c2,rfl⟩:=own_shape ho2;have HO2:=mH (And.intro ho2 ((ba (Below.refl _ w) _).grown hg2 (by simp) (fun k hk=>(HM.out.lt k hk).1)));clear ho2 hg2)
  go_ret
  exact⟨a2,c2,rfl,HO2.out.1,HO2.out.2⟩
theorem tks_nil {w:World} {a:Option Addr} {n cap:Nat} {xs:List Tk} (h:Tks w (.slice a n cap) xs) (e:a=none):xs=[]:=by
 subst e
 obtain⟨a',c',e,_,hr⟩:=h
 simp only [Value.slice.injEq] at e
 by_cases hp:0 < xs.length
 ·obtain⟨b,o,e2,_⟩:=hr hp
  rw [e2] at e
  simp at e
 ·exact List.length_eq_zero_iff.mp (by omega)
theorem row_nil {α:Type} {k:Nat} {f:α->List Value} {w:World} {a:Option Addr} {n cap:Nat} {xs:List α} (h:RowIn k f w (.slice a n cap) xs) (e:a=none):xs=[]:=by
 subst e
 obtain⟨a',c',e,_,_,hr⟩:=h
 simp only [Value.slice.injEq] at e
 by_cases hp:0 < xs.length
 ·obtain⟨b,o,e2,_⟩:=hr hp
  rw [e2] at e
  simp at e
 ·exact List.length_eq_zero_iff.mp (by omega)
theorem nd_cells {w:World} {p:Nat} {c0 c1 c2 c3 c4 c5 c6:Value} {ty:TypeId} (h:w.heap[p]?=some (.cells #[c0,c1,c2,c3,c4,c5,c6] ty (0,0))):w.cell? ⟨p,0,none⟩=some c0/\w.cell? ⟨p,1,none⟩=some c1/\w.cell? ⟨p,2,none⟩=some c2/\w.cell? ⟨p,3,none⟩=some c3/\w.cell? ⟨p,4,none⟩=some c4/\w.cell? ⟨p,5,none⟩=some c5/\w.cell? ⟨p,6,none⟩=some c6:=
 ⟨cOb h rfl,cOb h rfl,cOb h rfl,cOb h rfl,cOb h rfl,cOb h rfl,cOb h rfl⟩
theorem nd_frozen {w:World} {p:Nat} {c:Array Value} {ty:TypeId} (h:w.heap[p]?=some (.cells c ty (0,0))):w.frozen? ⟨p,0,none⟩=false/\w.frozen? ⟨p,1,none⟩=false/\w.frozen? ⟨p,2,none⟩=false/\w.frozen? ⟨p,3,none⟩=false/\w.frozen? ⟨p,4,none⟩=false/\w.frozen? ⟨p,5,none⟩=false/\w.frozen? ⟨p,6,none⟩=false:=
 ⟨fOb h,fOb h,fOb h,fOb h,fOb h,fOb h,fOb h⟩
theorem kset {F:Nat->Prop} {w w':World} (h:Kept F w w') {b:Nat} (hb:F b ∨ w.heap.size<=b) (k:Nat) (v:Value):Kept F w (w'.setCell ⟨b,k,none⟩ v):=
 h.trans (Kept.setCell (F:=fun i=>i=b) w' (p:=⟨b,k,none⟩) rfl v) (fun i e=>by subst e;exact hb)
abbrev set7 (w:World) (g o:Nat) (v0 v1 v2 v3 v4 v5 v6:Value):World:=((((((w.setCell ⟨g,o,none⟩ v0).setCell ⟨g,o+1,none⟩ v1).setCell ⟨g,o+2,none⟩ v2).setCell ⟨g,o+3,none⟩ v3).setCell ⟨g,o+4,none⟩ v4).setCell ⟨g,o+5,none⟩ v5).setCell ⟨g,o+6,none⟩ v6
theorem set7_kept {F:Nat->Prop} {w w':World} (h:Kept F w w') {g:Nat} (hb:F g ∨ w.heap.size<=g) (o:Nat) (v0 v1 v2 v3 v4 v5 v6:Value):Kept F w (set7 w' g o v0 v1 v2 v3 v4 v5 v6):=
 kset (kset (kset (kset (kset (kset (kset h hb o v0) hb (o+1) v1) hb (o+2) v2) hb (o+3) v3) hb (o+4) v4) hb (o+5) v5) hb (o+6) v6
set_option maxRecDepth 10000 in
theorem set7_heap {w:World} {p:Nat} {c0 c1 c2 c3 c4 c5 c6:Value} {ty:TypeId} (h:w.heap[p]?=some (.cells #[c0,c1,c2,c3,c4,c5,c6] ty (0,0))) (v0 v1 v2 v3 v4 v5 v6:Value):(set7 w p 0 v0 v1 v2 v3 v4 v5 v6).heap[p]?=some (.cells #[v0,v1,v2,v3,v4,v5,v6] ty (0,0)):=by
 unfold set7
 rw [hSt (hSt (hSt (hSt (hSt (hSt (hSt h))))))]
 kernel_rfl
theorem lOh {w:World} {k:Nat} {o:Obj} (h:w.heap[k]?=some o):k < w.heap.size:=(Array.getElem?_eq_some_iff.mp h).1
set_option maxHeartbeats 6400000 in
theorem cloneNode_any (w:World) (t:Np) (h:Tks w (tvN t) t.1.ts) (h8:t.1.ts.length<=1000):Calls Tryz.prog 94 #[vNp t] w fun r w'=>∃ a2 c2,r=.returned (vNp (t.1,a2,c2))/\w'.ownsRow w.heap.size 45 4 (.slice a2 t.1.ts.length c2) t.1.ts.length (t.1.ts.flatMap c4)/\Below w.heap.size w w':=by
 obtain⟨⟨id,pa,⟨k,q,T⟩,po,ts⟩,a,cap⟩:=t
 have HT:=mH h
 clear h
 simp only [vNp,vNd,tvN] at HT h8 ⊢
 go_enter Tryz.func94,Tryz.ntmps94
 go_wp2_with (go_at_call 28;refine(cloneT_any _ a cap ts (fun W hW=>(HT.out.below (bt (ba (ba (Below.refl _ w) _) _) hW)).src) (fun e=>tks_nil HT.out e) (by omega)).mono ?_;rintro r w2 ⟨a2,c2,rfl,ho2,hb2⟩;obtain⟨hx2,hr2,hb⟩:=new_two hb2;obtain⟨q0,q1,q2,q3,q4,q5,q6⟩:=nd_cells hx2;obtain⟨f0,f1,f2,f3,f4,f5,f6⟩:=nd_frozen hx2;obtain⟨r0,r1,r2,r3,r4,r5,r6⟩:=nd_cells hr2;obtain⟨g0,g1,g2,g3,g4,g5,g6⟩:=nd_frozen hr2;have HO2:=mH (And.intro ho2 hb);have HX:=mH (And.intro hx2 hr2);clear ho2 hb2 hx2 hr2 hb)
 have k8:=Kept.setCell (F:=fun k=>k=w.heap.size) w2 (p:=⟨w.heap.size,6,none⟩) rfl (.slice a2 ts.length c2)
 have k10:=set7_kept (F:=fun k=>k=w.heap.size ∨ k=w.heap.size+1) (k8.mono (fun _ h=>.inl h)) (g:=w.heap.size+1) (.inl (.inr rfl)) 0 (.int .i64 id) (.int .i64 pa) (.int .i64 k) (.int .i64 q) (.int .i64 T) (.int .i64 po) (.slice a2 ts.length c2)
 have hr3:(w2.setCell ⟨w.heap.size,6,none⟩ (.slice a2 ts.length c2)).heap[w.heap.size+1]?=_:=(k8.block _ (lOh HX.out.2) (by omega)).trans HX.out.2
 refine bodyPost_ret (leaves1 rfl (set7_heap hr3 _ _ _ _ _ _ _) Tryz.underlying69 size_node _ rfl) rfl ⟨a2,c2,rfl,own_lower (oNk HO2.out.1 k10 (fun k e1 e2=>by have:=(HO2.out.1.lt k e1).1;simp at this;omega)) (by simp;omega),HO2.out.2.trans (k10.below (fun k e=>by omega) HO2.out.2.size)⟩
abbrev plFn (p:Nat):Value:=.func (.func 151) #[] #[.pointer (some ⟨p,0,none⟩)]
theorem pl1_any (w:World) (t:Np) (p:Nat) (i:Int) (b:Bool) (hp:w.cell? ⟨p,0,none⟩=some (.int .i64 i)) (hb:b=decide (t.1.id=i)):Calls Tryz.prog 151 #[vNp t,.pointer (some ⟨p,0,none⟩)] w fun r w'=>r=.returned (.bool b)/\Below w.heap.size w w':=by
 obtain⟨⟨id,pa,⟨k,q,T⟩,po,ts⟩,a,cap⟩:=t
 simp only [vNp,vNd,tvN] at hb ⊢
 by_cases h1:id=i
 ·subst h1
  simp only [decide_true] at hb
  subst hb
  go_enter Tryz.func151,Tryz.ntmps151
  go_wp2
  go_ret
  exact⟨by simp,ba (Below.refl _ _) _⟩
 ·have h1':(id == i)=false:=by simpa using h1
  simp only [h1,decide_false] at hb
  subst hb
  go_enter Tryz.func151,Tryz.ntmps151
  go_wp2
  go_ret
  exact⟨by simp,ba (Below.refl _ _) _⟩
set_option maxHeartbeats 3200000 in
theorem idxN_any (w:World) (v:Value) (ps:List Np) (p:Nat) (i R:Int) (h:Nds w v ps) (hp:w.cell? ⟨p,0,none⟩=some (.int .i64 i)) (hno:(∀ x ∈ ps,¬ x.1.id=i)->R = -1) (hyes:∀ (j:Nat) x,ps[j]?=some x->x.1.id=i->(∀ y ∈ ps.take j,¬ y.1.id=i)->R=(j:Int)) :
  Calls Tryz.prog 150 #[v,plFn p] w fun e w'=>e=.returned (.int .i64 R)/\Below w.heap.size w w':=by
 have hll:=h.row
 obtain⟨a,cap,rfl,hcap,hl,_⟩:=hll
 have HE:=mH h
 have HY:=mH hyes
 have HN:=mH hno
 have HP:=mH hp
 clear h hyes hno hp
 simp only [plFn]
 go_enter Tryz.func150,Tryz.ntmps150
 go_wp2
 go_loopw [5,8] (fun _ iv wr=>∃ j:Nat,iv=.int .i64 (j:Int)/\j<=ps.length/\Hid (Below w.heap.size w wr)/\Hid (∀ y ∈ ps.take j,¬ y.1.id=i)) (fun _ iv _=>ps.length - (intOf iv).toNat)
 case atStart=>exact⟨0,rfl,Nat.zero_le _,mH (Below.refl _ _),mH (fun y hy=>by simp at hy)⟩
 case round=>
  obtain⟨j,rfl,hj,HB,HO⟩:=hrel
  by_cases hlt:j < ps.length
  ·obtain⟨b,off,t,rfl,hxj,hat⟩:=HE.out.row.at HB.out j hlt
   obtain⟨q0,q1,q2,q3,q4,q5,q6⟩:=seven hat
   obtain⟨⟨id,pa,⟨k,q,T⟩,po,ts⟩,ta,tc⟩:=t
   simp only [tvN] at q0 q1 q2 q3 q4 q5 q6
   have hji:(j:Int) < ps.length:=by omega
   obtain⟨bb,hbb⟩:∃ bb,bb=decide (id=i):=⟨_,rfl⟩
   have HC:=mH (pl1_any wr (⟨id,pa,⟨k,q,T⟩,po,ts⟩,ta,tc) p i bb (kc HP.out HB.out) hbb)
   have HXJ:=mH (And.intro hxj hbb)
   clear hxj hbb hat
   simp only [vNp,vNd,tvN] at HC
   cases bb with
   |true=>
    have hR:R=(j:Int):=HY.out j _ HXJ.out.1 (by have:=HXJ.out.2;simpa using this.symm) HO.out
    subst hR
    clear HY HN
    go_wp2_with (go_at_call 151;refine HC.out.mono ?_;rintro r w' ⟨rfl,hb⟩;have HB2:=mH (bt HB.out hb);clear hb)
    go_ret
    exact⟨rfl,HB2.out⟩
   |false=>
    go_wp2_with (go_at_call 151;refine HC.out.mono ?_;rintro r w' ⟨rfl,hb⟩;have HB2:=mH (bt HB.out hb);clear hb)
    go_roundw
    case rel=>
     refine⟨j+1,by go_num,by omega,HB2,mH (fun y hy=>?_)⟩
     rw [List.take_add_one,HXJ.out.1] at hy
     rcases List.mem_append.mp hy with hy | hy
     ·exact HO.out y hy
     ·simp at hy
      subst hy
      have:=HXJ.out.2
      simpa using this.symm
    case measure=>simp [intOf];omega
  ·obtain rfl:j=ps.length:=by omega
   have hR:R = -1:=HN.out (fun y hy=>HO.out y (by rw [List.take_length];exact hy))
   subst hR
   clear HY HN
   go_wp2
   go_ret
   exact⟨rfl,HB.out⟩
def PlN (t:Tr) (i R:Int):Prop:=(t.nd i=none/\R = -1) ∨ ∃ la n lb,t.ns=la ++ n :: lb/\n.id=i/\t.nd i=some n/\(∀ a ∈ la,¬ a.id=i)/\R=(la.length:Int)
theorem pln_ex (t:Tr) (i:Int):∃ R,PlN t i R:=by
 cases h:t.nd i with
 |none=>exact⟨-1,.inl ⟨h,rfl⟩⟩
 |some n=>
  obtain⟨la,lb,e,ha⟩:=nd_split h
  exact⟨_,.inr ⟨la,n,lb,e,(nd_some h).2,h,ha,rfl⟩⟩
set_option maxHeartbeats 3200000 in
theorem place_is (w:World) (t:Tr) (nv gv:Value) (ps:List Np) (i R:Int) (h:TrW w nv gv ps t) (hR:PlN t i R) :
  Calls Tryz.prog 119 #[vTr nv gv t,.int .i64 i] w fun e w'=>e=.returned (.int .i64 R)/\Below w.heap.size w w':=by
 have HE:Hid (∀ W,Below w.heap.size w W->W.cell? ⟨w.heap.size+1,0,none⟩=some (.int .i64 i)->Calls Tryz.prog 150 #[nv,plFn (w.heap.size+1)] W fun e w'=>e=.returned (.int .i64 R)/\Below W.heap.size W w'):=mH (fun W hW hc=>idxN_any W nv ps (w.heap.size+1) i R (h.n.below hW) hc
  (fun hn=>by
   rcases hR with ⟨_,e⟩ | ⟨la,n,lb,e1,e2,_⟩
   ·exact e
   ·have:n ∈ nds ps:=by rw [h.e,e1];simp
    obtain⟨x,hx,rfl⟩:=List.mem_map.mp this
    exact absurd e2 (hn x hx))
  (fun j x hx hi hb=>by
   rcases hR with ⟨e,_⟩ | ⟨la,n,lb,e1,e2,_,e4,e5⟩
   ·exact absurd hi (nd_none e x.1 (by rw [<- h.e];exact List.mem_map.mpr ⟨x,List.mem_of_getElem? hx,rfl⟩))
   ·rw [e5]
    have hx':(la ++ n :: lb)[j]?=some x.1:=by rw [<- e1,<- h.e];exact nds_at hx
    have hb':∀ y ∈ (la ++ n :: lb).take j,¬ y.id=i:=by
     intro y hy
     rw [<- e1,<- h.e,nds,<- List.map_take] at hy
     obtain⟨z,hz,rfl⟩:=List.mem_map.mp hy
     exact hb z hz
    rcases Nat.lt_trichotomy j la.length with c | c | c
    ·rw [List.getElem?_append_left c] at hx'
     exact absurd hi (e4 _ (List.mem_of_getElem? hx'))
    ·rw [c]
    ·refine absurd e2 (hb' n ?_)
     rw [List.take_append,List.mem_append]
     right
     rw [show j - la.length=(j - la.length - 1)+1 by omega]
     simp))
 obtain⟨a,cap,rfl,_⟩:=h.n.row.shape
 obtain⟨a2,cap2,rfl,_⟩:=h.g.shape
 have hmf:∀ (fn:Fn) (first cap:Array Value) (w:World),(Instr.makeFunc fn first cap).run Tryz.prog w=.ok (.func fn first cap) w:=fun _ _ _ _=>rfl
 clear h hR
 simp only [plFn] at HE
 go_enter Tryz.func119,Tryz.ntmps119
 go_wp2_with (go_at_call 150;refine(HE.out _ (ba (ba (Below.refl _ w) _) _) (by simp [go_sem])).mono ?_;rintro r w2 ⟨rfl,hb⟩;have HB2:=mH (bt (ba (ba (Below.refl _ w) _) _) hb);clear hb)
 go_ret
 exact⟨rfl,HB2.out⟩
abbrev zNd:Nd:=⟨0,0,(0,0,0),0,[]⟩
abbrev oTr (nv gv:Value) (t:Tr):Obj:=.cells #[nv,gv,.int .i64 t.last,.int .i64 t.now] 30
theorem four {w:World} {p:Nat} {c0 c1 c2 c3:Value} {ty:TypeId} (h:w.heap[p]?=some (.cells #[c0,c1,c2,c3] ty (0,0))):w.cell? ⟨p,0,none⟩=some c0/\w.cell? ⟨p,1,none⟩=some c1/\w.cell? ⟨p,2,none⟩=some c2/\w.cell? ⟨p,3,none⟩=some c3:=⟨cOb h rfl,cOb h rfl,cOb h rfl,cOb h rfl⟩
theorem three {w:World} {p:Nat} {c0 c1 c2:Value} {ty:TypeId} (h:w.heap[p]?=some (.cells #[c0,c1,c2] ty (0,0))):w.cell? ⟨p,0,none⟩=some c0/\w.cell? ⟨p,1,none⟩=some c1/\w.cell? ⟨p,2,none⟩=some c2:=⟨cOb h rfl,cOb h rfl,cOb h rfl⟩
set_option maxHeartbeats 6400000 in
theorem find_no (w:World) (t:Tr) (nv gv:Value) (ps:List Np) (i:Int) (h:TrW w nv gv ps t) (hn:t.nd i=none) :
  Calls Tryz.prog 149 #[vTr nv gv t,.int .i64 i] w fun e w'=>e=.returned (.tuple #[vNd zNd (.slice none 0 0),.bool false])/\Below w.heap.size w w':=by
 have HE:Hid (∀ W,Below w.heap.size w W->Calls Tryz.prog 119 #[vTr nv gv t,.int .i64 i] W fun e w'=>e=.returned (.int .i64 (-1))/\Below W.heap.size W w'):=mH (fun W hW=>place_is W t nv gv ps i (-1) (h.below hW) (.inl ⟨hn,rfl⟩))
 obtain⟨a,cap,rfl,_⟩:=h.n.row.shape
 obtain⟨a2,cap2,rfl,_⟩:=h.g.shape
 clear h hn
 go_enter Tryz.func149,Tryz.ntmps149
 go_wp2_with (go_at_call 119;refine(HE.out _ (ba (ba (Below.refl _ w) _) _)).mono ?_;rintro r w2 ⟨rfl,hb2⟩;obtain⟨hx2,hr2,hb⟩:=new_two hb2;obtain⟨q0,q1,q2,q3⟩:=four hx2;obtain⟨r0,r1,r2,r3,r4,r5,r6⟩:=nd_cells hr2;obtain⟨g0,g1,g2,g3,g4,g5,g6⟩:=nd_frozen hr2;have HX:=mH (And.intro hr2 hb);clear hb2 hx2 hr2 hb)
 have k10:=set7_kept (F:=fun k=>k=w.heap.size+1) (Kept.refl _ w2) (g:=w.heap.size+1) (.inl rfl) 0 (.int .i64 0) (.int .i64 0) (.int .i64 0) (.int .i64 0) (.int .i64 0) (.int .i64 0) (.slice none 0 0)
 refine bodyPost_ret (leavesCT rfl (set7_heap HX.out.1 _ _ _ _ _ _ _) Tryz.underlying69 size_node _ rfl) rfl ⟨rfl,HX.out.2.trans (k10.below (fun k e=>by omega) HX.out.2.size)⟩
theorem TrW.split {w:World} {nv gv:Value} {ps:List Np} {t:Tr} (h:TrW w nv gv ps t) {la lb:List Nd} {n:Nd} (e:t.ns=la ++ n :: lb):∃ ax cx,ps[la.length]?=some (n,ax,cx):=by
 have h1:(nds ps)[la.length]?=some n:=by rw [h.e,e];simp
 rw [nds,List.getElem?_map] at h1
 obtain⟨⟨n',ax,cx⟩,hx,e2⟩:=Option.map_eq_some_iff.mp h1
 simp only at e2
 subst e2
 exact⟨ax,cx,hx⟩
set_option maxHeartbeats 6400000 in
theorem find_yes (w:World) (t:Tr) (nv gv:Value) (ps:List Np) (i:Int) (n:Nd) (h:TrW w nv gv ps t) (hn:t.nd i=some n) (h8:n.ts.length<=1000) :
  Calls Tryz.prog 149 #[vTr nv gv t,.int .i64 i] w fun e w'=>∃ a2 c2,e=.returned (.tuple #[vNp (n,a2,c2),.bool true])/\w'.ownsRow w.heap.size 45 4 (.slice a2 n.ts.length c2) n.ts.length (n.ts.flatMap c4)/\Below w.heap.size w w':=by
 obtain⟨la,lb,e,ha⟩:=nd_split hn
 obtain⟨ax,cx,hx⟩:=h.split e
 obtain⟨J,hJ⟩:∃ J,J=la.length:=⟨_,rfl⟩
 rw [<- hJ] at hx
 have HE:Hid (∀ W,Below w.heap.size w W->Calls Tryz.prog 119 #[vTr nv gv t,.int .i64 i] W fun e w'=>e=.returned (.int .i64 (J:Int))/\Below W.heap.size W w'):=mH (fun W hW=>place_is W t nv gv ps i J (h.below hW) (.inr ⟨la,n,lb,e,(nd_some hn).2,hn,ha,by rw [hJ]⟩))
 have HC:Hid (∀ W,Below w.heap.size w W->Calls Tryz.prog 94 #[vNp (n,ax,cx)] W fun r w'=>∃ a2 c2,r=.returned (vNp (n,a2,c2))/\w'.ownsRow W.heap.size 45 4 (.slice a2 n.ts.length c2) n.ts.length (n.ts.flatMap c4)/\Below W.heap.size W w'):=mH (fun W hW=>cloneNode_any W (n,ax,cx) ((h.n.tk _ (List.mem_of_getElem? hx)).1.below hW) h8)
 have hlt:J < ps.length:=(List.getElem?_eq_some_iff.mp hx).1
 have HH:=mH h
 obtain⟨a,cap,rfl,_⟩:=h.n.row.shape
 obtain⟨a2,cap2,rfl,_⟩:=h.g.shape
 obtain⟨b,off,t',rfl,hx',_⟩:=h.n.row.at (Below.refl _ _) J hlt
 have HA:Hid (∀ W,Below w.heap.size w W->∀ r u,r < 7->(c7 (n,ax,cx))[r]?=some u->W.cell? ⟨b,off+J * 7+r,none⟩=some u):=mH (fun W hW=>by
  obtain⟨b',off',t'',e1,e2,e3⟩:=HH.out.n.row.at hW J hlt
  simp only [Option.some.injEq,Addr.mk.injEq,and_true] at e1
  obtain⟨rfl,rfl⟩:=e1
  rw [hx] at e2
  simp only [Option.some.injEq] at e2
  subst e2
  exact e3)
 have hji:(J:Int) < ps.length:=by omega
 have hl:(ps.length:Int)<=9223372036854775807:=by obtain⟨_,_,_,_,hl,_⟩:=h.n.row;exact hl
 obtain⟨id,pa,⟨k,q,T⟩,po,ts⟩:=n
 clear h hn hx hx' e ha HH hJ
 simp only [vNp,vNd,tvN] at HC ⊢
 go_enter Tryz.func149,Tryz.ntmps149
 go_wp2_with (first
  |(go_at_call 119;refine(HE.out _ (ba (ba (Below.refl _ w) _) _)).mono ?_;rintro r w2 ⟨rfl,hb2⟩;obtain⟨hx2,hr2,hb⟩:=new_two hb2;obtain⟨q0,q1,q2,q3⟩:=four hx2;obtain⟨d0,d1,d2,d3,d4,d5,d6⟩:=seven (HA.out w2 hb);simp only [tvN] at d0 d1 d2 d3 d4 d5 d6;have HX:=mH (And.intro hr2 hb);clear hb2 hx2 hr2 hb)
  |(go_at_call 94;refine(HC.out _ HX.out.2).mono ?_;rintro r w3 ⟨a3,c3,rfl,ho3,hb3⟩;have hr3:=(hb3.block _ (lOh HX.out.1)).trans HX.out.1;obtain⟨r0,r1,r2,r3,r4,r5,r6⟩:=nd_cells hr3;obtain⟨g0,g1,g2,g3,g4,g5,g6⟩:=nd_frozen hr3;have HY:=mH (And.intro hr3 (And.intro ho3 (bt HX.out.2 hb3)));have HLT:=mH (lOh HX.out.1);clear ho3 hb3 hr3))
 have k10:=set7_kept (F:=fun k=>k=w.heap.size+1) (Kept.refl _ w3) (g:=w.heap.size+1) (.inl rfl) 0 (.int .i64 id) (.int .i64 pa) (.int .i64 k) (.int .i64 q) (.int .i64 T) (.int .i64 po) (.slice a3 ts.length c3)
 refine bodyPost_ret (leavesCT rfl (set7_heap HY.out.1 _ _ _ _ _ _ _) Tryz.underlying69 size_node _ rfl) rfl ⟨a3,c3,rfl,own_lower (oNk HY.out.2.1 k10 (fun k e1 e2=>by have:=(HY.out.2.1.lt k e1).1;have:=HLT.out;omega)) (by have:=HX.out.2.size;exact this),HY.out.2.2.trans (k10.below (fun k e=>by omega) HY.out.2.2.size)⟩
set_option maxHeartbeats 6400000 in
theorem bound_is (w:World) (t:Tr) (nv gv:Value) (ps:List Np) (i:Int) (b:Bool) (h:TrW w nv gv ps t) (hs:t.Sm 1000) (hb:b=t.bnd i) :
  Calls Tryz.prog 145 #[vTr nv gv t,.int .i64 i] w fun e w'=>e=.returned (.bool b)/\Below w.heap.size w w':=by
 have HH:=mH h
 obtain⟨a,cap,rfl,_⟩:=h.n.row.shape
 obtain⟨a2,cap2,rfl,_⟩:=h.g.shape
 clear h
 cases hn:t.nd i with
 |none=>
  have HN:=mH hn
  have hb2:b=false:=by rw [hb];unfold Tr.bnd;rw [hn];rfl
  subst hb2
  clear hn hb hs
  go_enter Tryz.func145,Tryz.ntmps145
  go_wp2_with (go_at_call 149;refine(find_no _ t _ _ ps i (HH.out.below (ba (Below.refl _ w) _)) HN.out).mono ?_;rintro r w2 ⟨rfl,hb2⟩;have HB:=mH (bt (ba (Below.refl _ w) _) hb2);clear hb2;simp only [vNd])
  go_ret
  exact⟨rfl,ba HB.out _⟩
 |some n=>
  have HN:=mH hn
  have H8:=mH (show n.ts.length<=1000 from by have:=hs.s n (nd_some hn).1;omega)
  obtain⟨id,pa,⟨k,q,T⟩,po,ts⟩:=n
  by_cases c:po=0
  ·subst c
   have hb2:b=false:=by rw [hb];unfold Tr.bnd;rw [hn];rfl
   subst hb2
   clear hn hb hs
   go_enter Tryz.func145,Tryz.ntmps145
   go_wp2_with (go_at_call 149;refine(find_yes _ t _ _ ps i _ (HH.out.below (ba (Below.refl _ w) _)) HN.out H8.out).mono ?_;rintro r w2 ⟨a2,c2,rfl,_,hb2⟩;have HB:=mH (bt (ba (Below.refl _ w) _) hb2);clear hb2;simp only [vNp,vNd,tvN])
   go_ret
   exact⟨by simp,ba HB.out _⟩
  ·have hb2:b=true:=by rw [hb];unfold Tr.bnd;rw [hn];simp [c]
   subst hb2
   have c':(po == 0)=false:=by simpa using c
   clear hn hb hs
   go_enter Tryz.func145,Tryz.ntmps145
   go_wp2_with (go_at_call 149;refine(find_yes _ t _ _ ps i _ (HH.out.below (ba (Below.refl _ w) _)) HN.out H8.out).mono ?_;rintro r w2 ⟨a2,c2,rfl,_,hb2⟩;have HB:=mH (bt (ba (Below.refl _ w) _) hb2);clear hb2;simp only [vNp,vNd,tvN])
   go_ret
   exact⟨by simp [c],ba HB.out _⟩
abbrev set3 (w:World) (g o:Nat) (v0 v1 v2:Value):World:=((w.setCell ⟨g,o,none⟩ v0).setCell ⟨g,o+1,none⟩ v1).setCell ⟨g,o+2,none⟩ v2
theorem set3_kept {F:Nat->Prop} {w w':World} (h:Kept F w w') {g:Nat} (hb:F g ∨ w.heap.size<=g) (o:Nat) (v0 v1 v2:Value):Kept F w (set3 w' g o v0 v1 v2):=kset (kset (kset h hb o v0) hb (o+1) v1) hb (o+2) v2
theorem set3_heap {w:World} {p:Nat} {c0 c1 c2:Value} {ty:TypeId} (h:w.heap[p]?=some (.cells #[c0,c1,c2] ty (0,0))) (v0 v1 v2:Value):(set3 w p 0 v0 v1 v2).heap[p]?=some (.cells #[v0,v1,v2] ty (0,0)):=hSt (hSt (hSt h))
theorem frozen3 {w:World} {p:Nat} {c:Array Value} {ty:TypeId} (h:w.heap[p]?=some (.cells c ty (0,0))):w.frozen? ⟨p,0,none⟩=false/\w.frozen? ⟨p,1,none⟩=false/\w.frozen? ⟨p,2,none⟩=false:=⟨fOb h,fOb h,fOb h⟩
def Tr.hasB (t:Tr) (i:Int):Bool:=decide (i=0) || (t.nd i).isSome
set_option maxHeartbeats 6400000 in
theorem server_is (w:World) (t:Tr) (nv gv:Value) (ps:List Np) (i:Int) (h:TrW w nv gv ps t) (hs:t.Sm 1000) :
  Calls Tryz.prog 153 #[vTr nv gv t,.int .i64 i] w fun e w'=>e=.returned (.tuple #[vS (t.srv i),.bool (t.hasB i)])/\Below w.heap.size w w':=by
 have HH:=mH h
 obtain⟨a,cap,rfl,_⟩:=h.n.row.shape
 obtain⟨a2,cap2,rfl,_⟩:=h.g.shape
 clear h
 by_cases h0:i=0
 ·subst h0
  have e1:t.srv 0=(0,0,0):=by unfold Tr.srv;simp
  have e2:t.hasB 0=true:=by unfold Tr.hasB;simp
  rw [e1,e2]
  clear HH hs e1 e2
  go_enter Tryz.func153,Tryz.ntmps153
  go_wp2
  have hr:=heap_alloc_new (w.alloc (oTr (.slice a ps.length cap) (.slice a2 t.gs.length cap2) t)) (.cells #[.int .i64 0,.int .i64 0,.int .i64 0] 37)
  simp only [World.size_alloc] at hr
  have hb:Below w.heap.size w ((w.alloc (oTr (.slice a ps.length cap) (.slice a2 t.gs.length cap2) t)).alloc (.cells #[.int .i64 0,.int .i64 0,.int .i64 0] 37)):=ba (ba (Below.refl _ w) _) _
  first
   |exact bodyPost_ret (leavesCT rfl (set3_heap hr _ _ _) Tryz.underlying37 size_server _ rfl) rfl ⟨rfl,hb.trans ((set3_kept (F:=fun k=>k=w.heap.size+1) (Kept.refl _ _) (g:=w.heap.size+1) (.inl rfl) 0 _ _ _).below (fun k e=>by omega) hb.size)⟩
   |exact bodyPost_ret (leavesCT rfl hr Tryz.underlying37 size_server _ rfl) rfl ⟨rfl,hb⟩
 ·have h0':(i == 0)=false:=by simpa using h0
  cases hn:t.nd i with
  |none=>
   have HN:=mH hn
   have e1:t.srv i=(0,0,0):=by unfold Tr.srv;rw [if_neg h0,hn];rfl
   have e2:t.hasB i=false:=by unfold Tr.hasB;rw [hn];simp [h0]
   rw [e1,e2]
   clear hn hs e1 e2 h0
   go_enter Tryz.func153,Tryz.ntmps153
   go_wp2_with (go_at_call 149;refine(find_no _ t _ _ ps i (HH.out.below (ba (ba (Below.refl _ w) _) _)) HN.out).mono ?_;rintro r w2 ⟨rfl,hb2⟩;obtain⟨_,hr2,hb⟩:=new_two hb2;obtain⟨q0,q1,q2⟩:=three hr2;obtain⟨g0,g1,g2⟩:=frozen3 hr2;have HX:=mH (And.intro hr2 hb);clear hb2 hr2 hb;simp only [vNd])
   have hr3:(w2.alloc (.cells #[.int .i64 0,.int .i64 0,.int .i64 0,.int .i64 0,.int .i64 0,.int .i64 0,.slice none 0 0] 69)).heap[w.heap.size+1]?=_:=(heap_alloc_old w2 _ (lOh HX.out.1)).trans HX.out.1
   exact bodyPost_ret (leavesCT rfl (set3_heap hr3 _ _ _) Tryz.underlying37 size_server _ rfl) rfl ⟨rfl,(ba HX.out.2 _).trans ((set3_kept (F:=fun k=>k=w.heap.size+1) (Kept.refl _ _) (g:=w.heap.size+1) (.inl rfl) 0 _ _ _).below (fun k e=>by omega) (ba HX.out.2 _).size)⟩
  |some n=>
   have HN:=mH hn
   have H8:=mH (show n.ts.length<=1000 from by have:=hs.s n (nd_some hn).1;omega)
   have e1:t.srv i=n.sv:=by unfold Tr.srv;rw [if_neg h0,hn];rfl
   have e2:t.hasB i=true:=by unfold Tr.hasB;rw [hn];simp
   rw [e1,e2]
   obtain⟨id,pa,⟨k,q,T⟩,po,ts⟩:=n
   clear hn hs e1 e2 h0
   go_enter Tryz.func153,Tryz.ntmps153
   go_wp2_with (go_at_call 149;refine(find_yes _ t _ _ ps i _ (HH.out.below (ba (ba (Below.refl _ w) _) _)) HN.out H8.out).mono ?_;rintro r w2 ⟨a3,c3,rfl,_,hb2⟩;obtain⟨_,hr2,hb⟩:=new_two hb2;obtain⟨q0,q1,q2⟩:=three hr2;obtain⟨g0,g1,g2⟩:=frozen3 hr2;have HX:=mH (And.intro hr2 hb);clear hb2 hr2 hb;simp only [vNp,vNd,tvN])
   have hr3:(w2.alloc (.cells #[.int .i64 id,.int .i64 pa,.int .i64 k,.int .i64 q,.int .i64 T,.int .i64 po,.slice a3 ts.length c3] 69)).heap[w.heap.size+1]?=_:=(heap_alloc_old w2 _ (lOh HX.out.1)).trans HX.out.1
   exact bodyPost_ret (leavesCT rfl (set3_heap hr3 _ _ _) Tryz.underlying37 size_server _ rfl) rfl ⟨rfl,(ba HX.out.2 _).trans ((set3_kept (F:=fun k=>k=w.heap.size+1) (Kept.refl _ _) (g:=w.heap.size+1) (.inl rfl) 0 _ _ _).below (fun k e=>by omega) (ba HX.out.2 _).size)⟩
def cn1 (ns:List Nd) (i:Int) (j:Nat):List Sv:=((ns.take j).filter (bel i)).map Nd.sv
def cg1 (gs:List Gh) (i:Int) (j:Nat):List Sv:=((gs.take j).filter (belG i)).map Gh.sv
theorem cn1_yes {ns:List Nd} {i:Int} {j:Nat} {n:Nd} (h:ns[j]?=some n) (hp:n.pa=i):cn1 ns i (j+1)=cn1 ns i j ++ [n.sv]:=by
 unfold cn1;rw [List.take_add_one,h,List.filter_append,List.map_append];simp [bel,hp]
theorem cn1_no {ns:List Nd} {i:Int} {j:Nat} {n:Nd} (h:ns[j]?=some n) (hp:¬ n.pa=i):cn1 ns i (j+1)=cn1 ns i j:=by
 unfold cn1;rw [List.take_add_one,h,List.filter_append,List.map_append];simp [bel,hp]
theorem cg1_yes {gs:List Gh} {i:Int} {j:Nat} {g:Gh} (h:gs[j]?=some g) (hp:g.pa=i):cg1 gs i (j+1)=cg1 gs i j ++ [g.sv]:=by
 unfold cg1;rw [List.take_add_one,h,List.filter_append,List.map_append];simp [belG,hp]
theorem cg1_no {gs:List Gh} {i:Int} {j:Nat} {g:Gh} (h:gs[j]?=some g) (hp:¬ g.pa=i):cg1 gs i (j+1)=cg1 gs i j:=by
 unfold cg1;rw [List.take_add_one,h,List.filter_append,List.map_append];simp [belG,hp]
theorem cn1_len (ns:List Nd) (i:Int) (j:Nat):(cn1 ns i j).length<=ns.length:=by
 unfold cn1;rw [List.length_map];exact Nat.le_trans (List.length_filter_le _ _) (by rw [List.length_take];omega)
theorem cg1_len (gs:List Gh) (i:Int) (j:Nat):(cg1 gs i j).length<=gs.length:=by
 unfold cg1;rw [List.length_map];exact Nat.le_trans (List.length_filter_le _ _) (by rw [List.length_take];omega)
theorem cnt_12 (t:Tr) (i:Int):t.cnt i=cn1 t.ns i t.ns.length ++ cg1 t.gs i t.gs.length:=by
 unfold Tr.cnt cn1 cg1;rw [List.take_length,List.take_length]
theorem src_one {α:Type} {n:Nat} {f:α->List Value} {ty e:TypeId} (hu:Tryz.prog.underlying ty=some (.slice e)) (x:α) (hf:(f x).length=n) (h1:∀ u ∈ f x,u.oneCell'=true) (w:World) (p:Nat) (hp:p=w.heap.size) {e2:TypeId}:Src Tryz.prog n ty (.slice (some ⟨p,0,none⟩) 1 1) 1 (f x) (w.alloc (.cells (f x).toArray e2)):=by
 subst hp
 refine Src.ofSlice _ hu _ 1 1 _ (by rw [hf,Nat.one_mul]) (fun j u hj=>?_) h1
 rw [add_none,Nat.zero_add]
 exact cOb (heap_alloc_new w _) (by simpa using hj)
theorem one3' (s:Sv):∀ u ∈ c3 s,u.oneCell'=true:=by
 intro u hx
 simp only [c3,List.mem_cons,List.not_mem_nil,or_false] at hx
 rcases hx with rfl | rfl | rfl <;> rfl
theorem src_sv (w:World) (s:Sv) (p:Nat) (hp:p=w.heap.size):Src Tryz.prog 3 172 (.slice (some ⟨p,0,none⟩) 1 1) 1 (c3 s) (w.alloc (oS s)):=src_one Tryz.underlying172 s rfl (one3' s) w p hp
theorem own_new {w:World} {base:Nat} {e:TypeId} {size:Nat} {v:Value} {n:Nat} {xs:List Value} (h:w.ownsRow base e size v n xs) (o:Obj):(w.alloc o).ownsRow base e size v n xs:=oNk h (Kept.alloc (fun _=>False) w o) (fun _ _ h=>h)
set_option maxHeartbeats 12800000 in
theorem counted_is (w:World) (t:Tr) (nv gv:Value) (ps:List Np) (i:Int) (h:TrW w nv gv ps t) (hs:t.Sm 1000) :
  Calls Tryz.prog 152 #[vTr nv gv t,.int .i64 i] w fun e w'=>∃ a c,e=.returned (.slice a (t.cnt i).length c)/\w'.ownsRow w.heap.size 37 3 (.slice a (t.cnt i).length c) (t.cnt i).length ((t.cnt i).flatMap c3)/\Below w.heap.size w w':=by
 obtain⟨ie,hi,hz0,hz1,hz2⟩:=info_parts info_server
 have hie:=mH (And.intro hi (And.intro hz0 (And.intro hz1 hz2)))
 clear hi hz0 hz1 hz2
 have HH:=mH h
 have hn1:ps.length<=1000:=by have:=hs.n;rw [<- h.e,List.length_map] at this;exact this
 have hg1:t.gs.length<=1000:=hs.g
 have HL1:Hid (∀ j,(cn1 (nds ps) i j).length<=1000):=mH (fun j=>Nat.le_trans (cn1_len _ _ _) (by rw [List.length_map];exact hn1))
 have HL2:Hid (∀ j,(cg1 t.gs i j).length<=1000):=mH (fun j=>Nat.le_trans (cg1_len _ _ _) hg1)
 have HT:Hid (t.cnt i=cn1 (nds ps) i ps.length ++ cg1 t.gs i t.gs.length):=mH (by rw [cnt_12,<- h.e,List.length_map])
 obtain⟨a,cap,rfl,_⟩:=h.n.row.shape
 obtain⟨a2,cap2,rfl,_⟩:=h.g.shape
 have hln:(ps.length:Int)<=9223372036854775807:=by omega
 have hlg:(t.gs.length:Int)<=9223372036854775807:=by omega
 clear h hs
 go_enter Tryz.func152,Tryz.ntmps152
 go_wp2
 obtain⟨W0,hW0⟩:∃ W0,W0=w.alloc (oTr (.slice a ps.length cap) (.slice a2 t.gs.length cap2) t):=⟨_,rfl⟩
 have HB0:Hid (Below w.heap.size w W0):=mH (by rw [hW0];exact ba (Below.refl _ w) _)
 have HG0:Hid (W0.cell? ⟨w.heap.size,1,none⟩=some (.slice a2 t.gs.length cap2)):=mH (by rw [hW0];simp [go_sem])
 rw [<- hW0]
 clear hW0
 go_loopw [5,13] (fun lv iv wr=>∃ (j:Nat),iv=.int .i64 (j:Int)/\j<=ps.length/\Hid (wr.ownsRow W0.heap.size 37 3 lv (cn1 (nds ps) i j).length ((cn1 (nds ps) i j).flatMap c3))/\Hid (Below W0.heap.size W0 wr)) (fun _ iv _=>ps.length - (intOf iv).toNat)
 case atStart=>exact⟨0,rfl,Nat.zero_le _,mH (World.ownsRow_nil _ _ _ _),mH (Below.refl _ _)⟩
 case round=>
  obtain⟨j,rfl,hj,HO,HB⟩:=hrel
  obtain⟨la,lc,rfl,_⟩:=own_sh HO.out
  by_cases hlt:j < ps.length
  ·obtain⟨b,off,x,rfl,hxj,hat⟩:=HH.out.n.row.at (bt HB0.out HB.out) j hlt
   obtain⟨q0,q1,q2,q3,q4,q5,q6⟩:=seven hat
   obtain⟨⟨id,pa,⟨k,q,T⟩,po,ts⟩,ta,tc⟩:=x
   simp only [tvN] at q0 q1 q2 q3 q4 q5 q6
   have hji:(j:Int) < ps.length:=by omega
   have hxn:=nds_at hxj
   by_cases hpi:pa=i
   ·have HRV:=mH (cn1_yes hxn hpi)
    subst hpi
    clear hxj hat hxn hj
    simp only at HRV
    have HOW:Hid (((wr.alloc (.cells #[.int .i64 id,.int .i64 pa,.int .i64 k,.int .i64 q,.int .i64 T,.int .i64 po,.slice ta ts.length tc] 69)).alloc (oS (k,q,T))).ownsRow W0.heap.size 37 3 (.slice la (cn1 (nds ps) pa j).length lc) (cn1 (nds ps) pa j).length ((cn1 (nds ps) pa j).flatMap c3)):=mH (own_new (own_new HO.out _) _)
    have HBW:Hid (Below W0.heap.size W0 ((wr.alloc (.cells #[.int .i64 id,.int .i64 pa,.int .i64 k,.int .i64 q,.int .i64 T,.int .i64 po,.slice ta ts.length tc] 69)).alloc (oS (k,q,T)))):=mH (ba (ba HB.out _) _)
    go_wp2_with (at_builtin;refine wpList_append_src3 _ rfl (.tmp 21) (.tmp 24) 172 172 rfl W0.heap.size 37 ie Tryz.underlying172 hie.out.1 (.agg #[.int .i64 0,.int .i64 0,.int .i64 0]) 24 hie.out.2.1 rfl hie.out.2.2.1 hie.out.2.2.2 (.slice la (cn1 (nds ps) pa j).length lc) (cn1 (nds ps) pa j).length ((cn1 (nds ps) pa j).flatMap c3) rfl HOW.out (.slice (some ⟨wr.heap.size+1,0,none⟩) 1 1) 1 (c3 (k,q,T)) rfl (src_sv (wr.alloc (.cells #[.int .i64 id,.int .i64 pa,.int .i64 k,.int .i64 q,.int .i64 T,.int .i64 po,.slice ta ts.length tc] 69)) (k,q,T) _ (by simp)) (by have:=HL1.out j;unfold maxLen;omega) (by have:=HL1.out j;omega) HBW.out.size ?_;intro v4 w4 ho4 hg4 _;have HO4:Hid (w4.ownsRow W0.heap.size 37 3 v4 (cn1 (nds ps) pa (j+1)).length ((cn1 (nds ps) pa (j+1)).flatMap c3)):=mH (by rw [HRV.out,List.flatMap_append,List.length_append];simpa using ho4);have HB4:=mH (HBW.out.grown hg4 HBW.out.size (fun k hk=>(HOW.out.lt k hk).1));clear ho4 hg4)
    go_roundw
    case rel=>exact⟨j+1,by go_num,hlt,HO4,HB4⟩
    case measure=>simp [intOf];omega
   ·have HRV:=mH (cn1_no hxn hpi)
    have hpi':(pa == i)=false:=by simpa using hpi
    clear hxj hat hxn hj hpi
    go_wp2
    go_roundw
    case rel=>exact⟨j+1,by go_num,hlt,mH (by rw [HRV.out];exact own_new HO.out _),mH (ba HB.out _)⟩
    case measure=>simp [intOf];omega
  ·obtain rfl:j=ps.length:=by omega
   have c1:=kc HG0.out HB.out
   obtain⟨cs,hcs⟩:∃ cs,cs=cn1 (nds ps) i ps.length:=⟨_,rfl⟩
   have HC1:Hid (cs.length<=1000):=mH (by rw [hcs];exact HL1.out _)
   rw [<- hcs] at HO HT ⊢
   clear HL1 hcs
   have HB1:=mH (bt HB0.out HB.out)
   have HS1:=mH HB.out.size
   have HO5:=mH HO.out
   have HB5:=mH HB.out
   clear HO HB
   obtain⟨W1,hW1⟩:∃ W1,W1=wr:=⟨_,rfl⟩
   rw [<- hW1] at HO5 HB5 HB1 HS1 c1 ⊢
   clear hW1
   go_wp2
   go_loopw [5,30] (fun lv iv wr=>∃ (j:Nat),iv=.int .i64 (j:Int)/\j<=t.gs.length/\Hid (wr.ownsRow W0.heap.size 37 3 lv (cs ++ cg1 t.gs i j).length ((cs ++ cg1 t.gs i j).flatMap c3))/\Hid (Below W0.heap.size W1 wr)) (fun _ iv _=>t.gs.length - (intOf iv).toNat)
   case atStart=>exact⟨0,rfl,Nat.zero_le _,mH (by rw [show cs ++ cg1 t.gs i 0=cs by simp [cg1]];exact HO5.out),mH (Below.refl _ _)⟩
   case round=>
    obtain⟨j,rfl,hj,HO,HB⟩:=hrel
    obtain⟨la,lc,rfl,_⟩:=own_sh HO.out
    have HBA:=mH (HB5.out.trans HB.out)
    by_cases hlt:j < t.gs.length
    ·obtain⟨b,off,x,rfl,hxj,hat⟩:=HH.out.g.at (bt HB0.out HBA.out) j hlt
     obtain⟨q0,q1,q2,q3,q4⟩:=five hat
     obtain⟨pa,⟨k,q,T⟩,un⟩:=x
     simp only at q0 q1 q2 q3 q4
     have hji:(j:Int) < t.gs.length:=by omega
     by_cases hpi:pa=i
     ·have HRV:=mH (cg1_yes hxj hpi)
      subst hpi
      clear hxj hat hj
      simp only at HRV
      have HOW:Hid (((wr.alloc (.cells #[.int .i64 pa,.int .i64 k,.int .i64 q,.int .i64 T,.int .i64 un] 111)).alloc (oS (k,q,T))).ownsRow W0.heap.size 37 3 (.slice la (cs ++ cg1 t.gs pa j).length lc) (cs ++ cg1 t.gs pa j).length ((cs ++ cg1 t.gs pa j).flatMap c3)):=mH (own_new (own_new HO.out _) _)
      have HBW:Hid (Below W0.heap.size W1 ((wr.alloc (.cells #[.int .i64 pa,.int .i64 k,.int .i64 q,.int .i64 T,.int .i64 un] 111)).alloc (oS (k,q,T)))):=mH ((HB.out.alloc HBA.out.size _).alloc (by have:=HBA.out.size;simp;omega) _)
      have HSZ:Hid (W0.heap.size<=((wr.alloc (.cells #[.int .i64 pa,.int .i64 k,.int .i64 q,.int .i64 T,.int .i64 un] 111)).alloc (oS (k,q,T))).heap.size):=mH (by have:=HBA.out.size;simp;omega)
      have HLN:Hid ((cs ++ cg1 t.gs pa j).length<=2000):=mH (by have:=HC1.out;have:=HL2.out j;rw [List.length_append];omega)
      have HAS:Hid ((cs ++ cg1 t.gs pa (j+1))=(cs ++ cg1 t.gs pa j) ++ [(k,q,T)]):=mH (by rw [HRV.out,List.append_assoc])
      go_wp2_with (at_builtin;refine wpList_append_src3 _ rfl (.tmp 38) (.tmp 41) 172 172 rfl W0.heap.size 37 ie Tryz.underlying172 hie.out.1 (.agg #[.int .i64 0,.int .i64 0,.int .i64 0]) 24 hie.out.2.1 rfl hie.out.2.2.1 hie.out.2.2.2 (.slice la (cs ++ cg1 t.gs pa j).length lc) (cs ++ cg1 t.gs pa j).length ((cs ++ cg1 t.gs pa j).flatMap c3) rfl HOW.out (.slice (some ⟨wr.heap.size+1,0,none⟩) 1 1) 1 (c3 (k,q,T)) rfl (src_sv (wr.alloc (.cells #[.int .i64 pa,.int .i64 k,.int .i64 q,.int .i64 T,.int .i64 un] 111)) (k,q,T) _ (by simp)) (by have:=HLN.out;unfold maxLen;omega) (by have:=HLN.out;omega) HSZ.out ?_;intro v4 w4 ho4 hg4 _;have HO4:Hid (w4.ownsRow W0.heap.size 37 3 v4 (cs ++ cg1 t.gs pa (j+1)).length ((cs ++ cg1 t.gs pa (j+1)).flatMap c3)):=mH (by rw [HAS.out,List.flatMap_append,List.length_append];simpa using ho4);have HB4:=mH (HBW.out.grown hg4 HSZ.out (fun k hk=>(HOW.out.lt k hk).1));clear ho4 hg4)
      go_roundw
      case rel=>exact⟨j+1,by go_num,hlt,HO4,HB4⟩
      case measure=>simp [intOf];omega
     ·have HRV:=mH (cg1_no hxj hpi)
      have hpi':(pa == i)=false:=by simpa using hpi
      clear hxj hat hj hpi
      go_wp2
      go_roundw
      case rel=>exact⟨j+1,by go_num,hlt,mH (by rw [HRV.out];exact own_new HO.out _),mH (HB.out.alloc HBA.out.size _)⟩
      case measure=>simp [intOf];omega
    ·obtain rfl:j=t.gs.length:=by omega
     have HF:Hid (t.cnt i=cs ++ cg1 t.gs i t.gs.length):=HT
     go_wp2
     go_ret
     rw [HF.out]
     exact⟨la,lc,rfl,own_lower HO.out HB0.out.size,bt HB0.out HBA.out⟩
end Go.Proofs.YtpdehdomilnmeaaGreatDoor
