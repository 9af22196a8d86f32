import Derived.Test.YtpdehdomilnmeaaGreatDoorTrE
import Derived.WideMake
import Derived.MapKept
namespace Go.Proofs.YtpdehdomilnmeaaGreatDoor
open Go.ChangeShapes Go.WideShapes Go.ChangeAt Go.RowKit
set_option maxRecDepth 100000
attribute [local go_sem] World.cell?_alloc_some fAs
abbrev putB (w:World) (b:Nat) (o:Obj):World:={ w with heap:=w.heap.setIfInBounds b o }
theorem put_same {w:World} {b:Nat} {o o':Obj} (h:w.heap[b]?=some o):(putB w b o').heap[b]?=some o':=by
 have:=(Array.getElem?_eq_some_iff.mp h).1
 simp [this]
theorem put_kept (w:World) (b:Nat) (o:Obj):Kept (fun k=>k=b) w (putB w b o):=⟨rfl,rfl,rfl,by simp,fun k _ hk=>by
 have:b ≠ k:=fun e=>hk e.symm
 simp [this]⟩
theorem ins_new {w:World} {b:Nat} {es:Array MapEntry} {clock:Nat} (k:Int) (v:Value) (hb:w.heap[b]?=some (.map es clock)) (hf:Instr.findNow (.int .i64) (.int .i64 k) es.toList 0=some none):(Instr.mapUpdate 153 (.map (some b)) (.int .i64 k) v).run Tryz.prog w=.ok () (putB w b (.map (es.push ⟨.int .i64 k,v,clock⟩) (clock+1))):=by
 have hc:(Instr.checkKey false 10000 3 (.int .i64 k)).run Tryz.prog w=.ok () w:=MapKept.run_checkKey Tryz.underlying3 (by trivial) false 9999
 simp [Instr.mapUpdate,run_underlying Tryz.underlying153,MapKept.run_getObj_map hb,hc,Instr.findKey,run_underlying Tryz.underlying3,hf,MapKept.run_setObj_map _ hb,Result.andThen]
abbrev fn (n:Nat):Value:=.func (.func n) #[] #[]
abbrev deedsM:Obj:=.map #[⟨.int .i64 1,fn 95,0⟩,⟨.int .i64 2,fn 96,1⟩,⟨.int .i64 3,fn 97,2⟩,⟨.int .i64 4,fn 98,3⟩] 4
set_option maxHeartbeats 3200000 in
theorem deeds_is (w:World):Calls Tryz.prog 70 #[] w fun e w'=>e=.returned (.map (some w.heap.size))/\w'.heap[w.heap.size]?=some deedsM/\Below w.heap.size w w':=by
 have hmk:∀ W:World,(Instr.makeMap 153 none).run Tryz.prog W=.ok (.map (some W.heap.size)) (W.alloc (.map #[] 0)):=fun W=>rfl
 have hb1:(w.alloc (.map #[] 0)).heap[w.heap.size]?=some (.map #[] 0):=heap_alloc_new w _
 have i1:=ins_new 1 (fn 95) hb1 rfl
 have hb2:=put_same (o':=.map (#[].push ⟨.int .i64 1,fn 95,0⟩) (0+1)) hb1
 have i2:=ins_new 2 (fn 96) hb2 rfl
 have hb3:=put_same (o':=.map ((#[].push ⟨.int .i64 1,fn 95,0⟩).push ⟨.int .i64 2,fn 96,0+1⟩) (0+1+1)) hb2
 have i3:=ins_new 3 (fn 97) hb3 rfl
 have hb4:=put_same (o':=.map (((#[].push ⟨.int .i64 1,fn 95,0⟩).push ⟨.int .i64 2,fn 96,0+1⟩).push ⟨.int .i64 3,fn 97,0+1+1⟩) (0+1+1+1)) hb3
 have i4:=ins_new 4 (fn 98) hb4 rfl
 have hb5:=put_same (o':=.map ((((#[].push ⟨.int .i64 1,fn 95,0⟩).push ⟨.int .i64 2,fn 96,0+1⟩).push ⟨.int .i64 3,fn 97,0+1+1⟩).push ⟨.int .i64 4,fn 98,0+1+1+1⟩) (0+1+1+1+1)) hb4
 obtain⟨W5,hW5⟩:∃ W5,W5=putB (putB (putB (putB (w.alloc (.map #[] 0)) w.heap.size (.map (#[].push ⟨.int .i64 1,fn 95,0⟩) (0+1))) w.heap.size (.map ((#[].push ⟨.int .i64 1,fn 95,0⟩).push ⟨.int .i64 2,fn 96,0+1⟩) (0+1+1))) w.heap.size (.map (((#[].push ⟨.int .i64 1,fn 95,0⟩).push ⟨.int .i64 2,fn 96,0+1⟩).push ⟨.int .i64 3,fn 97,0+1+1⟩) (0+1+1+1))) w.heap.size (.map ((((#[].push ⟨.int .i64 1,fn 95,0⟩).push ⟨.int .i64 2,fn 96,0+1⟩).push ⟨.int .i64 3,fn 97,0+1+1⟩).push ⟨.int .i64 4,fn 98,0+1+1+1⟩) (0+1+1+1+1)):=⟨_,rfl⟩
 have HB:Hid (W5.heap[w.heap.size]?=some deedsM/\Below w.heap.size w W5):=mH (by
  rw [hW5]
  refine⟨hb5, ?_⟩
  refine(ba (Below.refl _ w) (.map #[] 0)).trans (Kept.below (F:=fun k=>k=w.heap.size) ?_ (fun k e=>by omega) (by simp))
  exact(((put_kept _ _ _).trans (put_kept _ _ _) (fun _ h=>.inl h)).trans (put_kept _ _ _) (fun _ h=>.inl h)).trans (put_kept _ _ _) (fun _ h=>.inl h))
 rw [<- hW5] at i4
 generalize putB (putB (putB (w.alloc (.map #[] 0)) w.heap.size (.map (#[].push ⟨.int .i64 1,fn 95,0⟩) (0+1))) w.heap.size (.map ((#[].push ⟨.int .i64 1,fn 95,0⟩).push ⟨.int .i64 2,fn 96,0+1⟩) (0+1+1))) w.heap.size (.map (((#[].push ⟨.int .i64 1,fn 95,0⟩).push ⟨.int .i64 2,fn 96,0+1⟩).push ⟨.int .i64 3,fn 97,0+1+1⟩) (0+1+1+1))=W4 at i3 i4
 generalize putB (putB (w.alloc (.map #[] 0)) w.heap.size (.map (#[].push ⟨.int .i64 1,fn 95,0⟩) (0+1))) w.heap.size (.map ((#[].push ⟨.int .i64 1,fn 95,0⟩).push ⟨.int .i64 2,fn 96,0+1⟩) (0+1+1))=W3 at i2 i3
 generalize putB (w.alloc (.map #[] 0)) w.heap.size (.map (#[].push ⟨.int .i64 1,fn 95,0⟩) (0+1))=W2 at i1 i2
 clear hb1 hb2 hb3 hb4 hb5 hW5
 go_enter Tryz.func70,Tryz.ntmps70
 go_wp2
 go_ret
 exact⟨rfl,HB.out.1,HB.out.2⟩
def deedF (k:Int):Option Nat:=if k=1 then some 95 else if k=2 then some 96 else if k=3 then some 97 else if k=4 then some 98 else none
def deedV (k:Int):Value:=(deedF k).elim .nilFunc fn
theorem deed_get {w:World} {b:Nat} (hb:w.heap[b]?=some deedsM) (k:Int):(Instr.lookup 153 (.map (some b)) (.int .i64 k) true).run Tryz.prog w=.ok (.tuple #[deedV k,.bool (deedF k).isSome]) w:=by
 have hc:∀ c,(Instr.checkKey c 10000 3 (.int .i64 k)).run Tryz.prog w=.ok () w:=fun c=>MapKept.run_checkKey Tryz.underlying3 (by trivial) c 9999
 unfold deedV deedF
 by_cases h1:k=1
 ·subst h1
  simp [Instr.lookup,run_underlying Tryz.underlying153,MapKept.run_getObj_map hb,hc,Instr.findKey,run_underlying Tryz.underlying3,Instr.findNow,Instr.sameNow]
 ·by_cases h2:k=2
  ·subst h2
   simp [Instr.lookup,run_underlying Tryz.underlying153,MapKept.run_getObj_map hb,hc,Instr.findKey,run_underlying Tryz.underlying3,Instr.findNow,Instr.sameNow]
  ·by_cases h3:k=3
   ·subst h3
    simp [Instr.lookup,run_underlying Tryz.underlying153,MapKept.run_getObj_map hb,hc,Instr.findKey,run_underlying Tryz.underlying3,Instr.findNow,Instr.sameNow]
   ·by_cases h4:k=4
    ·subst h4
     simp [Instr.lookup,run_underlying Tryz.underlying153,MapKept.run_getObj_map hb,hc,Instr.findKey,run_underlying Tryz.underlying3,Instr.findNow,Instr.sameNow]
    ·have e1:(k == 1)=false:=by simp [h1]
     have e2:(k == 2)=false:=by simp [h2]
     have e3:(k == 3)=false:=by simp [h3]
     have e4:(k == 4)=false:=by simp [h4]
     have hfn:Instr.findNow (.int .i64) (.int .i64 k) [⟨.int .i64 1,fn 95,0⟩,⟨.int .i64 2,fn 96,1⟩,⟨.int .i64 3,fn 97,2⟩,⟨.int .i64 4,fn 98,3⟩] 0=some none:=by
      simp only [Instr.findNow,Instr.sameNow,if_true,e1,e2,e3,e4]
     simp [Instr.lookup,run_underlying Tryz.underlying153,MapKept.run_getObj_map hb,hc,Instr.findKey,run_underlying Tryz.underlying3,hfn,h1,h2,h3,h4]
theorem results_cell2 {fn:Func} {p q:Tmp} {ty ty2:TypeId} (h:fn.results=#[.cell p ty,.cell q ty2]) (tmps:Array Value) (P:Program) (w:World) :
  (results fn tmps).run P w=((asAddr (tmps.getD p undef)).run P w).andThen fun a w₁=>((loadVar ty a).run P w₁).andThen fun v w₂=>((asAddr (tmps.getD q undef)).run P w₂).andThen fun b w₃=>((loadVar ty2 b).run P w₃).andThen fun u w₄=>.ok (.tuple #[v,u]) w₄:=by
 simp only [results,h]
 simp [Sem.run_bind,Result.andThen]
theorem leavesCC {W:World} {R1 R2:Nat} {p q:Tmp} {fn:Func} {ty ty2:TypeId} {fs fs2:Array Go.Field} {cs ds:Array Value} (hf:fn.results=#[.cell p ty,.cell q ty2]) (h1:W.heap[R1]?=some (.cells cs ty (0,0))) (hu:Tryz.prog.underlying ty=some (.struct fs)) (hs:(Tryz.prog.info? ty).map (·.size)=some cs.size) (h2:W.heap[R2]?=some (.cells ds ty2 (0,0))) (hu2:Tryz.prog.underlying ty2=some (.struct fs2)) (hs2:(Tryz.prog.info? ty2).map (·.size)=some ds.size) (tmps:Array Value) (e1:tmps.getD p undef=.pointer (some ⟨R1,0,none⟩)) (e2:tmps.getD q undef=.pointer (some ⟨R2,0,none⟩)):(results fn tmps).run Tryz.prog W=.ok (.tuple #[.agg cs,.agg ds]) W:=by
 have hl:=run_loadVar_row (P:=Tryz.prog) W R1 ty ty cs (0,0) _ h1 hu rfl hs
 have hl2:=run_loadVar_row (P:=Tryz.prog) W R2 ty2 ty2 ds (0,0) _ h2 hu2 rfl hs2
 rw [results_cell2 hf]
 simp only [e1,e2,asAddr,Sem.run_pure,Result.andThen,hl,hl2]
abbrev set4 (w:World) (g:Nat) (v0 v1 v2 v3:Value):World:=(((w.setCell ⟨g,0,none⟩ v0).setCell ⟨g,1,none⟩ v1).setCell ⟨g,2,none⟩ v2).setCell ⟨g,3,none⟩ v3
theorem set4_kept {F:Nat->Prop} {w w':World} (h:Kept F w w') {g:Nat} (hb:F g ∨ w.heap.size<=g) (v0 v1 v2 v3:Value):Kept F w (set4 w' g v0 v1 v2 v3):=kset (kset (kset (kset h hb 0 v0) hb 1 v1) hb 2 v2) hb 3 v3
theorem set4_heap {w:World} {p:Nat} {c0 c1 c2 c3:Value} {ty:TypeId} (h:w.heap[p]?=some (.cells #[c0,c1,c2,c3] ty (0,0))) (v0 v1 v2 v3:Value):(set4 w p v0 v1 v2 v3).heap[p]?=some (.cells #[v0,v1,v2,v3] ty (0,0)):=by
 unfold set4
 rw [hSt (hSt (hSt (hSt h)))]
 kernel_rfl
abbrev oTz:Obj:=.cells #[.slice none 0 0,.slice none 0 0,.int .i64 0,.int .i64 0] 30
theorem app_bad {A:Ops} {t:Tr} {o:Od} (h:o.ki < 1 ∨ 4 < o.ki ∨ o.tm < 0 ∨ 1099511627776 < o.tm):t.app A o=(t,7,0):=by unfold Tr.app;rw [if_pos h]
def ApP (w:World) (TC:Tr × Rs) (e:Ending) (w':World):Prop:=∃ nv' gv' ps',e=.returned (.tuple #[vTr nv' gv' TC.1,vRs TC.2])/\TrO w.heap.size w' nv' gv' ps' TC.1.gs/\nds ps'=TC.1.ns/\Below w.heap.size w w'
set_option maxHeartbeats 25600000 in
theorem apply_is (A:Ops) (w:World) (t:Tr) (nv gv:Value) (ps:List Np) (o:Od) (oa:Option Addr) (oc:Nat) (a:Nat->Addr) (h:TrW w nv gv ps t) (hs:t.Sm 800) (hn0:0<=t.now) (hn1:t.now<=1099511627776) (hl0:0<=t.last) (E:Er6 w a) (hot:Tks w (.slice oa o.ts.length oc) o.ts) (hoc:o.ts.length<=oc) (hot8:o.ts.length * 32<=140737488355328) :
  Calls Tryz.prog 49 #[vTr nv gv t,vOd o (.slice oa o.ts.length oc)] w (ApP w (t.app A o)):=by
 have hs9:t.Sm 900:=⟨by have:=hs.n;omega,by have:=hs.g;omega,by have:=hs.l;omega,hs.s⟩
 have HC:Hid (∀ W,Below w.heap.size w W->Calls Tryz.prog 69 #[vTr nv gv t] W fun e w'=>∃ nv' gv' qs,e=.returned (vTr nv' gv' t)/\TrO W.heap.size w' nv' gv' qs t.gs/\nds qs=t.ns/\Below W.heap.size W w'):=mH (fun W hW=>clone_is W t nv gv ps (h.below hW) hs9.wide)
 obtain⟨TC,hTC⟩:∃ TC,TC=t.app A o:=⟨_,rfl⟩
 rw [<- hTC]
 have HTC:=mH hTC
 have HLT:=mH (And.intro hs9 (And.intro E (And.intro hn0 (And.intro hn1 (And.intro hl0 (And.intro hot (And.intro hoc hot8)))))))
 obtain⟨na,nc,hnv,_⟩:=h.n.row.shape
 obtain⟨ga,gc,hgv,_⟩:=h.g.shape
 subst hnv hgv
 obtain⟨ki,id,⟨sk,sq,sT⟩,po,ts,tm⟩:=o
 clear hTC h hs hs9 hn0 hn1 hl0 E hot hoc hot8
 simp only [vOd] at *
 go_enter Tryz.func49,Tryz.ntmps49
 go_wp2_with (go_at_call 69;refine(HC.out _ (ba (ba (ba (ba (Below.refl _ w) _) _) _) _)).mono ?_;rintro e w2 ⟨nv2,gv2,qs,rfl,ho2,hq2,b2⟩;obtain⟨na2,nc2,hnv2,_⟩:=own_sh ho2.nown;obtain⟨ga2,gc2,hgv2,_⟩:=own_sh ho2.gown;subst hnv2 hgv2;have HO2:=mH (And.intro ho2 (And.intro hq2 b2));clear ho2 hq2 b2)
 obtain⟨W,hW⟩:∃ W,W=w2.alloc (oTr (.slice na2 qs.length nc2) (.slice ga2 t.gs.length gc2) t):=⟨_,rfl⟩
 obtain⟨W1,hW1⟩:∃ W1,W1=(((w.alloc (oTr (.slice na ps.length nc) (.slice ga t.gs.length gc) t)).alloc (.cells #[.int .i64 ki,.int .i64 id,.int .i64 sk,.int .i64 sq,.int .i64 sT,.int .i64 po,.slice oa ts.length oc,.int .i64 tm] 40)).alloc oTz).alloc oRs:=⟨_,rfl⟩
 have hO2:=HO2.out
 rw [<- hW1] at hO2
 have hsz1:W1.heap.size=w.heap.size+4:=by rw [hW1];simp
 have hb1:Below w.heap.size w W1:=by rw [hW1];exact ba (ba (ba (ba (Below.refl _ w) _) _) _) _
 have k1:W1.heap[w.heap.size+1]?=some (.cells #[.int .i64 ki,.int .i64 id,.int .i64 sk,.int .i64 sq,.int .i64 sT,.int .i64 po,.slice oa ts.length oc,.int .i64 tm] 40 (0,0)):=by
  rw [hW1,heap_alloc_old _ _ (by simp),heap_alloc_old _ _ (by simp)]
  have:=heap_alloc_new (w.alloc (oTr (.slice na ps.length nc) (.slice ga t.gs.length gc) t)) (.cells #[.int .i64 ki,.int .i64 id,.int .i64 sk,.int .i64 sq,.int .i64 sT,.int .i64 po,.slice oa ts.length oc,.int .i64 tm] 40)
  simpa using this
 have k2:W1.heap[w.heap.size+1+1]?=some oTz:=by
  rw [hW1,heap_alloc_old _ _ (by simp)]
  have:=heap_alloc_new ((w.alloc (oTr (.slice na ps.length nc) (.slice ga t.gs.length gc) t)).alloc (.cells #[.int .i64 ki,.int .i64 id,.int .i64 sk,.int .i64 sq,.int .i64 sT,.int .i64 po,.slice oa ts.length oc,.int .i64 tm] 40)) oTz
  simpa using this
 have k3:W1.heap[w.heap.size+1+1+1]?=some oRs:=by
  rw [hW1]
  have:=heap_alloc_new (((w.alloc (oTr (.slice na ps.length nc) (.slice ga t.gs.length gc) t)).alloc (.cells #[.int .i64 ki,.int .i64 id,.int .i64 sk,.int .i64 sq,.int .i64 sT,.int .i64 po,.slice oa ts.length oc,.int .i64 tm] 40)).alloc oTz) oRs
  simpa using this
 clear hW1
 have hb2:Below W1.heap.size W1 W:=by rw [hW];exact ba hO2.2.2 _
 have HB:Hid (Below W1.heap.size W1 W/\Below w.heap.size w W1/\W1.heap.size=w.heap.size+4):=mH ⟨hb2,hb1,hsz1⟩
 have HF1:Hid (W1.heap[w.heap.size+1]?=some (.cells #[.int .i64 ki,.int .i64 id,.int .i64 sk,.int .i64 sq,.int .i64 sT,.int .i64 po,.slice oa ts.length oc,.int .i64 tm] 40 (0,0))/\W1.heap[w.heap.size+1+1]?=some oTz/\W1.heap[w.heap.size+1+1+1]?=some oRs):=mH ⟨k1,k2,k3⟩
 have HP:Hid (TrP W1.heap.size W w2.heap.size (.slice na2 qs.length nc2) (.slice ga2 t.gs.length gc2) qs t):=mH (by
  have ho:TrO W1.heap.size W (.slice na2 qs.length nc2) (.slice ga2 t.gs.length gc2) qs t.gs:=by rw [hW];exact hO2.1.kept (Kept.alloc (fun _=>False) _ _) (fun _ h=>h.elim)
  refine⟨by rw [hW];exact heap_alloc_new w2 _,ho,hO2.2.1,hO2.2.2.size,fun e=>?_,fun e=>?_,fun x hx e=>?_⟩
  ·have:=(hO2.1.nown.lt _ e).2;omega
  ·have:=(hO2.1.gown.lt _ e).2;omega
  ·have:=((hO2.1.tk x hx).lt _ e).2;omega)
 rw [<- hW]
 clear hW hO2 HO2 hsz1 hb1 hb2 k1 k2 k3 HC
 generalize w2.heap.size=p at *
 obtain⟨B1,hB1⟩:∃ B1,B1=w.heap.size+1:=⟨_,rfl⟩
 obtain⟨B2,hB2⟩:∃ B2,B2=w.heap.size+1+1:=⟨_,rfl⟩
 obtain⟨B3,hB3⟩:∃ B3,B3=w.heap.size+1+1+1:=⟨_,rfl⟩
 obtain⟨B0,hB0⟩:∃ B0,B0=w.heap.size:=⟨_,rfl⟩
 have HBB:Hid (B0=w.heap.size/\B1=w.heap.size+1/\B2=w.heap.size+2/\B3=w.heap.size+3):=mH ⟨hB0,hB1,by omega,by omega⟩
 rw [<- hB3,<- hB2,<- hB1] at HF1
 rw [<- hB3,<- hB2,<- hB1,<- hB0]
 clear hB0 hB1 hB2 hB3
 have HF:Hid (W.heap[B1]?=some (.cells #[.int .i64 ki,.int .i64 id,.int .i64 sk,.int .i64 sq,.int .i64 sT,.int .i64 po,.slice oa ts.length oc,.int .i64 tm] 40 (0,0))/\W.heap[B2]?=some oTz/\W.heap[B3]?=some oRs):=mH ⟨bLt HF1.out.1 HB.out.1,bLt HF1.out.2.1 HB.out.1,bLt HF1.out.2.2 HB.out.1⟩
 have d0:=(eight HF.out.1).1
 obtain⟨DV,hDV⟩:∃ DV,DV=deedV ki:=⟨_,rfl⟩
 obtain⟨DB,hDB⟩:∃ DB,DB=(deedF ki).isSome:=⟨_,rfl⟩
 refine wp_region_held_drew (S:=fun w'=>w'.cell? ⟨B1,0,none⟩=some (.int .i64 ki)) (by kernel_rfl) d0 (fun hHeld=>?_)
 refine tkE 1 14 (.pointer (some ⟨B1,0,none⟩)) rfl rfl hHeld ?_
 simp only [sZ,sS]
 refine tkE 2 15 (.int .i64 ki) rfl rfl hHeld ?_
 simp only [sZ,sS]
 refine wpAnyH_ready (rs:=[0]) (by kernel_rfl) (by simp) (AllReadyH.cons rfl (fun K hK=>?_) AllReadyH.nil)
 go_simp
 refine(deeds_is W.drew).mono ?_
 rintro e w3 ⟨rfl,hm3,b3⟩
 have hlk:(Instr.lookup 153 (.map (some W.heap.size)) (.int .i64 ki) true).run Tryz.prog w3=.ok (.tuple #[deedV ki,.bool (deedF ki).isSome]) w3:=deed_get hm3 ki
 rw [<- hDV,<- hDB] at hlk
 have y0:=kc (show W.drew.cell? _=_ from d0) b3
 have HP3:=mH ((HP.out.below (Below.refl _ W).drew).below b3)
 have HB3:Hid (Below W1.heap.size W1 w3):=mH (bt HB.out.1.drew b3)
 clear b3 hHeld hm3
 refine hK.out _ _ y0 (fun hHeld=>?_)
 clear hK K d0
 (try simp only [Act.put])
 refine wpAnyH_ready (rs:=[3]) (by kernel_rfl) (by simp) (AllReadyH.cons rfl (fun K hK=>?_) AllReadyH.nil)
 go_simp
 refine hK.out _ _ y0 (fun hHeld=>?_)
 clear hK K hlk
 (try simp only [Act.put])
 refine tkE 4 12 (.tuple #[DV,.bool DB]) rfl rfl hHeld ?_
 simp only [sZ,sS]
 refine tkE 5 17 (DV) rfl rfl hHeld ?_
 simp only [sZ,sS]
 refine tkE 6 18 (.bool DB) rfl rfl hHeld ?_
 simp only [sZ,sS]
 refine tkE 7 7 (DV) rfl rfl hHeld ?_
 simp only [sZ,sS]
 refine tkE 8 8 (.bool DB) rfl rfl hHeld ?_
 simp only [sZ,sS]
 refine wpAnyH_done (by kernel_rfl) ?_ _
 clear hHeld
 have HF3:Hid (w3.heap[B1]?=some (.cells #[.int .i64 ki,.int .i64 id,.int .i64 sk,.int .i64 sq,.int .i64 sT,.int .i64 po,.slice oa ts.length oc,.int .i64 tm] 40 (0,0))/\w3.heap[B2]?=some oTz/\w3.heap[B3]?=some oRs):=mH ⟨bLt HF1.out.1 HB3.out,bLt HF1.out.2.1 HB3.out,bLt HF1.out.2.2 HB3.out⟩
 clear y0 HP HF
 have HEND:Hid (∀ (W9:World) (nv9 gv9:Value) (ps9:List Np) (T:Tr) (R:Rs),TrP W1.heap.size W9 p nv9 gv9 ps9 T->Below W1.heap.size W1 W9->TC=(T,R) ->
   (set4 (set4 W9 B2 nv9 gv9 (.int .i64 T.last) (.int .i64 T.now)) B2 nv9 gv9 (.int .i64 T.last) (.int .i64 T.now)=set4 (set4 W9 B2 nv9 gv9 (.int .i64 T.last) (.int .i64 T.now)) B2 nv9 gv9 (.int .i64 T.last) (.int .i64 T.now)) /\
   ∃ X,X=((set4 W9 B2 nv9 gv9 (.int .i64 T.last) (.int .i64 T.now)).setCell ⟨B3,0,none⟩ (.int .i64 R.1)).setCell ⟨B3,1,none⟩ (.int .i64 R.2)/\X.heap[B2]?=some (.cells #[nv9,gv9,.int .i64 T.last,.int .i64 T.now] 30 (0,0))/\X.heap[B3]?=some (.cells #[.int .i64 R.1,.int .i64 R.2] 94 (0,0))/\TrO w.heap.size X nv9 gv9 ps9 T.gs/\nds ps9=T.ns/\Below w.heap.size w X):=mH (fun W9 nv9 gv9 ps9 T R h9 b9 _=>⟨rfl,_,rfl,by
  have hf2:=bLt HF1.out.2.1 b9
  have hf3:=bLt HF1.out.2.2 b9
  have hbb:=HBB.out
  have k4:=set4_kept (F:=fun k=>k=B2) (Kept.refl _ W9) (g:=B2) (.inl rfl) nv9 gv9 (.int .i64 T.last) (.int .i64 T.now)
  have k6:Kept (fun k=>k=B3) (set4 W9 B2 nv9 gv9 (.int .i64 T.last) (.int .i64 T.now)) (((set4 W9 B2 nv9 gv9 (.int .i64 T.last) (.int .i64 T.now)).setCell ⟨B3,0,none⟩ (.int .i64 R.1)).setCell ⟨B3,1,none⟩ (.int .i64 R.2)):=kset (F:=fun k=>k=B3) (kset (F:=fun k=>k=B3) (Kept.refl _ _) (.inl rfl) 0 _) (.inl rfl) 1 _
  have h2:=set4_heap hf2 nv9 gv9 (.int .i64 T.last) (.int .i64 T.now)
  have h3:=(k4.block _ (lOh hf3) (by omega)).trans hf3
  have kF:Kept (fun k=>k=B2 ∨ k=B3) W9 (((set4 W9 B2 nv9 gv9 (.int .i64 T.last) (.int .i64 T.now)).setCell ⟨B3,0,none⟩ (.int .i64 R.1)).setCell ⟨B3,1,none⟩ (.int .i64 R.2)):=(k4.mono (fun _ h=>.inl h)).trans k6 (fun k h=>.inl (.inr h))
  have hz:=HB.out.2.2
  refine⟨(k6.block _ (lOh h2) (by omega)).trans h2,set2_heap h3 _ _, ?_,h9.e, ?_⟩
  ·have ho:=h9.o.kept kF (fun k e=>.inl ⟨fun e2=>by have:=(h9.o.nown.lt k e2).1;omega,fun e2=>by have:=(h9.o.gown.lt k e2).1;omega,fun x hx e2=>by have:=((h9.o.tk x hx).lt k e2).1;omega⟩)
   exact⟨own_lower ho.nown (by omega),fun x hx=>own_lower (ho.tk x hx) (by omega),own_lower ho.gown (by omega),ho.tn,ho.tg,ho.ng⟩
  ·exact(bt HB.out.2.1 b9).trans (kF.below (fun k e=>by omega) (by have:=(bt HB.out.2.1 b9).size;exact this))⟩)
 by_cases hbad:ki < 1 ∨ 4 < ki ∨ tm < 0 ∨ 1099511627776 < tm
 ·have hTC7:TC=(t,7,0):=by rw [HTC.out];exact app_bad hbad
  have HT7:=mH hTC7
  clear hTC7
  have hcs:(DB=false) ∨ (DB=true/\tm < 0) ∨ (DB=true/\¬ tm < 0/\1099511627776 < tm):=by
   cases DB with
   |false=>exact .inl rfl
   |true=>
    have hk:¬ (ki < 1 ∨ 4 < ki):=by
     intro hk
     have:deedF ki=none:=by
      unfold deedF
      rw [if_neg (by omega),if_neg (by omega),if_neg (by omega),if_neg (by omega)]
     rw [this] at hDB
     cases hDB
    rcases hbad with h | h | h | h
    ·exact absurd (.inl h) hk
    ·exact absurd (.inr h) hk
    ·exact .inr (.inl ⟨rfl,h⟩)
    ·by_cases h0:tm < 0
     ·exact .inr (.inl ⟨rfl,h0⟩)
     ·exact .inr (.inr ⟨rfl,h0,h⟩)
  clear hbad hDB hDV
  obtain⟨e0,e1,e2,e3,e4,e5,e6,e7⟩:=eight HF3.out.1
  rcases hcs with rfl | ⟨rfl,ht1⟩ | ⟨rfl,ht1,ht2⟩
  all_goals
   go_wp2
   clear e0 e1 e2 e3 e4 e5 e6 e7
   obtain⟨c0,c1,c2,c3⟩:=HP3.out.cells
   refine wp_region_held_drew (S:=fun w'=>w'.cell? ⟨p,0,none⟩=some (.slice na2 qs.length nc2)/\w'.cell? ⟨p,1,none⟩=some (.slice ga2 t.gs.length gc2)/\w'.cell? ⟨p,2,none⟩=some (.int .i64 t.last)/\w'.cell? ⟨p,3,none⟩=some (.int .i64 t.now)) (by kernel_rfl) ⟨c0,c1,c2,c3⟩ (fun hHeld=>?_)
   refine tkE 0 31 (vTr (.slice na2 qs.length nc2) (.slice ga2 t.gs.length gc2) t) rfl rfl hHeld ?_
   simp only [sZ,sS]
   refine wpAnyH_ready (rs:=[1]) (by kernel_rfl) (by simp) (AllReadyH.cons rfl (fun K hK=>?_) AllReadyH.nil)
   go_simp
   refine(refused_is w3.drew 7).mono ?_
   rintro e w4 ⟨rfl,b4⟩
   have y0:=kc (show w3.drew.cell? _=_ from c0) b4
   have y1:=kc (show w3.drew.cell? _=_ from c1) b4
   have y2:=kc (show w3.drew.cell? _=_ from c2) b4
   have y3:=kc (show w3.drew.cell? _=_ from c3) b4
   have HP4:=mH ((HP3.out.below (Below.refl _ w3).drew).below b4)
   have HB4:Hid (Below W1.heap.size W1 w4):=mH (bt HB3.out.drew b4)
   have hf2:=bLt (w:=w3.drew) HF3.out.2.1 b4
   have hf3:=bLt (w:=w3.drew) HF3.out.2.2 b4
   obtain⟨g0,g1,g2,g3⟩:=four hf2
   have u0:w4.frozen? ⟨B2,0,none⟩=false:=fOb hf2
   have u1:w4.frozen? ⟨B2,1,none⟩=false:=fOb hf2
   have u2:w4.frozen? ⟨B2,2,none⟩=false:=fOb hf2
   have u3:w4.frozen? ⟨B2,3,none⟩=false:=fOb hf2
   have hbp:¬ p=B2/\¬ p=B3/\¬ B2=B3:=by
    have h1:=HP4.out.bp
    have h2:=HBB.out
    have h3:=HB.out.2.2
    omega
   have k4:=set4_kept (F:=fun k=>k=B2) (Kept.refl _ w4) (g:=B2) (.inl rfl) (.slice na2 qs.length nc2) (.slice ga2 t.gs.length gc2) (.int .i64 t.last) (.int .i64 t.now)
   have hf3':=(k4.block _ (lOh hf3) (by omega)).trans hf3
   obtain⟨r0,r1⟩:=two hf3'
   have v0:=eight_f hf3' 0
   have v1:=eight_f hf3' 1
   clear b4 hHeld hf2 hf3 hf3'
   refine hK.out _ _ ⟨y0,y1,y2,y3⟩ (fun hHeld=>?_)
   clear hK K c0 c1 c2 c3
   (try simp only [Act.put])
   refine wpAnyH_ready (rs:=[2]) (by kernel_rfl) (by simp) (AllReadyH.cons rfl (fun K hK=>?_) AllReadyH.nil)
   go_simp
   refine hK.out _ _ ⟨k4.cell y0 hbp.1,k4.cell y1 hbp.1,k4.cell y2 hbp.1,k4.cell y3 hbp.1⟩ (fun hHeld=>?_)
   clear hK K g0 g1 g2 g3 u0 u1 u2 u3
   (try simp only [Act.put])
   refine wpAnyH_ready (rs:=[3]) (by kernel_rfl) (by simp) (AllReadyH.cons rfl (fun K hK=>?_) AllReadyH.nil)
   go_simp
   have k6:Kept (fun k=>k=B3) (set4 w4 B2 (.slice na2 qs.length nc2) (.slice ga2 t.gs.length gc2) (.int .i64 t.last) (.int .i64 t.now)) (((set4 w4 B2 (.slice na2 qs.length nc2) (.slice ga2 t.gs.length gc2) (.int .i64 t.last) (.int .i64 t.now)).setCell ⟨B3,0,none⟩ (.int .i64 7)).setCell ⟨B3,1,none⟩ (.int .i64 0)):=kset (F:=fun k=>k=B3) (kset (F:=fun k=>k=B3) (Kept.refl _ _) (.inl rfl) 0 _) (.inl rfl) 1 _
   refine hK.out _ _ ⟨k6.cell (k4.cell y0 hbp.1) hbp.2.1,k6.cell (k4.cell y1 hbp.1) hbp.2.1,k6.cell (k4.cell y2 hbp.1) hbp.2.1,k6.cell (k4.cell y3 hbp.1) hbp.2.1⟩ (fun hHeld=>?_)
   clear hK K hHeld k4 k6 r0 r1 v0 v1 y0 y1 y2 y3 hbp
   refine wpAnyH_done (by kernel_rfl) ?_ _
   obtain⟨_,X,hX,hx2,hx3,ho,he,hb⟩:=HEND.out w4 _ _ _ t (7,0) HP4.out HB4.out HT7.out
   unfold set4 at hX
   simp only at hX
   rw [<- hX]
   have HX:=mH (And.intro hx2 (And.intro hx3 (And.intro ho (And.intro he hb))))
   clear hX hx2 hx3 ho he hb
   go_wp2
   rw [HT7.out]
   exact bodyPost_ret (leavesCC rfl HX.out.1 Tryz.underlying30 size_tree HX.out.2.1 Tryz.underlying94 size_result _ rfl rfl) rfl ⟨_,_,_,rfl,HX.out.2.2.1,HX.out.2.2.2.1,HX.out.2.2.2.2⟩
 ·have htm0:¬ tm < 0:=by omega
  have htm1:¬ 1099511627776 < tm:=by omega
  have hki:ki=1 ∨ ki=2 ∨ ki=3 ∨ ki=4:=by omega
  have HAP:Hid (TC=if ki=1 then (t.pass tm).create A ⟨ki,id,(sk,sq,sT),po,ts,tm⟩ else if ki=2 then (t.pass tm).resize A ⟨ki,id,(sk,sq,sT),po,ts,tm⟩ else if ki=3 then (t.pass tm).remove A ⟨ki,id,(sk,sq,sT),po,ts,tm⟩ else (t.pass tm).bind A ⟨ki,id,(sk,sq,sT),po,ts,tm⟩):=mH (by rw [HTC.out];unfold Tr.app;rw [if_neg hbad])
  have HTM:Hid (0<=tm/\tm<=1099511627776):=mH ⟨by omega,by omega⟩
  clear hbad HTC
  obtain⟨e0,e1,e2,e3,e4,e5,e6,e7⟩:=eight HF3.out.1
  rcases hki with rfl | rfl | rfl | rfl
  ·have hdv:DV=fn 95:=by rw [hDV];rfl
   have hdb:DB=true:=by rw [hDB];rfl
   subst hdv hdb
   obtain⟨⟨T,R1,R2⟩,hD⟩:∃ D,D=(t.pass tm).create A ⟨1,id,(sk,sq,sT),po,ts,tm⟩:=⟨_,rfl⟩
   have HT9:Hid (TC=(T,R1,R2)):=mH (by have:=HAP.out;rw [hD];simpa using this)
   have HDD:Hid (∀ (w4:World) (gv4:Value),TrP W1.heap.size w4 p (.slice na2 qs.length nc2) gv4 qs (t.pass tm)->Below W1.heap.size W1 w4->Calls Tryz.prog 95 #[.pointer (some ⟨p,0,none⟩),vOd ⟨1,id,(sk,sq,sT),po,ts,tm⟩ (.slice oa ts.length oc)] w4 fun e w'=>∃ nv' gv' ps',e=.returned (vRs (R1,R2))/\TrP W1.heap.size w' p nv' gv' ps' T/\Below W1.heap.size w4 w'):=mH (fun w4 gv4 h4 b4=>by
    have:=create_is A W1.heap.size W1 w4 p (t.pass tm) _ gv4 qs ⟨1,id,(sk,sq,sT),po,ts,tm⟩ oa oc a b4 rfl h4 (pass_sm HLT.out.1 tm) (by have:=HLT.out.2.2.1;show 0<=max t.now tm;omega) (by have:=HLT.out.2.2.2.1;have:=HTM.out;show max t.now tm<=_;omega) HLT.out.2.2.2.2.1 (HLT.out.2.1.late HB.out.2.1) (HLT.out.2.2.2.2.2.1.below HB.out.2.1) HLT.out.2.2.2.2.2.2.1 HLT.out.2.2.2.2.2.2.2
    rw [<- hD] at this
    exact this)
   clear hDV hDB HAP hD
   simp only [vOd] at HDD
   go_wp2_with (first
    |(go_at_call 72;refine(pass_is W1.heap.size w3 p t _ _ qs tm HP3.out HLT.out.1.wide).mono ?_;rintro e w4 ⟨⟨v4,rfl⟩,⟨gv4,hp4⟩,b4⟩;have HP4:=mH hp4;have HB4:=mH (HB3.out.trans b4);have hf4:=bLt HF1.out.1 HB4.out;clear e0 e1 e2 e3 e4 e5 e6 e7;obtain⟨e0,e1,e2,e3,e4,e5,e6,e7⟩:=eight hf4;clear hp4 b4 hf4)
    |(go_at_call 95;refine(HDD.out w4 gv4 HP4.out HB4.out).mono ?_;rintro e w5 ⟨nv5,gv5,ps5,rfl,hp5,b5⟩;obtain⟨na5,nc5,hnv5,_⟩:=own_sh hp5.o.nown;obtain⟨ga5,gc5,hgv5,_⟩:=own_sh hp5.o.gown;subst hnv5 hgv5;have HP5:=mH hp5;have HB5:=mH (HB4.out.trans b5);clear hp5 b5 e0 e1 e2 e3 e4 e5 e6 e7))
   obtain⟨W6,hW6⟩:∃ W6,W6=w5.alloc (.cells #[.int .i64 R1,.int .i64 R2] 94):=⟨_,rfl⟩
   have b6:Below w5.heap.size w5 W6:=by rw [hW6];exact ba (Below.refl _ _) _
   have hbx:W6.heap[w5.heap.size]?=some (.cells #[.int .i64 R1,.int .i64 R2] 94 (0,0)):=by rw [hW6];exact heap_alloc_new w5 _
   have HP6:=mH (HP5.out.below b6)
   have HB6:Hid (Below W1.heap.size W1 W6):=mH (HB5.out.trans (b6.mono HB5.out.size))
   have hne6:¬ w5.heap.size=B2/\¬ w5.heap.size=B3:=by
    have h1:=HB5.out.size
    have h2:=HBB.out
    have h3:=HB.out.2.2
    omega
   rw [<- hW6]
   clear hW6 b6
   generalize w5.heap.size=Bq at *
   obtain⟨c0,c1,c2,c3⟩:=HP6.out.cells
   obtain⟨x0,x1⟩:=two hbx
   refine wp_region_held_drew (S:=fun w'=>w'.cell? ⟨p,0,none⟩=some (.slice na5 ps5.length nc5)/\w'.cell? ⟨p,1,none⟩=some (.slice ga5 T.gs.length gc5)/\w'.cell? ⟨p,2,none⟩=some (.int .i64 T.last)/\w'.cell? ⟨p,3,none⟩=some (.int .i64 T.now)/\w'.cell? ⟨Bq,0,none⟩=some (.int .i64 R1)/\w'.cell? ⟨Bq,1,none⟩=some (.int .i64 R2)) (by kernel_rfl) ⟨c0,c1,c2,c3,x0,x1⟩ (fun hHeld=>?_)
   refine tkE 0 39 (vTr (.slice na5 ps5.length nc5) (.slice ga5 T.gs.length gc5) T) rfl rfl hHeld ?_
   simp only [sZ,sS]
   refine tkE 1 40 (vRs (R1,R2)) rfl rfl hHeld ?_
   simp only [sZ,sS]
   have hf2:=bLt (w':=W6.drew) HF1.out.2.1 HB6.out.drew
   have hf3:=bLt (w':=W6.drew) HF1.out.2.2 HB6.out.drew
   obtain⟨g0,g1,g2,g3⟩:=four hf2
   have u0:W6.drew.frozen? ⟨B2,0,none⟩=false:=fOb hf2
   have u1:W6.drew.frozen? ⟨B2,1,none⟩=false:=fOb hf2
   have u2:W6.drew.frozen? ⟨B2,2,none⟩=false:=fOb hf2
   have u3:W6.drew.frozen? ⟨B2,3,none⟩=false:=fOb hf2
   have hbp:¬ p=B2/\¬ p=B3/\¬ B2=B3:=by
    have h1:=HP6.out.bp
    have h2:=HBB.out
    have h3:=HB.out.2.2
    omega
   have y0:W6.drew.cell? ⟨p,0,none⟩=_:=c0
   have y1:W6.drew.cell? ⟨p,1,none⟩=_:=c1
   have y2:W6.drew.cell? ⟨p,2,none⟩=_:=c2
   have y3:W6.drew.cell? ⟨p,3,none⟩=_:=c3
   have z0:W6.drew.cell? ⟨Bq,0,none⟩=_:=x0
   have z1:W6.drew.cell? ⟨Bq,1,none⟩=_:=x1
   have HP7:=mH (HP6.out.below (Below.refl _ W6).drew)
   have HB7:=mH HB6.out.drew
   clear c0 c1 c2 c3 x0 x1 hHeld
   have hHeld:=And.intro y0 (And.intro y1 (And.intro y2 (And.intro y3 (And.intro z0 z1))))
   generalize W6.drew=W7 at *
   have k4:=set4_kept (F:=fun k=>k=B2) (Kept.refl _ W7) (g:=B2) (.inl rfl) (.slice na5 ps5.length nc5) (.slice ga5 T.gs.length gc5) (.int .i64 T.last) (.int .i64 T.now)
   have hf3':=(k4.block _ (lOh hf3) (by omega)).trans hf3
   obtain⟨r0,r1⟩:=two hf3'
   have v0:=eight_f hf3' 0
   have v1:=eight_f hf3' 1
   clear hf2 hf3 hf3'
   refine wpAnyH_ready (rs:=[2]) (by kernel_rfl) (by simp) (AllReadyH.cons rfl (fun K hK=>?_) AllReadyH.nil)
   go_simp
   refine hK.out _ _ ⟨k4.cell y0 hbp.1,k4.cell y1 hbp.1,k4.cell y2 hbp.1,k4.cell y3 hbp.1,k4.cell z0 hne6.1,k4.cell z1 hne6.1⟩ (fun hHeld=>?_)
   clear hK K g0 g1 g2 g3 u0 u1 u2 u3
   (try simp only [Act.put])
   refine wpAnyH_ready (rs:=[3]) (by kernel_rfl) (by simp) (AllReadyH.cons rfl (fun K hK=>?_) AllReadyH.nil)
   go_simp
   have k6:Kept (fun k=>k=B3) (set4 W7 B2 (.slice na5 ps5.length nc5) (.slice ga5 T.gs.length gc5) (.int .i64 T.last) (.int .i64 T.now)) (((set4 W7 B2 (.slice na5 ps5.length nc5) (.slice ga5 T.gs.length gc5) (.int .i64 T.last) (.int .i64 T.now)).setCell ⟨B3,0,none⟩ (.int .i64 R1)).setCell ⟨B3,1,none⟩ (.int .i64 R2)):=kset (F:=fun k=>k=B3) (kset (F:=fun k=>k=B3) (Kept.refl _ _) (.inl rfl) 0 _) (.inl rfl) 1 _
   refine hK.out _ _ ⟨k6.cell (k4.cell y0 hbp.1) hbp.2.1,k6.cell (k4.cell y1 hbp.1) hbp.2.1,k6.cell (k4.cell y2 hbp.1) hbp.2.1,k6.cell (k4.cell y3 hbp.1) hbp.2.1,k6.cell (k4.cell z0 hne6.1) hne6.2,k6.cell (k4.cell z1 hne6.1) hne6.2⟩ (fun hHeld=>?_)
   clear hK K hHeld k4 k6 r0 r1 v0 v1 y0 y1 y2 y3 z0 z1 hbp hne6 hbx
   refine wpAnyH_done (by kernel_rfl) ?_ _
   obtain⟨_,X,hX,hx2,hx3,ho,he,hb⟩:=HEND.out W7 _ _ _ T (R1,R2) HP7.out HB7.out HT9.out
   unfold set4 at hX
   simp only at hX
   rw [<- hX]
   have HX:=mH (And.intro hx2 (And.intro hx3 (And.intro ho (And.intro he hb))))
   clear hX hx2 hx3 ho he hb
   go_wp2
   rw [HT9.out]
   exact bodyPost_ret (leavesCC rfl HX.out.1 Tryz.underlying30 size_tree HX.out.2.1 Tryz.underlying94 size_result _ rfl rfl) rfl ⟨_,_,_,rfl,HX.out.2.2.1,HX.out.2.2.2.1,HX.out.2.2.2.2⟩
  ·have hdv:DV=fn 96:=by rw [hDV];rfl
   have hdb:DB=true:=by rw [hDB];rfl
   subst hdv hdb
   obtain⟨⟨T,R1,R2⟩,hD⟩:∃ D,D=(t.pass tm).resize A ⟨2,id,(sk,sq,sT),po,ts,tm⟩:=⟨_,rfl⟩
   have HT9:Hid (TC=(T,R1,R2)):=mH (by have:=HAP.out;rw [hD];simpa using this)
   have HDD:Hid (∀ (w4:World) (gv4:Value),TrP W1.heap.size w4 p (.slice na2 qs.length nc2) gv4 qs (t.pass tm)->Below W1.heap.size W1 w4->Calls Tryz.prog 96 #[.pointer (some ⟨p,0,none⟩),vOd ⟨2,id,(sk,sq,sT),po,ts,tm⟩ (.slice oa ts.length oc)] w4 fun e w'=>∃ nv' gv' ps',e=.returned (vRs (R1,R2))/\TrP W1.heap.size w' p nv' gv' ps' T/\Below W1.heap.size w4 w'):=mH (fun w4 gv4 h4 b4=>by
    have:=resize_is A W1.heap.size W1 w4 p (t.pass tm) _ gv4 qs ⟨2,id,(sk,sq,sT),po,ts,tm⟩ oa oc a b4 rfl h4 (pass_sm HLT.out.1 tm) (by have:=HLT.out.2.2.1;show 0<=max t.now tm;omega) (by have:=HLT.out.2.2.2.1;have:=HTM.out;show max t.now tm<=_;omega) HLT.out.2.2.2.2.1 (HLT.out.2.1.late HB.out.2.1) (HLT.out.2.2.2.2.2.1.below HB.out.2.1) HLT.out.2.2.2.2.2.2.1 HLT.out.2.2.2.2.2.2.2
    rw [<- hD] at this
    exact this)
   clear hDV hDB HAP hD
   simp only [vOd] at HDD
   go_wp2_with (first
    |(go_at_call 72;refine(pass_is W1.heap.size w3 p t _ _ qs tm HP3.out HLT.out.1.wide).mono ?_;rintro e w4 ⟨⟨v4,rfl⟩,⟨gv4,hp4⟩,b4⟩;have HP4:=mH hp4;have HB4:=mH (HB3.out.trans b4);have hf4:=bLt HF1.out.1 HB4.out;clear e0 e1 e2 e3 e4 e5 e6 e7;obtain⟨e0,e1,e2,e3,e4,e5,e6,e7⟩:=eight hf4;clear hp4 b4 hf4)
    |(go_at_call 96;refine(HDD.out w4 gv4 HP4.out HB4.out).mono ?_;rintro e w5 ⟨nv5,gv5,ps5,rfl,hp5,b5⟩;obtain⟨na5,nc5,hnv5,_⟩:=own_sh hp5.o.nown;obtain⟨ga5,gc5,hgv5,_⟩:=own_sh hp5.o.gown;subst hnv5 hgv5;have HP5:=mH hp5;have HB5:=mH (HB4.out.trans b5);clear hp5 b5 e0 e1 e2 e3 e4 e5 e6 e7))
   obtain⟨W6,hW6⟩:∃ W6,W6=w5.alloc (.cells #[.int .i64 R1,.int .i64 R2] 94):=⟨_,rfl⟩
   have b6:Below w5.heap.size w5 W6:=by rw [hW6];exact ba (Below.refl _ _) _
   have hbx:W6.heap[w5.heap.size]?=some (.cells #[.int .i64 R1,.int .i64 R2] 94 (0,0)):=by rw [hW6];exact heap_alloc_new w5 _
   have HP6:=mH (HP5.out.below b6)
   have HB6:Hid (Below W1.heap.size W1 W6):=mH (HB5.out.trans (b6.mono HB5.out.size))
   have hne6:¬ w5.heap.size=B2/\¬ w5.heap.size=B3:=by
    have h1:=HB5.out.size
    have h2:=HBB.out
    have h3:=HB.out.2.2
    omega
   rw [<- hW6]
   clear hW6 b6
   generalize w5.heap.size=Bq at *
   obtain⟨c0,c1,c2,c3⟩:=HP6.out.cells
   obtain⟨x0,x1⟩:=two hbx
   refine wp_region_held_drew (S:=fun w'=>w'.cell? ⟨p,0,none⟩=some (.slice na5 ps5.length nc5)/\w'.cell? ⟨p,1,none⟩=some (.slice ga5 T.gs.length gc5)/\w'.cell? ⟨p,2,none⟩=some (.int .i64 T.last)/\w'.cell? ⟨p,3,none⟩=some (.int .i64 T.now)/\w'.cell? ⟨Bq,0,none⟩=some (.int .i64 R1)/\w'.cell? ⟨Bq,1,none⟩=some (.int .i64 R2)) (by kernel_rfl) ⟨c0,c1,c2,c3,x0,x1⟩ (fun hHeld=>?_)
   refine tkE 0 39 (vTr (.slice na5 ps5.length nc5) (.slice ga5 T.gs.length gc5) T) rfl rfl hHeld ?_
   simp only [sZ,sS]
   refine tkE 1 40 (vRs (R1,R2)) rfl rfl hHeld ?_
   simp only [sZ,sS]
   have hf2:=bLt (w':=W6.drew) HF1.out.2.1 HB6.out.drew
   have hf3:=bLt (w':=W6.drew) HF1.out.2.2 HB6.out.drew
   obtain⟨g0,g1,g2,g3⟩:=four hf2
   have u0:W6.drew.frozen? ⟨B2,0,none⟩=false:=fOb hf2
   have u1:W6.drew.frozen? ⟨B2,1,none⟩=false:=fOb hf2
   have u2:W6.drew.frozen? ⟨B2,2,none⟩=false:=fOb hf2
   have u3:W6.drew.frozen? ⟨B2,3,none⟩=false:=fOb hf2
   have hbp:¬ p=B2/\¬ p=B3/\¬ B2=B3:=by
    have h1:=HP6.out.bp
    have h2:=HBB.out
    have h3:=HB.out.2.2
    omega
   have y0:W6.drew.cell? ⟨p,0,none⟩=_:=c0
   have y1:W6.drew.cell? ⟨p,1,none⟩=_:=c1
   have y2:W6.drew.cell? ⟨p,2,none⟩=_:=c2
   have y3:W6.drew.cell? ⟨p,3,none⟩=_:=c3
   have z0:W6.drew.cell? ⟨Bq,0,none⟩=_:=x0
   have z1:W6.drew.cell? ⟨Bq,1,none⟩=_:=x1
   have HP7:=mH (HP6.out.below (Below.refl _ W6).drew)
   have HB7:=mH HB6.out.drew
   clear c0 c1 c2 c3 x0 x1 hHeld
   have hHeld:=And.intro y0 (And.intro y1 (And.intro y2 (And.intro y3 (And.intro z0 z1))))
   generalize W6.drew=W7 at *
   have k4:=set4_kept (F:=fun k=>k=B2) (Kept.refl _ W7) (g:=B2) (.inl rfl) (.slice na5 ps5.length nc5) (.slice ga5 T.gs.length gc5) (.int .i64 T.last) (.int .i64 T.now)
   have hf3':=(k4.block _ (lOh hf3) (by omega)).trans hf3
   obtain⟨r0,r1⟩:=two hf3'
   have v0:=eight_f hf3' 0
   have v1:=eight_f hf3' 1
   clear hf2 hf3 hf3'
   refine wpAnyH_ready (rs:=[2]) (by kernel_rfl) (by simp) (AllReadyH.cons rfl (fun K hK=>?_) AllReadyH.nil)
   go_simp
   refine hK.out _ _ ⟨k4.cell y0 hbp.1,k4.cell y1 hbp.1,k4.cell y2 hbp.1,k4.cell y3 hbp.1,k4.cell z0 hne6.1,k4.cell z1 hne6.1⟩ (fun hHeld=>?_)
   clear hK K g0 g1 g2 g3 u0 u1 u2 u3
   (try simp only [Act.put])
   refine wpAnyH_ready (rs:=[3]) (by kernel_rfl) (by simp) (AllReadyH.cons rfl (fun K hK=>?_) AllReadyH.nil)
   go_simp
   have k6:Kept (fun k=>k=B3) (set4 W7 B2 (.slice na5 ps5.length nc5) (.slice ga5 T.gs.length gc5) (.int .i64 T.last) (.int .i64 T.now)) (((set4 W7 B2 (.slice na5 ps5.length nc5) (.slice ga5 T.gs.length gc5) (.int .i64 T.last) (.int .i64 T.now)).setCell ⟨B3,0,none⟩ (.int .i64 R1)).setCell ⟨B3,1,none⟩ (.int .i64 R2)):=kset (F:=fun k=>k=B3) (kset (F:=fun k=>k=B3) (Kept.refl _ _) (.inl rfl) 0 _) (.inl rfl) 1 _
   refine hK.out _ _ ⟨k6.cell (k4.cell y0 hbp.1) hbp.2.1,k6.cell (k4.cell y1 hbp.1) hbp.2.1,k6.cell (k4.cell y2 hbp.1) hbp.2.1,k6.cell (k4.cell y3 hbp.1) hbp.2.1,k6.cell (k4.cell z0 hne6.1) hne6.2,k6.cell (k4.cell z1 hne6.1) hne6.2⟩ (fun hHeld=>?_)
   clear hK K hHeld k4 k6 r0 r1 v0 v1 y0 y1 y2 y3 z0 z1 hbp hne6 hbx
   refine wpAnyH_done (by kernel_rfl) ?_ _
   obtain⟨_,X,hX,hx2,hx3,ho,he,hb⟩:=HEND.out W7 _ _ _ T (R1,R2) HP7.out HB7.out HT9.out
   unfold set4 at hX
   simp only at hX
   rw [<- hX]
   have HX:=mH (And.intro hx2 (And.intro hx3 (And.intro ho (And.intro he hb))))
   clear hX hx2 hx3 ho he hb
   go_wp2
   rw [HT9.out]
   exact bodyPost_ret (leavesCC rfl HX.out.1 Tryz.underlying30 size_tree HX.out.2.1 Tryz.underlying94 size_result _ rfl rfl) rfl ⟨_,_,_,rfl,HX.out.2.2.1,HX.out.2.2.2.1,HX.out.2.2.2.2⟩
  ·have hdv:DV=fn 97:=by rw [hDV];rfl
   have hdb:DB=true:=by rw [hDB];rfl
   subst hdv hdb
   obtain⟨⟨T,R1,R2⟩,hD⟩:∃ D,D=(t.pass tm).remove A ⟨3,id,(sk,sq,sT),po,ts,tm⟩:=⟨_,rfl⟩
   have HT9:Hid (TC=(T,R1,R2)):=mH (by have:=HAP.out;rw [hD];simpa using this)
   have HDD:Hid (∀ (w4:World) (gv4:Value),TrP W1.heap.size w4 p (.slice na2 qs.length nc2) gv4 qs (t.pass tm)->Below W1.heap.size W1 w4->Calls Tryz.prog 97 #[.pointer (some ⟨p,0,none⟩),vOd ⟨3,id,(sk,sq,sT),po,ts,tm⟩ (.slice oa ts.length oc)] w4 fun e w'=>∃ nv' gv' ps',e=.returned (vRs (R1,R2))/\TrP W1.heap.size w' p nv' gv' ps' T/\Below W1.heap.size w4 w'):=mH (fun w4 gv4 h4 b4=>by
    have:=remove_is A W1.heap.size W1 w4 p (t.pass tm) _ gv4 qs ⟨3,id,(sk,sq,sT),po,ts,tm⟩ oa oc a b4 rfl h4 (pass_sm HLT.out.1 tm) (by have:=HLT.out.2.2.1;show 0<=max t.now tm;omega) (by have:=HLT.out.2.2.2.1;have:=HTM.out;show max t.now tm<=_;omega) HLT.out.2.2.2.2.1 (HLT.out.2.1.late HB.out.2.1) (HLT.out.2.2.2.2.2.1.below HB.out.2.1) HLT.out.2.2.2.2.2.2.1 HLT.out.2.2.2.2.2.2.2
    rw [<- hD] at this
    exact this)
   clear hDV hDB HAP hD
   simp only [vOd] at HDD
   go_wp2_with (first
    |(go_at_call 72;refine(pass_is W1.heap.size w3 p t _ _ qs tm HP3.out HLT.out.1.wide).mono ?_;rintro e w4 ⟨⟨v4,rfl⟩,⟨gv4,hp4⟩,b4⟩;have HP4:=mH hp4;have HB4:=mH (HB3.out.trans b4);have hf4:=bLt HF1.out.1 HB4.out;clear e0 e1 e2 e3 e4 e5 e6 e7;obtain⟨e0,e1,e2,e3,e4,e5,e6,e7⟩:=eight hf4;clear hp4 b4 hf4)
    |(go_at_call 97;refine(HDD.out w4 gv4 HP4.out HB4.out).mono ?_;rintro e w5 ⟨nv5,gv5,ps5,rfl,hp5,b5⟩;obtain⟨na5,nc5,hnv5,_⟩:=own_sh hp5.o.nown;obtain⟨ga5,gc5,hgv5,_⟩:=own_sh hp5.o.gown;subst hnv5 hgv5;have HP5:=mH hp5;have HB5:=mH (HB4.out.trans b5);clear hp5 b5 e0 e1 e2 e3 e4 e5 e6 e7))
   obtain⟨W6,hW6⟩:∃ W6,W6=w5.alloc (.cells #[.int .i64 R1,.int .i64 R2] 94):=⟨_,rfl⟩
   have b6:Below w5.heap.size w5 W6:=by rw [hW6];exact ba (Below.refl _ _) _
   have hbx:W6.heap[w5.heap.size]?=some (.cells #[.int .i64 R1,.int .i64 R2] 94 (0,0)):=by rw [hW6];exact heap_alloc_new w5 _
   have HP6:=mH (HP5.out.below b6)
   have HB6:Hid (Below W1.heap.size W1 W6):=mH (HB5.out.trans (b6.mono HB5.out.size))
   have hne6:¬ w5.heap.size=B2/\¬ w5.heap.size=B3:=by
    have h1:=HB5.out.size
    have h2:=HBB.out
    have h3:=HB.out.2.2
    omega
   rw [<- hW6]
   clear hW6 b6
   generalize w5.heap.size=Bq at *
   obtain⟨c0,c1,c2,c3⟩:=HP6.out.cells
   obtain⟨x0,x1⟩:=two hbx
   refine wp_region_held_drew (S:=fun w'=>w'.cell? ⟨p,0,none⟩=some (.slice na5 ps5.length nc5)/\w'.cell? ⟨p,1,none⟩=some (.slice ga5 T.gs.length gc5)/\w'.cell? ⟨p,2,none⟩=some (.int .i64 T.last)/\w'.cell? ⟨p,3,none⟩=some (.int .i64 T.now)/\w'.cell? ⟨Bq,0,none⟩=some (.int .i64 R1)/\w'.cell? ⟨Bq,1,none⟩=some (.int .i64 R2)) (by kernel_rfl) ⟨c0,c1,c2,c3,x0,x1⟩ (fun hHeld=>?_)
   refine tkE 0 39 (vTr (.slice na5 ps5.length nc5) (.slice ga5 T.gs.length gc5) T) rfl rfl hHeld ?_
   simp only [sZ,sS]
   refine tkE 1 40 (vRs (R1,R2)) rfl rfl hHeld ?_
   simp only [sZ,sS]
   have hf2:=bLt (w':=W6.drew) HF1.out.2.1 HB6.out.drew
   have hf3:=bLt (w':=W6.drew) HF1.out.2.2 HB6.out.drew
   obtain⟨g0,g1,g2,g3⟩:=four hf2
   have u0:W6.drew.frozen? ⟨B2,0,none⟩=false:=fOb hf2
   have u1:W6.drew.frozen? ⟨B2,1,none⟩=false:=fOb hf2
   have u2:W6.drew.frozen? ⟨B2,2,none⟩=false:=fOb hf2
   have u3:W6.drew.frozen? ⟨B2,3,none⟩=false:=fOb hf2
   have hbp:¬ p=B2/\¬ p=B3/\¬ B2=B3:=by
    have h1:=HP6.out.bp
    have h2:=HBB.out
    have h3:=HB.out.2.2
    omega
   have y0:W6.drew.cell? ⟨p,0,none⟩=_:=c0
   have y1:W6.drew.cell? ⟨p,1,none⟩=_:=c1
   have y2:W6.drew.cell? ⟨p,2,none⟩=_:=c2
   have y3:W6.drew.cell? ⟨p,3,none⟩=_:=c3
   have z0:W6.drew.cell? ⟨Bq,0,none⟩=_:=x0
   have z1:W6.drew.cell? ⟨Bq,1,none⟩=_:=x1
   have HP7:=mH (HP6.out.below (Below.refl _ W6).drew)
   have HB7:=mH HB6.out.drew
   clear c0 c1 c2 c3 x0 x1 hHeld
   have hHeld:=And.intro y0 (And.intro y1 (And.intro y2 (And.intro y3 (And.intro z0 z1))))
   generalize W6.drew=W7 at *
   have k4:=set4_kept (F:=fun k=>k=B2) (Kept.refl _ W7) (g:=B2) (.inl rfl) (.slice na5 ps5.length nc5) (.slice ga5 T.gs.length gc5) (.int .i64 T.last) (.int .i64 T.now)
   have hf3':=(k4.block _ (lOh hf3) (by omega)).trans hf3
   obtain⟨r0,r1⟩:=two hf3'
   have v0:=eight_f hf3' 0
   have v1:=eight_f hf3' 1
   clear hf2 hf3 hf3'
   refine wpAnyH_ready (rs:=[2]) (by kernel_rfl) (by simp) (AllReadyH.cons rfl (fun K hK=>?_) AllReadyH.nil)
   go_simp
   refine hK.out _ _ ⟨k4.cell y0 hbp.1,k4.cell y1 hbp.1,k4.cell y2 hbp.1,k4.cell y3 hbp.1,k4.cell z0 hne6.1,k4.cell z1 hne6.1⟩ (fun hHeld=>?_)
   clear hK K g0 g1 g2 g3 u0 u1 u2 u3
   (try simp only [Act.put])
   refine wpAnyH_ready (rs:=[3]) (by kernel_rfl) (by simp) (AllReadyH.cons rfl (fun K hK=>?_) AllReadyH.nil)
   go_simp
   have k6:Kept (fun k=>k=B3) (set4 W7 B2 (.slice na5 ps5.length nc5) (.slice ga5 T.gs.length gc5) (.int .i64 T.last) (.int .i64 T.now)) (((set4 W7 B2 (.slice na5 ps5.length nc5) (.slice ga5 T.gs.length gc5) (.int .i64 T.last) (.int .i64 T.now)).setCell ⟨B3,0,none⟩ (.int .i64 R1)).setCell ⟨B3,1,none⟩ (.int .i64 R2)):=kset (F:=fun k=>k=B3) (kset (F:=fun k=>k=B3) (Kept.refl _ _) (.inl rfl) 0 _) (.inl rfl) 1 _
   refine hK.out _ _ ⟨k6.cell (k4.cell y0 hbp.1) hbp.2.1,k6.cell (k4.cell y1 hbp.1) hbp.2.1,k6.cell (k4.cell y2 hbp.1) hbp.2.1,k6.cell (k4.cell y3 hbp.1) hbp.2.1,k6.cell (k4.cell z0 hne6.1) hne6.2,k6.cell (k4.cell z1 hne6.1) hne6.2⟩ (fun hHeld=>?_)
   clear hK K hHeld k4 k6 r0 r1 v0 v1 y0 y1 y2 y3 z0 z1 hbp hne6 hbx
   refine wpAnyH_done (by kernel_rfl) ?_ _
   obtain⟨_,X,hX,hx2,hx3,ho,he,hb⟩:=HEND.out W7 _ _ _ T (R1,R2) HP7.out HB7.out HT9.out
   unfold set4 at hX
   simp only at hX
   rw [<- hX]
   have HX:=mH (And.intro hx2 (And.intro hx3 (And.intro ho (And.intro he hb))))
   clear hX hx2 hx3 ho he hb
   go_wp2
   rw [HT9.out]
   exact bodyPost_ret (leavesCC rfl HX.out.1 Tryz.underlying30 size_tree HX.out.2.1 Tryz.underlying94 size_result _ rfl rfl) rfl ⟨_,_,_,rfl,HX.out.2.2.1,HX.out.2.2.2.1,HX.out.2.2.2.2⟩
  ·have hdv:DV=fn 98:=by rw [hDV];rfl
   have hdb:DB=true:=by rw [hDB];rfl
   subst hdv hdb
   obtain⟨⟨T,R1,R2⟩,hD⟩:∃ D,D=(t.pass tm).bind A ⟨4,id,(sk,sq,sT),po,ts,tm⟩:=⟨_,rfl⟩
   have HT9:Hid (TC=(T,R1,R2)):=mH (by have:=HAP.out;rw [hD];simpa using this)
   have HDD:Hid (∀ (w4:World) (gv4:Value),TrP W1.heap.size w4 p (.slice na2 qs.length nc2) gv4 qs (t.pass tm)->Below W1.heap.size W1 w4->Calls Tryz.prog 98 #[.pointer (some ⟨p,0,none⟩),vOd ⟨4,id,(sk,sq,sT),po,ts,tm⟩ (.slice oa ts.length oc)] w4 fun e w'=>∃ nv' gv' ps',e=.returned (vRs (R1,R2))/\TrP W1.heap.size w' p nv' gv' ps' T/\Below W1.heap.size w4 w'):=mH (fun w4 gv4 h4 b4=>by
    have:=bind_is A W1.heap.size W1 w4 p (t.pass tm) _ gv4 qs ⟨4,id,(sk,sq,sT),po,ts,tm⟩ oa oc a b4 rfl h4 (pass_sm HLT.out.1 tm) (by have:=HLT.out.2.2.1;show 0<=max t.now tm;omega) (by have:=HLT.out.2.2.2.1;have:=HTM.out;show max t.now tm<=_;omega) HLT.out.2.2.2.2.1 (HLT.out.2.1.late HB.out.2.1) (HLT.out.2.2.2.2.2.1.below HB.out.2.1) HLT.out.2.2.2.2.2.2.1 HLT.out.2.2.2.2.2.2.2
    rw [<- hD] at this
    exact this)
   clear hDV hDB HAP hD
   simp only [vOd] at HDD
   go_wp2_with (first
    |(go_at_call 72;refine(pass_is W1.heap.size w3 p t _ _ qs tm HP3.out HLT.out.1.wide).mono ?_;rintro e w4 ⟨⟨v4,rfl⟩,⟨gv4,hp4⟩,b4⟩;have HP4:=mH hp4;have HB4:=mH (HB3.out.trans b4);have hf4:=bLt HF1.out.1 HB4.out;clear e0 e1 e2 e3 e4 e5 e6 e7;obtain⟨e0,e1,e2,e3,e4,e5,e6,e7⟩:=eight hf4;clear hp4 b4 hf4)
    |(go_at_call 98;refine(HDD.out w4 gv4 HP4.out HB4.out).mono ?_;rintro e w5 ⟨nv5,gv5,ps5,rfl,hp5,b5⟩;obtain⟨na5,nc5,hnv5,_⟩:=own_sh hp5.o.nown;obtain⟨ga5,gc5,hgv5,_⟩:=own_sh hp5.o.gown;subst hnv5 hgv5;have HP5:=mH hp5;have HB5:=mH (HB4.out.trans b5);clear hp5 b5 e0 e1 e2 e3 e4 e5 e6 e7))
   obtain⟨W6,hW6⟩:∃ W6,W6=w5.alloc (.cells #[.int .i64 R1,.int .i64 R2] 94):=⟨_,rfl⟩
   have b6:Below w5.heap.size w5 W6:=by rw [hW6];exact ba (Below.refl _ _) _
   have hbx:W6.heap[w5.heap.size]?=some (.cells #[.int .i64 R1,.int .i64 R2] 94 (0,0)):=by rw [hW6];exact heap_alloc_new w5 _
   have HP6:=mH (HP5.out.below b6)
   have HB6:Hid (Below W1.heap.size W1 W6):=mH (HB5.out.trans (b6.mono HB5.out.size))
   have hne6:¬ w5.heap.size=B2/\¬ w5.heap.size=B3:=by
    have h1:=HB5.out.size
    have h2:=HBB.out
    have h3:=HB.out.2.2
    omega
   rw [<- hW6]
   clear hW6 b6
   generalize w5.heap.size=Bq at *
   obtain⟨c0,c1,c2,c3⟩:=HP6.out.cells
   obtain⟨x0,x1⟩:=two hbx
   refine wp_region_held_drew (S:=fun w'=>w'.cell? ⟨p,0,none⟩=some (.slice na5 ps5.length nc5)/\w'.cell? ⟨p,1,none⟩=some (.slice ga5 T.gs.length gc5)/\w'.cell? ⟨p,2,none⟩=some (.int .i64 T.last)/\w'.cell? ⟨p,3,none⟩=some (.int .i64 T.now)/\w'.cell? ⟨Bq,0,none⟩=some (.int .i64 R1)/\w'.cell? ⟨Bq,1,none⟩=some (.int .i64 R2)) (by kernel_rfl) ⟨c0,c1,c2,c3,x0,x1⟩ (fun hHeld=>?_)
   refine tkE 0 39 (vTr (.slice na5 ps5.length nc5) (.slice ga5 T.gs.length gc5) T) rfl rfl hHeld ?_
   simp only [sZ,sS]
   refine tkE 1 40 (vRs (R1,R2)) rfl rfl hHeld ?_
   simp only [sZ,sS]
   have hf2:=bLt (w':=W6.drew) HF1.out.2.1 HB6.out.drew
   have hf3:=bLt (w':=W6.drew) HF1.out.2.2 HB6.out.drew
   obtain⟨g0,g1,g2,g3⟩:=four hf2
   have u0:W6.drew.frozen? ⟨B2,0,none⟩=false:=fOb hf2
   have u1:W6.drew.frozen? ⟨B2,1,none⟩=false:=fOb hf2
   have u2:W6.drew.frozen? ⟨B2,2,none⟩=false:=fOb hf2
   have u3:W6.drew.frozen? ⟨B2,3,none⟩=false:=fOb hf2
   have hbp:¬ p=B2/\¬ p=B3/\¬ B2=B3:=by
    have h1:=HP6.out.bp
    have h2:=HBB.out
    have h3:=HB.out.2.2
    omega
   have y0:W6.drew.cell? ⟨p,0,none⟩=_:=c0
   have y1:W6.drew.cell? ⟨p,1,none⟩=_:=c1
   have y2:W6.drew.cell? ⟨p,2,none⟩=_:=c2
   have y3:W6.drew.cell? ⟨p,3,none⟩=_:=c3
   have z0:W6.drew.cell? ⟨Bq,0,none⟩=_:=x0
   have z1:W6.drew.cell? ⟨Bq,1,none⟩=_:=x1
   have HP7:=mH (HP6.out.below (Below.refl _ W6).drew)
   have HB7:=mH HB6.out.drew
   clear c0 c1 c2 c3 x0 x1 hHeld
   have hHeld:=And.intro y0 (And.intro y1 (And.intro y2 (And.intro y3 (And.intro z0 z1))))
   generalize W6.drew=W7 at *
   have k4:=set4_kept (F:=fun k=>k=B2) (Kept.refl _ W7) (g:=B2) (.inl rfl) (.slice na5 ps5.length nc5) (.slice ga5 T.gs.length gc5) (.int .i64 T.last) (.int .i64 T.now)
   have hf3':=(k4.block _ (lOh hf3) (by omega)).trans hf3
   obtain⟨r0,r1⟩:=two hf3'
   have v0:=eight_f hf3' 0
   have v1:=eight_f hf3' 1
   clear hf2 hf3 hf3'
   refine wpAnyH_ready (rs:=[2]) (by kernel_rfl) (by simp) (AllReadyH.cons rfl (fun K hK=>?_) AllReadyH.nil)
   go_simp
   refine hK.out _ _ ⟨k4.cell y0 hbp.1,k4.cell y1 hbp.1,k4.cell y2 hbp.1,k4.cell y3 hbp.1,k4.cell z0 hne6.1,k4.cell z1 hne6.1⟩ (fun hHeld=>?_)
   clear hK K g0 g1 g2 g3 u0 u1 u2 u3
   (try simp only [Act.put])
   refine wpAnyH_ready (rs:=[3]) (by kernel_rfl) (by simp) (AllReadyH.cons rfl (fun K hK=>?_) AllReadyH.nil)
   go_simp
   have k6:Kept (fun k=>k=B3) (set4 W7 B2 (.slice na5 ps5.length nc5) (.slice ga5 T.gs.length gc5) (.int .i64 T.last) (.int .i64 T.now)) (((set4 W7 B2 (.slice na5 ps5.length nc5) (.slice ga5 T.gs.length gc5) (.int .i64 T.last) (.int .i64 T.now)).setCell ⟨B3,0,none⟩ (.int .i64 R1)).setCell ⟨B3,1,none⟩ (.int .i64 R2)):=kset (F:=fun k=>k=B3) (kset (F:=fun k=>k=B3) (Kept.refl _ _) (.inl rfl) 0 _) (.inl rfl) 1 _
   refine hK.out _ _ ⟨k6.cell (k4.cell y0 hbp.1) hbp.2.1,k6.cell (k4.cell y1 hbp.1) hbp.2.1,k6.cell (k4.cell y2 hbp.1) hbp.2.1,k6.cell (k4.cell y3 hbp.1) hbp.2.1,k6.cell (k4.cell z0 hne6.1) hne6.2,k6.cell (k4.cell z1 hne6.1) hne6.2⟩ (fun hHeld=>?_)
   clear hK K hHeld k4 k6 r0 r1 v0 v1 y0 y1 y2 y3 z0 z1 hbp hne6 hbx
   refine wpAnyH_done (by kernel_rfl) ?_ _
   obtain⟨_,X,hX,hx2,hx3,ho,he,hb⟩:=HEND.out W7 _ _ _ T (R1,R2) HP7.out HB7.out HT9.out
   unfold set4 at hX
   simp only at hX
   rw [<- hX]
   have HX:=mH (And.intro hx2 (And.intro hx3 (And.intro ho (And.intro he hb))))
   clear hX hx2 hx3 ho he hb
   go_wp2
   rw [HT9.out]
   exact bodyPost_ret (leavesCC rfl HX.out.1 Tryz.underlying30 size_tree HX.out.2.1 Tryz.underlying94 size_result _ rfl rfl) rfl ⟨_,_,_,rfl,HX.out.2.2.1,HX.out.2.2.2.1,HX.out.2.2.2.2⟩
end Go.Proofs.YtpdehdomilnmeaaGreatDoor
