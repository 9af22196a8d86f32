import Derived.Test.YtihdkgekickohaaGreatDoorRd
import Derived.Deep.MidRow
import Derived.ChangeMaps5
import Derived.Maps.Keyed
import Derived.Deep.WholeRow
import Derived.Lib.SlBuf
import Derived.Laws.CopyRow
import Derived.Deep.RegionHeld3
import Derived.BigQuiet
import Derived.Test.YtihdkgekickohaaGreatDoorBaseA
namespace Go.Proofs.YtihdkgekickohaaGreatDoor
open Go.ChangeMaps Go.ChangeShapes Go.WideShapes Go.ChangeAt Go.RowKit
set_option maxRecDepth 100000
def zeros:List Int:=List.replicate 64 0
def scells (s:List Int):List Value:=s.map (Value.int .u8)
def sec (s:List Int):Value:=.agg (scells s).toArray
structure Sec (s:List Int):Prop where
 len:s.length = 64
 byts:Byts s
theorem zeros_sec:Sec zeros:=⟨rfl,fun b hb=>by have:=List.eq_of_mem_replicate hb;omega⟩
theorem Sec.slen {s:List Int} (h:Sec s):(scells s).length = 64:=by rw [scells,List.length_map];exact h.len
theorem scells_one (s:List Int):∀ v ∈ scells s,v.oneCell' = true:=by
 intro v hv
 obtain ⟨n,_,rfl⟩:=List.mem_map.mp hv
 rfl
def keyNum:Value → Option Int
 |.int .i64 x=>some x
 |_=>none
def look:List MapEntry → Int → Option Value
 |[],_=>none
 |e :: r,k=>if keyNum e.key = some k then some e.val else look r k
def IntKeys (l:List MapEntry):Prop:=∀ e ∈ l,∃ x,e.key = .int .i64 x
theorem find_look (k:Int):∀ (l:List MapEntry) (i:Nat),IntKeys l →
  (look l k = none ∧ Instr.findNow (.int .i64) (.int .i64 k) l i = some none ∧ ∀ val born k',look (l ++ [⟨.int .i64 k,val,born⟩]) k' = if k' = k then some val else look l k') ∨
  (∃ j v,look l k = some v ∧ Instr.findNow (.int .i64) (.int .i64 k) l i = some (some (i + j,v)) ∧ (∃ e,l[j]? = some e ∧ e.key = .int .i64 k) ∧ ∀ val k',look (l.modify j (fun e=>{ e with key:=.int .i64 k,val:=val })) k' = if k' = k then some val else look l k')
 |[],i,_=>by
  refine .inl ⟨rfl,rfl,fun val born k'=>?_⟩
  by_cases h:k' = k
  ·simp [look,keyNum,h]
  ·have:¬ k = k':=fun e=>h e.symm
   simp [look,keyNum,h,this]
 |e :: r,i,hi=>by
  obtain ⟨x,hx⟩:=hi e (by simp)
  by_cases h:x = k
  ·subst h
   refine .inr ⟨0,e.val,by simp [look,keyNum,hx],by simp [Instr.findNow,Instr.sameNow,hx],⟨e,rfl,hx⟩,fun val k'=>?_⟩
   by_cases h':k' = x
   ·simp [look,keyNum,h']
   ·have:¬ x = k':=fun e=>h' e.symm
    simp [look,keyNum,hx,this,h']
  ·have hne:¬ k = x:=fun e=>h e.symm
   have hbe:(k == x) = false:=by simpa using hne
   rcases find_look k r (i + 1) (fun e he=>hi e (by simp [he])) with ⟨h1,h2,h3⟩ | ⟨j,v,h1,h2,h4,h3⟩
   ·refine .inl ⟨by simp [look,keyNum,hx,h,h1],by simp [Instr.findNow,Instr.sameNow,hx,hbe,h2],fun val born k'=>?_⟩
    by_cases h':k' = x
    ·subst h';simp [look,keyNum,hx,h]
    ·have:¬ x = k':=fun e=>h' e.symm
     simp [look,keyNum,hx,this,h3]
   ·refine .inr ⟨j + 1,v,by simp [look,keyNum,hx,h,h1],by simp [Instr.findNow,Instr.sameNow,hx,hbe,h2];omega,by simpa using h4,fun val k'=>?_⟩
    by_cases h':k' = x
    ·subst h';simp [look,keyNum,hx,h]
    ·have:¬ x = k':=fun e=>h' e.symm
     simp [look,keyNum,hx,this,h3]
def Ms (w:World) (b:Nat) (f:Int → List Int):Prop:=
 (∀ k,Sec (f k)) ∧ ∃ es clock,w.heap[b]? = some (.map es clock) ∧ IntKeys es.toList ∧ ∀ k,(look es.toList k).getD (sec zeros) = sec (f k)
theorem Ms.kept {F:Nat → Prop} {w w':World} {b:Nat} {f:Int → List Int} (h:Ms w b f) (hk:Kept F w w') (hn:¬ F b):Ms w' b f:=by
 obtain ⟨hs,es,clock,hb,hr⟩:=h
 exact ⟨hs,es,clock,by rw [hk.block b (Array.getElem?_eq_some_iff.1 hb).1 hn];exact hb,hr⟩
theorem Ms.lt {w:World} {b:Nat} {f:Int → List Int} (h:Ms w b f):b < w.heap.size:=by
 obtain ⟨_,es,clock,hb,_⟩:=h
 exact (Array.getElem?_eq_some_iff.1 hb).1
theorem info65:(Tryz.prog.info? 111).map (fun i=>(i.zero,i.size,i.bytes)) = some (some (sec zeros),64,64):=by kernel_rfl
theorem zero65 (w:World):(zeroValue 111).run Tryz.prog w = .ok (sec zeros) w:=by
 obtain ⟨i,hi,h1,h2,h3⟩:=info_parts info65
 simp [zeroValue,typeInfo,hi,h1]
theorem Ms.get {w:World} {b:Nat} {f:Int → List Int} (h:Ms w b f) (k:Int):(Instr.lookup 70 (.map (some b)) (.int .i64 k) false).run Tryz.prog w = .ok (sec (f k)) w:=by
 obtain ⟨_,es,clock,hb,hi,hf⟩:=h
 have hk:=hf k
 have hc:∀ c,(Instr.checkKey c 10000 3 (.int .i64 k)).run Tryz.prog w = .ok () w:=by
  intro c
  exact MapKept.run_checkKey Tryz.underlying3 (by trivial) c 9999
 rcases find_look k es.toList 0 hi with ⟨h1,h2,_⟩ | ⟨j,v,h1,h2,_⟩
 ·rw [h1] at hk
  simp [Instr.lookup,run_underlying Tryz.underlying70,MapKept.run_getObj_map hb,hc,Instr.findKey,run_underlying Tryz.underlying3,h2]
  exact hk
 ·rw [h1] at hk
  simp [Instr.lookup,run_underlying Tryz.underlying70,MapKept.run_getObj_map hb,hc,Instr.findKey,run_underlying Tryz.underlying3,h2]
  exact hk
def updI (f:Int → List Int) (k:Int) (s:List Int):Int → List Int:=fun j=>if j = k then s else f j
theorem Ms.put {w:World} {b:Nat} {f:Int → List Int} (h:Ms w b f) (k:Int) (s:List Int) (hs:Sec s):∃ w',(Instr.mapUpdate 70 (.map (some b)) (.int .i64 k) (sec s)).run Tryz.prog w = .ok () w' ∧ Ms w' b (updI f k s) ∧ Kept (fun j=>j = b) w w':=by
 obtain ⟨hS,es,clock,hb,hi,hf⟩:=h
 have hc:(Instr.checkKey false 10000 3 (.int .i64 k)).run Tryz.prog w = .ok () w:=by
  exact MapKept.run_checkKey Tryz.underlying3 (by trivial) false 9999
 have hS':∀ j,Sec (updI f k s j):=fun j=>by unfold updI;split;exact hs;exact hS j
 have kept:∀ o,Kept (fun j=>j = b) w (setBlock w b o):=fun o=>⟨rfl,rfl,rfl,by simp [setBlock],fun i _ hi=>heap_setBlock_other hb _ hi⟩
 rcases find_look k es.toList 0 hi with ⟨h1,h2,h3⟩ | ⟨j,v,h1,h2,⟨e0,hj,hke⟩,h3⟩
 ·refine ⟨setBlock w b (.map (es.push ⟨.int .i64 k,sec s,clock⟩) (clock + 1)),?_,⟨hS',_,_,heap_setBlock_same hb _,?_,fun k'=>?_⟩,kept _⟩
  ·simp [Instr.mapUpdate,run_underlying Tryz.underlying70,MapKept.run_getObj_map hb,hc,Instr.findKey,run_underlying Tryz.underlying3,h2,MapKept.run_setObj_map _ hb,Result.andThen,setBlock]
  ·intro e he
   simp at he
   rcases he with he | rfl
   ·exact hi e (by simpa using he)
   ·exact ⟨k,rfl⟩
  ·rw [Array.toList_push,h3]
   unfold updI
   split
   ·rfl
   ·exact hf k'
 ·refine ⟨setBlock w b (.map (es.modify j (fun e=>{ e with key:=.int .i64 k,val:=sec s })) clock),?_,⟨hS',_,_,heap_setBlock_same hb _,?_,fun k'=>?_⟩,kept _⟩
  ·have hj':es[j]? = some e0:=by simpa using hj
   simp [Instr.mapUpdate,run_underlying Tryz.underlying70,MapKept.run_getObj_map hb,hc,Instr.findKey,run_underlying Tryz.underlying3,h2,hj',hke,Instr.keyThatStays,Instr.sameBits,MapKept.run_setObj_map _ hb,Result.andThen,setBlock]
  ·intro e he
   rw [Array.toList_modify] at he
   obtain ⟨n,hn,rfl⟩:=List.getElem_of_mem he
   rw [List.getElem_modify]
   split
   ·exact ⟨k,rfl⟩
   ·exact hi _ (List.getElem_mem _)
  ·rw [Array.toList_modify,h3]
   unfold updI
   split
   ·rfl
   ·exact hf k'
end Go.Proofs.YtihdkgekickohaaGreatDoor
namespace Go.Proofs.YtihdkgekickohaaGreatDoor
open Go.ChangeShapes Go.WideShapes Go.ChangeAt Go.RowKit
set_option maxRecDepth 100000
theorem wpList_alloc_z {P:Program} {w:World} {ops:Array Oper} {rest:List Oper} {o:Oper} {a:Act} {Q:Exit → Act → World → Prop} (hgd:o.guard = none) (t:TypeId) (ho:o.op = .alloc t) (z:Array Value) (hz:(zeroValue t).run P w = .ok (.agg z) w)
  (h:wpList P ops Q rest (a.put o.dst (.pointer (some ⟨w.heap.size,0,none⟩))) (w.alloc (.cells z t))):wpList P ops Q (o :: rest) a w:=by
 refine wpList_plain hgd fun K hK=>?_
 unfold Oper.wp execOp
 simp only [ho,Instr.alloc,Sem.run_bind,hz,Result.andThen_ok]
 simp [newVar,Value.cells]
 exact hK _ _ h
theorem wpList_store_new {P:Program} {w:World} {ops:Array Oper} {rest:List Oper} {o:Oper} {a:Act} {Q:Exit → Act → World → Prop} (hgd:o.guard = none) (t:TypeId) (x y:Operand) (ho:o.op = .store t x y) (c:Array Value) (cs:List Value)
  (hx:a.eval x = .pointer (some ⟨w.heap.size,0,none⟩)) (hy:a.eval y = .agg cs.toArray) (hi:(P.info? t).map (·.size) = some cs.length) (hc:c.size = cs.length) (h1:∀ v ∈ cs,v.oneCell' = true)
  (h:wpList P ops Q rest (a.put o.dst undef) (w.alloc (.cells cs.toArray t))):wpList P ops Q (o :: rest) a (w.alloc (.cells c t)):=by
 refine wpList_plain hgd fun K hK=>?_
 have hr:=run_storeAt_new (P:=P) w t c cs.toArray (by simpa using hi) (by simpa using hc) (all_oneCell_toArray h1)
 unfold Oper.wp
 simp [execOp,ho,hx,hy,hr,Result.andThen]
 exact hK _ _ h
theorem size65:(Tryz.prog.info? 111).map (·.size) = some 64:=by kernel_rfl
theorem sizeByte:(Tryz.prog.info? 5).map (·.size) = some 1:=by kernel_rfl
theorem kept_below (F:Nat → Prop) {w w':World} (hb:Below w.heap.size w w'):Kept F w w':=⟨hb.os,hb.tape,hb.output,hb.size,fun k hk _=>hb.block k hk⟩
def laid (s bs:List Int):List Int:=bs ++ s.drop bs.length
theorem laid_sec {s bs:List Int} (hs:Sec s) (hb:Byts bs) (hl:bs.length ≤ 64):Sec (laid s bs):=by
 refine ⟨?_,hb.append fun b hb'=>hs.byts b (List.mem_of_mem_drop hb')⟩
 unfold laid
 rw [List.length_append,List.length_drop,hs.len]
 omega
theorem rd_src {w:World} {sb so:Nat} {bs:List Int} (hcell:∀ k,k < bs.length → w.cell? ⟨sb,so + k,none⟩ = some (.int .u8 (bs.getD k 0))):∀ j v,(scells bs)[j]? = some v → w.cell? ((⟨sb,so,none⟩:Addr).add j) = some v:=by
 intro j v hj
 have hjl:j < bs.length:=by have:=(List.getElem?_eq_some_iff.mp hj).1;rwa [scells,List.length_map] at this
 rw [add_none,hcell j hjl,← hj]
 simp [scells,List.getD,hjl]
theorem copy_sec (w:World) (ty:TypeId) (s bs:List Int) (sb so sc:Nat) (hs:Sec s) (hl:bs.length ≤ 64) (hsb:sb < w.heap.size) (hcell:∀ k,k < bs.length → w.cell? ⟨sb,so + k,none⟩ = some (.int .u8 (bs.getD k 0))) :
  (Builtin.copy_ #[74,74] ty #[.slice (some ⟨w.heap.size,0,none⟩) 64 64,.slice (some ⟨sb,so,none⟩) bs.length sc]).run Tryz.prog (w.alloc (.cells (scells s).toArray 111)) = .ok (goInt bs.length) (w.alloc (.cells (scells (laid s bs)).toArray 111)):=by
 have hb:Below w.heap.size w (w.alloc (.cells (scells s).toArray 111)):=(Below.refl _ _).alloc (Nat.le_refl _) _
 have hcl:(scells bs).length = bs.length:=by rw [scells,List.length_map]
 have hr:=run_copy_row (P:=Tryz.prog) (w.alloc (.cells (scells s).toArray 111)) 74 74 ty 5 w.heap.size 0 64 64 ⟨sb,so,none⟩ bs.length sc (scells s).toArray 111 (scells bs) Tryz.underlying74 sizeByte (heap_alloc_new w _) (by rw [hcl];exact (Nat.min_eq_left hl).symm) (rd_src (fun k hk=>(hb.cell (p:=⟨sb,so + k,none⟩) hsb).trans (hcell k hk))) (by rw [hcl,List.size_toArray,hs.slen];omega) (scells_one _)
 rw [hr,World.setRow_alloc_new,hcl]
 simp [laid,scells]
set_option maxHeartbeats 3200000 in
theorem lay_any (w:World) (p mb:Nat) (f:Int → List Int) (i:Int) (v:Value) (bs:List Int) (hc:w.cell? ⟨p,1,none⟩ = some (.map (some mb))) (hM:Ms w mb f) (hv:Rd w v bs) (h1:1 ≤ bs.length) (hl:bs.length ≤ 64) :
  Calls Tryz.prog 44 #[.pointer (some ⟨p,0,none⟩),.int .i64 i,v] w fun e w'=>e = .returned (.tuple #[]) ∧ Ms w' mb (updI f i (laid (f i) bs)) ∧ Kept (fun j=>j = mb) w w':=by
 obtain ⟨sa,sc,rfl,hcap,_,hr⟩:=hv.2
 obtain ⟨sb,so,rfl,hsb,hcell⟩:=hr (by omega)
 have hget:=hM.get i
 have HS:=mkHid (hM.1 i)
 have hcp:=copy_sec w 3 (f i) bs sb so sc (hM.1 i) hl hsb hcell
 have HB:=mkHid hv.1
 have HM:=mkHid hM
 have hplt:=World.block_lt_of_cell? w _ hc
 clear hv hr hcell hM
 go_enter Tryz.func44,Tryz.ntmps44
 go_wp2_with (first | (refine wpList_alloc_z rfl 111 rfl (scells zeros).toArray (zero65 _) ?_) | (refine wpList_store_new rfl 111 (.tmp 6) (.tmp 12) rfl _ (scells (f i)) rfl rfl (by rw [HS.out.slen];exact size65) (by rw [HS.out.slen];rfl) (scells_one _) ?_))
 clear hget hcp
 have hL:=laid_sec HS.out HB.out hl
 obtain ⟨s',hs'⟩:∃ s',s' = laid (f i) bs:=⟨_,rfl⟩
 rw [← hs'] at hL ⊢
 have HS':=mkHid hs'
 clear hs'
 obtain ⟨W1,hW1⟩:∃ W1,W1 = w.alloc (.cells (scells s').toArray 111):=⟨_,rfl⟩
 have hb1:Below w.heap.size w W1:=by rw [hW1];exact (Below.refl _ w).alloc (Nat.le_refl _) _
 have hc':W1.cell? ⟨p,1,none⟩ = some (.map (some mb)):=(hb1.cell (p:=⟨p,1,none⟩) hplt).trans hc
 have hrg:W1.rangeAt w.heap.size 0 (scells s'):=fun j v hj=>by
  rw [hW1,Nat.zero_add,cell_of_row _ w.heap.size j _ _ _ (heap_alloc_new w _)]
  simpa using hj
 have HM1:Hid (Ms W1 mb f):=mkHid (HM.out.kept (kept_of_below hb1) (by have:=HM.out.lt;omega))
 rw [← hW1]
 clear hW1 hc
 have hu65:=Tryz.underlying111
 have hi65:(Tryz.prog.info? 111).map (·.size) = some (scells s').length:=by rw [hL.slen];exact size65
 obtain ⟨w2,hr2,hM2,hk2⟩:=(HM1.out.kept (Kept.drew (fun _=>False) W1) (fun h=>h)).put i s' hL
 unfold sec at hr2
 have HM2:=mkHid hM2
 have hpm:p ≠ mb:=fun e=>by
  obtain ⟨_,es,cl,hb,_⟩:=HM1.out
  rw [e] at hc'
  simp [World.cell?,hb] at hc'
 have hc2:w2.cell? ⟨p,1,none⟩ = some (.map (some mb)):=hk2.cell (show W1.drew.cell? ⟨p,1,none⟩ = some (.map (some mb)) from hc') hpm
 have hrg2:w2.rangeAt w.heap.size 0 (scells s'):=fun j v hj=>hk2.cell (show W1.drew.cell? ⟨w.heap.size,0 + j,none⟩ = some v from hrg j v hj) (by have:=HM.out.lt;simp;omega)
 have HK2:=mkHid hk2
 clear hM2 hk2 hL
 go_region_held (fun w'=>w'.cell? ⟨p,1,none⟩ = some (.map (some mb)) ∧ w'.rangeAt w.heap.size 0 (scells s')) (first | exact ⟨by assumption,by assumption⟩) (fail)
 go_end0
 rw [← HS'.out]
 exact ⟨rfl,HM2.out,(kept_below (fun j=>j = mb) hb1).trans ((Kept.drew (fun j=>j = mb) W1).trans HK2.out (fun _ h=>.inl h)) (fun _ h=>.inl h)⟩
def wcell (x:Int × List Int):List Value:=.int .i64 x.1 :: scells x.2
def wcells (c:List (Int × List Int)):List Value:=c.flatMap wcell
theorem wcell_one (x:Int × List Int):∀ v ∈ wcell x,v.oneCell' = true:=by
 intro v hv
 simp only [wcell,List.mem_cons] at hv
 rcases hv with rfl | hv
 ·rfl
 ·exact scells_one _ v hv
theorem wcell_len {x:Int × List Int} (h:Sec x.2):(wcell x).length = 65:=by simp [wcell,h.slen]
theorem wcells_append (a b:List (Int × List Int)):wcells (a ++ b) = wcells a ++ wcells b:=by simp [wcells]
theorem wcells_at (c:List (Int × List Int)) (h:∀ x ∈ c,Sec x.2) (k:Nat) (x:Int × List Int) (hx:c[k]? = some x) (j:Nat) (v:Value) (hj:(wcell x)[j]? = some v):(wcells c)[k * 65 + j]? = some v:=by
 induction c generalizing k with
 |nil=>simp at hx
 |cons y r ih=>
  have hy:=wcell_len (h y (by simp))
  cases k with
  |zero=>
   simp at hx
   subst hx
   have hjl:=(List.getElem?_eq_some_iff.mp hj).1
   simp only [wcells,List.flatMap_cons]
   rw [List.getElem?_append_left (by omega)]
   simpa using hj
  |succ k=>
   have:=ih (fun z hz=>h z (by simp [hz])) k (by simpa using hx)
   simp only [wcells,List.flatMap_cons] at this ⊢
   rw [List.getElem?_append_right (by omega),hy,show (k + 1) * 65 + j - 65 = k * 65 + j by omega]
   exact this
def Dk (F:Nat → Prop) (w:World) (p:Nat) (n:Int) (f:Int → List Int) (c:List (Int × List Int)) (nw:Int) (lost:Bool):Prop:=
 (∀ k,F k → k < w.heap.size) ∧ F p ∧ (∀ x ∈ c,Sec x.2) ∧ ∃ mb cv,F mb ∧ p ≠ mb ∧ w.heap[p]? = some (.cells #[.int .i64 n,.map (some mb),cv,.int .i64 nw,.bool lost] 73 (0,0)) ∧ Ms w mb f ∧ (∀ k,cv.ownBlock = some k → F k ∧ k ≠ p ∧ k ≠ mb) ∧ w.ownsRow 0 113 65 cv c.length (wcells c)
theorem own_keep65 {w:World} {w':World} {G:Nat → Prop} {base:Nat} {e:TypeId} {v:Value} {m:Nat} {xs:List Value} (h:w.ownsRow base e 65 v m xs) (hk:Kept G w w') (hn:∀ k,v.ownBlock = some k → ¬ G k):w'.ownsRow base e 65 v m xs:=by
 refine ⟨h.1,h.2.imp id ?_⟩
 rintro ⟨g,cap,cur,rfl,hb,hg,rest⟩
 exact ⟨g,cap,cur,rfl,hb,by rw [hk.block g (Array.getElem?_eq_some_iff.1 hg).1 (hn g rfl)];exact hg,rest⟩
theorem Dk.kept {F:Nat → Prop} {w:World} {w':World} {p:Nat} {n:Int} {f:Int → List Int} {c:List (Int × List Int)} {nw:Int} {lost:Bool} {G:Nat → Prop} (h:Dk F w p n f c nw lost) (hk:Kept G w w') (hn:∀ k,F k → ¬ G k):Dk F w' p n f c nw lost:=by
 obtain ⟨hF,hp,hc,mb,cv,hmb,hpm,hd,hM,hcv,ho⟩:=h
 exact ⟨fun k hf=>Nat.lt_of_lt_of_le (hF k hf) hk.size,hp,hc,mb,cv,hmb,hpm,by rw [hk.block p (hF p hp) (hn p hp)];exact hd,hM.kept hk (hn mb hmb),hcv,own_keep65 ho hk (fun k e=>hn k (hcv k e).1)⟩
theorem Dk.below {F:Nat → Prop} {w:World} {w':World} {p:Nat} {n:Int} {f:Int → List Int} {c:List (Int × List Int)} {nw:Int} {lost:Bool} (h:Dk F w p n f c nw lost) (hb:Below w.heap.size w w'):Dk F w' p n f c nw lost:=
 h.kept (kept_of_below hb) (fun k hf hge=>by have:=h.1 k hf;omega)
theorem Dk.cells {F:Nat → Prop} {w:World} {p:Nat} {n:Int} {f:Int → List Int} {c:List (Int × List Int)} {nw:Int} {lost:Bool} (h:Dk F w p n f c nw lost):w.cell? ⟨p,0,none⟩ = some (.int .i64 n) ∧ w.cell? ⟨p,3,none⟩ = some (.int .i64 nw) ∧ w.cell? ⟨p,4,none⟩ = some (.bool lost) ∧ (∃ a cap,w.cell? ⟨p,2,none⟩ = some (.slice a c.length cap)) ∧ ∀ k,w.frozen? ⟨p,k,none⟩ = false:=by
 obtain ⟨hF,hp,hc,mb,cv,hmb,hpm,hd,hM,hcv,ho⟩:=h
 refine ⟨cell_of_block hd rfl,cell_of_block hd rfl,cell_of_block hd rfl,?_,fun k=>frozen_of_block hd⟩
 rcases ho.2 with ⟨rfl,h0⟩ | ⟨g,cap,_,rfl,_⟩
 ·exact ⟨none,0,by rw [h0];exact cell_of_block hd rfl⟩
 ·exact ⟨_,_,cell_of_block hd rfl⟩
theorem refused_ok (F:Nat → Prop) (w:World) (p:Nat) (n:Int) (f:Int → List Int) (c:List (Int × List Int)) (nw i:Int) (h:Dk F w p n f c nw false) (h0:0 ≤ i) (hi:i < n) :
  Calls Tryz.prog 145 #[.pointer (some ⟨p,0,none⟩),.int .i64 i] w fun e w'=>e = .returned .nilIface ∧ w' = w:=by
 obtain ⟨c0,c3,c4,_,_⟩:=h.cells
 have a1:¬ i < 0:=by omega
 have a2:¬ n ≤ i:=by omega
 go_enter Tryz.func145,Tryz.ntmps145
 go_wp2
 go_ret
 exact ⟨rfl,rfl⟩
theorem lost_is (F:Nat → Prop) (w:World) (p:Nat) (n:Int) (f:Int → List Int) (c:List (Int × List Int)) (nw:Int) (lost:Bool) (h:Dk F w p n f c nw lost) :
  Calls Tryz.prog 79 #[.pointer (some ⟨p,0,none⟩)] w fun e w'=>e = .returned (.bool lost) ∧ w' = w:=by
 obtain ⟨c0,c3,c4,_,_⟩:=h.cells
 go_enter Tryz.func79,Tryz.ntmps79
 go_wp2
 go_ret
 exact ⟨rfl,rfl⟩
theorem sectors_is (F:Nat → Prop) (w:World) (p:Nat) (n:Int) (f:Int → List Int) (c:List (Int × List Int)) (nw:Int) (lost:Bool) (h:Dk F w p n f c nw lost) :
  Calls Tryz.prog 102 #[.pointer (some ⟨p,0,none⟩)] w fun e w'=>e = .returned (.int .i64 n) ∧ w' = w:=by
 obtain ⟨c0,c3,c4,_,_⟩:=h.cells
 go_enter Tryz.func102,Tryz.ntmps102
 go_wp2
 go_ret
 exact ⟨rfl,rfl⟩
set_option maxHeartbeats 3200000 in
theorem dnew_ok (w:World) (n:Int) (h1:1 ≤ n) (h2:n ≤ 1024) :
  Calls Tryz.prog 9 #[.int .i64 n] w fun e w'=>∃ p F,e = .returned (.tuple #[.pointer (some ⟨p,0,none⟩),.nilIface]) ∧ Dk F w' p n (fun _=>zeros) [] 0 false ∧ (∀ k,F k → w.heap.size ≤ k) ∧ Below w.heap.size w w':=by
 have hmm:=@run_makeMap Tryz.prog
 have a1:¬ n < 1:=by omega
 have a2:¬ 1024 < n:=by omega
 go_enter Tryz.func9,Tryz.ntmps9
 go_wp2
 go_ret2
 have hM:Ms ((w.alloc (Obj.map #[] 0)).alloc (Obj.cells #[Value.int IntKind.i64 n,Value.map (some w.heap.size),Value.slice none 0 0,Value.int IntKind.i64 0,Value.bool false] 73)) w.heap.size (fun _=>zeros):=
  ⟨fun _=>zeros_sec,#[],0,by rw [heap_alloc_old _ _ (by simp)];exact heap_alloc_new w _,fun e he=>by simp at he,fun _=>rfl⟩
 refine ⟨w.heap.size + 1,rfl,fun k=>w.heap.size ≤ k ∧ k ≤ w.heap.size + 1,⟨fun k hk=>by simp;omega,⟨by omega,Nat.le_refl _⟩,fun x hx=>by simp at hx,w.heap.size,.slice none 0 0,⟨Nat.le_refl _,by omega⟩,by omega,?_,hM,fun k hk=>by simp [Value.ownBlock] at hk,World.ownsRow_nil _ _ _ _⟩,fun k hk=>hk.1,((Below.refl _ w).alloc (Nat.le_refl _) _).alloc (by simp) _⟩
 have:=heap_alloc_new (w.alloc (Obj.map #[] 0)) (Obj.cells #[Value.int IntKind.i64 n,Value.map (some w.heap.size),Value.slice none 0 0,Value.int IntKind.i64 0,Value.bool false] 73)
 simpa using this
end Go.Proofs.YtihdkgekickohaaGreatDoor
