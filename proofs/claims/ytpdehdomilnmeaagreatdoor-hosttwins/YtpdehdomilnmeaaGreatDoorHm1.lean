import Derived.Test.YtpdehdomilnmeaaGreatDoorTrF
import Derived.ChangeMaps5
import Derived.Maps.Keyed
import Derived.Maps.RangeRun
namespace Go.Proofs.YtpdehdomilnmeaaGreatDoor
open Go.ChangeMaps Go.ChangeShapes Go.WideShapes Go.ChangeAt Go.RowKit
set_option maxRecDepth 100000
attribute [local go_sem] World.cell?_alloc_some fAs
abbrev pB (n:Nat):Value:=.pointer (some ⟨n,0,none⟩)
def pO:Option Nat->Value
 |some n=>pB n
 |none=>.pointer none
def keyNum:Value->Option Int
 |.int .i64 x=>some x
 |_=>none
def look:List MapEntry->Int->Option Value
 |[],_=>none
 |e :: r,k=>if keyNum e.key=some k then some e.val else look r k
def IntKeys (l:List MapEntry):Prop:=∀ e ∈ l,∃ x,e.key=.int .i64 x
theorem look_none {l:List MapEntry} {k:Int} (h:look l k=none):∀ e ∈ l,e.key ≠ .int .i64 k:=by
 induction l with
 |nil=>intro e he;simp at he
 |cons a r ih=>
  intro e he hk
  unfold look at h
  split at h
  ·simp at h
  ·rename_i h1
   rcases List.mem_cons.mp he with rfl | he
   ·exact h1 (by rw [hk];rfl)
   ·exact ih h e he hk
theorem find_look (k:Int):∀ (l:List MapEntry) (i:Nat),IntKeys l ->
  (look l k=none/\Instr.findNow (.int .i64) (.int .i64 k) l i=some none/\∀ val born k',look (l ++ [⟨.int .i64 k,val,born⟩]) k'=if k'=k then some val else look l k') ∨
  (∃ j v,look l k=some v/\Instr.findNow (.int .i64) (.int .i64 k) l i=some (some (i+j,v))/\(∃ e,l[j]?=some e/\e.key=.int .i64 k)/\(∀ val k',look (l.modify j (fun e=>{ e with key:=.int .i64 k,val:=val })) k'=if k'=k then some val else look l k') /\
   ((l.map (·.key)).Nodup->∀ k',look (l.eraseIdx j) k'=if k'=k then none else look l k'))
 |[],i,_=>by
  refine .inl ⟨rfl,rfl,fun val born k'=>?_⟩
  by_cases h:k'=k
  ·simp [look,keyNum,h]
  ·have:¬ k=k':=fun e=>h e.symm
   simp [look,keyNum,h,this]
 |e :: r,i,hi=>by
  obtain⟨x,hx⟩:=hi e (by simp)
  by_cases h:x=k
  ·subst h
   refine .inr ⟨0,e.val,by simp [look,keyNum,hx],by simp [Instr.findNow,Instr.sameNow,hx],⟨e,rfl,hx⟩,fun val k'=>?_,fun hn k'=>?_⟩
   ·by_cases h':k'=x
    ·simp [look,keyNum,h']
    ·have:¬ x=k':=fun e=>h' e.symm
     simp [look,keyNum,hx,this,h']
   ·simp only [List.eraseIdx_cons_zero]
    by_cases h':k'=x
    ·subst h'
     rw [if_pos rfl]
     simp only [List.map_cons,List.nodup_cons] at hn
     have h0:=hn.1
     clear hn
     induction r with
     |nil=>rfl
     |cons a r ih=>
      simp only [List.map_cons,List.mem_cons,not_or] at h0
      obtain⟨y,hy⟩:=hi a (by simp)
      have:¬ y=k':=fun e=>h0.1 (by rw [hx,hy,e])
      simp only [look,hy,keyNum,Option.some.injEq,this,if_false]
      exact ih (fun e' he'=>by rcases List.mem_cons.mp he' with h1 | h1;exact⟨k',h1 ▸ hx⟩;exact hi e' (by simp [h1])) h0.2
    ·have:¬ x=k':=fun e=>h' e.symm
     simp [look,keyNum,hx,this,h']
  ·have hne:¬ k=x:=fun e=>h e.symm
   have hbe:(k == x)=false:=by simpa using hne
   rcases find_look k r (i+1) (fun e he=>hi e (by simp [he])) with ⟨h1,h2,h3⟩ | ⟨j,v,h1,h2,h4,h3,h5⟩
   ·refine .inl ⟨by simp [look,keyNum,hx,h,h1],by simp [Instr.findNow,Instr.sameNow,hx,hbe,h2],fun val born k'=>?_⟩
    by_cases h':k'=x
    ·subst h';simp [look,keyNum,hx,h]
    ·have:¬ x=k':=fun e=>h' e.symm
     simp [look,keyNum,hx,this,h3]
   ·refine .inr ⟨j+1,v,by simp [look,keyNum,hx,h,h1],by simp [Instr.findNow,Instr.sameNow,hx,hbe,h2];omega,by simpa using h4,fun val k'=>?_,fun hn k'=>?_⟩
    ·by_cases h':k'=x
     ·subst h';simp [look,keyNum,hx,h]
     ·have:¬ x=k':=fun e=>h' e.symm
      simp [look,keyNum,hx,this,h3]
    ·have h6:=h5 (by simp only [List.map_cons,List.nodup_cons] at hn;exact hn.2) k'
     by_cases h':k'=x
     ·subst h';simp [look,keyNum,hx,h]
     ·have:¬ x=k':=fun e=>h' e.symm
      simp [look,keyNum,hx,this,h6]
def upn (m:Int->Option Nat) (k:Int) (i:Nat):Int->Option Nat:=fun k'=>if k'=k then some i else m k'
def Born (l:List MapEntry) (c:Nat):Prop:=(∀ e ∈ l,e.born < c)/\(l.map (·.born)).Nodup
def Mj (w:World) (b:Nat) (m:Int->Option Nat):Prop:=
 ∃ es clock,w.heap[b]?=some (.map es clock)/\IntKeys es.toList/\(es.toList.map (·.key)).Nodup/\Born es.toList clock/\∀ k,look es.toList k=(m k).map pB
theorem Mj.kept {F:Nat->Prop} {w w':World} {b:Nat} {m:Int->Option Nat} (h:Mj w b m) (hk:Kept F w w') (hn:¬ F b):Mj w' b m:=by
 obtain⟨es,clock,hb,hr⟩:=h
 exact⟨es,clock,by rw [hk.block b (Array.getElem?_eq_some_iff.1 hb).1 hn];exact hb,hr⟩
theorem Mj.lt {w:World} {b:Nat} {m:Int->Option Nat} (h:Mj w b m):b < w.heap.size:=by
 obtain⟨es,clock,hb,_⟩:=h
 exact(Array.getElem?_eq_some_iff.1 hb).1
theorem Mj.below {w w':World} {b:Nat} {m:Int->Option Nat} (h:Mj w b m) (hb:Below w.heap.size w w'):Mj w' b m:=h.kept (kept_of_below hb) (by have:=h.lt;omega)
theorem Mj.get {w:World} {b:Nat} {m:Int->Option Nat} (h:Mj w b m) (k:Int):(Instr.lookup 85 (.map (some b)) (.int .i64 k) true).run Tryz.prog w=.ok (.tuple #[pO (m k),.bool (m k).isSome]) w:=by
 obtain⟨es,clock,hb,hi,_,_,hf⟩:=h
 have hk:=hf k
 have hc:∀ c,(Instr.checkKey c 10000 3 (.int .i64 k)).run Tryz.prog w=.ok () w:=by
  intro c
  exact MapKept.run_checkKey Tryz.underlying3 (by trivial) c 9999
 rcases find_look k es.toList 0 hi with ⟨h1,h2,_⟩ | ⟨j,v,h1,h2,_⟩
 ·rw [h1] at hk
  have hm:m k=none:=by cases hm:m k <;> simp [hm] at hk ⊢
  simp [Instr.lookup,run_underlying Tryz.underlying85,MapKept.run_getObj_map hb,hc,Instr.findKey,run_underlying Tryz.underlying3,h2,hm,pO]
 ·rw [h1] at hk
  obtain⟨i,hm,hv⟩:∃ i,m k=some i/\v=pB i:=by
   cases hm:m k with
   |none=>rw [hm] at hk;simp at hk
   |some i=>rw [hm] at hk;exact⟨i,rfl,by simpa using hk⟩
  simp [Instr.lookup,run_underlying Tryz.underlying85,MapKept.run_getObj_map hb,hc,Instr.findKey,run_underlying Tryz.underlying3,h2,hm,hv,pO]
theorem Mj.get1 {w:World} {b:Nat} {m:Int->Option Nat} (h:Mj w b m) (k:Int):(Instr.lookup 85 (.map (some b)) (.int .i64 k) false).run Tryz.prog w=.ok (pO (m k)) w:=by
 obtain⟨es,clock,hb,hi,_,_,hf⟩:=h
 have hk:=hf k
 have hc:∀ c,(Instr.checkKey c 10000 3 (.int .i64 k)).run Tryz.prog w=.ok () w:=by
  intro c
  exact MapKept.run_checkKey Tryz.underlying3 (by trivial) c 9999
 rcases find_look k es.toList 0 hi with ⟨h1,h2,_⟩ | ⟨j,v,h1,h2,_⟩
 ·rw [h1] at hk
  have hm:m k=none:=by cases hm:m k <;> simp [hm] at hk ⊢
  simp [Instr.lookup,run_underlying Tryz.underlying85,MapKept.run_getObj_map hb,hc,Instr.findKey,run_underlying Tryz.underlying3,h2,hm,pO]
 ·rw [h1] at hk
  obtain⟨i,hm,hv⟩:∃ i,m k=some i/\v=pB i:=by
   cases hm:m k with
   |none=>rw [hm] at hk;simp at hk
   |some i=>rw [hm] at hk;exact⟨i,rfl,by simpa using hk⟩
  simp [Instr.lookup,run_underlying Tryz.underlying85,MapKept.run_getObj_map hb,hc,Instr.findKey,run_underlying Tryz.underlying3,h2,hm,hv,pO]
theorem Mj.put {w:World} {b:Nat} {m:Int->Option Nat} (h:Mj w b m) (k:Int) (i:Nat):∃ w',(Instr.mapUpdate 85 (.map (some b)) (.int .i64 k) (pB i)).run Tryz.prog w=.ok () w'/\Mj w' b (upn m k i)/\Kept (fun j=>j=b) w w':=by
 obtain⟨es,clock,hb,hi,hd,hbn,hf⟩:=h
 have hc:(Instr.checkKey false 10000 3 (.int .i64 k)).run Tryz.prog w=.ok () w:=by
  exact MapKept.run_checkKey Tryz.underlying3 (by trivial) false 9999
 have kept:∀ o,Kept (fun j=>j=b) w (setBlock w b o):=fun o=>⟨rfl,rfl,rfl,by simp [setBlock],fun i _ hi=>heap_setBlock_other hb _ hi⟩
 rcases find_look k es.toList 0 hi with ⟨h1,h2,h3⟩ | ⟨j,v,h1,h2,⟨e0,hj,hke⟩,h3,_⟩
 ·refine⟨setBlock w b (.map (es.push ⟨.int .i64 k,pB i,clock⟩) (clock+1)), ?_,⟨_,_,heap_setBlock_same hb _, ?_, ?_, ?_,fun k'=>?_⟩,kept _⟩
  ·simp [Instr.mapUpdate,run_underlying Tryz.underlying85,MapKept.run_getObj_map hb,hc,Instr.findKey,run_underlying Tryz.underlying3,h2,MapKept.run_setObj_map _ hb,Result.andThen,setBlock]
  ·intro e he
   simp at he
   rcases he with he | rfl
   ·exact hi e (by simpa using he)
   ·exact⟨k,rfl⟩
  ·rw [Array.toList_push,List.map_append,List.nodup_append]
   refine⟨hd,by simp, ?_⟩
   intro a ha b hb' e
   obtain⟨x,hx,rfl⟩:=List.mem_map.mp ha
   simp at hb'
   exact look_none h1 x hx (e.trans hb')
  ·refine⟨fun e he=>?_, ?_⟩
   ·simp at he
    rcases he with he | rfl
    ·have:=hbn.1 e (by simpa using he);omega
    ·exact Nat.lt_succ_self _
   ·rw [Array.toList_push,List.map_append,List.nodup_append]
    refine⟨hbn.2,by simp, ?_⟩
    intro a ha b hb' e
    obtain⟨x,hx,rfl⟩:=List.mem_map.mp ha
    simp at hb'
    have:=hbn.1 x hx
    omega
  ·rw [Array.toList_push,h3]
   unfold upn
   split
   ·rfl
   ·exact hf k'
 ·refine⟨setBlock w b (.map (es.modify j (fun e=>{ e with key:=.int .i64 k,val:=pB i })) clock), ?_,⟨_,_,heap_setBlock_same hb _, ?_, ?_, ?_,fun k'=>?_⟩,kept _⟩
  ·have hj':es[j]?=some e0:=by simpa using hj
   simp [Instr.mapUpdate,run_underlying Tryz.underlying85,MapKept.run_getObj_map hb,hc,Instr.findKey,run_underlying Tryz.underlying3,h2,hj',hke,Instr.keyThatStays,Instr.sameBits,MapKept.run_setObj_map _ hb,Result.andThen,setBlock]
  ·intro e he
   rw [Array.toList_modify] at he
   obtain⟨n,hn,rfl⟩:=List.getElem_of_mem he
   rw [List.getElem_modify]
   split
   ·exact⟨k,rfl⟩
   ·exact hi _ (List.getElem_mem _)
  ·have:(es.modify j (fun e=>{ e with key:=.int .i64 k,val:=pB i })).toList.map (·.key)=es.toList.map (·.key):=by
    rw [Array.toList_modify]
    refine List.ext_getElem (by simp) (fun n h1 h2=>?_)
    simp only [List.getElem_map,List.getElem_modify]
    split
    ·rename_i e
     subst e
     have hj2:=(List.getElem?_eq_some_iff.mp hj).2
     rw [hj2,hke]
    ·rfl
   rw [this]
   exact hd
  ·refine⟨fun e he=>?_, ?_⟩
   ·rw [Array.toList_modify] at he
    obtain⟨n,hn,rfl⟩:=List.getElem_of_mem he
    rw [List.getElem_modify]
    split
    ·have hn':n < es.toList.length:=by simpa using hn
     exact hbn.1 (es.toList[n]'hn') (List.getElem_mem _)
    ·exact hbn.1 _ (List.getElem_mem _)
   ·have:(es.modify j (fun e=>{ e with key:=.int .i64 k,val:=pB i })).toList.map (·.born)=es.toList.map (·.born):=by
     rw [Array.toList_modify]
     refine List.ext_getElem (by simp) (fun n h1 h2=>?_)
     simp only [List.getElem_map,List.getElem_modify]
     split <;> rfl
    rw [this]
    exact hbn.2
  ·rw [Array.toList_modify,h3]
   unfold upn
   split
   ·rfl
   ·exact hf k'
theorem look_mem {l:List MapEntry} (hi:IntKeys l) (hd:(l.map (·.key)).Nodup) {e:MapEntry} (he:e ∈ l) {k:Int} (hk:e.key=.int .i64 k):look l k=some e.val:=by
 induction l with
 |nil=>simp at he
 |cons a r ih=>
  simp only [List.map_cons,List.nodup_cons] at hd
  rcases List.mem_cons.mp he with rfl | he
  ·simp [look,hk,keyNum]
  ·obtain⟨x,hx⟩:=hi a (by simp)
   have hne:¬ x=k:=fun e2=>hd.1 (by rw [hx,e2,<- hk];exact List.mem_map.mpr ⟨e,he,rfl⟩)
   simp only [look,hx,keyNum,Option.some.injEq,hne,if_false]
   exact ih (fun e' he'=>hi e' (by simp [he'])) hd.2 he
theorem setB_same {w:World} {r:Nat} {o0:Obj} (hr:w.heap[r]?=some o0) (o:Obj):(setBlock w r o).heap[r]?=some o:=by
 have:=(Array.getElem?_eq_some_iff.1 hr).1
 simp [setBlock,this]
theorem setB_other (w:World) {r k:Nat} (hk:k ≠ r) (o:Obj):(setBlock w r o).heap[k]?=w.heap[k]?:=by
 simp only [setBlock]
 exact Array.getElem?_setIfInBounds_ne (fun e=>hk e.symm)
theorem below_setB {B:Nat} {w w':World} (h:Below B w w') {r:Nat} (hB:B<=r) (o:Obj):Below B w (setBlock w' r o):=
 ⟨h.os,h.tape,h.output,by simp [setBlock];exact h.size,fun k hk=>by rw [setB_other w' (by omega) o];exact h.block k hk⟩
theorem iter_of {w:World} {r:Nat} {a:Option Nat} {m n:Nat} {s:Array Nat} (h:w.heap[r]?=some (.mapIter a m s n)):w.iterSeen r=s:=by
 unfold World.iterSeen
 rw [h]
def del (m:Int->Option Nat) (k:Int):Int->Option Nat:=fun k'=>if k'=k then none else m k'
theorem Mj.drop {w:World} {b:Nat} {m:Int->Option Nat} (h:Mj w b m) (k:Int) (ty:TypeId):∃ w',(Builtin.delete_ #[85,3] ty #[.map (some b),.int .i64 k]).run Tryz.prog w=.ok (.tuple #[]) w'/\Mj w' b (del m k)/\Kept (fun j=>j=b) w w':=by
 obtain⟨es,clock,hb,hi,hd,hbn,hf⟩:=h
 have hc:∀ c,(Instr.checkKey c 10000 3 (.int .i64 k)).run Tryz.prog w=.ok () w:=by
  intro c
  exact MapKept.run_checkKey Tryz.underlying3 (by trivial) c 9999
 have kept:∀ o,Kept (fun j=>j=b) w (setBlock w b o):=fun o=>⟨rfl,rfl,rfl,by simp [setBlock],fun i _ hi=>heap_setBlock_other hb _ hi⟩
 rcases find_look k es.toList 0 hi with ⟨h1,h2,h3⟩ | ⟨j,v,h1,h2,⟨e0,hj,hke⟩,_,h3⟩
 ·refine⟨setBlock w b (.map es clock), ?_,⟨_,_,heap_setBlock_same hb _,hi,hd,hbn,fun k'=>?_⟩,kept _⟩
  ·simp [Builtin.delete_,run_underlying Tryz.underlying85,MapKept.run_getObj_map hb,hc,Instr.findKey,run_underlying Tryz.underlying3,h2,MapKept.run_setObj_map _ hb,Result.andThen,setBlock]
  ·unfold del
   split
   ·rename_i e;subst e;rw [h1];rfl
   ·exact hf k'
 ·refine⟨setBlock w b (.map (es.eraseIdxIfInBounds j) clock), ?_,⟨_,_,heap_setBlock_same hb _, ?_, ?_, ?_,fun k'=>?_⟩,kept _⟩
  ·simp [Builtin.delete_,run_underlying Tryz.underlying85,MapKept.run_getObj_map hb,hc,Instr.findKey,run_underlying Tryz.underlying3,h2,MapKept.run_setObj_map _ hb,Result.andThen,setBlock]
  ·intro e he
   rw [Array.toList_eraseIdxIfInBounds] at he
   exact hi e (List.mem_of_mem_eraseIdx he)
  ·rw [Array.toList_eraseIdxIfInBounds]
   exact((List.eraseIdx_sublist _ _).map _).nodup hd
  ·rw [Array.toList_eraseIdxIfInBounds]
   exact⟨fun e he=>hbn.1 e (List.mem_of_mem_eraseIdx he),((List.eraseIdx_sublist _ _).map _).nodup hbn.2⟩
  ·rw [Array.toList_eraseIdxIfInBounds,h3 hd]
   unfold del
   split
   ·rfl
   ·exact hf k'
end Go.Proofs.YtpdehdomilnmeaaGreatDoor
