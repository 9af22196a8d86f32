import Derived.Test.YtpdehdomilnmeaaGreatDoorOpenOd
import Derived.Test.YtpdehdomilnmeaaGreatDoorTrE
import Derived.Laws.MakeOwn
import Derived.Lib.AppendZerosOnto
namespace Go.Proofs.YtpdehdomilnmeaaGreatDoor
open Go.ChangeShapes Go.WideShapes Go.ChangeAt Go.RowKit
set_option maxRecDepth 100000
attribute [local go_sem] World.cell?_alloc_some fAs
theorem info_order:(Tryz.prog.info? 40).map (fun i=>(i.zero,i.size,i.bytes))=some (some (.agg #[.int .i64 0,.int .i64 0,.int .i64 0,.int .i64 0,.int .i64 0,.int .i64 0,.slice none 0 0,.int .i64 0]),8,80):=by kernel_rfl
theorem one8 (t:Op):∀ u ∈ c8 t,u.oneCell'=true:=by
 intro u hx
 simp only [c8,List.mem_cons,List.not_mem_nil,or_false] at hx
 rcases hx with rfl | rfl | rfl | rfl | rfl | rfl | rfl | rfl <;> rfl
theorem RowIn.kept {α:Type} {n:Nat} {f:α->List Value} {G:Nat->Prop} {w w':World} {v:Value} {xs:List α} (h:RowIn n f w v xs) (hk:Kept G w w') (hn:∀ k,v.ownBlock=some k->¬ G k):RowIn n f w' v xs:=by
 obtain⟨a,cap,rfl,hc,hl,hr⟩:=h
 refine⟨a,cap,rfl,hc,hl,fun hp=>?_⟩
 obtain⟨b,off,rfl,hx⟩:=hr hp
 exact⟨b,off,rfl,fun i x hi r u hr hu=>hk.cell (hx i x hi r u hr hu) (hn b rfl)⟩
theorem at_of_cell {w:World} {g i:Nat} {c:Array Value} {t:TypeId} {v:Value} (h:w.heap[g]?=some (.cells c t (0,0))) (hc:w.cell? ⟨g,i,none⟩=some v):c[i]?=some v:=by
 simpa [World.cell?,h] using hc
def RO (w:World) (v:Value) (l:List Op):Prop:=RowIn 8 c8 w v l/\((v=.slice none 0 0/\l=[]) ∨ ∃ g o cap cur,v=.slice (some ⟨g,o,none⟩) l.length cap/\w.heap[g]?=some (.cells cur 40 (0,0))/\o+cap * 8<=cur.size)
theorem RO.nil (w:World):RO w (.slice none 0 0) []:=⟨⟨none,0,rfl,by simp,by simp,fun h=>absurd h (by simp)⟩,.inl ⟨rfl,rfl⟩⟩
theorem RO.lt {w:World} {v:Value} {l:List Op} (h:RO w v l) {k:Nat} (hk:v.ownBlock=some k):k < w.heap.size:=by
 rcases h.2 with ⟨rfl,_⟩ | ⟨g,o,cap,cur,rfl,hg,_⟩
 ·cases hk
 ·cases hk;exact lOh hg
theorem RO.kept {G:Nat->Prop} {w w':World} {v:Value} {l:List Op} (h:RO w v l) (hk:Kept G w w') (hn:∀ k,v.ownBlock=some k->¬ G k):RO w' v l:=by
 refine⟨h.1.kept hk hn, ?_⟩
 rcases h.2 with h | ⟨g,o,cap,cur,rfl,hg,hs⟩
 ·exact .inl h
 ·exact .inr ⟨g,o,cap,cur,rfl,(hk.block g (lOh hg) (hn g rfl)).trans hg,hs⟩
theorem run_append_ro (w:World) (ty:TypeId) {v x:Value} {l:List Op} {j:Op} (h:RO w v l) (hs:Src Tryz.prog 8 33 x 1 (c8 j) w) (hl:l.length<=64) :
  ∃ v' w',(Builtin.append_ #[33,33] ty #[v,x]).run Tryz.prog w=.ok v' w'/\RO w' v' (l ++ [j])/\w.grownBy w' v.ownBlock/\(v'.ownBlock=v.ownBlock ∨ v'.ownBlock=some w.heap.size):=by
 obtain⟨ie,hi,hz,hsize,hby⟩:=info_parts info_order
 have hsrc:=RowIn.src (ty:=33) (e:=40) Tryz.underlying33 (by omega) c8_len one8 h.1
 have hfl:=fl_len c8 8 c8_len l
 have hs':Src Tryz.prog ie.size 33 x 1 (c8 j) w:=by rw [hsize];exact hs
 have hgrow:∀ a cap,v=.slice a l.length cap->cap < l.length+1->∃ v' w',(Builtin.append_ #[33,33] ty #[v,x]).run Tryz.prog w=.ok v' w'/\RO w' v' (l ++ [j])/\w.grownBy w' v.ownBlock/\(v'.ownBlock=v.ownBlock ∨ v'.ownBlock=some w.heap.size):=by
  rintro a cap rfl hc
  have hr:=run_append_grow_src (P:=Tryz.prog) w 33 33 ty 40 ie _ Tryz.underlying33 hi hz a l.length cap (l.flatMap c8) (by rw [hsize];exact hsrc.cellsD) x 1 (c8 j) hs' hc (by omega) (by rw [hby];exact growslice_fits (by omega) (by omega))
  have hge:=grownCap_ge w (l.length+1) cap 40
  have hcm:grownCap w (l.length+1) cap 40<=maxLen:=grownCap_le_maxLen w (l.length+1) cap 40 (by unfold maxLen;omega)
  have hsz:((l.flatMap c8 ++ c8 j).toArray ++ Builtin.zeroCells (Value.agg #[.int .i64 0,.int .i64 0,.int .i64 0,.int .i64 0,.int .i64 0,.int .i64 0,.slice none 0 0,.int .i64 0]).cells (grownCap w (l.length+1) cap 40 - (l.length+1))).size=grownCap w (l.length+1) cap 40 * 8:=by
   simp only [Array.size_append,List.size_toArray,size_zeroCells,List.length_append,hfl,c8_len]
   simp only [Value.cells,List.size_toArray,List.length_cons,List.length_nil]
   omega
  have hfm:l.flatMap c8 ++ c8 j=(l ++ [j]).flatMap c8:=by simp
  refine⟨_,_,hr,⟨RowIn.of_owns (base:=0) (e:=40) c8_len (by simp;omega) ⟨by simp [hfl,c8_len];omega,.inr ⟨w.heap.size,grownCap w (l.length+1) cap 40,_, ?_,Nat.zero_le _,heap_alloc_new w.drew _, ?_,hcm,hsz, ?_⟩⟩,.inr ⟨w.heap.size,0,grownCap w (l.length+1) cap 40,_, ?_,heap_alloc_new w.drew _,by rw [hsz];omega⟩⟩,⟨rfl,rfl,rfl,by simp,fun k hk _=>(Kept.alloc (fun _=>False) w.drew _).block k hk (fun f=>f)⟩,.inr rfl⟩
  ·simp
  ·simp;omega
  ·rw [hfm]
   simp only [Array.toList_append]
   have hlen:((l ++ [j]).flatMap c8).length=(l ++ [j]).length * 8:=fl_len c8 8 c8_len _
   rw [<- hlen]
   exact List.take_left
  ·simp
 rcases h.2 with ⟨rfl,rfl⟩ | ⟨g,o,cap,cur,rfl,hg,hcs⟩
 ·exact hgrow none 0 rfl (by simp)
 ·by_cases hroom:l.length+1<=cap
  ·have hst:=run_storeCells_at Tryz.prog g (o+l.length * 8) 40 (c8 j) 0 cur w hg (by rw [c8_len];omega) hs.one
   simp only [Nat.add_zero,c8_len] at hst
   have hr:(Builtin.append_ #[33,33] ty #[.slice (some ⟨g,o,none⟩) l.length cap,x]).run Tryz.prog w=.ok (.slice (some ⟨g,o,none⟩) (l.length+1) cap) (w.setRow g (cur.toList.take (o+l.length * 8) ++ c8 j ++ cur.toList.drop (o+l.length * 8+8)).toArray):=by
    have hf:=hs.cells
    have hl:=hs.len
    simp [Builtin.append_,run_underlying Tryz.underlying33,sizeOf,typeInfo,hi,hsize,hl,hroom,hf,add_none,hst]
   have hb:=setRow_heap w g cur (cur.toList.take (o+l.length * 8) ++ c8 j ++ cur.toList.drop (o+l.length * 8+8)).toArray 40 (0,0) hg
   refine⟨_,_,hr,⟨⟨some ⟨g,o,none⟩,cap,by simp,by simp;omega,by simp;omega,fun _=>⟨g,o,rfl,fun i y hy r u hr hu=>cOb hb ?_⟩⟩,.inr ⟨g,o,cap,_,by simp,hb, ?_⟩⟩,⟨rfl,rfl,rfl,by simp,fun k _ hk=>setRow_other w g k _ (fun e=>hk (by simp [Value.ownBlock,e]))⟩,.inl rfl⟩
   ·have hil:i < (l ++ [j]).length:=(List.getElem?_eq_some_iff.mp hy).1
    simp at hil
    by_cases hi2:i < l.length
    ·rw [List.getElem?_append_left hi2] at hy
     obtain⟨b',off',x',e,hx',hc'⟩:=RowIn.at h.1 (Below.refl _ _) i hi2
     simp at e
     obtain⟨rfl,rfl⟩:=e
     rw [hy] at hx'
     cases hx'
     have:=at_of_cell hg (hc' r u hr hu)
     rw [List.getElem?_toArray,List.append_assoc,List.getElem?_append_left (by simp only [List.length_take,Array.length_toList];omega),List.getElem?_take_of_lt (by omega),Array.getElem?_toList]
     exact this
    ·obtain rfl:i=l.length:=by omega
     rw [List.getElem?_append_right (Nat.le_refl _)] at hy
     simp at hy
     subst hy
     have ht:(cur.toList.take (o+l.length * 8)).length=o+l.length * 8:=by simp only [List.length_take,Array.length_toList];omega
     rw [List.getElem?_toArray,List.append_assoc,List.getElem?_append_right (by omega),ht,List.getElem?_append_left (by rw [c8_len];omega),show o+l.length * 8+r - (o+l.length * 8)=r by omega]
     exact hu
   ·simp only [List.size_toArray,List.length_append,List.length_take,List.length_drop,Array.length_toList,c8_len]
    omega
  ·exact hgrow _ _ rfl (by omega)
theorem RO.drop {w:World} {v:Value} {l:List Op} (h:RO w v l) (n:Nat) (hn:n<=l.length):∃ a m cap v',v=.slice a m cap/\m=l.length/\(∀ W,(Instr.slice 33 (.slice a m cap) (some (.int .i64 n)) none none).run Tryz.prog W=.ok v' W)/\RO w v' (l.drop n)/\v'.ownBlock=v.ownBlock:=by
 obtain⟨ie,hi,hz,hsize,hby⟩:=info_parts info_order
 have hel:Tryz.prog.elem 33=40:=by kernel_rfl
 rcases h.2 with ⟨rfl,rfl⟩ | ⟨g,o,cap,cur,rfl,hg,hcs⟩
 ·have:n=0:=by simpa using hn
  subst this
  refine⟨none,0,0,.slice none 0 0,rfl,rfl,fun W=>?_,by simpa using h,rfl⟩
  simp [Instr.slice,Instr.sliceBounds,run_underlying Tryz.underlying33,sizeOf,typeInfo,hi,Instr.sliceBound,asIntOf]
 ·obtain⟨a',cap',e,hc,hl,hr⟩:=h.1
  simp at e
  obtain⟨rfl,rfl⟩:=e
  refine⟨_,_,cap,.slice (some ⟨g,if cap=n then o else o+n * 8,none⟩) (l.length - n) (cap - n),rfl,rfl,fun W=>?_,⟨⟨some ⟨g,if cap=n then o else o+n * 8,none⟩,cap - n,by rw [List.length_drop],by rw [List.length_drop];omega,by rw [List.length_drop];omega,fun hp=>?_⟩,.inr ⟨g,if cap=n then o else o+n * 8,cap - n,cur,by rw [List.length_drop],hg, ?_⟩⟩,rfl⟩
  ·by_cases h1:cap=n
   ·subst h1
    have:l.length=cap:=by omega
    simp [Instr.slice,Instr.sliceBounds,run_underlying Tryz.underlying33,sizeOf,typeInfo,hi,hsize,Instr.sliceBound,asIntOf]
    omega
   ·simp [Instr.slice,Instr.sliceBounds,run_underlying Tryz.underlying33,sizeOf,typeInfo,hi,hsize,Instr.sliceBound,asIntOf,h1,add_none]
    omega
  ·have hp':n < l.length:=by simp at hp;omega
   obtain⟨b,off,e,hx⟩:=hr (by omega)
   simp at e
   obtain⟨rfl,rfl⟩:=e
   refine⟨g,_,rfl,fun i x hi r u hr hu=>?_⟩
   rw [List.getElem?_drop] at hi
   have:=hx (n+i) x hi r u hr hu
   rw [if_neg (by omega)]
   rw [show o+n * 8+i * 8+r=o+(n+i) * 8+r by rw [Nat.add_mul];omega]
   exact this
  ·split
   ·omega
   ·have:n * 8+(cap - n) * 8=cap * 8:=by rw [<- Nat.add_mul];congr 1;omega
    omega
end Go.Proofs.YtpdehdomilnmeaaGreatDoor
