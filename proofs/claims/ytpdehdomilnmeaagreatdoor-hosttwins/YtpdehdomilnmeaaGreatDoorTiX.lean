import Derived.Test.YtpdehdomilnmeaaGreatDoorSx
import Derived.Deep.RegionHeld3
namespace Go.Proofs.YtpdehdomilnmeaaGreatDoor
open Go.RowKit
set_option maxRecDepth 100000
def wpT (P:Program) (md:Region.Mode) (ops:Array Oper) (Q:Exit->Act->World->Prop) (T:World->Prop) (s:Nat):Nat->Array Bool->Act->World->Prop
 |0,l,a,w=>Region.ready md ops l=[]/\Q .normal a w
 |n+1,l,a,w=>(Region.ready md ops l=[]->Q .normal a w)/\∀ i ∈ Region.ready md ops l,wpOp P ops Q i (fun a' w'=>((l.setIfInBounds i true).getD s true=false->T w')/\wpT P md ops Q T s n (l.setIfInBounds i true) a' w') a w
theorem wpT_any {P:Program} {md:Region.Mode} {ops:Array Oper} {Q:Exit->Act->World->Prop} {T:World->Prop} {s:Nat}:∀ (n:Nat) (l:Array Bool) (a:Act) (w:World),wpT P md ops Q T s n l a w->wpAny P md ops Q n l a w
 |0,_,_,_,h=>h
 |n+1,_,_,_,h=>⟨h.1,fun i hi=>wpOp_mono (fun a' w' h'=>wpT_any n _ a' w' h'.2) (h.2 i hi)⟩
theorem bool_no {x:Bool} {p:Prop} (h:x=true) (e:x=false):p:=by rw [h] at e;cases e
def waits (md:Region.Mode) (ops:Array Oper) (s i:Nat):Bool:=match ops[s]? with
 |some o=>o.after.toList.any (fun e=>Region.binds md e && e.on == i)
 |none=>false
theorem ready_ne {md:Region.Mode} {ops:Array Oper} {l:Array Bool} {s i j:Nat} (hw:waits md ops s i=true) (hi:i ∈ Region.ready md ops l) (hj:j ∈ Region.ready md ops l):j ≠ s:=by
 rintro rfl
 obtain⟨h0,_⟩:=mem_ready.1 hi
 obtain⟨_,o,ho,hall⟩:=mem_ready.1 hj
 unfold waits at hw
 rw [ho] at hw
 obtain⟨e,he,hb⟩:=List.any_eq_true.mp hw
 simp only [Bool.and_eq_true,beq_iff_eq] at hb
 have h1:=hall e (Array.mem_toList_iff.mp he) hb.1
 rw [hb.2] at h1
 by_cases hs:i < l.size
 ·simp [hs] at h0 h1
  rw [h0] at h1
  cases h1
 ·simp [Array.getElem?_eq_none (Nat.le_of_not_lt hs)] at h1
theorem getD_set_same (l:Array Bool) {i s:Nat} (h:i ≠ s):(l.setIfInBounds i true).getD s true=l.getD s true:=getD_set_ne true h
theorem wpT_take {P:Program} {md:Region.Mode} {ops:Array Oper} {Q:Exit->Act->World->Prop} {T:World->Prop} {s i:Nat} {oi:Oper} {v:Value} (hi:ops[i]?=some oi) (hs:Region.noSelect ops=true) (hQ:∀ c a w,Q (.panic c) (a.put oi.dst v) w->Q (.panic c) a w) (his:i ≠ s) (hw:waits md ops s i=true) :
  ∀ (n:Nat) (l:Array Bool) (a:Act) (w:World),(∀ j oj,ops[j]?=some oj->j ≠ i->l.getD j true=false->(∀ e ∈ oj.after,Region.binds md e=true->e.on ≠ i)->oi.apart ops oj=true) ->
   i ∈ Region.ready md ops l->l.getD s true=false->YieldsIf P ops T oi v a->T w->wpT P md ops Q T s n (l.setIfInBounds i true) (a.put oi.dst v) w->wpT P md ops Q T s (n+1) l a w:=by
 have hsel:=Region.noSelect_spec hs
 intro n
 induction n with
 |zero=>
  intro l a w _ hr _ hy hT hW
  refine⟨fun e=>(by rw [e] at hr;cases hr),fun j hj=>?_⟩
  by_cases hji:j=i
  ·subst hji
   exact hy.wpOp hi hT ⟨fun _=>hT,hW⟩
  ·have:=ready_mono hj hji
   rw [hW.1] at this
   cases this
 |succ n ih=>
  intro l a w hfree hr hsf hy hT hW
  refine⟨fun e=>(by rw [e] at hr;cases hr),fun j hj=>?_⟩
  by_cases hji:j=i
  ·subst hji
   exact hy.wpOp hi hT ⟨fun _=>hT,hW⟩
  ·have hjs:=ready_ne hw hr hj
   obtain⟨hun,oj,hoj,hall⟩:=mem_ready.1 hj
   have hno:∀ e ∈ oj.after,Region.binds md e=true->e.on ≠ i:=fun e he hb heq=>by
    have h1:=hall e he hb
    rw [heq] at h1
    have h0:=(mem_ready.1 hr).1
    by_cases hlt:i < l.size
    ·simp [hlt] at h0 h1
     rw [h0] at h1
     cases h1
    ·simp [Array.getElem?_eq_none (Nat.le_of_not_lt hlt)] at h1
   have h2:=wpOp_putIf hoj (hfree j oj hoj hji hun hno) (fun cs b=>hsel i oi cs b hi) (fun cs b=>hsel j oj cs b hoj) hQ hy (hW.2 j (ready_mono hj hji))
   refine wpOp_mono (fun a' w' h3=>?_) h2
   obtain⟨hy',hT',hW'⟩:=h3
   have e1:((l.setIfInBounds i true).setIfInBounds j true).getD s true=l.getD s true:=by rw [getD_set_same _ hjs,getD_set_same _ his]
   have e2:(l.setIfInBounds j true).getD s true=l.getD s true:=getD_set_same _ hjs
   rw [e1] at hT'
   rw [e2]
   refine⟨hT', ?_⟩
   refine ih (l.setIfInBounds j true) a' w' (fun k ok hk hki hun' hno'=>hfree k ok hk hki ?_ hno') (ready_mono hr (Ne.symm hji)) (e2.trans hsf) hy' (hT' hsf) ?_
   ·by_cases hjk:j=k
    ·subst hjk;exact hun
    ·rwa [getD_set_ne true hjk] at hun'
   ·rw [Array.setIfInBounds_comm _ _ hji]
    exact hW'
theorem wpT_pure {P:Program} {md:Region.Mode} {ops:Array Oper} {Q:Exit->Act->World->Prop} {T:World->Prop} {s i:Nat} {oi:Oper} {v:Value} (hi:ops[i]?=some oi) (hs:Region.noSelect ops=true) (hQ:∀ c a w,Q (.panic c) (a.put oi.dst v) w->Q (.panic c) a w) (his:i ≠ s) :
  ∀ (n:Nat) (l:Array Bool) (a:Act) (w:World),(∀ j oj,ops[j]?=some oj->j ≠ i->l.getD j true=false->(∀ e ∈ oj.after,Region.binds md e=true->e.on ≠ i)->oi.apart ops oj=true) ->
   i ∈ Region.ready md ops l->YieldsIf P ops (fun _=>True) oi v a->(l.getD s true=false->T w)->wpT P md ops Q T s n (l.setIfInBounds i true) (a.put oi.dst v) w->wpT P md ops Q T s (n+1) l a w:=by
 have hsel:=Region.noSelect_spec hs
 intro n
 induction n with
 |zero=>
  intro l a w _ hr hy hT hW
  refine⟨fun e=>(by rw [e] at hr;cases hr),fun j hj=>?_⟩
  by_cases hji:j=i
  ·subst hji
   exact hy.wpOp hi trivial ⟨fun e=>hT (by rwa [getD_set_same _ his] at e),hW⟩
  ·have:=ready_mono hj hji
   rw [hW.1] at this
   cases this
 |succ n ih=>
  intro l a w hfree hr hy hT hW
  refine⟨fun e=>(by rw [e] at hr;cases hr),fun j hj=>?_⟩
  by_cases hji:j=i
  ·subst hji
   exact hy.wpOp hi trivial ⟨fun e=>hT (by rwa [getD_set_same _ his] at e),hW⟩
  ·obtain⟨hun,oj,hoj,hall⟩:=mem_ready.1 hj
   have hno:∀ e ∈ oj.after,Region.binds md e=true->e.on ≠ i:=fun e he hb heq=>by
    have h1:=hall e he hb
    rw [heq] at h1
    have h0:=(mem_ready.1 hr).1
    by_cases hlt:i < l.size
    ·simp [hlt] at h0 h1
     rw [h0] at h1
     cases h1
    ·simp [Array.getElem?_eq_none (Nat.le_of_not_lt hlt)] at h1
   have h2:=wpOp_putIf hoj (hfree j oj hoj hji hun hno) (fun cs b=>hsel i oi cs b hi) (fun cs b=>hsel j oj cs b hoj) hQ hy (hW.2 j (ready_mono hj hji))
   refine wpOp_mono (fun a' w' h3=>?_) h2
   obtain⟨hy',hT',hW'⟩:=h3
   have e1:(l.setIfInBounds i true).setIfInBounds j true=(l.setIfInBounds j true).setIfInBounds i true:=Array.setIfInBounds_comm _ _ (Ne.symm hji)
   rw [e1] at hT' hW'
   rw [getD_set_same _ his] at hT'
   refine⟨hT',ih (l.setIfInBounds j true) a' w' (fun k ok hk hki hun' hno'=>hfree k ok hk hki ?_ hno') (ready_mono hr (Ne.symm hji)) hy' hT' hW'⟩
   by_cases hjk:j=k
   ·subst hjk;exact hun
   ·rwa [getD_set_ne true hjk] at hun'
theorem wpT_free {P:Program} {md:Region.Mode} {ops:Array Oper} {Q:Exit->Act->World->Prop} {T:World->Prop} {s n:Nat} {l:Array Bool} {a:Act} {w:World} (i:Nat) {oi:Oper} (v:Value) (hi:ops[i]?=some oi) (hs:Region.noSelect ops=true) (hf:Region.free md ops l i=true) (hr:(Region.ready md ops l).contains i=true)
  (his:i ≠ s) (hQ:∀ c a w,Q (.panic c) (a.put oi.dst v) w->Q (.panic c) a w) (hT:l.getD s true=false->T w) (hy:YieldsIf P ops (fun _=>True) oi v a) (h:wpT P md ops Q T s n (l.setIfInBounds i true) (a.put oi.dst v) w):wpT P md ops Q T s (n+1) l a w:=
 wpT_pure hi hs hQ his n l a w (Region.free_spec hi hf) (by simpa using hr) hy hT h
theorem wpT_first {P:Program} {md:Region.Mode} {ops:Array Oper} {Q:Exit->Act->World->Prop} {T:World->Prop} {s n:Nat} {l:Array Bool} {a:Act} {w:World} (i:Nat) {oi:Oper} (v:Value) (hi:ops[i]?=some oi) (hs:Region.noSelect ops=true) (hf:Region.free md ops l i=true) (hr:(Region.ready md ops l).contains i=true) (hsf:l.getD s true=false)
  (his:i ≠ s) (hw:waits md ops s i=true) (hQ:∀ c a w,Q (.panic c) (a.put oi.dst v) w->Q (.panic c) a w) (hy:YieldsIf P ops T oi v a) (hT:T w) (h:wpT P md ops Q T s n (l.setIfInBounds i true) (a.put oi.dst v) w):wpT P md ops Q T s (n+1) l a w:=
 wpT_take hi hs hQ his hw n l a w (Region.free_spec hi hf) (by simpa using hr) hsf hy hT h
theorem wpT_done {P:Program} {md:Region.Mode} {ops:Array Oper} {Q:Exit->Act->World->Prop} {T:World->Prop} {s:Nat} {l:Array Bool} {a:Act} {w:World} (hr:Region.ready md ops l=[]) (h:Q .normal a w):∀ n,wpT P md ops Q T s n l a w
 |0=>⟨hr,h⟩
 |_+1=>⟨fun _=>h,by rw [hr];simp⟩
def AllT (P:Program) (md:Region.Mode) (ops:Array Oper) (Q:Exit->Act->World->Prop) (T:World->Prop) (s n:Nat) (l:Array Bool) (a:Act) (w:World) (rs:List Nat):Prop:=
 ∀ i ∈ rs,wpOp P ops Q i (fun a' w'=>((l.setIfInBounds i true).getD s true=false->T w')/\wpT P md ops Q T s n (l.setIfInBounds i true) a' w') a w
theorem AllT.nil {P:Program} {md:Region.Mode} {ops:Array Oper} {Q:Exit->Act->World->Prop} {T:World->Prop} {s n:Nat} {l:Array Bool} {a:Act} {w:World}:AllT P md ops Q T s n l a w []:=fun _ h=>by cases h
theorem AllT.cons {P:Program} {md:Region.Mode} {ops:Array Oper} {Q:Exit->Act->World->Prop} {T:World->Prop} {s n:Nat} {l:Array Bool} {a:Act} {w:World} {i:Nat} {o:Oper} {rs:List Nat} (ho:ops[i]?=some o)
  (h:∀ K':Act->World->Prop,Shut (∀ a w,((l.setIfInBounds i true).getD s true=false->T w)->wpT P md ops Q T s n (l.setIfInBounds i true) a w->K' a w)->if Region.wanted o (yielded ops a.tmps)=true then Oper.wp P o a w K' Q else K' (a.put o.dst undef) w)
  (hs:AllT P md ops Q T s n l a w rs):AllT P md ops Q T s n l a w (i :: rs):=fun j hj=>by
 rcases List.mem_cons.1 hj with rfl | hj
 ·exact wpOp_step ho (fun K' hK=>h K' (fun a w hT hW=>hK a w ⟨hT,hW⟩))
 ·exact hs j hj
theorem wpT_ready {P:Program} {md:Region.Mode} {ops:Array Oper} {Q:Exit->Act->World->Prop} {T:World->Prop} {s n:Nat} {l:Array Bool} {a:Act} {w:World} {rs:List Nat} (hr:Region.ready md ops l=rs) (hne:rs ≠ []) (h:AllT P md ops Q T s n l a w rs):wpT P md ops Q T s (n+1) l a w:=
 ⟨fun h0=>absurd (hr ▸ h0) hne,hr ▸ h⟩
theorem wp_region_till {P:Program} {ops:Array Oper} {Q:Exit->Act->World->Prop} {id:Nat} {a:Act} {w:World} (T:World->Prop) (s:Nat) (hm:P.follows .mixedOrders=true) (h:wpT P .any ops Q T s ops.size (Array.replicate ops.size false) a w.drew):(Code.region id ops true).wp P Q a w:=
 wp_region_any hm (wpT_any _ _ _ _ h)
theorem freeD {P:Program} {md:Region.Mode} {ops:Array Oper} {Q:Exit->Act->World->Prop} {T:World->Prop} {s n:Nat} {l:Array Bool} {t:List Value} {df:List Deferred} {w:World} {oi:Oper} (i d:Nat) (v:Value) (hi:ops[i]?=some oi) (hd:oi.dst=some d) (hs:Region.noSelect ops=true) (hf:Region.free md ops l i=true) (hr:(Region.ready md ops l).contains i=true)
  (his:i ≠ s) (hQ:∀ c a w,Q (.panic c) (a.put oi.dst v) w->Q (.panic c) a w) (hT:l.getD s true=false->T w) (hy:YieldsIf P ops (fun _=>True) oi v ⟨t.toArray,df⟩) (h:wpT P md ops Q T s n (l.setIfInBounds i true) ⟨(t.set d v).toArray,df⟩ w):wpT P md ops Q T s (n+1) l ⟨t.toArray,df⟩ w:=by
 refine wpT_free i v hi hs hf hr his hQ hT hy ?_
 rw [hd]
 simpa [Act.put] using h
theorem frE {P:Program} {md:Region.Mode} {ops:Array Oper} {Q:Exit->Act->World->Prop} {T:World->Prop} {s n:Nat} {l:Array Bool} {t:List Value} {df:List Deferred} {w:World} {oi:Oper} (i d:Nat) (v:Value) (hi:ops[i]?=some oi) (hd:oi.dst=some d) (hT:l.getD s true=false->T w)
  (h:wpT P md ops Q T s n (l.setIfInBounds i true) ⟨(t.set d v).toArray,df⟩ w) (hs:Region.noSelect ops=true:=by kernel_rfl) (hf:Region.free md ops l i=true:=by kernel_rfl) (hr:(Region.ready md ops l).contains i=true:=by kernel_rfl) (his:i ≠ s:=by decide)
  (hQ:∀ c a w,Q (.panic c) (a.put oi.dst v) w->Q (.panic c) a w:=by exact fun _ _ _ h=>h) (hy:YieldsIf P ops (fun _=>True) oi v ⟨t.toArray,df⟩:=by exact Or.inl ⟨by kernel_rfl,by intro w _;go_simp⟩):wpT P md ops Q T s (n+1) l ⟨t.toArray,df⟩ w:=freeD i d v hi hd hs hf hr his hQ hT hy h
theorem firstD {P:Program} {md:Region.Mode} {ops:Array Oper} {Q:Exit->Act->World->Prop} {T:World->Prop} {s n:Nat} {l:Array Bool} {t:List Value} {df:List Deferred} {w:World} {oi:Oper} (i d:Nat) (v:Value) (hi:ops[i]?=some oi) (hd:oi.dst=some d) (hs:Region.noSelect ops=true) (hf:Region.free md ops l i=true) (hr:(Region.ready md ops l).contains i=true) (hsf:l.getD s true=false)
  (his:i ≠ s) (hw:waits md ops s i=true) (hQ:∀ c a w,Q (.panic c) (a.put oi.dst v) w->Q (.panic c) a w) (hy:YieldsIf P ops T oi v ⟨t.toArray,df⟩) (hT:T w) (h:wpT P md ops Q T s n (l.setIfInBounds i true) ⟨(t.set d v).toArray,df⟩ w):wpT P md ops Q T s (n+1) l ⟨t.toArray,df⟩ w:=by
 refine wpT_first i v hi hs hf hr hsf his hw hQ hy hT ?_
 rw [hd]
 simpa [Act.put] using h
theorem fiE {P:Program} {md:Region.Mode} {ops:Array Oper} {Q:Exit->Act->World->Prop} {T:World->Prop} {s n:Nat} {l:Array Bool} {t:List Value} {df:List Deferred} {w:World} {oi:Oper} (i d:Nat) (v:Value) (hi:ops[i]?=some oi) (hd:oi.dst=some d) (hT:T w)
  (h:wpT P md ops Q T s n (l.setIfInBounds i true) ⟨(t.set d v).toArray,df⟩ w) (hs:Region.noSelect ops=true:=by kernel_rfl) (hf:Region.free md ops l i=true:=by kernel_rfl) (hr:(Region.ready md ops l).contains i=true:=by kernel_rfl) (hsf:l.getD s true=false:=by kernel_rfl) (his:i ≠ s:=by decide) (hw:waits md ops s i=true:=by kernel_rfl)
  (hQ:∀ c a w,Q (.panic c) (a.put oi.dst v) w->Q (.panic c) a w:=by exact fun _ _ _ h=>h) (hy:YieldsIf P ops T oi v ⟨t.toArray,df⟩:=by exact Or.inl ⟨by kernel_rfl,by intro w hSw;(try dsimp only at hSw);go_simp⟩):wpT P md ops Q T s (n+1) l ⟨t.toArray,df⟩ w:=firstD i d v hi hd hs hf hr hsf his hw hQ hy hT h
end Go.Proofs.YtpdehdomilnmeaaGreatDoor
