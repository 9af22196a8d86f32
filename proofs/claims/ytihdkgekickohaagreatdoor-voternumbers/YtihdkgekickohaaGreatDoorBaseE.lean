import Derived.Test.YtihdkgekickohaaGreatDoorBaseC
import Derived.Test.YtihdkgekickohaaGreatDoorBaseD
import Derived.Deep.OwnRows
import Derived.RangeFuncNested
import Derived.RangeFuncBound
import Derived.RangeFuncCalls
import Derived.RangeFuncLeaves
import Derived.RangeFuncBox
import Derived.Shelf.Abstract
import Derived.Shelf.RegionOpen
import Derived.WalkKit
import Derived.OwnWalkIn
import Derived.TacticsInMore
import Derived.LoopNIn
import Derived.LoopIn
import Derived.Maps.OwnIn
namespace Go.Proofs.YtihdkgekickohaaGreatDoor
open Go.ChangeShapes Go.WideShapes Go.ChangeAt Go.RowKit
set_option maxRecDepth 100000
end Go.Proofs.YtihdkgekickohaaGreatDoor
namespace Go.Proofs.YtihdkgekickohaaGreatDoor
open Go.ChangeShapes Go.WideShapes Go.ChangeAt Go.RowKit Go.Shelf
set_option maxRecDepth 100000
attribute [local go_sem] Oper.semAt_some
theorem wpListIn_load_mid {G:Fence} {nF:Nat} {ops:Array Oper} {rest:List Oper} {op:Oper} {a:Act} {w:World} {Q:Exit → Act → World → Prop} (hgd:op.guard = none) (ty:TypeId) (x:Operand) (ho:op.op = .load ty x)
  (b o:Nat) (hx:a.eval x = .pointer (some ⟨b,o,none⟩)) (cs:List Value) (d:TypeDesc) (hc:w.rangeAt b o cs) (hu:Tryz.prog.underlying ty = some d) (hd:d.isRow = true) (hi:(Tryz.prog.info? ty).map (·.size) = some cs.length)
  (h:wpListIn G nF Tryz.prog ops Q rest (a.put op.dst (.agg cs.toArray)) w):wpListIn G nF Tryz.prog ops Q (op :: rest) a w:=by
 refine wpListIn_plain hgd fun K hK=>?_
 have hr:=run_loadAt_mid (P:=Tryz.prog) w b o ty cs d hc hu hd hi
 unfold Oper.wpIn
 refine ⟨by simp [Oper.about,ho],?_⟩
 rw [Oper.semAt_plain G _ _ (by rw [ho];intro c hc';cases hc')]
 simp [execOp,ho,hx,hr,Result.andThen]
 exact hK _ _ h
structure WE where
 i:Nat
 x:Int × List Int
 h:Sec x.2
def encW (e:WE):Array Value:=#[.int .i64 (e.i:Int),.agg (wcell e.x).toArray]
def upto {α:Type} (f:Nat → α) (k:Nat):List α:=(List.range k).map f
theorem upto_succ {α:Type} (f:Nat → α) (k:Nat):upto f (k + 1) = upto f k ++ [f k]:=by simp [upto,List.range_succ]
theorem upto_length {α:Type} (f:Nat → α) (k:Nat):(upto f k).length = k:=by simp [upto]
set_option maxRecDepth 100000 in
set_option maxHeartbeats 6400000 in
theorem back1_in (G:Fence) (n:Nat) (h34:G.fn 180) (hro:G.round = none) (hn:1 ≤ n) (l Bs n₀ b len cap:Nat) (e:Nat → WE) (hlen:(len:Int) ≤ 1000000000000) (hb:b < n₀) (hB:Bs < n₀) (J Jx:List WE → World → Prop)
  (hY:∀ pre x W,J pre W → pre.length < len → YieldAt G (n - 1) Tryz.prog l (encW x) W fun r W'=>
   (r = .returned (.bool true) ∧ J (pre ++ [x]) W' ∧ Below n₀ W W') ∨ (r = .returned (.bool false) ∧ Jx (pre ++ [x]) W'))
  (W:World) (hBs:W.cell? ⟨Bs,0,none⟩ = some (.slice (some ⟨b,0,none⟩) len cap)) (hc:∀ j,j < len → (e j).i = len - 1 - j ∧ W.rangeAt b ((len - 1 - j) * 65) (wcell (e j).x)) (h0:J [] W) :
  CallsIn G n Tryz.prog 180 #[.func (.yield l) #[] #[],.pointer (some ⟨Bs,0,none⟩)] W fun r W'=>(∃ v,r = .returned v) ∧
   ((∃ ys,ys = upto e len ∧ J ys W') ∨ (∃ pre,(∃ k,k < len ∧ pre = upto e (k + 1)) ∧ Jx pre W')):=by
 refine callsIn_of_wp Tryz.func180 rfl h34 ?_ hro
 simp only [Tryz.ntmps180,List.size_toArray,List.length_cons,List.length_nil,Nat.reduceAdd,Nat.reduceSub,Array.replicate_succ,Array.replicate_zero,List.push_toArray,List.append_toArray,List.nil_append,List.cons_append]
 gi_wp2
 gi_loopw [3] (fun iv wr=>∃ k:Nat,k ≤ len ∧ iv = .int .i64 ((len:Int) - 1 - k) ∧ J (upto e k) wr ∧ Below n₀ W wr)
  (fun iv _=>(intOf iv + 1).toNat)
 case atStart=>exact ⟨0,Nat.zero_le _,by simp,h0,Below.refl _ _⟩
 case round=>
  obtain ⟨k,hk,rfl,hJs,hnx⟩:=hrel
  have hBx:=(hnx.cell (p:=⟨Bs,0,none⟩) hB).trans hBs
  by_cases hlt:k < len
  ·obtain ⟨fn,tmps,assign,body,hy,hR⟩:=hY _ (e k) wr hJs (by rw [upto_length];exact hlt)
   obtain ⟨he1,he2⟩:=hc k hlt
   obtain ⟨m,hm⟩:∃ m:Nat,m = len - 1 - k:=⟨_,rfl⟩
   have hmi:(len:Int) - 1 - k = (m:Int):=by omega
   rw [← hm] at he1 he2
   have HRG:Hid (wr.rangeAt b (m * 65) (wcell (e k).x)):=mkHid (fun j v hj=>(hnx.cell (p:=⟨b,m * 65 + j,none⟩) hb).trans (he2 j v hj))
   have hm2:(m:Int) < len:=by omega
   unfold encW at hy
   rw [he1] at hy
   rw [hmi]
   have HEK:Hid (Option.map (fun i=>i.size) (Tryz.prog.info? 113) = some (wcell (e k).x).length):=mkHid (by rw [wcell_len (e k).h];exact size67)
   have HMI:=mkHid hmi
   clear he1 he2 hc hBs hm hmi
   gi_wp2_with (refine wpListIn_load_mid rfl 113 (.tmp 15) rfl b (m * 65) rfl (wcell (e k).x) _ HRG.out Tryz.underlying113 rfl HEK.out ?_)
   refine hR.mono ?_
   rintro r W3 (⟨rfl,hJ3,hk3⟩ | ⟨rfl,hJx3⟩)
   ·gi_wp2
    go_roundw
    case rel=>exact ⟨k + 1,by omega,by have:=HMI.out;congr 1;omega,by rw [upto_succ];exact hJ3,hnx.trans hk3⟩
    case measure=>simp [intOf] <;> omega
   ·gi_wp2
    refine bodyPost_ret (results_none rfl _ _ _) rfl ?_
    exact ⟨⟨_,rfl⟩,.inr ⟨_,⟨k,hlt,(upto_succ _ _).symm⟩,hJx3⟩⟩
  ·obtain rfl:k = len:=by omega
   have hmi:(k:Int) - 1 - k = -1:=by omega
   rw [hmi]
   gi_wp2
   go_end0
   exact ⟨⟨_,rfl⟩,.inl ⟨_,rfl,hJs⟩⟩
def bk (c:List (Int × List Int)) (hc:∀ x ∈ c,Sec x.2) (j:Nat):WE:=if h:j < c.length then ⟨c.length - 1 - j,c[c.length - 1 - j],hc _ (List.getElem_mem _)⟩ else ⟨0,(0,zeros),zeros_sec⟩
theorem bk_at (c:List (Int × List Int)) (hc:∀ x ∈ c,Sec x.2) (j:Nat) (h:j < c.length):(bk c hc j).i = c.length - 1 - j ∧ c[c.length - 1 - j]? = some (bk c hc j).x:=by
 unfold bk
 rw [dif_pos h]
 exact ⟨rfl,by simp⟩
set_option maxRecDepth 100000 in
set_option maxHeartbeats 6400000 in
theorem back1_nil_in (G:Fence) (n:Nat) (h34:G.fn 180) (hro:G.round = none) (l Bs:Nat) (J:List WE → World → Prop) (W:World) (hBs:W.cell? ⟨Bs,0,none⟩ = some (.slice none 0 0)) (h0:J [] W) :
  CallsIn G n Tryz.prog 180 #[.func (.yield l) #[] #[],.pointer (some ⟨Bs,0,none⟩)] W fun r W'=>(∃ v,r = .returned v) ∧ J [] W':=by
 refine callsIn_of_wp Tryz.func180 rfl h34 ?_ hro
 simp only [Tryz.ntmps180,List.size_toArray,List.length_cons,List.length_nil,Nat.reduceAdd,Nat.reduceSub,Array.replicate_succ,Array.replicate_zero,List.push_toArray,List.append_toArray,List.nil_append,List.cons_append]
 gi_wp2
 gi_loopw [3] (fun iv wr=>iv = .int .i64 (-1) ∧ J [] wr) (fun _ _=>0)
 case atStart=>exact ⟨rfl,h0⟩
 case round=>
  obtain ⟨rfl,hJs⟩:=hrel
  gi_wp2
  go_end0
  exact ⟨⟨_,rfl⟩,hJs⟩
set_option maxHeartbeats 3200000 in
theorem backward_in (G:Fence) (n:Nat) (h33:G.fn 175) (hro:G.round = none) (a:Option Addr) (len cap:Nat) (w:World) :
  CallsIn G n Tryz.prog 175 #[.slice a len cap] w fun r w'=>r = .returned (.func (.func 180) #[] #[.pointer (some ⟨w.heap.size,0,none⟩)]) ∧ w' = w.alloc (.cells #[.slice a len cap] 71):=by
 refine callsIn_of_wp Tryz.func175 rfl h33 ?_ hro
 simp only [Tryz.ntmps175,List.size_toArray,List.length_cons,List.length_nil,Nat.reduceAdd,Nat.reduceSub,Array.replicate_succ,Array.replicate_zero,List.push_toArray,List.append_toArray,List.nil_append,List.cons_append]
 gi_wp2
 go_ret
 exact ⟨rfl,rfl⟩
theorem back_stops (G:Fence) (n:Nat) (h34:G.fn 180) (hro:G.round = none) (hn:1 ≤ n) (Bs n₀:Nat) (cv:Value) (c:List (Int × List Int)) (hc:∀ x ∈ c,Sec x.2) (hlen:(c.length:Int) ≤ 1000000000000) (w:World) (hB:Bs < n₀) (hn₀:n₀ ≤ w.heap.size)
  (hcell:w.cell? ⟨Bs,0,none⟩ = some cv) (ho:w.ownsRow 0 113 65 cv c.length (wcells c)) (hb:∀ k,cv.ownBlock = some k → k < n₀) :
  SeqStopsK G n Tryz.prog 180 #[.pointer (some ⟨Bs,0,none⟩)] encW (Below n₀) (fun ys=>ys = upto (bk c hc) c.length) (fun pre=>∃ k,k < c.length ∧ pre = upto (bk c hc) (k + 1)) c.length w:=fun l J Jx W hW _ _ hY h0=>by
 have hc':=(hW.cell (p:=⟨Bs,0,none⟩) (Nat.lt_of_lt_of_le hB hn₀)).trans hcell
 have ho':=own_keep65 ho (kept_below (fun _=>False) hW) (fun _ _ h=>h)
 rcases ho'.2 with ⟨rfl,he⟩ | ⟨g,cap,cur,rfl,_⟩
 ·refine (back1_nil_in G n h34 hro l Bs J W hc' h0).mono fun e W' ⟨he',hj⟩=>⟨he',.inl ⟨_,rfl,?_⟩⟩
  rw [he]
  exact hj
 ·refine back1_in G n h34 hro hn l Bs n₀ g c.length cap (bk c hc) hlen (hb g rfl) hB J Jx hY W hc' (fun j hj=>?_) h0
  obtain ⟨e1,e2⟩:=bk_at c hc j hj
  refine ⟨e1,fun k v hk=>?_⟩
  have:=ho'.cells (g:=g) rfl ((c.length - 1 - j) * 65 + k) v (wcells_at c hc _ _ e2 k v hk)
  rwa [add_none,Nat.zero_add] at this
theorem wpListIn_alloc_z {G:Fence} {nF:Nat} {P:Program} {w:World} {ops:Array Oper} {rest:List Oper} {o:Oper} {a:Act} {Q:Exit → Act → World → Prop} (hgd:o.guard = none) (t:TypeId) (ho:o.op = .alloc t) (z:Array Value) (hz:(zeroValue t).run P w = .ok (.agg z) w)
  (h:wpListIn G nF P ops Q rest (a.put o.dst (.pointer (some ⟨w.heap.size,0,none⟩))) (w.alloc (.cells z t))):wpListIn G nF P ops Q (o :: rest) a w:=by
 refine wpListIn_plain hgd fun K hK=>?_
 unfold Oper.wpIn
 refine ⟨by simp [Oper.about,ho],?_⟩
 rw [Oper.semAt_plain G _ _ (by rw [ho];intro c hc';cases hc')]
 unfold execOp
 simp only [ho,Instr.alloc,Sem.run_bind,hz,Result.andThen_ok]
 simp [newVar,Value.cells]
 exact hK _ _ h
theorem wpListIn_store_new {G:Fence} {nF:Nat} {P:Program} {w:World} {ops:Array Oper} {rest:List Oper} {o:Oper} {a:Act} {Q:Exit → Act → World → Prop} (hgd:o.guard = none) (t:TypeId) (x y:Operand) (ho:o.op = .store t x y) (c:Array Value) (cs:List Value)
  (hx:a.eval x = .pointer (some ⟨w.heap.size,0,none⟩)) (hy:a.eval y = .agg cs.toArray) (hi:(P.info? t).map (·.size) = some cs.length) (hc:c.size = cs.length) (h1:∀ v ∈ cs,v.oneCell' = true)
  (h:wpListIn G nF P ops Q rest (a.put o.dst undef) (w.alloc (.cells cs.toArray t))):wpListIn G nF P ops Q (o :: rest) a (w.alloc (.cells c t)):=by
 refine wpListIn_plain hgd fun K hK=>?_
 have hr:=run_storeAt_new (P:=P) w t c cs.toArray (by simpa using hi) (by simpa using hc) (all_oneCell_toArray h1)
 unfold Oper.wpIn
 refine ⟨by simp [Oper.about,ho],?_⟩
 rw [Oper.semAt_plain G _ _ (by rw [ho];intro c hc';cases hc')]
 simp [execOp,ho,hx,hy,hr,Result.andThen]
 exact hK _ _ h
theorem wpListIn_store_row {G:Fence} {nF:Nat} {P:Program} {w:World} {ops:Array Oper} {rest:List Oper} {o:Oper} {a:Act} {Q:Exit → Act → World → Prop} (hgd:o.guard = none) (t tb:TypeId) (x y:Operand) (ho:o.op = .store t x y) (g:Nat) (c:Array Value) (cs:List Value) (hg:w.heap[g]? = some (.cells c tb (0,0)))
  (hx:a.eval x = .pointer (some ⟨g,0,none⟩)) (hy:a.eval y = .agg cs.toArray) (hi:(P.info? t).map (·.size) = some cs.length) (hc:c.size = cs.length) (h1:∀ v ∈ cs,v.oneCell' = true)
  (h:wpListIn G nF P ops Q rest (a.put o.dst undef) (w.setRow g cs.toArray)):wpListIn G nF P ops Q (o :: rest) a w:=by
 refine wpListIn_plain hgd fun K hK=>?_
 have hr:=run_storeVar_row (P:=P) w g tb t c cs.toArray hg (by simpa using hi) (by simpa using hc) (all_oneCell_toArray h1)
 have hr2:(Instr.storeAt t (.pointer (some ⟨g,0,none⟩)) (.agg cs.toArray)).run P w = .ok () (w.setRow g cs.toArray):=by
  simp only [Instr.storeAt,Instr.sureAddr,Sem.run_bind,Sem.run_pure,Result.andThen]
  exact hr
 unfold Oper.wpIn
 refine ⟨by simp [Oper.about,ho],?_⟩
 rw [Oper.semAt_plain G _ _ (by rw [ho];intro c hc';cases hc')]
 simp [execOp,ho,hx,hy,hr2,Result.andThen]
 exact hK _ _ h
def seenOf (f:Int → List Int) (c:List (Int × List Int)) (i:Int):List Int:=match c.reverse.find? (fun x=>x.1 == i) with
 |some x=>x.2
 |none=>f i
theorem rev_bk (c:List (Int × List Int)) (hc:∀ x ∈ c,Sec x.2):c.reverse = (upto (bk c hc) c.length).map (fun e=>e.x):=by
 apply List.ext_getElem
 ·simp [upto]
 ·intro j h1 h2
  have hj:j < c.length:=by simpa using h1
  have:=(bk_at c hc j hj).2
  rw [List.getElem_reverse]
  simp [upto]
  rw [List.getElem?_eq_getElem (by omega)] at this
  exact Option.some.inj this
theorem seenOf_found (f:Int → List Int) (c:List (Int × List Int)) (hc:∀ x ∈ c,Sec x.2) (i:Int) (k:Nat) (hk:k < c.length) (pre:List WE) (e:WE) (h:upto (bk c hc) (k + 1) = pre ++ [e]) (he:e.x.1 = i) (hp:∀ e' ∈ pre,e'.x.1 ≠ i):seenOf f c i = e.x.2:=by
 have hsplit:upto (bk c hc) c.length = (pre ++ [e]) ++ (upto (bk c hc) c.length).drop (k + 1):=by
  rw [← h]
  have:upto (bk c hc) (k + 1) = (upto (bk c hc) c.length).take (k + 1):=by
   simp only [upto]
   rw [← List.map_take,List.take_range,Nat.min_eq_left (by omega)]
  rw [this,List.take_append_drop]
 have hnone:(pre.map (fun e=>e.x)).find? (fun x=>x.1 == i) = none:=by
  rw [List.find?_eq_none]
  intro x hx
  obtain ⟨e',he',rfl⟩:=List.mem_map.mp hx
  simpa using hp e' he'
 unfold seenOf
 rw [rev_bk c hc,hsplit]
 simp only [List.map_append,List.find?_append,hnone,Option.none_or,List.map_cons,List.map_nil,List.find?_cons,he,beq_self_eq_true,Option.some_or]
theorem seenOf_none (f:Int → List Int) (c:List (Int × List Int)) (hc:∀ x ∈ c,Sec x.2) (i:Int) (hp:∀ e ∈ upto (bk c hc) c.length,e.x.1 ≠ i):seenOf f c i = f i:=by
 have hnone:((upto (bk c hc) c.length).map (fun e=>e.x)).find? (fun x=>x.1 == i) = none:=by
  rw [List.find?_eq_none]
  intro x hx
  obtain ⟨e',he',rfl⟩:=List.mem_map.mp hx
  simpa using hp e' he'
 unfold seenOf
 rw [rev_bk c hc,hnone]
theorem seen_leaves {W:World} {R:Nat} {s:List Int} (hR:W.heap[R]? = some (.cells (scells s).toArray 111 (0,0))) (hs:Sec s) (tmps:Array Value) (ht:tmps[4]?.getD undef = .pointer (some ⟨R,0,none⟩)):(results Tryz.f164 tmps).run Tryz.prog W = .ok (sec s) W:=by
 have hl:=run_loadVar_row (P:=Tryz.prog) W R 111 111 (scells s).toArray (0,0) _ hR Tryz.underlying111 rfl (by rw [List.size_toArray,hs.slen];exact size65)
 have hres:Tryz.f164.results = #[.cell 4 111]:=rfl
 simp only [results,hres]
 simp [ht,asAddr,hl]
 rfl
theorem wp_normal {P:Program} {c:Code} {Q:Exit → Act → World → Prop} {a:Act} {w:World} (h:c.wp P (fun e a w=>e = .normal ∧ Q .normal a w) a w):c.wp P Q a w:=Code.wp_mono (fun e a w hq=>by obtain ⟨rfl,h⟩:=hq;exact h) h
theorem step_store_row {P:Program} {ops:Array Oper} {o:Oper} {a:Act} {w:World} {K:Act → World → Prop} {Q:Exit → Act → World → Prop} {E:Prop} (hgd:o.guard = none) (t tb:TypeId) (x y:Operand) (ho:o.op = .store t x y) (g:Nat) (c:Array Value) (cs:List Value) (hg:w.heap[g]? = some (.cells c tb (0,0)))
  (hx:a.eval x = .pointer (some ⟨g,0,none⟩)) (hy:a.eval y = .agg cs.toArray) (hi:(P.info? t).map (·.size) = some cs.length) (hc:c.size = cs.length) (h1:∀ v ∈ cs,v.oneCell' = true)
  (h:K (a.put o.dst undef) (w.setRow g cs.toArray)):if Region.wanted o (yielded ops a.tmps) = true then Oper.wp P o a w K Q else E:=by
 have hw:Region.wanted o (yielded ops a.tmps) = true:=by simp [Region.wanted,hgd]
 rw [if_pos hw]
 have hr:=run_storeVar_row (P:=P) w g tb t c cs.toArray hg (by simpa using hi) (by simpa using hc) (all_oneCell_toArray h1)
 have hr2:(Instr.storeAt t (.pointer (some ⟨g,0,none⟩)) (.agg cs.toArray)).run P w = .ok () (w.setRow g cs.toArray):=by
  simp only [Instr.storeAt,Instr.sureAddr,Sem.run_bind,Sem.run_pure,Result.andThen]
  exact hr
 unfold Oper.wp
 simp [execOp,ho,hx,hy,hr2,Result.andThen]
 exact h
set_option maxRecDepth 100000 in
set_option maxHeartbeats 6400000 in
theorem seen_any (F:Nat → Prop) (w:World) (p:Nat) (n:Int) (f:Int → List Int) (c:List (Int × List Int)) (nw i:Int) (lost:Bool) (h:Dk F w p n f c nw lost) (hcl:c.length ≤ 1000000000000) :
  Calls Tryz.prog 164 #[.pointer (some ⟨p,0,none⟩),.int .i64 i] w fun e w'=>e = .returned (sec (seenOf f c i)) ∧ Below w.heap.size w w':=by
 have HD:=mkHid h
 obtain ⟨hF,hp,hc,mb,cv,hmb,hpm,hd,hM,hcv,ho⟩:=h
 have c2:w.cell? ⟨p,2,none⟩ = some cv:=cell_of_block hd rfl
 have hsh:∃ a cap,cv = .slice a c.length cap:=by
  rcases ho.2 with ⟨e,h0⟩ | ⟨g,cap,_,e,_⟩
  ·exact ⟨none,0,by rw [e,h0]⟩
  ·exact ⟨_,cap,e⟩
 obtain ⟨sa,cap,rfl⟩:=hsh
 have hpl:=hF p hp
 have HO:=mkHid ho
 have HCV:=mkHid hcv
 have HMS:Hid (w.cell? ⟨p,1,none⟩ = some (.map (some mb)) ∧ Ms w mb f):=mkHid ⟨cell_of_block hd rfl,hM⟩
 clear hF hp hmb hpm hd hM hcv ho
 refine (callsIn_wide (n:=3)).1 ?_
 refine callsIn_of_wp_marks Tryz.func164 rfl trivial ?_ rfl
 simp only [Tryz.ntmps164,List.size_toArray,List.length_cons,List.length_nil,Nat.reduceAdd,Nat.reduceSub,Array.replicate_succ,Array.replicate_zero,List.push_toArray,List.append_toArray,List.nil_append,List.cons_append]
 gi_wp2_with (first | (refine wpListIn_alloc_z rfl 111 rfl (scells zeros).toArray (zero65 _) ?_) | (refine ⟨trivial,?_⟩;gi_at_call 175;refine (backward_in Fence.wide _ trivial rfl sa c.length cap _).mono ?_;rintro e w1 ⟨rfl,rfl⟩) | (gi_at_call 175;refine (backward_in Fence.wide _ trivial rfl sa c.length cap _).mono ?_;rintro e w1 ⟨rfl,rfl⟩))
 obtain ⟨W0,hW0⟩:∃ W0,W0 = ((w.alloc (Obj.cells #[Value.int IntKind.i64 i] 3)).alloc (Obj.cells (scells zeros).toArray 111)).alloc (Obj.cells #[Value.slice sa c.length cap] 71):=⟨_,rfl⟩
 have hsz:W0.heap.size = w.heap.size + 3:=by rw [hW0];simp
 have hb0:Below w.heap.size w W0:=by rw [hW0];exact (((Below.refl _ w).alloc (Nat.le_refl _) _).alloc (by simp) _).alloc (by simp;omega) _
 have k0:W0.heap[w.heap.size]? = some (.cells #[.int .i64 i] 3 (0,0)):=by
  rw [hW0,heap_alloc_old _ _ (by simp;omega),heap_alloc_old _ _ (by simp)]
  exact heap_alloc_new w _
 have k1:W0.heap[w.heap.size + 1]? = some (.cells (scells zeros).toArray 111 (0,0)):=by
  rw [hW0,heap_alloc_old _ _ (by simp)]
  have:=heap_alloc_new (w.alloc (Obj.cells #[Value.int IntKind.i64 i] 3)) (Obj.cells (scells zeros).toArray 111)
  simpa using this
 have k2:W0.heap[w.heap.size + 1 + 1]? = some (.cells #[.slice sa c.length cap] 71 (0,0)):=by
  rw [hW0]
  have:=heap_alloc_new ((w.alloc (Obj.cells #[Value.int IntKind.i64 i] 3)).alloc (Obj.cells (scells zeros).toArray 111)) (Obj.cells #[Value.slice sa c.length cap] 71)
  simpa using this
 have ho0:=own_keep65 HO.out (kept_below (fun _=>False) hb0) (fun _ _ h=>h)
 rw [← hW0]
 clear hW0
 refine wpIn_rangeFunc_ownH rfl (by omega) (gf:=180) (lb:=#[.pointer (some ⟨w.heap.size + 1 + 1,0,none⟩)]) rfl trivial (enters_of Tryz.func180 (by kernel_rfl) rfl)
  (back_stops Fence.wide 2 trivial rfl (by omega) (w.heap.size + 1 + 1) W0.heap.size (.slice sa c.length cap) c hc (by omega) W0 (by omega) (Nat.le_refl _) (cell_of_block k2 rfl) ho0 (fun k hk=>(ho0.lt k hk).2)) belowK_t (belowK_b (Nat.le_refl _)) (Below.refl _ _) (fun _=>rfl)
  (fun pre W=>(∀ e ∈ pre,e.x.1 ≠ i) ∧ Below W0.heap.size W0 W)
  (fun cd pre W=>(cd = .ret ∧ ∃ pre' e,pre = pre' ++ [e] ∧ e.x.1 = i ∧ (∀ e' ∈ pre',e'.x.1 ≠ i) ∧ W.heap[w.heap.size + 1]? = some (.cells (scells e.x.2).toArray 111 (0,0))) ∧ Below w.heap.size w W)
  (fun s X Y row hs hg hr=>⟨hs.1,hs.2.grown hg hs.2.size (fun k e=>(hr k e).1)⟩)
  (fun cd s X Y row hs hg hr=>⟨⟨hs.1.1,by
   obtain ⟨_,pre',e,h1,h2,h3,h4⟩:=hs.1
   exact ⟨pre',e,h1,h2,h3,(hg.block _ (Array.getElem?_eq_some_iff.1 h4).1 (fun e'=>by have:=(hr _ e'.symm).1;omega)).trans h4⟩⟩,hs.2.grown hg hs.2.size (fun k e=>by have:=(hr k e).1;omega)⟩)
  ⟨fun _ h=>by simp at h,Below.refl _ _⟩
  (fun x a' W=>∃ Bx,W0.heap.size ≤ Bx ∧ W.heap[Bx]? = some (.cells (wcell x.x).toArray 113 (0,0)) ∧ a' = { tmps:=#[.pointer (some ⟨p,0,none⟩),.int .i64 i,undef,.pointer (some ⟨w.heap.size,0,none⟩),.pointer (some ⟨w.heap.size + 1,0,none⟩),undef,.pointer (some ⟨Bx,0,none⟩),.pointer (some ⟨p,0,none⟩),.pointer (some ⟨p,0,none⟩),.pointer (some ⟨p,2,none⟩),.slice sa c.length cap,.func (.func 180) #[] #[.pointer (some ⟨w.heap.size + 1 + 1,0,none⟩)],.int .i64 (x.i:Int),.agg (wcell x.x).toArray,undef,undef,undef,undef,undef,undef,undef,undef,undef,undef,undef,undef],defers:=[] })
  (fun x a' _ X Y row hs hg hr=>by
   obtain ⟨Bx,h1,h2,h3⟩:=hs
   exact ⟨Bx,h1,(hg.block Bx (Array.getElem?_eq_some_iff.1 h2).1 (fun e'=>by obtain ⟨o,ho,hcs⟩:=(hr _ e'.symm).2;rw [h2] at ho;cases ho;cases hcs)).trans h2,h3⟩)
  ?assign ?body ?done ?stop
 case assign=>
  rintro l pre x W K ⟨hpre,hB⟩ hK
  simp only [encW]
  gi_wp2_with (first | (refine wpListIn_alloc_z rfl 113 rfl (wcell (0,zeros)).toArray (zero67 _) ?_) | (refine wpListIn_store_new rfl 113 (.tmp 6) (.tmp 13) rfl _ (wcell x.x) (by simp [Act.eval,Act.put]) (by simp [Act.eval,Act.put]) (by rw [wcell_len x.h];exact size67) (by rw [List.size_toArray,wcell_len zeros_sec,wcell_len x.h]) (wcell_one _) ?_))
  exact hK _ _ ((KeepsOthers.alloc _ _).from _) ((Below.refl _ W).alloc hB.size _) ⟨hpre,hB.alloc hB.size _⟩ ⟨W.heap.size,hB.size,heap_alloc_new W _,by simp [Act.put]⟩
 case body=>
  rintro l pre x a' W hl ⟨r,hr⟩ ⟨hpre,hB⟩ ⟨Bx,hBx,hblk,rfl⟩ hlt
  have q0:W.cell? ⟨Bx,0,none⟩ = some (.int .i64 x.x.1):=by
   rw [cell_of_row _ Bx 0 _ _ _ hblk]
   rfl
  have qi:W.cell? ⟨w.heap.size,0,none⟩ = some (.int .i64 i):=cell_of_block ((hB.block _ (by omega)).trans k0) rfl
  by_cases he:x.x.1 = i
  ·have hR:W.heap[w.heap.size + 1]? = some (.cells (scells zeros).toArray 111 (0,0)):=(hB.block _ (by omega)).trans k1
   have hrg:W.rangeAt Bx 1 (scells x.x.2):=fun j v hj=>by
    rw [cell_of_row _ Bx (1 + j) _ _ _ hblk]
    simpa [wcell,Nat.add_comm 1 j] using hj
   have HX:=mkHid x.h
   have HBB:=mkHid hB
   have hs:=hB.size
   gi_wp2_with (first | (refine wpListIn_load_mid rfl 111 (.tmp 18) rfl Bx 1 (by simp [Act.eval,Act.put]) (scells x.x.2) _ hrg Tryz.underlying111 rfl (by rw [x.h.slen];exact size65) ?_) | (refine wpListIn_store_row rfl 111 111 (.tmp 4) (.tmp 19) rfl (w.heap.size + 1) _ (scells x.x.2) hR (by simp [Act.eval,Act.put]) (by simp [Act.eval,Act.put]) (by rw [x.h.slen];exact size65) (by rw [List.size_toArray,zeros_sec.slen,x.h.slen]) (scells_one _) ?_))
   have hg:W.grownBy (W.setRow (w.heap.size + 1) (scells x.x.2).toArray) (some (w.heap.size + 1)):=⟨rfl,rfl,rfl,by simp,fun k _ hk=>setRow_other W (w.heap.size + 1) k _ (fun e=>hk (by rw [e]))⟩
   exact ⟨KeepsFrom.of_grownBy hg (fun k e=>by cases e;omega),⟨rfl,pre,x,rfl,he,hpre,setRow_heap W (w.heap.size + 1) _ _ _ _ hR⟩,(hb0.trans (hB.mono (by omega))).grown hg (by omega) (fun k e=>by cases e;omega)⟩
  ·gi_wp2
   exact ⟨KeepsFrom.refl _ _,Below.refl _ _,fun e h'=>by
    rcases List.mem_append.mp h' with h' | h'
    ·exact hpre e h'
    ·simp at h';subst h';exact he,hB⟩
 case done=>
  rintro D ys W hD rfl ⟨hpre,hB⟩ hK
  gi_wp2
  rw [wpIn_wide]
  have hbw:Below w.heap.size w W:=hb0.trans (hB.mono (by omega))
  have c1:W.drew.cell? ⟨p,1,none⟩ = some (.map (some mb)):=(hbw.cell (p:=⟨p,1,none⟩) hpl).trans HMS.out.1
  have ci:W.drew.cell? ⟨w.heap.size,0,none⟩ = some (.int .i64 i):=cell_of_block ((hB.block _ (by omega)).trans k0) rfl
  have hMW:Ms W mb f:=HMS.out.2.kept (kept_below (fun _=>False) hbw) (fun h=>h)
  have hget:(Instr.lookup 70 (.map (some mb)) (.int .i64 i) false).run Tryz.prog W.drew = .ok (.agg (scells (f i)).toArray) W.drew:=(hMW.kept (Kept.drew (fun _=>False) W) (fun h=>h)).get i
  have HSF:=mkHid (hMW.1 i)
  have HR:Hid (W.drew.heap[w.heap.size + 1]? = some (.cells (scells zeros).toArray 111 (0,0))):=mkHid ((hB.block _ (by omega)).trans k1)
  have hs:=hB.size
  have HWB:=mkHid hbw
  have HKD:=mkHid hK
  have HPRE:=mkHid hpre
  clear hK hMW hbw
  refine wp_normal ?_
  refine wp_region_held_drew (S:=fun w'=>w'.cell? ⟨p,1,none⟩ = some (.map (some mb)) ∧ w'.cell? ⟨w.heap.size,0,none⟩ = some (.int .i64 i)) (by kernel_rfl) ⟨c1,ci⟩ (fun hHeld=>?_)
  refine wpAnyH_take (i:=0) (v:=.pointer (some ⟨p,0,none⟩)) rfl (by kernel_rfl) (by kernel_rfl) (by kernel_rfl) (fun _ _ _ h=>by cases h.1) (Or.inl ⟨by rfl,by intro w hSw;obtain ⟨hs1,hs2⟩:=hSw;go_simp⟩) hHeld ?_
  simp only [Act.put]
  refine wpAnyH_take (i:=1) (v:=.pointer (some ⟨p,0,none⟩)) rfl (by kernel_rfl) (by kernel_rfl) (by kernel_rfl) (fun _ _ _ h=>by cases h.1) (Or.inl ⟨by rfl,by intro w hSw;obtain ⟨hs1,hs2⟩:=hSw;go_simp⟩) hHeld ?_
  simp only [Act.put]
  refine wpAnyH_take (i:=2) (v:=.pointer (some ⟨p,1,none⟩)) rfl (by kernel_rfl) (by kernel_rfl) (by kernel_rfl) (fun _ _ _ h=>by cases h.1) (Or.inl ⟨by rfl,by intro w hSw;obtain ⟨hs1,hs2⟩:=hSw;go_simp⟩) hHeld ?_
  simp only [Act.put]
  refine wpAnyH_take (i:=3) (v:=.map (some mb)) rfl (by kernel_rfl) (by kernel_rfl) (by kernel_rfl) (fun _ _ _ h=>by cases h.1) (Or.inl ⟨by rfl,by intro w hSw;obtain ⟨hs1,hs2⟩:=hSw;go_simp⟩) hHeld ?_
  simp only [Act.put]
  refine wpAnyH_take (i:=4) (v:=.int .i64 i) rfl (by kernel_rfl) (by kernel_rfl) (by kernel_rfl) (fun _ _ _ h=>by cases h.1) (Or.inl ⟨by rfl,by intro w hSw;obtain ⟨hs1,hs2⟩:=hSw;go_simp⟩) hHeld ?_
  simp only [Act.put]
  refine wpAnyH_ready (rs:=[5]) (by kernel_rfl) (by simp) (AllReadyH.cons rfl (fun K hK=>?_) AllReadyH.nil)
  go_simp
  refine hK.out _ _ hHeld (fun hHeld=>?_)
  clear hK K
  refine wpAnyH_ready (rs:=[6]) (by kernel_rfl) (by simp) (AllReadyH.cons rfl (fun K hK=>?_) AllReadyH.nil)
  refine step_store_row (w:=W.drew) rfl 111 111 (.tmp 4) (.tmp 25) rfl (w.heap.size + 1) _ (scells (f i)) HR.out (by simp [Act.eval]) (by simp [Act.eval]) (by rw [HSF.out.slen];exact size65) (by rw [List.size_toArray,zeros_sec.slen,HSF.out.slen]) (scells_one _) ?_
  have hg:W.drew.grownBy (W.drew.setRow (w.heap.size + 1) (scells (f i)).toArray) (some (w.heap.size + 1)):=⟨rfl,rfl,rfl,by simp,fun k _ hk=>setRow_other W.drew (w.heap.size + 1) k _ (fun e=>hk (by rw [e]))⟩
  have kg:Kept (fun k=>k = w.heap.size + 1) W.drew (W.drew.setRow (w.heap.size + 1) (scells (f i)).toArray):=Kept.grown hg (fun k e=>by cases e;rfl)
  refine hK.out _ _ ⟨kg.cell hHeld.1 (show ¬ p = w.heap.size + 1 by omega),kg.cell hHeld.2 (show ¬ w.heap.size = w.heap.size + 1 by omega)⟩ (fun _=>?_)
  clear hK K
  refine wpAnyH_done (by kernel_rfl) ⟨rfl,?_⟩ _
  have hR7:=setRow_heap W.drew (w.heap.size + 1) _ (scells (f i)).toArray _ _ HR.out
  have hK7:(W.drew.setRow (w.heap.size + 1) (scells (f i)).toArray).heap[D]? = some (.deferred (some [])):=(hg.block D (Array.getElem?_eq_some_iff.1 HKD.out).1 (fun e=>by cases e;omega)).trans HKD.out
  have hB7:Below w.heap.size w (W.drew.setRow (w.heap.size + 1) (scells (f i)).toArray):=HWB.out.drew.grown hg (by have:=HWB.out.size;exact this) (fun k e=>by cases e;omega)
  generalize W.drew.setRow (w.heap.size + 1) (scells (f i)).toArray = W7 at *
  gi_wp2
  refine ⟨by simp,.inl ⟨_,_,rfl,run_takeDeferred hK7,?_⟩⟩
  have hgp:=grownBy_putObj' W7 D (.deferred none)
  have hR2:(W7.putObj D (.deferred none)).heap[w.heap.size + 1]? = some (.cells (scells (f i)).toArray 111 (0,0)):=(hgp.block _ (Array.getElem?_eq_some_iff.1 hR7).1 (fun e'=>by cases e';omega)).trans hR7
  rw [seenOf_none f c hc i HPRE.out]
  exact ⟨_,seen_leaves hR2 HSF.out _ rfl,rfl,hB7.grown hgp hB7.size (fun k' e'=>by cases e';omega)⟩
 case stop=>
  rintro D cd pre W hD hS ⟨⟨rfl,pre',e,hp1,hp2,hp3,hR⟩,hB⟩ hK
  gi_wp2
  refine ⟨by simp,.inl ⟨_,_,rfl,run_takeDeferred hK,?_⟩⟩
  have hgp:=grownBy_putObj' W D (.deferred none)
  have hR2:(W.putObj D (.deferred none)).heap[w.heap.size + 1]? = some (.cells (scells e.x.2).toArray 111 (0,0)):=(hgp.block _ (Array.getElem?_eq_some_iff.1 hR).1 (fun e'=>by cases e';omega)).trans hR
  obtain ⟨k,hk,rfl⟩:=hS
  rw [seenOf_found f c hc i k hk pre' e hp1 hp2 hp3]
  have hDl:=(Array.getElem?_eq_some_iff.1 hK).1
  exact ⟨_,seen_leaves hR2 e.h _ rfl,rfl,hB.grown hgp hB.size (fun k' e'=>by cases e';omega)⟩
end Go.Proofs.YtihdkgekickohaaGreatDoor
namespace Go.Proofs.YtihdkgekickohaaGreatDoor
open Go.ChangeShapes Go.WideShapes Go.ChangeAt Go.RowKit
set_option maxRecDepth 100000
theorem find_mem_sec {c:List (Int × List Int)} (hc:∀ x ∈ c,Sec x.2) {f:Int → List Int} (hf:∀ k,Sec (f k)) (i:Int):Sec (seenOf f c i):=by
 unfold seenOf
 split
 ·rename_i x hx
  exact hc x (by simpa using List.mem_of_find?_eq_some hx)
 ·exact hf i
theorem Dk.seen_sec {F:Nat → Prop} {w:World} {p:Nat} {n:Int} {f:Int → List Int} {c:List (Int × List Int)} {nw:Int} {lost:Bool} (h:Dk F w p n f c nw lost) (i:Int):Sec (seenOf f c i):=by
 obtain ⟨_,_,hc,mb,cv,_,_,_,hM,_⟩:=h
 exact find_mem_sec hc hM.1 i
theorem rd_sec (w:World) (s:List Int) (hs:Sec s):Rd (w.alloc (.cells (scells s).toArray 111)) (.slice (some ⟨w.heap.size,0,none⟩) 64 64) s:=by
 refine ⟨hs.byts,some ⟨w.heap.size,0,none⟩,64,by rw [hs.len],by rw [hs.len];exact Nat.le_refl _,fun e=>by simp at e,fun _=>⟨w.heap.size,0,rfl,by simp,fun k hk=>?_⟩⟩
 rw [Nat.zero_add,cell_of_row _ w.heap.size k _ _ _ (heap_alloc_new w _)]
 simp [scells,List.getD,hk]
set_option maxHeartbeats 3200000 in
theorem read_ok (F:Nat → Prop) (w:World) (p:Nat) (n:Int) (f:Int → List Int) (c:List (Int × List Int)) (nw i:Int) (h:Dk F w p n f c nw false) (hcl:c.length ≤ 1000000000000) (h0:0 ≤ i) (hi:i < n) :
  Calls Tryz.prog 137 #[.pointer (some ⟨p,0,none⟩),.int .i64 i] w fun e w'=>∃ z,e = .returned (.tuple #[z,.nilIface]) ∧ w'.ownsRow w.heap.size 5 1 z (seenOf f c i).length ((seenOf f c i).map (Value.int .u8)) ∧ Below w.heap.size w w':=by
 have hS:=h.seen_sec i
 have HSE:=mkHid (seen_any F w p n f c nw i false h hcl)
 obtain ⟨s,hs⟩:∃ s,s = seenOf f c i:=⟨_,rfl⟩
 rw [← hs] at hS HSE ⊢
 have HS:=mkHid hS
 clear hs hS
 go_enter Tryz.func137,Tryz.ntmps137
 go_wp2_with (first | (go_at_call 145;refine (refused_ok F w p n f c nw i h h0 hi).mono ?_;rintro e w1 ⟨rfl,rfl⟩) | (go_at_call 164;refine (HSE.out).mono ?_;rintro e w2 ⟨rfl,hb2⟩) | (refine wpList_alloc_z rfl 111 rfl (scells zeros).toArray (zero65 _) ?_) | (refine wpList_store_new rfl 111 (.tmp 7) (.tmp 16) rfl _ (scells s) (by simp [Act.eval,Act.put]) (by simp [Act.eval,Act.put,sec]) (by rw [HS.out.slen];exact size65) (by rw [List.size_toArray,zeros_sec.slen,HS.out.slen]) (scells_one _) ?_) | (go_at_call 69;refine (clone_any _ _ s (rd_sec w2 s HS.out) (by have:=HS.out.len;omega)).mono ?_;rintro e w3 ⟨v3,rfl,ho3,hb3⟩))
 go_ret2
 have hs2:=hb2.size
 have hb23:Below w1.heap.size w1 w3:=(hb2.alloc hb2.size _).trans (hb3.mono (by simp;omega))
 refine ⟨v3,rfl,⟨ho3.1,ho3.2.imp id ?_⟩,hb23⟩
 rintro ⟨g,cap,cur,e,hg,rest⟩
 exact ⟨g,cap,cur,e,by simp at hg;omega,rest⟩
end Go.Proofs.YtihdkgekickohaaGreatDoor
