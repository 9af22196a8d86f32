import Derived.Test.YtihdkgekickohaaGreatDoorOget
import Derived.Test.YtihdkgekickohaaGreatDoorOsame
namespace Go.Proofs.YtihdkgekickohaaGreatDoor
open Go.ChangeShapes Go.WideShapes Go.ChangeAt Go.RowKit
set_option maxRecDepth 100000
attribute [local go_sem] World.cell?_alloc_some frozen_alloc_some
theorem step_append_src4 {P:Program} {ops:Array Oper} {o:Oper} {a:Act} {w:World} {K:Act → World → Prop} {Q:Exit → Act → World → Prop} {E:Prop} (hgd:o.guard = none) (sl x:Operand) (t tx:TypeId)
  (hop:o.op = .call { callee:=.builtin .append,args:=#[sl,x],argTypes:=#[t,tx] })
  (base:Nat) (e:TypeId) (i:TypeInfo) (ht:P.underlying t = some (.slice e)) (hi:P.info? e = some i) (z:Value) (B:Nat) (hz:i.zero = some z) (hzs:z.cells.size = 4) (hsize:i.size = 4) (hby:i.bytes = B)
  (v:Value) (n:Nat) (xs:List Value) (hs:a.eval sl = v) (hown:w.ownsRow base e 4 v n xs) (xv:Value) (m:Nat) (news:List Value) (hx:a.eval x = xv) (hsrc:Src P 4 tx xv m news w)
  (h63:n + m ≤ maxLen) (hbytes:(n + m) * B ≤ 140737488355328) (hbase:base ≤ w.heap.size)
  (h:∀ v' w',w'.ownsRow base e 4 v' (n + m) (xs ++ news) → w.grownBy w' v.ownBlock → (v'.ownBlock = v.ownBlock ∨ v'.ownBlock = some w.heap.size) → K (a.put o.dst v') w') :
  if Region.wanted o (yielded ops a.tmps) = true then Oper.wp P o a w K Q else E:=by
 have hw:Region.wanted o (yielded ops a.tmps) = true:=by simp [Region.wanted,hgd]
 rw [if_pos hw]
 obtain ⟨v',w',hr,h2,h3,h4⟩:=run_append_own_src4 (P:=P) w base t tx o.type e i ht hi z B hz hzs hsize hby v n xs hown xv m news hsrc h63 hbytes hbase
 unfold Oper.wp execOp
 simp only [hop,resolve,invoke,builtin,Sem.run_bind,Sem.run_pure,Result.andThen_ok,List.map_toArray,List.map_cons,List.map_nil,hs,hx,hr]
 exact h v' w' h2 h3 h4
theorem src_task (w:World) (t:Tk):Src Tryz.prog 4 65 (.slice (some ⟨w.heap.size,0,none⟩) 1 1) 1 (c4 t) (w.alloc (.cells #[.int .i64 t.1,.int .i64 t.2.1,.int .i64 t.2.2.1,.int .i64 t.2.2.2] 137)):=by
 refine Src.ofSlice _ Tryz.underlying65 _ 1 1 _ rfl (fun j u hj=>?_) (fun u hu=>by simp [c4] at hu;rcases hu with rfl | rfl | rfl | rfl <;> rfl)
 have hn:=heap_alloc_new w (.cells #[.int .i64 t.1,.int .i64 t.2.1,.int .i64 t.2.2.1,.int .i64 t.2.2.2] 137)
 rw [add_none]
 match j,hj with
 |0,hj=>simp [c4] at hj;subst hj;exact cell_of_block hn rfl
 |1,hj=>simp [c4] at hj;subst hj;exact cell_of_block hn rfl
 |2,hj=>simp [c4] at hj;subst hj;exact cell_of_block hn rfl
 |3,hj=>simp [c4] at hj;subst hj;exact cell_of_block hn rfl
 |j + 4,hj=>simp [c4] at hj
def S4 (w':World) (h:Nat) (x0 x1 x2 x3:Int):Prop:=w'.cell? ⟨h,0,none⟩ = some (.int .i64 x0) ∧ w'.cell? ⟨h,1,none⟩ = some (.int .i64 x1) ∧ w'.cell? ⟨h,2,none⟩ = some (.int .i64 x2) ∧ w'.cell? ⟨h,3,none⟩ = some (.int .i64 x3)
theorem own_up4 {w:World} {b c:Nat} {e:TypeId} {v:Value} {n:Nat} {xs:List Value} (h:w.ownsRow c e 4 v n xs) (hb:b ≤ c):w.ownsRow b e 4 v n xs:=
 ⟨h.1,h.2.imp id (fun ⟨g,cap,cur,e,hg,rest⟩=>⟨g,cap,cur,e,Nat.le_trans hb hg,rest⟩)⟩
theorem own4_kept {G:Nat → Prop} {w w':World} {b:Nat} {e:TypeId} {v:Value} {n:Nat} {xs:List Value} (h:w.ownsRow b e 4 v n xs) (hk:Kept G w w') (hn:∀ k,v.ownBlock = some k → ¬ G k):w'.ownsRow b e 4 v n xs:=by
 refine ⟨h.1,?_⟩
 rcases h.2 with h1 | ⟨g,cap,cur,rfl,hbg,hg,rest⟩
 ·exact .inl h1
 ·exact .inr ⟨g,cap,cur,rfl,hbg,by rw [hk.block g (by have:=(h.lt g rfl).2;exact this) (hn g rfl)];exact hg,rest⟩
structure GE (F:Nat → Prop) (w wr:World) (p E:Nat) (bs:List Int) (i:Nat) (cl nu ki id sk sq st po tm:Int) (ts:List Tk) (j:Nat) (ta:Option Addr) (tc:Nat):Prop where
 rr:Rr F wr p bs i
 lt:∀ k,F k → k < w.heap.size
 blk:wr.heap[E]? = some (.cells #[.int .i64 cl,.int .i64 nu,.int .i64 ki,.int .i64 id,.int .i64 sk,.int .i64 sq,.int .i64 st,.int .i64 po,.slice ta j tc,.int .i64 tm] 69 (0,0))
 res:wr.heap[w.heap.size]? = some (.cells #[.int .i64 0,.int .i64 0,.int .i64 0,.int .i64 0,.int .i64 0,.int .i64 0,.int .i64 0,.int .i64 0,.slice none 0 0,.int .i64 0] 69 (0,0))
 own:wr.ownsRow (w.heap.size + 1) 137 4 (.slice ta j tc) j ((ts.take j).flatMap c4)
 ne:∀ k,(Value.slice ta j tc).ownBlock = some k → k ≠ E
 hE:w.heap.size < E
 base:w.heap.size + 1 ≤ wr.heap.size
 kept:Kept F w wr
theorem GE.kept' {F G:Nat → Prop} {w wr w':World} {p E:Nat} {bs:List Int} {i i':Nat} {cl nu ki id sk sq st po tm:Int} {ts:List Tk} {j:Nat} {ta:Option Addr} {tc:Nat} (h:GE F w wr p E bs i cl nu ki id sk sq st po tm ts j ta tc) (hk:Kept G wr w') (hG:∀ k,G k → F k ∨ wr.heap.size ≤ k) (hr:Rr F w' p bs i'):GE F w w' p E bs i' cl nu ki id sk sq st po tm ts j ta tc:=by
 have hnG:∀ k,w.heap.size ≤ k → k < wr.heap.size → ¬ G k:=fun k h1 h2 g=>by rcases hG k g with a | a;have:=h.lt k a;omega;omega
 have hEl:E < wr.heap.size:=by have:=h.blk;exact (Array.getElem?_eq_some_iff.mp this).1
 refine ⟨hr,h.lt,?_,?_,own4_kept h.own hk (fun k e=>?_),h.ne,h.hE,Nat.le_trans h.base hk.size,h.kept.trans hk (fun k g=>?_)⟩
 ·rw [hk.block E hEl (hnG E (Nat.le_of_lt h.hE) hEl)];exact h.blk
 ·rw [hk.block _ (by have:=h.base;omega) (hnG _ (Nat.le_refl _) (by have:=h.base;omega))];exact h.res
 ·have:=h.own.lt k e;exact hnG k (by omega) this.2
 ·have:=h.kept.size;rcases hG k g with a | a;exact .inl a;exact .inr (by omega)
theorem GE.below {F:Nat → Prop} {w wr w':World} {p E:Nat} {bs:List Int} {i:Nat} {cl nu ki id sk sq st po tm:Int} {ts:List Tk} {j:Nat} {ta:Option Addr} {tc:Nat} (h:GE F w wr p E bs i cl nu ki id sk sq st po tm ts j ta tc) (hb:Below wr.heap.size wr w'):GE F w w' p E bs i cl nu ki id sk sq st po tm ts j ta tc:=
 h.kept' (kept_of_below hb) (fun _ hk=>.inr hk) (h.rr.below hb)
theorem GE.grown {F:Nat → Prop} {w wr w':World} {p E:Nat} {bs:List Int} {i:Nat} {cl nu ki id sk sq st po tm:Int} {ts:List Tk} {j:Nat} {ta ta2:Option Addr} {tc tc2:Nat} {x:Tk} (h:GE F w wr p E bs i cl nu ki id sk sq st po tm ts j ta tc) (hx:ts[j]? = some x) (ho:w'.ownsRow (w.heap.size + 1) 137 4 (.slice ta2 (j + 1) tc2) (j + 1) ((ts.take j).flatMap c4 ++ c4 x)) (hg:wr.grownBy w' (Value.slice ta j tc).ownBlock) (hv:(Value.slice ta2 (j + 1) tc2).ownBlock = (Value.slice ta j tc).ownBlock ∨ (Value.slice ta2 (j + 1) tc2).ownBlock = some wr.heap.size) :
  w'.heap[E]? = some (.cells #[.int .i64 cl,.int .i64 nu,.int .i64 ki,.int .i64 id,.int .i64 sk,.int .i64 sq,.int .i64 st,.int .i64 po,.slice ta j tc,.int .i64 tm] 69 (0,0)) ∧ GE F w (w'.setCell ⟨E,8,none⟩ (.slice ta2 (j + 1) tc2)) p E bs i cl nu ki id sk sq st po tm ts (j + 1) ta2 tc2:=by
 have hEl:E < wr.heap.size:=(Array.getElem?_eq_some_iff.mp h.blk).1
 have hk:=Kept.grown hg (F:=fun k=>(Value.slice ta j tc).ownBlock = some k) (fun k hk=>hk)
 have hb':w'.heap[E]? = some (.cells #[.int .i64 cl,.int .i64 nu,.int .i64 ki,.int .i64 id,.int .i64 sk,.int .i64 sq,.int .i64 st,.int .i64 po,.slice ta j tc,.int .i64 tm] 69 (0,0)):=by
  rw [hk.block E hEl (fun e=>h.ne E e rfl)];exact h.blk
 have hne2:∀ k,(Value.slice ta2 (j + 1) tc2).ownBlock = some k → k ≠ E:=by
  intro k e
  rcases hv with a | a
  ·exact h.ne k (a ▸ e)
  ·rw [a] at e;simp at e;omega
 have k2:=Kept.setCell (F:=fun k=>k = E) w' (p:=⟨E,8,none⟩) rfl (.slice ta2 (j + 1) tc2)
 have hF:∀ k,F k → ¬ (Value.slice ta j tc).ownBlock = some k:=fun k f e=>by have:=h.lt k f;have:=(h.own.lt k e).1;omega
 have hFE:∀ k,F k → ¬ k = E:=fun k f e=>by have:=h.lt k f;have:=h.hE;omega
 refine ⟨hb',(h.rr.kept hk hF).kept k2 hFE,h.lt,by rw [heap_set hb'];rfl,?_,own4_kept ?_ k2 hne2,hne2,h.hE,Nat.le_trans h.base (Nat.le_trans hk.size k2.size),(h.kept.trans hk (fun k e=>.inr (by have:=(h.own.lt k e).1;omega))).trans k2 (fun k e=>.inr (by have:=h.hE;omega))⟩
 ·rw [k2.block _ (by have:=h.base;have:=hk.size;omega) (by have:=h.hE;omega),hk.block _ (by have:=h.base;omega) (fun e=>by have:=(h.own.lt _ e).1;omega)]
  exact h.res
 ·rw [List.take_add_one,hx,List.flatMap_append]
  simpa using ho
theorem nine_cells {w:World} {b:Nat} {ty:TypeId} {c0 c1 c2 c3 c4 c5 c6 c7 c8:Value} (h:w.heap[b]? = some (.cells #[c0,c1,c2,c3,c4,c5,c6,c7,c8] ty (0,0))):w.cell? ⟨b,0,none⟩ = some c0 ∧ w.cell? ⟨b,1,none⟩ = some c1 ∧ w.cell? ⟨b,2,none⟩ = some c2 ∧ w.cell? ⟨b,3,none⟩ = some c3 ∧ w.cell? ⟨b,4,none⟩ = some c4 ∧ w.cell? ⟨b,5,none⟩ = some c5 ∧ w.cell? ⟨b,6,none⟩ = some c6 ∧ w.cell? ⟨b,7,none⟩ = some c7 ∧ w.cell? ⟨b,8,none⟩ = some c8:=
 ⟨cell_of_block h rfl,cell_of_block h rfl,cell_of_block h rfl,cell_of_block h rfl,cell_of_block h rfl,cell_of_block h rfl,cell_of_block h rfl,cell_of_block h rfl,cell_of_block h rfl⟩
theorem ent_frozen {w:World} {b:Nat} {cs:Array Value} (h:w.heap[b]? = some (.cells cs 69 (0,0))):w.frozen? ⟨b,0,none⟩ = false ∧ w.frozen? ⟨b,1,none⟩ = false ∧ w.frozen? ⟨b,2,none⟩ = false ∧ w.frozen? ⟨b,3,none⟩ = false ∧ w.frozen? ⟨b,4,none⟩ = false ∧ w.frozen? ⟨b,5,none⟩ = false ∧ w.frozen? ⟨b,6,none⟩ = false ∧ w.frozen? ⟨b,7,none⟩ = false ∧ w.frozen? ⟨b,8,none⟩ = false ∧ w.frozen? ⟨b,9,none⟩ = false:=
 ⟨frozen_of_block h,frozen_of_block h,frozen_of_block h,frozen_of_block h,frozen_of_block h,frozen_of_block h,frozen_of_block h,frozen_of_block h,frozen_of_block h,frozen_of_block h⟩
abbrev set10 (w:World) (b:Nat) (v0 v1 v2 v3 v4 v5 v6 v7 v8 v9:Value):World:=(((((((((w.setCell ⟨b,0,none⟩ v0).setCell ⟨b,1,none⟩ v1).setCell ⟨b,2,none⟩ v2).setCell ⟨b,3,none⟩ v3).setCell ⟨b,4,none⟩ v4).setCell ⟨b,5,none⟩ v5).setCell ⟨b,6,none⟩ v6).setCell ⟨b,7,none⟩ v7).setCell ⟨b,8,none⟩ v8).setCell ⟨b,9,none⟩ v9
theorem set10_heap {w:World} {b:Nat} {c0 c1 c2 c3 c4 c5 c6 c7 c8 c9:Value} {ty:TypeId} (h:w.heap[b]? = some (.cells #[c0,c1,c2,c3,c4,c5,c6,c7,c8,c9] ty (0,0))) (v0 v1 v2 v3 v4 v5 v6 v7 v8 v9:Value):(set10 w b v0 v1 v2 v3 v4 v5 v6 v7 v8 v9).heap[b]? = some (.cells #[v0,v1,v2,v3,v4,v5,v6,v7,v8,v9] ty (0,0)):=by
 unfold set10
 rw [heap_set (heap_set (heap_set (heap_set (heap_set (heap_set (heap_set (heap_set (heap_set (heap_set h)))))))))]
 kernel_rfl
theorem kset {F:Nat → Prop} {w w':World} (h:Kept F w w') {b:Nat} (hb:F b ∨ w.heap.size ≤ b) (k:Nat) (v:Value):Kept F w (w'.setCell ⟨b,k,none⟩ v):=
 h.trans (Kept.setCell (F:=fun i=>i = b) w' (p:=⟨b,k,none⟩) rfl v) (fun i e=>by subst e;exact hb)
theorem set10_kept {F:Nat → Prop} {w w':World} (h:Kept F w w') {b:Nat} (hb:F b ∨ w.heap.size ≤ b) (v0 v1 v2 v3 v4 v5 v6 v7 v8 v9:Value):Kept F w (set10 w' b v0 v1 v2 v3 v4 v5 v6 v7 v8 v9):=
 kset (kset (kset (kset (kset (kset (kset (kset (kset (kset h hb 0 v0) hb 1 v1) hb 2 v2) hb 3 v3) hb 4 v4) hb 5 v5) hb 6 v6) hb 7 v7) hb 8 v8) hb 9 v9
theorem results_cell_tmp {fn:Func} {p u:Tmp} {ty:TypeId} (h:fn.results = #[.cell p ty,.tmp u]) (tmps:Array Value) (P:Program) (w:World) :
  (results fn tmps).run P w = ((asAddr (tmps.getD p undef)).run P w).andThen fun a w₁=>((loadVar ty a).run P w₁).andThen fun v w₂=>.ok (.tuple #[v,tmps.getD u undef]) w₂:=by
 simp only [results,h]
 simp [Sem.run_bind,Result.andThen]
theorem ent_leaves {W:World} {R:Nat} {p u:Tmp} {fn:Func} {c0 c1 c2 c3 c4 c5 c6 c7 c8 c9:Value} (hf:fn.results = #[.cell p 69,.tmp u]) (hR:W.heap[R]? = some (.cells #[c0,c1,c2,c3,c4,c5,c6,c7,c8,c9] 69 (0,0))) (tmps:Array Value) (h2:tmps.getD p undef = .pointer (some ⟨R,0,none⟩)):(results fn tmps).run Tryz.prog W = .ok (.tuple #[.agg #[c0,c1,c2,c3,c4,c5,c6,c7,c8,c9],tmps.getD u undef]) W:=by
 have hl:=run_loadVar_row (P:=Tryz.prog) W R 69 69 #[c0,c1,c2,c3,c4,c5,c6,c7,c8,c9] (0,0) _ hR Tryz.underlying69 rfl sizeE
 rw [results_cell_tmp hf,h2]
 simp [asAddr,Result.andThen,hl]
theorem encN_cons (n:Nat) (l:List Int):encL ((n:Int) :: l) = enc n ++ encL l:=by rw [encL_cons,Int.toNat_natCast]
theorem keptF {F:Nat → Prop} {w w':World} (h:Kept (fun k=>F k ∨ w.heap.size ≤ k) w w'):Kept F w w':=⟨h.os,h.tape,h.output,h.size,fun k hk hn=>h.block k hk (fun e=>by rcases e with e | e;exact hn e;omega)⟩
theorem ge_start {F:Nat → Prop} {w w3 w4:World} {p:Nat} {bs:List Int} {i:Nat} (hlt:∀ k,F k → k < w.heap.size) (hr:Rr F w3 p bs i) (hres:w3.heap[w.heap.size]? = some (.cells #[.int .i64 0,.int .i64 0,.int .i64 0,.int .i64 0,.int .i64 0,.int .i64 0,.int .i64 0,.int .i64 0,.slice none 0 0,.int .i64 0] 69 (0,0))) (hk:Kept F w w3) (hs:w.heap.size + 2 ≤ w3.heap.size) (hb:Below w3.heap.size w3 w4) (cl nu ki id sk sq st po tm:Int) (ts:List Tk) :
  GE F w (w4.alloc (.cells #[.int .i64 cl,.int .i64 nu,.int .i64 ki,.int .i64 id,.int .i64 sk,.int .i64 sq,.int .i64 st,.int .i64 po,.slice none 0 0,.int .i64 tm] 69)) p w4.heap.size bs i cl nu ki id sk sq st po tm ts 0 none 0:=by
 have hb5:Below w3.heap.size w3 (w4.alloc (.cells #[.int .i64 cl,.int .i64 nu,.int .i64 ki,.int .i64 id,.int .i64 sk,.int .i64 sq,.int .i64 st,.int .i64 po,.slice none 0 0,.int .i64 tm] 69)):=ba hb _
 have:=hb.size
 refine ⟨hr.below hb5,hlt,heap_alloc_new w4 _,by rw [hb5.block _ (by omega)];exact hres,World.ownsRow_nil _ _ _ _,fun k e=>by simp [Value.ownBlock] at e,by omega,by have:=hb5.size;omega,hk.trans (kept_of_below hb5) (fun k hk=>.inr (by omega))⟩
def okN (e:En):Prop:=e.ts.length ≤ 8 ∧ ∀ n ∈ nums e,amt n
theorem okN.head {e:En} (h:okN e):∀ n ∈ hnum e,amt n:=fun n hn=>h.2 n (by simp [nums,hn])
theorem okN.task {e:En} (h:okN e) {t:Tk} (ht:t ∈ e.ts):∀ n ∈ tnum t,amt n:=fun n hn=>h.2 n (by simp only [nums,List.mem_append,List.mem_cons,List.mem_flatMap];exact .inr (.inr ⟨t,ht,hn⟩))
theorem okN.part {e:En} (h:okN e) (j:Nat):((encL (hnum e) ++ enc e.ts.length ++ encL ((e.ts.take j).flatMap tnum)).length:Int) ≤ 1000:=by
 have l1:=encL_len (hnum e) (fun n hn=>by have:=(h.head n hn).2;omega)
 have l2:=enc_len9 e.ts.length (by have:=h.1;omega)
 have l3:=encL_len ((e.ts.take j).flatMap tnum) (fun n hn=>by
  obtain ⟨t,hm,hn⟩:=List.mem_flatMap.mp hn
  have:=(h.task (List.mem_of_mem_take hm) n hn).2
  omega)
 have:=h.1
 rw [tnum_len,List.length_take] at l3
 have l4:(hnum e).length = 9:=rfl
 simp only [List.length_append]
 omega
set_option maxHeartbeats 25600000 in
theorem getEntry_yes (F:Nat → Prop) (B:Nat) (w:World) (p:Nat) (bs:List Int) (ea:Addr) (e:En) (s:List Int) (h:Rr F w p bs 0) (hl:(bs.length:Int) ≤ 140737488355328) (he:w.cell? ⟨4,0,none⟩ = some (vErr ea)) (hg:4 < B) (hB:∀ k,F k → B ≤ k) (hBw:B ≤ w.heap.size) (ho:okN e) (hd:bs = encL (nums e) ++ s) :
  Calls Tryz.prog 181 #[.pointer (some ⟨p,0,none⟩)] w fun r w'=>∃ ta tc,r = .returned (.tuple #[vN e (.slice ta e.ts.length tc),.nilIface]) ∧ w'.ownsRow (w.heap.size + 1) 137 4 (.slice ta e.ts.length tc) e.ts.length (e.ts.flatMap c4) ∧ Rr F w' p bs (encL (nums e)).length ∧ Kept F w w':=by
 obtain ⟨ie,hi,hz0,hz1,hz2⟩:=info_parts info_task
 obtain ⟨zth,hzth⟩:∃ z:Value,z = .agg #[.int .i64 0,.int .i64 0,.int .i64 0,.int .i64 0]:=⟨_,rfl⟩
 rw [← hzth] at hz0
 have HZ:Hid (zth.cells.size = 4):=mkHid (by rw [hzth];rfl)
 have hie:=mkHid (And.intro hi (And.intro hz0 (And.intro hz1 hz2)))
 have HO:=mkHid ho
 have HD:=mkHid hd
 have HF:=mkHid (And.intro hg (And.intro hB hBw))
 have HLT:=mkHid h.1
 have HEV:=mkHid he
 obtain ⟨cl,nu,ki,id,sk,sq,st,po,ts,tm⟩:=e
 obtain ⟨W2,hW2⟩:∃ W2,W2 = (w.alloc (.cells #[.int .i64 0,.int .i64 0,.int .i64 0,.int .i64 0,.int .i64 0,.int .i64 0,.int .i64 0,.int .i64 0,.slice none 0 0,.int .i64 0] 69)).alloc (.cells #[.int .i64 0,.int .i64 0,.int .i64 0,.int .i64 0,.int .i64 0,.int .i64 0,.int .i64 0,.int .i64 0,.int .i64 0] 200):=⟨_,rfl⟩
 have hb2:Below w.heap.size w W2:=by rw [hW2];exact ba (ba (Below.refl _ w) _) _
 have hr2:W2.heap[w.heap.size]? = some (.cells #[.int .i64 0,.int .i64 0,.int .i64 0,.int .i64 0,.int .i64 0,.int .i64 0,.int .i64 0,.int .i64 0,.slice none 0 0,.int .i64 0] 69 (0,0)):=by rw [hW2];exact (two_facts (Below.refl _ _)).1
 have hh2:W2.heap[w.heap.size + 1]? = some (.cells (arrOf [] 9) 200 (0,0)):=by rw [hW2];exact (two_facts (Below.refl _ _)).2
 have hs2:W2.heap.size = w.heap.size + 2:=by rw [hW2];simp
 have HA:=mkHid (getAll_yes F B W2 p (w.heap.size + 1) 9 9 200 bs 0 (vErr ea) [cl,nu,ki,tm,id,sk,sq,st,po] (enc ts.length ++ encL (ts.flatMap tnum) ++ s) (h.below hb2) hl (kc he hb2) hg hB (by omega) (by omega) (fun f=>by have:=h.1 _ f;omega) hh2 (by omega) rfl (fun x hx=>ho.head x hx) (by
  rw [List.drop_zero,hd];simp [nums,hnum,encL_cons,encL_nil]))
 have H2:=mkHid (And.intro hb2 (And.intro hr2 hs2))
 clear ho hd hg hB hBw hi hz0 hz1 hz2 hzth hb2 hr2 hh2 hs2 he h
 go_enter Tryz.func181,Tryz.ntmps181
 go_wp2_with (first
  |(go_at_call 182;rw [← hW2];clear hW2;refine HA.out.mono ?_;rintro r w3 ⟨rfl,q1,q2,q3⟩;obtain ⟨h0,h1,h2,h3,h4,h5,h6,h7,h8⟩:=nine_cells (w:=w3) (by simpa using q1);have H3:=mkHid (And.intro q2 q3);clear q1 q2 q3))
 have HRES:Hid (w3.heap[w.heap.size]? = some (.cells #[.int .i64 0,.int .i64 0,.int .i64 0,.int .i64 0,.int .i64 0,.int .i64 0,.int .i64 0,.int .i64 0,.slice none 0 0,.int .i64 0] 69 (0,0))):=mkHid (by
  rw [H3.out.2.block _ (by have:=H2.out.2.2;omega) (fun e=>by rcases e with e | e;have:=HLT.out _ e;omega;omega)];exact H2.out.2.1)
 have HK3:Hid (Kept F w w3):=mkHid (((kept_of_below H2.out.1).mono (G:=fun k=>F k ∨ w.heap.size ≤ k) (fun k hk=>.inr hk) |>.trans H3.out.2 (fun k hk=>by rcases hk with a | a;exact .inl (.inl a);exact .inl (.inr (by omega)))) |> keptF)
 have HS3:Hid (w.heap.size + 2 ≤ w3.heap.size):=mkHid (by have:=H3.out.2.size;have:=H2.out.2.2;omega)
 have HDI:Hid (bs.drop (0 + (encL [cl,nu,ki,tm,id,sk,sq,st,po]).length) = enc ts.length ++ (encL (ts.flatMap tnum) ++ s)):=mkHid (by
  have hq:encL (nums ⟨cl,nu,ki,id,sk,sq,st,po,ts,tm⟩) = encL [cl,nu,ki,tm,id,sk,sq,st,po] ++ (enc ts.length ++ encL (ts.flatMap tnum)):=by
   simp only [nums,hnum]
   rw [encL_append,encN_cons]
  rw [Nat.zero_add,HD.out,hq,List.append_assoc,List.drop_left,List.append_assoc])
 have hts8:(ts.length:Int) ≤ 8:=by have:=HO.out.1;simp only at this;omega
 go_wp2_with (first
  |(go_at_call 183;refine (entryOf_any w3 cl nu ki tm id sk sq st po).mono ?_;rintro r w4 ⟨rfl,b4⟩;have HG5:Hid (GE F w (w4.alloc (.cells #[.int .i64 cl,.int .i64 nu,.int .i64 ki,.int .i64 id,.int .i64 sk,.int .i64 sq,.int .i64 st,.int .i64 po,.slice none 0 0,.int .i64 tm] 69)) p w4.heap.size bs (0 + (encL [cl,nu,ki,tm,id,sk,sq,st,po]).length) cl nu ki id sk sq st po tm ts 0 none 0):=mkHid (ge_start HLT.out H3.out.1 HRES.out HK3.out HS3.out b4 cl nu ki id sk sq st po tm ts);clear b4)
  |(go_at_call 139;refine (rnum_yes F _ p bs _ 8 (vErr ea) ts.length (encL (ts.flatMap tnum) ++ s) HG5.out.rr hl (HG5.out.kept.cell HEV.out (fun f=>Nat.lt_irrefl _ (Nat.lt_of_lt_of_le HF.out.1 (HF.out.2.1 _ f)))) HDI.out hts8 (by omega)).mono ?_;rintro r w6 ⟨rfl,q1,q2⟩;have HG6:=mkHid (HG5.out.kept' q2 (fun k hk=>.inl hk) q1);clear q1 q2 HG5))
 have HI0:Hid (bs.drop (0 + (encL [cl,nu,ki,tm,id,sk,sq,st,po]).length + (enc ts.length).length) = encL (ts.flatMap tnum) ++ s ∧ 0 + (encL [cl,nu,ki,tm,id,sk,sq,st,po]).length + (enc ts.length).length + (encL (ts.flatMap tnum)).length = (encL (nums ⟨cl,nu,ki,id,sk,sq,st,po,ts,tm⟩)).length):=mkHid ⟨by rw [← List.drop_drop,HDI.out,List.drop_left],by
  simp only [nums,hnum]
  rw [encL_append,encN_cons,List.length_append,List.length_append]
  omega⟩
 generalize 0 + (encL [cl,nu,ki,tm,id,sk,sq,st,po]).length + (enc ts.length).length = I0 at *
 generalize hE:w4.heap.size = E at *
 clear hE h0 h1 h2 h3 h4 h5 h6 h7 h8 HA H2 H3 HRES HK3 HS3 HDI
 go_loopw [30] (fun iv wr=>∃ (j:Nat) (ta:Option Addr) (tc:Nat),iv = .int .i64 (j:Int) ∧ j ≤ ts.length ∧ Hid (GE F w wr p E bs (I0 + (encL ((ts.take j).flatMap tnum)).length) cl nu ki id sk sq st po tm ts j ta tc)) (fun iv _=>ts.length - (intOf iv).toNat)
 case atStart=>exact ⟨0,none,0,rfl,Nat.zero_le _,by simpa [encL_nil] using HG6⟩
 case round=>
  obtain ⟨j,ta,tc,rfl,hj,HGW⟩:=hrel
  clear HG6
  by_cases hlt:j < ts.length
  ·have hji:(j:Int) < ts.length:=by omega
   obtain ⟨⟨x0,x1,x2,x3⟩,hxj⟩:∃ x,ts[j]? = some x:=⟨_,List.getElem?_eq_getElem hlt⟩
   have HXJ:=mkHid hxj
   have HSTEP:Hid (bs.drop (I0 + (encL ((ts.take j).flatMap tnum)).length) = encL [x0,x1,x2,x3] ++ (encL ((ts.drop (j + 1)).flatMap tnum) ++ s) ∧ I0 + (encL ((ts.take j).flatMap tnum)).length + (encL [x0,x1,x2,x3]).length = I0 + (encL ((ts.take (j + 1)).flatMap tnum)).length):=mkHid (by
    have e1:ts = ts.take j ++ ((x0,x1,x2,x3) :: ts.drop (j + 1)):=by
     conv=>lhs;rw [← List.take_append_drop j ts]
     congr 1
     rw [List.drop_eq_getElem_cons hlt]
     congr 1
     exact (List.getElem?_eq_some_iff.mp hxj).2
    have e2:encL (ts.flatMap tnum) = encL ((ts.take j).flatMap tnum) ++ (encL [x0,x1,x2,x3] ++ encL ((ts.drop (j + 1)).flatMap tnum)):=by
     conv=>lhs;rw [e1]
     rw [List.flatMap_append,List.flatMap_cons,encL_append,encL_append]
     rfl
    refine ⟨by rw [← List.drop_drop,HI0.out.1,e2,List.append_assoc,List.drop_left,List.append_assoc],?_⟩
    rw [List.take_add_one,hxj,List.flatMap_append,encL_append,List.length_append]
    simp [tnum]
    omega)
   have HA7:=mkHid (getAll_yes F B (wr.alloc (.cells #[.int .i64 0,.int .i64 0,.int .i64 0,.int .i64 0] 203)) p wr.heap.size 4 4 203 bs _ (vErr ea) [x0,x1,x2,x3] _ (HGW.out.rr.below ((Below.refl _ wr).alloc (Nat.le_refl _) _)) hl (kl (HGW.out.kept.cell HEV.out (fun f=>Nat.lt_irrefl _ (Nat.lt_of_lt_of_le HF.out.1 (HF.out.2.1 _ f)))) _) HF.out.1 HF.out.2.1 (by have:=HF.out.2.2;have:=HGW.out.kept.size;omega) (by have:=HF.out.2.2;have:=HGW.out.kept.size;simp;omega) (fun f=>by have:=HGW.out.lt _ f;have:=HGW.out.kept.size;omega) (heap_alloc_new wr _) (by omega) rfl (fun x hx=>HO.out.task (List.mem_of_getElem? hxj) x hx) HSTEP.out.1)
   have HNW:Hid (¬ (Value.slice ta j tc).ownBlock = some wr.heap.size):=mkHid (fun e=>by have:=(HGW.out.own.lt _ e).2;omega)
   have HNE:Hid (¬ wr.heap.size = E):=mkHid (fun e=>by have:=(Array.getElem?_eq_some_iff.mp HGW.out.blk).1;omega)
   clear hxj
   go_wp2_with (go_at_call 182;refine HA7.out.mono ?_;rintro r w7 ⟨rfl,q1,q2,q3⟩;have HQ7:Hid (S4 w7.drew wr.heap.size x0 x1 x2 x3):=mkHid ⟨cell_of_block q1 rfl,cell_of_block q1 rfl,cell_of_block q1 rfl,cell_of_block q1 rfl⟩;rw [HSTEP.out.2] at q2;have HG:=mkHid (HGW.out.kept' (G:=fun k=>F k ∨ k = wr.heap.size) ((Kept.alloc _ _ _).trans q3 (fun k hk=>.inl hk)) (fun k hk=>by rcases hk with a | a;exact .inl a;exact .inr (by omega)) q2);clear q1 q2 q3)
   refine wp_region_held_drew (S:=fun w'=>S4 w' wr.heap.size x0 x1 x2 x3) (by kernel_rfl) HQ7.out (fun hHeld=>?_)
   simp only [S4] at hHeld ⊢
   refine tkE 0 39 (.pointer (some ⟨E,2,none⟩)) rfl rfl hHeld ?_
   simp only [List.set_cons_zero,List.set_cons_succ]
   refine tkE 1 40 (.pointer (some ⟨E,8,none⟩)) rfl rfl hHeld ?_
   simp only [List.set_cons_zero,List.set_cons_succ]
   refine tkE 3 42 (.agg #[.int .i64 x0,.int .i64 x1,.int .i64 x2,.int .i64 x3]) rfl rfl hHeld ?_
   simp only [List.set_cons_zero,List.set_cons_succ]
   have HG7:=mkHid (HG.out.below (Below.refl _ w7).drew)
   refine wpAnyH_ready (rs:=[2,4]) (by kernel_rfl) (by simp) (AllReadyH.cons rfl (fun K hK=>?_) (AllReadyH.cons rfl (fun K hK=>?_) AllReadyH.nil))
   ·have e8:w7.drew.cell? ⟨E,8,none⟩ = some (.slice ta j tc):=cell_of_block HG7.out.blk rfl
    go_simp
    refine hK.out _ _ hHeld (fun hHeld=>?_)
    clear hK K e8
    refine wpAnyH_ready (rs:=[4]) (by kernel_rfl) (by simp) (AllReadyH.cons rfl (fun K hK=>?_) AllReadyH.nil)
    go_simp
    refine (taskOf_any _ (x0,x1,x2,x3)).mono ?_
    rintro r w8 ⟨rfl,hb8⟩
    have HG8:=mkHid (HG7.out.below hb8)
    have HQ8:=mkHid (And.intro (kc hHeld.1 hb8) (And.intro (kc hHeld.2.1 hb8) (And.intro (kc hHeld.2.2.1 hb8) (kc hHeld.2.2.2 hb8))))
    clear hb8
    refine hK.out _ _ HQ8.out (fun hHeld=>?_)
    clear hK K
    have HQ9:Hid (S4 (w8.alloc (.cells #[.int .i64 x0,.int .i64 x1,.int .i64 x2,.int .i64 x3] 137)) wr.heap.size x0 x1 x2 x3):=mkHid ⟨kl hHeld.1 _,kl hHeld.2.1 _,kl hHeld.2.2.1 _,kl hHeld.2.2.2 _⟩
    have HG9:=mkHid (HG8.out.below ((Below.refl _ w8).alloc (Nat.le_refl _) (.cells #[.int .i64 x0,.int .i64 x1,.int .i64 x2,.int .i64 x3] 137)))
    have HS9:=mkHid (src_task w8 (x0,x1,x2,x3))
    have HH8:=mkHid hHeld
    refine wpAnyH_ready (rs:=[5]) (by kernel_rfl) (by simp) (AllReadyH.cons rfl (fun K hK=>?_) AllReadyH.nil)
    go_simp
    refine hK.out _ _ HQ9.out (fun hHeld=>?_)
    clear hK K
    (try simp only [Act.put])
    refine wpAnyH_ready (rs:=[6]) (by kernel_rfl) (by simp) (AllReadyH.cons rfl (fun K hK=>?_) AllReadyH.nil)
    refine step_append_src4 (w:=w8.alloc (.cells #[.int .i64 x0,.int .i64 x1,.int .i64 x2,.int .i64 x3] 137)) rfl (.tmp 41) (.tmp 44) 65 65 rfl (w.heap.size + 1) 137 ie Tryz.underlying65 hie.out.1 zth 32 hie.out.2.1 HZ.out hie.out.2.2.1 hie.out.2.2.2 (.slice ta j tc) j ((ts.take j).flatMap c4) (by simp [Act.eval]) HG9.out.own (.slice (some ⟨w8.heap.size,0,none⟩) 1 1) 1 (c4 (x0,x1,x2,x3)) (by simp [Act.eval]) HS9.out (by unfold maxLen;omega) (by omega) HG9.out.base ?_
    intro v10 w10 ho10 hg10 hv10
    obtain ⟨ta2,tc2,rfl⟩:=own_shape ho10
    have HG10:=mkHid (HG9.out.grown HXJ.out ho10 hg10 hv10)
    have HQ10:Hid (S4 w10 wr.heap.size x0 x1 x2 x3):=mkHid (by
     have hk:=Kept.grown hg10 (F:=fun k=>(Value.slice ta j tc).ownBlock = some k) (fun k hk=>hk)
     have hn:¬ (Value.slice ta j tc).ownBlock = some wr.heap.size:=HNW.out
     exact ⟨hk.cell HQ9.out.1 hn,hk.cell HQ9.out.2.1 hn,hk.cell HQ9.out.2.2.1 hn,hk.cell HQ9.out.2.2.2 hn⟩)
    clear ho10 hg10 hv10
    refine hK.out _ _ HQ10.out (fun hHeld=>?_)
    clear hK K
    (try simp only [Act.put])
    have e8:w10.cell? ⟨E,8,none⟩ = some (.slice ta j tc):=cell_of_block HG10.out.1 rfl
    have g8:w10.frozen? ⟨E,8,none⟩ = false:=frozen_of_block HG10.out.1
    have HQ11:Hid (S4 (w10.setCell ⟨E,8,none⟩ (.slice ta2 (j + 1) tc2)) wr.heap.size x0 x1 x2 x3):=mkHid (by
     have hk:=Kept.setCell (F:=fun k=>k = E) w10 (p:=⟨E,8,none⟩) rfl (.slice ta2 (j + 1) tc2)
     exact ⟨hk.cell HQ10.out.1 HNE.out,hk.cell HQ10.out.2.1 HNE.out,hk.cell HQ10.out.2.2.1 HNE.out,hk.cell HQ10.out.2.2.2 HNE.out⟩)
    refine tkE 7 46 (.pointer (some ⟨E,2,none⟩)) rfl rfl hHeld ?_
    simp only [List.set_cons_zero,List.set_cons_succ]
    refine tkE 8 47 (.pointer (some ⟨E,8,none⟩)) rfl rfl hHeld ?_
    simp only [List.set_cons_zero,List.set_cons_succ]
    refine wpAnyH_ready (rs:=[9]) (by kernel_rfl) (by simp) (AllReadyH.cons rfl (fun K hK=>?_) AllReadyH.nil)
    go_simp
    refine hK.out _ _ HQ11.out (fun hHeld=>?_)
    clear hK K hHeld e8 g8
    refine wpAnyH_done (by kernel_rfl) ?_ _
    go_wp2
    go_roundw
    case rel=>exact ⟨j + 1,ta2,tc2,by go_num,by omega,mkHid HG10.out.2⟩
    case measure=>simp [intOf];omega
   ·go_simp
    refine (taskOf_any _ (x0,x1,x2,x3)).mono ?_
    rintro r w8 ⟨rfl,hb8⟩
    have HG8:=mkHid (HG7.out.below hb8)
    have HQ8:=mkHid (And.intro (kc hHeld.1 hb8) (And.intro (kc hHeld.2.1 hb8) (And.intro (kc hHeld.2.2.1 hb8) (kc hHeld.2.2.2 hb8))))
    clear hb8
    refine hK.out _ _ HQ8.out (fun hHeld=>?_)
    clear hK K
    have HQ9:Hid (S4 (w8.alloc (.cells #[.int .i64 x0,.int .i64 x1,.int .i64 x2,.int .i64 x3] 137)) wr.heap.size x0 x1 x2 x3):=mkHid ⟨kl hHeld.1 _,kl hHeld.2.1 _,kl hHeld.2.2.1 _,kl hHeld.2.2.2 _⟩
    have HG9:=mkHid (HG8.out.below ((Below.refl _ w8).alloc (Nat.le_refl _) (.cells #[.int .i64 x0,.int .i64 x1,.int .i64 x2,.int .i64 x3] 137)))
    have HS9:=mkHid (src_task w8 (x0,x1,x2,x3))
    have HH8:=mkHid hHeld
    refine wpAnyH_ready (rs:=[2,5]) (by kernel_rfl) (by simp) (AllReadyH.cons rfl (fun K hK=>?_) (AllReadyH.cons rfl (fun K hK=>?_) AllReadyH.nil))
    ·have e8:w8.cell? ⟨E,8,none⟩ = some (.slice ta j tc):=cell_of_block HG8.out.blk rfl
     go_simp
     refine hK.out _ _ hHeld (fun hHeld=>?_)
     clear hK K e8
     refine wpAnyH_ready (rs:=[5]) (by kernel_rfl) (by simp) (AllReadyH.cons rfl (fun K hK=>?_) AllReadyH.nil)
     go_simp
     refine hK.out _ _ HQ9.out (fun hHeld=>?_)
     clear hK K
     (try simp only [Act.put])
     refine wpAnyH_ready (rs:=[6]) (by kernel_rfl) (by simp) (AllReadyH.cons rfl (fun K hK=>?_) AllReadyH.nil)
     refine step_append_src4 (w:=w8.alloc (.cells #[.int .i64 x0,.int .i64 x1,.int .i64 x2,.int .i64 x3] 137)) rfl (.tmp 41) (.tmp 44) 65 65 rfl (w.heap.size + 1) 137 ie Tryz.underlying65 hie.out.1 zth 32 hie.out.2.1 HZ.out hie.out.2.2.1 hie.out.2.2.2 (.slice ta j tc) j ((ts.take j).flatMap c4) (by simp [Act.eval]) HG9.out.own (.slice (some ⟨w8.heap.size,0,none⟩) 1 1) 1 (c4 (x0,x1,x2,x3)) (by simp [Act.eval]) HS9.out (by unfold maxLen;omega) (by omega) HG9.out.base ?_
     intro v10 w10 ho10 hg10 hv10
     obtain ⟨ta2,tc2,rfl⟩:=own_shape ho10
     have HG10:=mkHid (HG9.out.grown HXJ.out ho10 hg10 hv10)
     have HQ10:Hid (S4 w10 wr.heap.size x0 x1 x2 x3):=mkHid (by
      have hk:=Kept.grown hg10 (F:=fun k=>(Value.slice ta j tc).ownBlock = some k) (fun k hk=>hk)
      have hn:¬ (Value.slice ta j tc).ownBlock = some wr.heap.size:=HNW.out
      exact ⟨hk.cell HQ9.out.1 hn,hk.cell HQ9.out.2.1 hn,hk.cell HQ9.out.2.2.1 hn,hk.cell HQ9.out.2.2.2 hn⟩)
     clear ho10 hg10 hv10
     refine hK.out _ _ HQ10.out (fun hHeld=>?_)
     clear hK K
     (try simp only [Act.put])
     have e8:w10.cell? ⟨E,8,none⟩ = some (.slice ta j tc):=cell_of_block HG10.out.1 rfl
     have g8:w10.frozen? ⟨E,8,none⟩ = false:=frozen_of_block HG10.out.1
     have HQ11:Hid (S4 (w10.setCell ⟨E,8,none⟩ (.slice ta2 (j + 1) tc2)) wr.heap.size x0 x1 x2 x3):=mkHid (by
      have hk:=Kept.setCell (F:=fun k=>k = E) w10 (p:=⟨E,8,none⟩) rfl (.slice ta2 (j + 1) tc2)
      exact ⟨hk.cell HQ10.out.1 HNE.out,hk.cell HQ10.out.2.1 HNE.out,hk.cell HQ10.out.2.2.1 HNE.out,hk.cell HQ10.out.2.2.2 HNE.out⟩)
     refine tkE 7 46 (.pointer (some ⟨E,2,none⟩)) rfl rfl hHeld ?_
     simp only [List.set_cons_zero,List.set_cons_succ]
     refine tkE 8 47 (.pointer (some ⟨E,8,none⟩)) rfl rfl hHeld ?_
     simp only [List.set_cons_zero,List.set_cons_succ]
     refine wpAnyH_ready (rs:=[9]) (by kernel_rfl) (by simp) (AllReadyH.cons rfl (fun K hK=>?_) AllReadyH.nil)
     go_simp
     refine hK.out _ _ HQ11.out (fun hHeld=>?_)
     clear hK K hHeld e8 g8
     refine wpAnyH_done (by kernel_rfl) ?_ _
     go_wp2
     go_roundw
     case rel=>exact ⟨j + 1,ta2,tc2,by go_num,by omega,mkHid HG10.out.2⟩
     case measure=>simp [intOf];omega
    ·go_simp
     refine hK.out _ _ HQ9.out (fun hHeld=>?_)
     clear hK K
     (try simp only [Act.put])
     refine wpAnyH_ready (rs:=[2]) (by kernel_rfl) (by simp) (AllReadyH.cons rfl (fun K hK=>?_) AllReadyH.nil)
     have e8:(w8.alloc (.cells #[.int .i64 x0,.int .i64 x1,.int .i64 x2,.int .i64 x3] 137)).cell? ⟨E,8,none⟩ = some (.slice ta j tc):=cell_of_block HG9.out.blk rfl
     go_simp
     refine hK.out _ _ hHeld (fun hHeld=>?_)
     clear hK K e8
     refine wpAnyH_ready (rs:=[6]) (by kernel_rfl) (by simp) (AllReadyH.cons rfl (fun K hK=>?_) AllReadyH.nil)
     refine step_append_src4 (w:=w8.alloc (.cells #[.int .i64 x0,.int .i64 x1,.int .i64 x2,.int .i64 x3] 137)) rfl (.tmp 41) (.tmp 44) 65 65 rfl (w.heap.size + 1) 137 ie Tryz.underlying65 hie.out.1 zth 32 hie.out.2.1 HZ.out hie.out.2.2.1 hie.out.2.2.2 (.slice ta j tc) j ((ts.take j).flatMap c4) (by simp [Act.eval]) HG9.out.own (.slice (some ⟨w8.heap.size,0,none⟩) 1 1) 1 (c4 (x0,x1,x2,x3)) (by simp [Act.eval]) HS9.out (by unfold maxLen;omega) (by omega) HG9.out.base ?_
     intro v10 w10 ho10 hg10 hv10
     obtain ⟨ta2,tc2,rfl⟩:=own_shape ho10
     have HG10:=mkHid (HG9.out.grown HXJ.out ho10 hg10 hv10)
     have HQ10:Hid (S4 w10 wr.heap.size x0 x1 x2 x3):=mkHid (by
      have hk:=Kept.grown hg10 (F:=fun k=>(Value.slice ta j tc).ownBlock = some k) (fun k hk=>hk)
      have hn:¬ (Value.slice ta j tc).ownBlock = some wr.heap.size:=HNW.out
      exact ⟨hk.cell HQ9.out.1 hn,hk.cell HQ9.out.2.1 hn,hk.cell HQ9.out.2.2.1 hn,hk.cell HQ9.out.2.2.2 hn⟩)
     clear ho10 hg10 hv10
     refine hK.out _ _ HQ10.out (fun hHeld=>?_)
     clear hK K
     (try simp only [Act.put])
     have e8:w10.cell? ⟨E,8,none⟩ = some (.slice ta j tc):=cell_of_block HG10.out.1 rfl
     have g8:w10.frozen? ⟨E,8,none⟩ = false:=frozen_of_block HG10.out.1
     have HQ11:Hid (S4 (w10.setCell ⟨E,8,none⟩ (.slice ta2 (j + 1) tc2)) wr.heap.size x0 x1 x2 x3):=mkHid (by
      have hk:=Kept.setCell (F:=fun k=>k = E) w10 (p:=⟨E,8,none⟩) rfl (.slice ta2 (j + 1) tc2)
      exact ⟨hk.cell HQ10.out.1 HNE.out,hk.cell HQ10.out.2.1 HNE.out,hk.cell HQ10.out.2.2.1 HNE.out,hk.cell HQ10.out.2.2.2 HNE.out⟩)
     refine tkE 7 46 (.pointer (some ⟨E,2,none⟩)) rfl rfl hHeld ?_
     simp only [List.set_cons_zero,List.set_cons_succ]
     refine tkE 8 47 (.pointer (some ⟨E,8,none⟩)) rfl rfl hHeld ?_
     simp only [List.set_cons_zero,List.set_cons_succ]
     refine wpAnyH_ready (rs:=[9]) (by kernel_rfl) (by simp) (AllReadyH.cons rfl (fun K hK=>?_) AllReadyH.nil)
     go_simp
     refine hK.out _ _ HQ11.out (fun hHeld=>?_)
     clear hK K hHeld e8 g8
     refine wpAnyH_done (by kernel_rfl) ?_ _
     go_wp2
     go_roundw
     case rel=>exact ⟨j + 1,ta2,tc2,by go_num,by omega,mkHid HG10.out.2⟩
     case measure=>simp [intOf];omega
  ·obtain rfl:j = ts.length:=by omega
   have hq:=HGW.out
   rw [List.take_of_length_le (Nat.le_refl _),HI0.out.2] at hq
   obtain ⟨d0,d1,d2,d3,d4,d5,d6,d7,d8,d9⟩:=ent_cells hq.blk
   obtain ⟨r0,r1,r2,r3,r4,r5,r6,r7,r8,r9⟩:=ent_cells hq.res
   obtain ⟨f0,f1,f2,f3,f4,f5,f6,f7,f8,f9⟩:=ent_frozen hq.res
   have hne:¬ E = w.heap.size:=by have:=hq.hE;omega
   have HQ:=mkHid hq
   clear hq
   go_wp2
   have k10:=set10_kept (F:=fun k=>k = w.heap.size) (Kept.refl _ wr) (b:=w.heap.size) (.inl rfl) (.int .i64 cl) (.int .i64 nu) (.int .i64 ki) (.int .i64 id) (.int .i64 sk) (.int .i64 sq) (.int .i64 st) (.int .i64 po) (.slice ta ts.length tc) (.int .i64 tm)
   refine bodyPost_ret (ent_leaves rfl (set10_heap HQ.out.res _ _ _ _ _ _ _ _ _ _) _ rfl) rfl ⟨ta,tc,rfl,?_,?_,?_⟩
   ·have ho:=HQ.out.own
    rw [List.take_of_length_le (Nat.le_refl _)] at ho
    exact own4_kept ho k10 (fun k e e2=>by have:=(ho.lt k e).1;omega)
   ·exact HQ.out.rr.kept k10 (fun k f e=>by have:=HQ.out.lt k f;omega)
   ·exact HQ.out.kept.trans k10 (fun k e=>.inr (by omega))
set_option maxHeartbeats 25600000 in
theorem getEntry_no1 (F:Nat → Prop) (B:Nat) (w:World) (p:Nat) (bs:List Int) (ea:Addr) (L r:List Int) (h:Rr F w p bs 0) (hl:(bs.length:Int) ≤ 140737488355328) (he:w.cell? ⟨4,0,none⟩ = some (vErr ea)) (hg:4 < B) (hB:∀ k,F k → B ≤ k) (hBw:B ≤ w.heap.size) (hL:L.length < 9) (hLa:∀ x ∈ L,amt x) (hrn:∀ (M:Nat) (q:List Int),(M:Int) ≤ 1099511627776 → r ≠ enc M ++ q) (hd:bs = encL L ++ r) :
  Calls Tryz.prog 181 #[.pointer (some ⟨p,0,none⟩)] w fun r w'=>r = .returned (.tuple #[.agg #[.int .i64 0,.int .i64 0,.int .i64 0,.int .i64 0,.int .i64 0,.int .i64 0,.int .i64 0,.int .i64 0,.slice none 0 0,.int .i64 0],vErr ea]) ∧ Kept F w w':=by
 have HLT:=mkHid h.1
 obtain ⟨W2,hW2⟩:∃ W2,W2 = (w.alloc (.cells #[.int .i64 0,.int .i64 0,.int .i64 0,.int .i64 0,.int .i64 0,.int .i64 0,.int .i64 0,.int .i64 0,.slice none 0 0,.int .i64 0] 69)).alloc (.cells #[.int .i64 0,.int .i64 0,.int .i64 0,.int .i64 0,.int .i64 0,.int .i64 0,.int .i64 0,.int .i64 0,.int .i64 0] 200):=⟨_,rfl⟩
 have hb2:Below w.heap.size w W2:=by rw [hW2];exact ba (ba (Below.refl _ w) _) _
 have hr2:W2.heap[w.heap.size]? = some (.cells #[.int .i64 0,.int .i64 0,.int .i64 0,.int .i64 0,.int .i64 0,.int .i64 0,.int .i64 0,.int .i64 0,.slice none 0 0,.int .i64 0] 69 (0,0)):=by rw [hW2];exact (two_facts (Below.refl _ _)).1
 have hh2:W2.heap[w.heap.size + 1]? = some (.cells (arrOf [] 9) 200 (0,0)):=by rw [hW2];exact (two_facts (Below.refl _ _)).2
 have hs2:W2.heap.size = w.heap.size + 2:=by rw [hW2];simp
 have HA:=mkHid (getAll_no F B W2 p (w.heap.size + 1) 9 9 200 bs 0 ea L r (h.below hb2) hl (kc he hb2) hg hB (by omega) (by omega) (fun f=>by have:=h.1 _ f;omega) hh2 (by omega) hL hLa (by rw [List.drop_zero,hd]) hrn)
 have H2:=mkHid (And.intro hb2 (And.intro hr2 hs2))
 clear hL hLa hrn hd hg hB hBw hb2 hr2 hh2 hs2 he h
 go_enter Tryz.func181,Tryz.ntmps181
 go_wp2_with (go_at_call 182;rw [← hW2];clear hW2;refine HA.out.mono ?_;rintro e w7 ⟨rfl,q3⟩;have hres7:w7.heap[w.heap.size]? = some (.cells #[.int .i64 0,.int .i64 0,.int .i64 0,.int .i64 0,.int .i64 0,.int .i64 0,.int .i64 0,.int .i64 0,.slice none 0 0,.int .i64 0] 69 (0,0)):=by { rw [q3.block _ (by have:=H2.out.2.2;omega) (fun e=>by rcases e with e | e;have:=HLT.out _ e;omega;omega)];exact H2.out.2.1 };obtain ⟨r0,r1,r2,r3,r4,r5,r6,r7,r8,r9⟩:=ent_cells hres7;obtain ⟨f0,f1,f2,f3,f4,f5,f6,f7,f8,f9⟩:=ent_frozen hres7;have HR7:Hid (w7.heap[w.heap.size]? = some (.cells #[.int .i64 0,.int .i64 0,.int .i64 0,.int .i64 0,.int .i64 0,.int .i64 0,.int .i64 0,.int .i64 0,.slice none 0 0,.int .i64 0] 69 (0,0)) ∧ Kept F w w7):=mkHid (And.intro hres7 (((kept_of_below H2.out.1).mono (G:=fun k=>F k ∨ w.heap.size ≤ k) (fun k hk=>.inr hk) |>.trans q3 (fun k hk=>by rcases hk with a | a;exact .inl (.inl a);exact .inl (.inr (by omega)))) |> keptF));clear q3 hres7)
 refine bodyPost_ret (ent_leaves rfl (set10_heap HR7.out.1 _ _ _ _ _ _ _ _ _ _) _ rfl) rfl ⟨rfl,?_⟩
 exact set10_kept HR7.out.2 (.inr (Nat.le_refl _)) (.int .i64 0) (.int .i64 0) (.int .i64 0) (.int .i64 0) (.int .i64 0) (.int .i64 0) (.int .i64 0) (.int .i64 0) (.slice none 0 0) (.int .i64 0)
set_option maxHeartbeats 25600000 in
theorem getEntry_no2 (F:Nat → Prop) (B:Nat) (w:World) (p:Nat) (bs:List Int) (ea:Addr) (e:En) (s:List Int) (h:Rr F w p bs 0) (hl:(bs.length:Int) ≤ 140737488355328) (he:w.cell? ⟨4,0,none⟩ = some (vErr ea)) (hg:4 < B) (hB:∀ k,F k → B ≤ k) (hBw:B ≤ w.heap.size) (ho:∀ n ∈ hnum e,amt n) (hno:∀ (N:Nat) (q:List Int),(N:Int) ≤ 8 → s ≠ enc N ++ q) (hd:bs = encL (hnum e) ++ s) :
  Calls Tryz.prog 181 #[.pointer (some ⟨p,0,none⟩)] w fun r w'=>r = .returned (.tuple #[.agg #[.int .i64 0,.int .i64 0,.int .i64 0,.int .i64 0,.int .i64 0,.int .i64 0,.int .i64 0,.int .i64 0,.slice none 0 0,.int .i64 0],vErr ea]) ∧ Kept F w w':=by
 have HNO:=mkHid hno
 have HD:=mkHid hd
 have HF:=mkHid (And.intro hg (And.intro hB hBw))
 have HLT:=mkHid h.1
 have HEV:=mkHid he
 obtain ⟨cl,nu,ki,id,sk,sq,st,po,ts,tm⟩:=e
 obtain ⟨W2,hW2⟩:∃ W2,W2 = (w.alloc (.cells #[.int .i64 0,.int .i64 0,.int .i64 0,.int .i64 0,.int .i64 0,.int .i64 0,.int .i64 0,.int .i64 0,.slice none 0 0,.int .i64 0] 69)).alloc (.cells #[.int .i64 0,.int .i64 0,.int .i64 0,.int .i64 0,.int .i64 0,.int .i64 0,.int .i64 0,.int .i64 0,.int .i64 0] 200):=⟨_,rfl⟩
 have hb2:Below w.heap.size w W2:=by rw [hW2];exact ba (ba (Below.refl _ w) _) _
 have hr2:W2.heap[w.heap.size]? = some (.cells #[.int .i64 0,.int .i64 0,.int .i64 0,.int .i64 0,.int .i64 0,.int .i64 0,.int .i64 0,.int .i64 0,.slice none 0 0,.int .i64 0] 69 (0,0)):=by rw [hW2];exact (two_facts (Below.refl _ _)).1
 have hh2:W2.heap[w.heap.size + 1]? = some (.cells (arrOf [] 9) 200 (0,0)):=by rw [hW2];exact (two_facts (Below.refl _ _)).2
 have hs2:W2.heap.size = w.heap.size + 2:=by rw [hW2];simp
 have HA:=mkHid (getAll_yes F B W2 p (w.heap.size + 1) 9 9 200 bs 0 (vErr ea) [cl,nu,ki,tm,id,sk,sq,st,po] s (h.below hb2) hl (kc he hb2) hg hB (by omega) (by omega) (fun f=>by have:=h.1 _ f;omega) hh2 (by omega) rfl (fun x hx=>ho x hx) (by
  rw [List.drop_zero,hd];rfl))
 have H2:=mkHid (And.intro hb2 (And.intro hr2 hs2))
 clear hno ho hd hg hB hBw hb2 hr2 hh2 hs2 he h
 go_enter Tryz.func181,Tryz.ntmps181
 go_wp2_with (first
  |(go_at_call 182;rw [← hW2];clear hW2;refine HA.out.mono ?_;rintro r w3 ⟨rfl,q1,q2,q3⟩;obtain ⟨h0,h1,h2,h3,h4,h5,h6,h7,h8⟩:=nine_cells (w:=w3) (by simpa using q1);have H3:=mkHid (And.intro q2 q3);clear q1 q2 q3))
 have HRES:Hid (w3.heap[w.heap.size]? = some (.cells #[.int .i64 0,.int .i64 0,.int .i64 0,.int .i64 0,.int .i64 0,.int .i64 0,.int .i64 0,.int .i64 0,.slice none 0 0,.int .i64 0] 69 (0,0))):=mkHid (by
  rw [H3.out.2.block _ (by have:=H2.out.2.2;omega) (fun e=>by rcases e with e | e;have:=HLT.out _ e;omega;omega)];exact H2.out.2.1)
 have HK3:Hid (Kept F w w3):=mkHid (((kept_of_below H2.out.1).mono (G:=fun k=>F k ∨ w.heap.size ≤ k) (fun k hk=>.inr hk) |>.trans H3.out.2 (fun k hk=>by rcases hk with a | a;exact .inl (.inl a);exact .inl (.inr (by omega)))) |> keptF)
 have HS3:Hid (w.heap.size + 2 ≤ w3.heap.size):=mkHid (by have:=H3.out.2.size;have:=H2.out.2.2;omega)
 have HDI:Hid (bs.drop (0 + (encL [cl,nu,ki,tm,id,sk,sq,st,po]).length) = s):=mkHid (by
  rw [Nat.zero_add,HD.out]
  exact List.drop_left)
 go_wp2_with (first
  |(go_at_call 183;refine (entryOf_any w3 cl nu ki tm id sk sq st po).mono ?_;rintro r w4 ⟨rfl,b4⟩;have HG5:Hid (GE F w (w4.alloc (.cells #[.int .i64 cl,.int .i64 nu,.int .i64 ki,.int .i64 id,.int .i64 sk,.int .i64 sq,.int .i64 st,.int .i64 po,.slice none 0 0,.int .i64 tm] 69)) p w4.heap.size bs (0 + (encL [cl,nu,ki,tm,id,sk,sq,st,po]).length) cl nu ki id sk sq st po tm ts 0 none 0):=mkHid (ge_start HLT.out H3.out.1 HRES.out HK3.out HS3.out b4 cl nu ki id sk sq st po tm ts);clear b4)
  |(go_at_call 139;refine (rnum_no F _ p bs _ 8 (vErr ea) HG5.out.rr hl (HG5.out.kept.cell HEV.out (fun f=>Nat.lt_irrefl _ (Nat.lt_of_lt_of_le HF.out.1 (HF.out.2.1 _ f)))) (by rw [HDI.out];exact HNO.out)).mono ?_;rintro e w6 ⟨rfl,q1,q2⟩;have HG6:=mkHid (HG5.out.kept' q2 (fun k hk=>.inl hk) q1);obtain ⟨r0,r1,r2,r3,r4,r5,r6,r7,r8,r9⟩:=ent_cells HG6.out.res;obtain ⟨f0,f1,f2,f3,f4,f5,f6,f7,f8,f9⟩:=ent_frozen HG6.out.res;clear q1 q2 HG5))
 refine bodyPost_ret (ent_leaves rfl (set10_heap HG6.out.res _ _ _ _ _ _ _ _ _ _) _ rfl) rfl ⟨rfl,?_⟩
 exact set10_kept HG6.out.kept (.inr (Nat.le_refl _)) (.int .i64 0) (.int .i64 0) (.int .i64 0) (.int .i64 0) (.int .i64 0) (.int .i64 0) (.int .i64 0) (.int .i64 0) (.slice none 0 0) (.int .i64 0)
set_option maxHeartbeats 25600000 in
theorem getEntry_no3 (F:Nat → Prop) (B:Nat) (w:World) (p:Nat) (bs:List Int) (ea:Addr) (e:En) (h:Rr F w p bs 0) (hl:(bs.length:Int) ≤ 140737488355328) (he:w.cell? ⟨4,0,none⟩ = some (vErr ea)) (hg:4 < B) (hB:∀ k,F k → B ≤ k) (hBw:B ≤ w.heap.size) (ho:okN e) (N:Nat) (L r:List Int) (hN:e.ts.length < N) (hN8:(N:Int) ≤ 8) (hL:L.length < 4) (hLa:∀ x ∈ L,amt x) (hrn:∀ (M:Nat) (q:List Int),(M:Int) ≤ 1099511627776 → r ≠ enc M ++ q) (hd:bs = encL (hnum e) ++ (enc N ++ (encL (e.ts.flatMap tnum) ++ (encL L ++ r)))) :
  Calls Tryz.prog 181 #[.pointer (some ⟨p,0,none⟩)] w fun r w'=>r = .returned (.tuple #[.agg #[.int .i64 0,.int .i64 0,.int .i64 0,.int .i64 0,.int .i64 0,.int .i64 0,.int .i64 0,.int .i64 0,.slice none 0 0,.int .i64 0],vErr ea]) ∧ Kept F w w':=by
 obtain ⟨ie,hi,hz0,hz1,hz2⟩:=info_parts info_task
 obtain ⟨zth,hzth⟩:∃ z:Value,z = .agg #[.int .i64 0,.int .i64 0,.int .i64 0,.int .i64 0]:=⟨_,rfl⟩
 rw [← hzth] at hz0
 have HZ:Hid (zth.cells.size = 4):=mkHid (by rw [hzth];rfl)
 have hie:=mkHid (And.intro hi (And.intro hz0 (And.intro hz1 hz2)))
 have HO:=mkHid ho
 have HD:=mkHid hd
 have HF:=mkHid (And.intro hg (And.intro hB hBw))
 have HLT:=mkHid h.1
 have HEV:=mkHid he
 obtain ⟨cl,nu,ki,id,sk,sq,st,po,ts,tm⟩:=e
 obtain ⟨W2,hW2⟩:∃ W2,W2 = (w.alloc (.cells #[.int .i64 0,.int .i64 0,.int .i64 0,.int .i64 0,.int .i64 0,.int .i64 0,.int .i64 0,.int .i64 0,.slice none 0 0,.int .i64 0] 69)).alloc (.cells #[.int .i64 0,.int .i64 0,.int .i64 0,.int .i64 0,.int .i64 0,.int .i64 0,.int .i64 0,.int .i64 0,.int .i64 0] 200):=⟨_,rfl⟩
 have hb2:Below w.heap.size w W2:=by rw [hW2];exact ba (ba (Below.refl _ w) _) _
 have hr2:W2.heap[w.heap.size]? = some (.cells #[.int .i64 0,.int .i64 0,.int .i64 0,.int .i64 0,.int .i64 0,.int .i64 0,.int .i64 0,.int .i64 0,.slice none 0 0,.int .i64 0] 69 (0,0)):=by rw [hW2];exact (two_facts (Below.refl _ _)).1
 have hh2:W2.heap[w.heap.size + 1]? = some (.cells (arrOf [] 9) 200 (0,0)):=by rw [hW2];exact (two_facts (Below.refl _ _)).2
 have hs2:W2.heap.size = w.heap.size + 2:=by rw [hW2];simp
 have HA:=mkHid (getAll_yes F B W2 p (w.heap.size + 1) 9 9 200 bs 0 (vErr ea) [cl,nu,ki,tm,id,sk,sq,st,po] (enc N ++ (encL (ts.flatMap tnum) ++ (encL L ++ r))) (h.below hb2) hl (kc he hb2) hg hB (by omega) (by omega) (fun f=>by have:=h.1 _ f;omega) hh2 (by omega) rfl (fun x hx=>ho.head x hx) (by
  rw [List.drop_zero,hd];rfl))
 have H2:=mkHid (And.intro hb2 (And.intro hr2 hs2))
 have HNO:=mkHid (And.intro hL (And.intro hLa hrn))
 have hNi:(ts.length:Int) < N:=by simp only at hN;omega
 clear hL hLa hrn hN ho hd hg hB hBw hi hz0 hz1 hz2 hzth hb2 hr2 hh2 hs2 he h
 go_enter Tryz.func181,Tryz.ntmps181
 go_wp2_with (first
  |(go_at_call 182;rw [← hW2];clear hW2;refine HA.out.mono ?_;rintro r w3 ⟨rfl,q1,q2,q3⟩;obtain ⟨h0,h1,h2,h3,h4,h5,h6,h7,h8⟩:=nine_cells (w:=w3) (by simpa using q1);have H3:=mkHid (And.intro q2 q3);clear q1 q2 q3))
 have HRES:Hid (w3.heap[w.heap.size]? = some (.cells #[.int .i64 0,.int .i64 0,.int .i64 0,.int .i64 0,.int .i64 0,.int .i64 0,.int .i64 0,.int .i64 0,.slice none 0 0,.int .i64 0] 69 (0,0))):=mkHid (by
  rw [H3.out.2.block _ (by have:=H2.out.2.2;omega) (fun e=>by rcases e with e | e;have:=HLT.out _ e;omega;omega)];exact H2.out.2.1)
 have HK3:Hid (Kept F w w3):=mkHid (((kept_of_below H2.out.1).mono (G:=fun k=>F k ∨ w.heap.size ≤ k) (fun k hk=>.inr hk) |>.trans H3.out.2 (fun k hk=>by rcases hk with a | a;exact .inl (.inl a);exact .inl (.inr (by omega)))) |> keptF)
 have HS3:Hid (w.heap.size + 2 ≤ w3.heap.size):=mkHid (by have:=H3.out.2.size;have:=H2.out.2.2;omega)
 have HDI:Hid (bs.drop (0 + (encL [cl,nu,ki,tm,id,sk,sq,st,po]).length) = enc N ++ (encL (ts.flatMap tnum) ++ (encL L ++ r))):=mkHid (by
  rw [Nat.zero_add,HD.out]
  exact List.drop_left)
 have hts8:(ts.length:Int) ≤ 8:=by have:=HO.out.1;simp only at this;omega
 go_wp2_with (first
  |(go_at_call 183;refine (entryOf_any w3 cl nu ki tm id sk sq st po).mono ?_;rintro r w4 ⟨rfl,b4⟩;have HG5:Hid (GE F w (w4.alloc (.cells #[.int .i64 cl,.int .i64 nu,.int .i64 ki,.int .i64 id,.int .i64 sk,.int .i64 sq,.int .i64 st,.int .i64 po,.slice none 0 0,.int .i64 tm] 69)) p w4.heap.size bs (0 + (encL [cl,nu,ki,tm,id,sk,sq,st,po]).length) cl nu ki id sk sq st po tm ts 0 none 0):=mkHid (ge_start HLT.out H3.out.1 HRES.out HK3.out HS3.out b4 cl nu ki id sk sq st po tm ts);clear b4)
  |(go_at_call 139;refine (rnum_yes F _ p bs _ 8 (vErr ea) N (encL (ts.flatMap tnum) ++ (encL L ++ r)) HG5.out.rr hl (HG5.out.kept.cell HEV.out (fun f=>Nat.lt_irrefl _ (Nat.lt_of_lt_of_le HF.out.1 (HF.out.2.1 _ f)))) HDI.out hN8 (by omega)).mono ?_;rintro r w6 ⟨rfl,q1,q2⟩;have HG6:=mkHid (HG5.out.kept' q2 (fun k hk=>.inl hk) q1);clear q1 q2 HG5))
 have HI0:Hid (bs.drop (0 + (encL [cl,nu,ki,tm,id,sk,sq,st,po]).length + (enc N).length) = encL (ts.flatMap tnum) ++ (encL L ++ r)):=mkHid (by rw [← List.drop_drop,HDI.out,List.drop_left])
 generalize 0 + (encL [cl,nu,ki,tm,id,sk,sq,st,po]).length + (enc N).length = I0 at *
 generalize hE:w4.heap.size = E at *
 clear hE h0 h1 h2 h3 h4 h5 h6 h7 h8 HA H2 H3 HRES HK3 HS3 HDI
 go_loopw [30] (fun iv wr=>∃ (j:Nat) (ta:Option Addr) (tc:Nat),iv = .int .i64 (j:Int) ∧ j ≤ ts.length ∧ Hid (GE F w wr p E bs (I0 + (encL ((ts.take j).flatMap tnum)).length) cl nu ki id sk sq st po tm ts j ta tc)) (fun iv _=>N - (intOf iv).toNat)
 case atStart=>exact ⟨0,none,0,rfl,Nat.zero_le _,by simpa [encL_nil] using HG6⟩
 case round=>
  obtain ⟨j,ta,tc,rfl,hj,HGW⟩:=hrel
  clear HG6
  by_cases hlt:j < ts.length
  ·have hji:(j:Int) < N:=by omega
   obtain ⟨⟨x0,x1,x2,x3⟩,hxj⟩:∃ x,ts[j]? = some x:=⟨_,List.getElem?_eq_getElem hlt⟩
   have HXJ:=mkHid hxj
   have HSTEP:Hid (bs.drop (I0 + (encL ((ts.take j).flatMap tnum)).length) = encL [x0,x1,x2,x3] ++ (encL ((ts.drop (j + 1)).flatMap tnum) ++ (encL L ++ r)) ∧ I0 + (encL ((ts.take j).flatMap tnum)).length + (encL [x0,x1,x2,x3]).length = I0 + (encL ((ts.take (j + 1)).flatMap tnum)).length):=mkHid (by
    have e1:ts = ts.take j ++ ((x0,x1,x2,x3) :: ts.drop (j + 1)):=by
     conv=>lhs;rw [← List.take_append_drop j ts]
     congr 1
     rw [List.drop_eq_getElem_cons hlt]
     congr 1
     exact (List.getElem?_eq_some_iff.mp hxj).2
    have e2:encL (ts.flatMap tnum) = encL ((ts.take j).flatMap tnum) ++ (encL [x0,x1,x2,x3] ++ encL ((ts.drop (j + 1)).flatMap tnum)):=by
     conv=>lhs;rw [e1]
     rw [List.flatMap_append,List.flatMap_cons,encL_append,encL_append]
     rfl
    refine ⟨by rw [← List.drop_drop,HI0.out,e2,List.append_assoc,List.drop_left,List.append_assoc],?_⟩
    rw [List.take_add_one,hxj,List.flatMap_append,encL_append,List.length_append]
    simp [tnum]
    omega)
   have HA7:=mkHid (getAll_yes F B (wr.alloc (.cells #[.int .i64 0,.int .i64 0,.int .i64 0,.int .i64 0] 203)) p wr.heap.size 4 4 203 bs _ (vErr ea) [x0,x1,x2,x3] _ (HGW.out.rr.below ((Below.refl _ wr).alloc (Nat.le_refl _) _)) hl (kl (HGW.out.kept.cell HEV.out (fun f=>Nat.lt_irrefl _ (Nat.lt_of_lt_of_le HF.out.1 (HF.out.2.1 _ f)))) _) HF.out.1 HF.out.2.1 (by have:=HF.out.2.2;have:=HGW.out.kept.size;omega) (by have:=HF.out.2.2;have:=HGW.out.kept.size;simp;omega) (fun f=>by have:=HGW.out.lt _ f;have:=HGW.out.kept.size;omega) (heap_alloc_new wr _) (by omega) rfl (fun x hx=>HO.out.task (List.mem_of_getElem? hxj) x hx) HSTEP.out.1)
   have HNW:Hid (¬ (Value.slice ta j tc).ownBlock = some wr.heap.size):=mkHid (fun e=>by have:=(HGW.out.own.lt _ e).2;omega)
   have HNE:Hid (¬ wr.heap.size = E):=mkHid (fun e=>by have:=(Array.getElem?_eq_some_iff.mp HGW.out.blk).1;omega)
   clear hxj
   go_wp2_with (go_at_call 182;refine HA7.out.mono ?_;rintro r w7 ⟨rfl,q1,q2,q3⟩;have HQ7:Hid (S4 w7.drew wr.heap.size x0 x1 x2 x3):=mkHid ⟨cell_of_block q1 rfl,cell_of_block q1 rfl,cell_of_block q1 rfl,cell_of_block q1 rfl⟩;rw [HSTEP.out.2] at q2;have HG:=mkHid (HGW.out.kept' (G:=fun k=>F k ∨ k = wr.heap.size) ((Kept.alloc _ _ _).trans q3 (fun k hk=>.inl hk)) (fun k hk=>by rcases hk with a | a;exact .inl a;exact .inr (by omega)) q2);clear q1 q2 q3)
   refine wp_region_held_drew (S:=fun w'=>S4 w' wr.heap.size x0 x1 x2 x3) (by kernel_rfl) HQ7.out (fun hHeld=>?_)
   simp only [S4] at hHeld ⊢
   refine tkE 0 39 (.pointer (some ⟨E,2,none⟩)) rfl rfl hHeld ?_
   simp only [List.set_cons_zero,List.set_cons_succ]
   refine tkE 1 40 (.pointer (some ⟨E,8,none⟩)) rfl rfl hHeld ?_
   simp only [List.set_cons_zero,List.set_cons_succ]
   refine tkE 3 42 (.agg #[.int .i64 x0,.int .i64 x1,.int .i64 x2,.int .i64 x3]) rfl rfl hHeld ?_
   simp only [List.set_cons_zero,List.set_cons_succ]
   have HG7:=mkHid (HG.out.below (Below.refl _ w7).drew)
   refine wpAnyH_ready (rs:=[2,4]) (by kernel_rfl) (by simp) (AllReadyH.cons rfl (fun K hK=>?_) (AllReadyH.cons rfl (fun K hK=>?_) AllReadyH.nil))
   ·have e8:w7.drew.cell? ⟨E,8,none⟩ = some (.slice ta j tc):=cell_of_block HG7.out.blk rfl
    go_simp
    refine hK.out _ _ hHeld (fun hHeld=>?_)
    clear hK K e8
    refine wpAnyH_ready (rs:=[4]) (by kernel_rfl) (by simp) (AllReadyH.cons rfl (fun K hK=>?_) AllReadyH.nil)
    go_simp
    refine (taskOf_any _ (x0,x1,x2,x3)).mono ?_
    rintro r w8 ⟨rfl,hb8⟩
    have HG8:=mkHid (HG7.out.below hb8)
    have HQ8:=mkHid (And.intro (kc hHeld.1 hb8) (And.intro (kc hHeld.2.1 hb8) (And.intro (kc hHeld.2.2.1 hb8) (kc hHeld.2.2.2 hb8))))
    clear hb8
    refine hK.out _ _ HQ8.out (fun hHeld=>?_)
    clear hK K
    have HQ9:Hid (S4 (w8.alloc (.cells #[.int .i64 x0,.int .i64 x1,.int .i64 x2,.int .i64 x3] 137)) wr.heap.size x0 x1 x2 x3):=mkHid ⟨kl hHeld.1 _,kl hHeld.2.1 _,kl hHeld.2.2.1 _,kl hHeld.2.2.2 _⟩
    have HG9:=mkHid (HG8.out.below ((Below.refl _ w8).alloc (Nat.le_refl _) (.cells #[.int .i64 x0,.int .i64 x1,.int .i64 x2,.int .i64 x3] 137)))
    have HS9:=mkHid (src_task w8 (x0,x1,x2,x3))
    have HH8:=mkHid hHeld
    refine wpAnyH_ready (rs:=[5]) (by kernel_rfl) (by simp) (AllReadyH.cons rfl (fun K hK=>?_) AllReadyH.nil)
    go_simp
    refine hK.out _ _ HQ9.out (fun hHeld=>?_)
    clear hK K
    (try simp only [Act.put])
    refine wpAnyH_ready (rs:=[6]) (by kernel_rfl) (by simp) (AllReadyH.cons rfl (fun K hK=>?_) AllReadyH.nil)
    refine step_append_src4 (w:=w8.alloc (.cells #[.int .i64 x0,.int .i64 x1,.int .i64 x2,.int .i64 x3] 137)) rfl (.tmp 41) (.tmp 44) 65 65 rfl (w.heap.size + 1) 137 ie Tryz.underlying65 hie.out.1 zth 32 hie.out.2.1 HZ.out hie.out.2.2.1 hie.out.2.2.2 (.slice ta j tc) j ((ts.take j).flatMap c4) (by simp [Act.eval]) HG9.out.own (.slice (some ⟨w8.heap.size,0,none⟩) 1 1) 1 (c4 (x0,x1,x2,x3)) (by simp [Act.eval]) HS9.out (by unfold maxLen;omega) (by omega) HG9.out.base ?_
    intro v10 w10 ho10 hg10 hv10
    obtain ⟨ta2,tc2,rfl⟩:=own_shape ho10
    have HG10:=mkHid (HG9.out.grown HXJ.out ho10 hg10 hv10)
    have HQ10:Hid (S4 w10 wr.heap.size x0 x1 x2 x3):=mkHid (by
     have hk:=Kept.grown hg10 (F:=fun k=>(Value.slice ta j tc).ownBlock = some k) (fun k hk=>hk)
     have hn:¬ (Value.slice ta j tc).ownBlock = some wr.heap.size:=HNW.out
     exact ⟨hk.cell HQ9.out.1 hn,hk.cell HQ9.out.2.1 hn,hk.cell HQ9.out.2.2.1 hn,hk.cell HQ9.out.2.2.2 hn⟩)
    clear ho10 hg10 hv10
    refine hK.out _ _ HQ10.out (fun hHeld=>?_)
    clear hK K
    (try simp only [Act.put])
    have e8:w10.cell? ⟨E,8,none⟩ = some (.slice ta j tc):=cell_of_block HG10.out.1 rfl
    have g8:w10.frozen? ⟨E,8,none⟩ = false:=frozen_of_block HG10.out.1
    have HQ11:Hid (S4 (w10.setCell ⟨E,8,none⟩ (.slice ta2 (j + 1) tc2)) wr.heap.size x0 x1 x2 x3):=mkHid (by
     have hk:=Kept.setCell (F:=fun k=>k = E) w10 (p:=⟨E,8,none⟩) rfl (.slice ta2 (j + 1) tc2)
     exact ⟨hk.cell HQ10.out.1 HNE.out,hk.cell HQ10.out.2.1 HNE.out,hk.cell HQ10.out.2.2.1 HNE.out,hk.cell HQ10.out.2.2.2 HNE.out⟩)
    refine tkE 7 46 (.pointer (some ⟨E,2,none⟩)) rfl rfl hHeld ?_
    simp only [List.set_cons_zero,List.set_cons_succ]
    refine tkE 8 47 (.pointer (some ⟨E,8,none⟩)) rfl rfl hHeld ?_
    simp only [List.set_cons_zero,List.set_cons_succ]
    refine wpAnyH_ready (rs:=[9]) (by kernel_rfl) (by simp) (AllReadyH.cons rfl (fun K hK=>?_) AllReadyH.nil)
    go_simp
    refine hK.out _ _ HQ11.out (fun hHeld=>?_)
    clear hK K hHeld e8 g8
    refine wpAnyH_done (by kernel_rfl) ?_ _
    go_wp2
    go_roundw
    case rel=>exact ⟨j + 1,ta2,tc2,by go_num,by omega,mkHid HG10.out.2⟩
    case measure=>simp [intOf];omega
   ·go_simp
    refine (taskOf_any _ (x0,x1,x2,x3)).mono ?_
    rintro r w8 ⟨rfl,hb8⟩
    have HG8:=mkHid (HG7.out.below hb8)
    have HQ8:=mkHid (And.intro (kc hHeld.1 hb8) (And.intro (kc hHeld.2.1 hb8) (And.intro (kc hHeld.2.2.1 hb8) (kc hHeld.2.2.2 hb8))))
    clear hb8
    refine hK.out _ _ HQ8.out (fun hHeld=>?_)
    clear hK K
    have HQ9:Hid (S4 (w8.alloc (.cells #[.int .i64 x0,.int .i64 x1,.int .i64 x2,.int .i64 x3] 137)) wr.heap.size x0 x1 x2 x3):=mkHid ⟨kl hHeld.1 _,kl hHeld.2.1 _,kl hHeld.2.2.1 _,kl hHeld.2.2.2 _⟩
    have HG9:=mkHid (HG8.out.below ((Below.refl _ w8).alloc (Nat.le_refl _) (.cells #[.int .i64 x0,.int .i64 x1,.int .i64 x2,.int .i64 x3] 137)))
    have HS9:=mkHid (src_task w8 (x0,x1,x2,x3))
    have HH8:=mkHid hHeld
    refine wpAnyH_ready (rs:=[2,5]) (by kernel_rfl) (by simp) (AllReadyH.cons rfl (fun K hK=>?_) (AllReadyH.cons rfl (fun K hK=>?_) AllReadyH.nil))
    ·have e8:w8.cell? ⟨E,8,none⟩ = some (.slice ta j tc):=cell_of_block HG8.out.blk rfl
     go_simp
     refine hK.out _ _ hHeld (fun hHeld=>?_)
     clear hK K e8
     refine wpAnyH_ready (rs:=[5]) (by kernel_rfl) (by simp) (AllReadyH.cons rfl (fun K hK=>?_) AllReadyH.nil)
     go_simp
     refine hK.out _ _ HQ9.out (fun hHeld=>?_)
     clear hK K
     (try simp only [Act.put])
     refine wpAnyH_ready (rs:=[6]) (by kernel_rfl) (by simp) (AllReadyH.cons rfl (fun K hK=>?_) AllReadyH.nil)
     refine step_append_src4 (w:=w8.alloc (.cells #[.int .i64 x0,.int .i64 x1,.int .i64 x2,.int .i64 x3] 137)) rfl (.tmp 41) (.tmp 44) 65 65 rfl (w.heap.size + 1) 137 ie Tryz.underlying65 hie.out.1 zth 32 hie.out.2.1 HZ.out hie.out.2.2.1 hie.out.2.2.2 (.slice ta j tc) j ((ts.take j).flatMap c4) (by simp [Act.eval]) HG9.out.own (.slice (some ⟨w8.heap.size,0,none⟩) 1 1) 1 (c4 (x0,x1,x2,x3)) (by simp [Act.eval]) HS9.out (by unfold maxLen;omega) (by omega) HG9.out.base ?_
     intro v10 w10 ho10 hg10 hv10
     obtain ⟨ta2,tc2,rfl⟩:=own_shape ho10
     have HG10:=mkHid (HG9.out.grown HXJ.out ho10 hg10 hv10)
     have HQ10:Hid (S4 w10 wr.heap.size x0 x1 x2 x3):=mkHid (by
      have hk:=Kept.grown hg10 (F:=fun k=>(Value.slice ta j tc).ownBlock = some k) (fun k hk=>hk)
      have hn:¬ (Value.slice ta j tc).ownBlock = some wr.heap.size:=HNW.out
      exact ⟨hk.cell HQ9.out.1 hn,hk.cell HQ9.out.2.1 hn,hk.cell HQ9.out.2.2.1 hn,hk.cell HQ9.out.2.2.2 hn⟩)
     clear ho10 hg10 hv10
     refine hK.out _ _ HQ10.out (fun hHeld=>?_)
     clear hK K
     (try simp only [Act.put])
     have e8:w10.cell? ⟨E,8,none⟩ = some (.slice ta j tc):=cell_of_block HG10.out.1 rfl
     have g8:w10.frozen? ⟨E,8,none⟩ = false:=frozen_of_block HG10.out.1
     have HQ11:Hid (S4 (w10.setCell ⟨E,8,none⟩ (.slice ta2 (j + 1) tc2)) wr.heap.size x0 x1 x2 x3):=mkHid (by
      have hk:=Kept.setCell (F:=fun k=>k = E) w10 (p:=⟨E,8,none⟩) rfl (.slice ta2 (j + 1) tc2)
      exact ⟨hk.cell HQ10.out.1 HNE.out,hk.cell HQ10.out.2.1 HNE.out,hk.cell HQ10.out.2.2.1 HNE.out,hk.cell HQ10.out.2.2.2 HNE.out⟩)
     refine tkE 7 46 (.pointer (some ⟨E,2,none⟩)) rfl rfl hHeld ?_
     simp only [List.set_cons_zero,List.set_cons_succ]
     refine tkE 8 47 (.pointer (some ⟨E,8,none⟩)) rfl rfl hHeld ?_
     simp only [List.set_cons_zero,List.set_cons_succ]
     refine wpAnyH_ready (rs:=[9]) (by kernel_rfl) (by simp) (AllReadyH.cons rfl (fun K hK=>?_) AllReadyH.nil)
     go_simp
     refine hK.out _ _ HQ11.out (fun hHeld=>?_)
     clear hK K hHeld e8 g8
     refine wpAnyH_done (by kernel_rfl) ?_ _
     go_wp2
     go_roundw
     case rel=>exact ⟨j + 1,ta2,tc2,by go_num,by omega,mkHid HG10.out.2⟩
     case measure=>simp [intOf];omega
    ·go_simp
     refine hK.out _ _ HQ9.out (fun hHeld=>?_)
     clear hK K
     (try simp only [Act.put])
     refine wpAnyH_ready (rs:=[2]) (by kernel_rfl) (by simp) (AllReadyH.cons rfl (fun K hK=>?_) AllReadyH.nil)
     have e8:(w8.alloc (.cells #[.int .i64 x0,.int .i64 x1,.int .i64 x2,.int .i64 x3] 137)).cell? ⟨E,8,none⟩ = some (.slice ta j tc):=cell_of_block HG9.out.blk rfl
     go_simp
     refine hK.out _ _ hHeld (fun hHeld=>?_)
     clear hK K e8
     refine wpAnyH_ready (rs:=[6]) (by kernel_rfl) (by simp) (AllReadyH.cons rfl (fun K hK=>?_) AllReadyH.nil)
     refine step_append_src4 (w:=w8.alloc (.cells #[.int .i64 x0,.int .i64 x1,.int .i64 x2,.int .i64 x3] 137)) rfl (.tmp 41) (.tmp 44) 65 65 rfl (w.heap.size + 1) 137 ie Tryz.underlying65 hie.out.1 zth 32 hie.out.2.1 HZ.out hie.out.2.2.1 hie.out.2.2.2 (.slice ta j tc) j ((ts.take j).flatMap c4) (by simp [Act.eval]) HG9.out.own (.slice (some ⟨w8.heap.size,0,none⟩) 1 1) 1 (c4 (x0,x1,x2,x3)) (by simp [Act.eval]) HS9.out (by unfold maxLen;omega) (by omega) HG9.out.base ?_
     intro v10 w10 ho10 hg10 hv10
     obtain ⟨ta2,tc2,rfl⟩:=own_shape ho10
     have HG10:=mkHid (HG9.out.grown HXJ.out ho10 hg10 hv10)
     have HQ10:Hid (S4 w10 wr.heap.size x0 x1 x2 x3):=mkHid (by
      have hk:=Kept.grown hg10 (F:=fun k=>(Value.slice ta j tc).ownBlock = some k) (fun k hk=>hk)
      have hn:¬ (Value.slice ta j tc).ownBlock = some wr.heap.size:=HNW.out
      exact ⟨hk.cell HQ9.out.1 hn,hk.cell HQ9.out.2.1 hn,hk.cell HQ9.out.2.2.1 hn,hk.cell HQ9.out.2.2.2 hn⟩)
     clear ho10 hg10 hv10
     refine hK.out _ _ HQ10.out (fun hHeld=>?_)
     clear hK K
     (try simp only [Act.put])
     have e8:w10.cell? ⟨E,8,none⟩ = some (.slice ta j tc):=cell_of_block HG10.out.1 rfl
     have g8:w10.frozen? ⟨E,8,none⟩ = false:=frozen_of_block HG10.out.1
     have HQ11:Hid (S4 (w10.setCell ⟨E,8,none⟩ (.slice ta2 (j + 1) tc2)) wr.heap.size x0 x1 x2 x3):=mkHid (by
      have hk:=Kept.setCell (F:=fun k=>k = E) w10 (p:=⟨E,8,none⟩) rfl (.slice ta2 (j + 1) tc2)
      exact ⟨hk.cell HQ10.out.1 HNE.out,hk.cell HQ10.out.2.1 HNE.out,hk.cell HQ10.out.2.2.1 HNE.out,hk.cell HQ10.out.2.2.2 HNE.out⟩)
     refine tkE 7 46 (.pointer (some ⟨E,2,none⟩)) rfl rfl hHeld ?_
     simp only [List.set_cons_zero,List.set_cons_succ]
     refine tkE 8 47 (.pointer (some ⟨E,8,none⟩)) rfl rfl hHeld ?_
     simp only [List.set_cons_zero,List.set_cons_succ]
     refine wpAnyH_ready (rs:=[9]) (by kernel_rfl) (by simp) (AllReadyH.cons rfl (fun K hK=>?_) AllReadyH.nil)
     go_simp
     refine hK.out _ _ HQ11.out (fun hHeld=>?_)
     clear hK K hHeld e8 g8
     refine wpAnyH_done (by kernel_rfl) ?_ _
     go_wp2
     go_roundw
     case rel=>exact ⟨j + 1,ta2,tc2,by go_num,by omega,mkHid HG10.out.2⟩
     case measure=>simp [intOf];omega
  ·obtain rfl:j = ts.length:=by omega
   have hq:=HGW.out
   rw [List.take_of_length_le (Nat.le_refl _)] at hq
   have HQ:=mkHid hq
   have HA7:=mkHid (getAll_no F B (wr.alloc (.cells #[.int .i64 0,.int .i64 0,.int .i64 0,.int .i64 0] 203)) p wr.heap.size 4 4 203 bs _ ea L r (hq.rr.below ((Below.refl _ wr).alloc (Nat.le_refl _) _)) hl (kl (hq.kept.cell HEV.out (fun f=>Nat.lt_irrefl _ (Nat.lt_of_lt_of_le HF.out.1 (HF.out.2.1 _ f)))) _) HF.out.1 HF.out.2.1 (by have:=HF.out.2.2;have:=hq.kept.size;omega) (by have:=HF.out.2.2;have:=hq.kept.size;simp;omega) (fun f=>by have:=hq.lt _ f;have:=hq.kept.size;omega) (heap_alloc_new wr _) (by omega) HNO.out.1 HNO.out.2.1 (by rw [← List.drop_drop,HI0.out,List.drop_left]) HNO.out.2.2)
   clear hq
   go_wp2_with (go_at_call 182;refine HA7.out.mono ?_;rintro e w7 ⟨rfl,q3⟩;have hkk:Kept (fun k=>F k ∨ k = wr.heap.size) wr w7:=(Kept.alloc _ _ _).trans q3 (fun k hk=>.inl hk);have hres7:w7.heap[w.heap.size]? = some (.cells #[.int .i64 0,.int .i64 0,.int .i64 0,.int .i64 0,.int .i64 0,.int .i64 0,.int .i64 0,.int .i64 0,.slice none 0 0,.int .i64 0] 69 (0,0)):=by { rw [hkk.block _ (by have:=HQ.out.base;omega) (fun e=>by rcases e with e | e;have:=HQ.out.lt _ e;omega;have:=HQ.out.base;omega)];exact HQ.out.res };obtain ⟨r0,r1,r2,r3,r4,r5,r6,r7,r8,r9⟩:=ent_cells hres7;obtain ⟨f0,f1,f2,f3,f4,f5,f6,f7,f8,f9⟩:=ent_frozen hres7;have HR7:=mkHid (And.intro hres7 (HQ.out.kept.trans hkk (fun k hk=>by rcases hk with a | a;exact .inl a;have:=HQ.out.kept.size;exact .inr (by omega))));clear hkk q3 hres7)
   refine bodyPost_ret (ent_leaves rfl (set10_heap HR7.out.1 _ _ _ _ _ _ _ _ _ _) _ rfl) rfl ⟨rfl,?_⟩
   exact set10_kept HR7.out.2 (.inr (Nat.le_refl _)) (.int .i64 0) (.int .i64 0) (.int .i64 0) (.int .i64 0) (.int .i64 0) (.int .i64 0) (.int .i64 0) (.int .i64 0) (.slice none 0 0) (.int .i64 0)
theorem tasks_of:∀ (n:Nat) (M:List Int),M.length = 4 * n → ∃ ts:List Tk,ts.length = n ∧ ts.flatMap tnum = M
 |0,M,h=>⟨[],rfl,(List.eq_nil_of_length_eq_zero (by omega)).symm⟩
 |n + 1,M,h=>by
  match M,h with
  |a :: b :: c :: d :: M,h=>
   obtain ⟨ts,h1,h2⟩:=tasks_of n M (by simp at h;omega)
   exact ⟨(a,b,c,d) :: ts,by simp [h1],by simp [tnum,h2]⟩
  |[],h=>simp at h
  |[_],h=>simp at h;omega
  |[_,_],h=>simp at h;omega
  |[_,_,_],h=>simp at h;omega
theorem head_of (M:List Int) (h:M.length = 9):∃ cl nu ki tm id sk sq st po,M = [cl,nu,ki,tm,id,sk,sq,st,po]:=by
 match M,h with
 |[a,b,c,d,e,f,g,h,i],_=>exact ⟨a,b,c,d,e,f,g,h,i,rfl⟩
abbrev zE:Value:=.agg #[.int .i64 0,.int .i64 0,.int .i64 0,.int .i64 0,.int .i64 0,.int .i64 0,.int .i64 0,.int .i64 0,.slice none 0 0,.int .i64 0]
theorem getEntry_no (F:Nat → Prop) (B:Nat) (w:World) (p:Nat) (bs:List Int) (ea:Addr) (h:Rr F w p bs 0) (hl:(bs.length:Int) ≤ 140737488355328) (he:w.cell? ⟨4,0,none⟩ = some (vErr ea)) (hg:4 < B) (hB:∀ k,F k → B ≤ k) (hBw:B ≤ w.heap.size) (hno:∀ e s,okN e → bs ≠ encL (nums e) ++ s) :
  Calls Tryz.prog 181 #[.pointer (some ⟨p,0,none⟩)] w fun r w'=>r = .returned (.tuple #[zE,vErr ea]) ∧ Kept F w w':=by
 rcases num_or bs 9 with ⟨M,s,hM,ha,rfl⟩ | ⟨L,r,hL,ha,hd,hr⟩
 ·obtain ⟨cl,nu,ki,tm,id,sk,sq,st,po,rfl⟩:=head_of M hM
  by_cases hN:∃ (N:Nat) (q:List Int),(N:Int) ≤ 8 ∧ s = enc N ++ q
  ·obtain ⟨N,q,hN8,rfl⟩:=hN
   rcases num_or q (4 * N) with ⟨M2,s2,hM2,ha2,rfl⟩ | ⟨L,r,hL,ha2,rfl,hr⟩
   ·obtain ⟨ts,rfl,rfl⟩:=tasks_of N M2 hM2
    exfalso
    refine hno ⟨cl,nu,ki,id,sk,sq,st,po,ts,tm⟩ s2 ⟨by simp only;omega,fun n hn=>?_⟩ ?_
    ·simp only [nums,hnum,List.mem_append,List.mem_cons] at hn
     simp only [List.mem_cons] at ha
     rcases hn with hn | rfl | hn
     ·exact ha n (by simpa using hn)
     ·exact ⟨by omega,by omega⟩
     ·exact ha2 n hn
    ·simp only [nums,hnum]
     rw [encL_append,encN_cons]
     simp
   ·obtain ⟨j,hj,hj2⟩:∃ j,j = L.length / 4 ∧ L.length < 4 * j + 4 ∧ 4 * j ≤ L.length:=⟨_,rfl,by omega,by omega⟩
    obtain ⟨T,hT1,hT2⟩:=tasks_of j (L.take (4 * j)) (by rw [List.length_take];omega)
    have hLs:encL L = encL (T.flatMap tnum) ++ encL (L.drop (4 * j)):=by rw [hT2,← encL_append,List.take_append_drop]
    refine getEntry_no3 F B w p _ ea ⟨cl,nu,ki,id,sk,sq,st,po,T,tm⟩ h hl he hg hB hBw ⟨by simp only;omega,fun n hn=>?_⟩ N (L.drop (4 * j)) r (by simp only;omega) hN8 (by rw [List.length_drop];omega) (fun x hx=>ha2 x (List.mem_of_mem_drop hx)) hr ?_
    ·simp only [nums,hnum,List.mem_append,List.mem_cons] at hn
     simp only [List.mem_cons] at ha
     rcases hn with hn | rfl | hn
     ·exact ha n (by simpa using hn)
     ·exact ⟨by omega,by omega⟩
     ·rw [hT2] at hn;exact ha2 n (List.mem_of_mem_take hn)
    ·simp only [hnum]
     rw [hLs,List.append_assoc]
  ·exact getEntry_no2 F B w p _ ea ⟨cl,nu,ki,id,sk,sq,st,po,[],tm⟩ s h hl he hg hB hBw (fun n hn=>ha n hn) (fun N q hN8 e=>hN ⟨N,q,hN8,e⟩) rfl
 ·exact getEntry_no1 F B w p bs ea L r h hl he hg hB hBw hL ha hr hd
abbrev oZ:Obj:=.cells #[.int .i64 0,.int .i64 0,.int .i64 0,.int .i64 0,.int .i64 0,.int .i64 0,.int .i64 0,.int .i64 0,.slice none 0 0,.int .i64 0] 69
theorem inF.okN {e:En} (h:inF e):okN e:=⟨h.2.1.1,h.all⟩
theorem nums_pre {e f:En} (he:okN e) (hf:okN f) {s:List Int} (h:encL (nums e) = encL (nums f) ++ s):e = f ∧ s = []:=by
 have hle:=nums_len e
 have hlf:=nums_len f
 have pe:∀ n ∈ nums e,0 ≤ n:=fun n hn=>(he.2 n hn).1
 have pf:∀ n ∈ nums f,0 ≤ n:=fun n hn=>(hf.2 n hn).1
 have p10:∀ {g:En},nums g = (nums g).take 10 ++ (nums g).drop 10:=fun {g}=>(List.take_append_drop 10 _).symm
 have h':=h
 rw [p10 (g:=e),p10 (g:=f),encL_append,encL_append,List.append_assoc] at h
 obtain ⟨h1,h2⟩:=encL_free _ _ _ _ (fun n hn=>pe n (List.mem_of_mem_take hn)) (fun n hn=>pf n (List.mem_of_mem_take hn)) (by simp [hle,hlf]) h
 have h9:(e.ts.length:Int) = f.ts.length:=by
  have e9:=nums_ten (a:=e)
  have f9:=nums_ten (a:=f)
  have x:=congrArg (fun l=>l[9]?) h1
  simp only [List.getElem?_take] at x
  rw [if_pos (by omega),if_pos (by omega),e9,f9] at x
  simpa using x
 have:=encL_free (nums e) (nums f) [] s pe pf (by rw [hle,hlf];omega) (by simpa using h')
 exact ⟨nums_inj this.1,this.2.symm⟩
def GetPost (w:World) (bs:List Int) (ea:Addr) (r:Ending) (w':World):Prop:=
 (∃ t:Ep,inF t.1 ∧ bs = bytesE t.1 ∧ r = .returned (.tuple #[vP t,.nilIface]) ∧ w'.ownsRow w.heap.size 137 4 (tv t) t.1.ts.length (t.1.ts.flatMap c4) ∧ Below w.heap.size w w') ∨
 ((∀ e,inF e → bs ≠ bytesE e) ∧ r = .returned (.tuple #[zE,vErr ea]) ∧ Below w.heap.size w w')
theorem dh {W:World} {R:Nat} {o:Obj} (h:W.heap[R]? = some o):W.drew.heap[R]? = some o:=h
theorem lt_of_heap {w:World} {k:Nat} {o:Obj} (h:w.heap[k]? = some o):k < w.heap.size:=(Array.getElem?_eq_some_iff.mp h).1
theorem set10_below {w W:World} (h:Below w.heap.size w W) {b:Nat} (hb:w.heap.size ≤ b) (v0 v1 v2 v3 v4 v5 v6 v7 v8 v9:Value):Below w.heap.size w (set10 W b v0 v1 v2 v3 v4 v5 v6 v7 v8 v9):=
 (set10_kept (kept_of_below h) (.inl hb) v0 v1 v2 v3 v4 v5 v6 v7 v8 v9).below (fun _ h=>h) (Nat.le_refl _)
theorem own4_below {w w':World} {b:Nat} {e:TypeId} {v:Value} {n:Nat} {xs:List Value} (h:w.ownsRow b e 4 v n xs) (hb:Below w.heap.size w w'):w'.ownsRow b e 4 v n xs:=
 own4_kept h (kept_of_below hb) (fun k e hge=>by have:=(h.lt k e).2;omega)
set_option maxHeartbeats 12800000 in
theorem get_no (w:World) (v:Value) (bs:List Int) (ea:Addr) (h:Rd w v bs) (hl:(bs.length:Int) ≤ 140737488355328) (he:w.cell? ⟨4,0,none⟩ = some (vErr ea)) (hno:∀ e s,okN e → bs ≠ encL (nums e) ++ s) :
  Calls Tryz.prog 179 #[v] w fun r w'=>r = .returned (.tuple #[zE,vErr ea]) ∧ Below w.heap.size w w':=by
 have HV:=mkHid h
 have HE:=mkHid he
 have HGB:Hid (4 < (w.alloc oZ).heap.size):=mkHid (by have:=World.block_lt_of_cell? w _ he;simp only at this;simp;omega)
 have hn1:¬ 4 = w.heap.size:=by have:=World.block_lt_of_cell? w _ he;simp only at this;omega
 have hn2:¬ w.heap.size = 4:=fun e=>hn1 e.symm
 have HNO:=mkHid hno
 clear h he hno
 go_enter Tryz.func179,Tryz.ntmps179
 go_wp2_with (first
  |(go_at_call 122;refine (newReader_any _ v bs (HV.out.alloc _) hl).mono ?_;rintro r w1 ⟨p,F,rfl,hr1,hF1,b1⟩;have HR1:=mkHid hr1;have HF1:Hid (∀ k,F k → (w.alloc oZ).heap.size ≤ k):=mkHid hF1;have HB1:Hid (Below (w.alloc oZ).heap.size (w.alloc oZ) w1):=mkHid b1;clear hr1 hF1 b1)
  |(go_at_call 181;refine (getEntry_no F (w.alloc oZ).heap.size w1 p bs ea HR1.out hl (kc HE.out (bt (ba (Below.refl _ w) _) HB1.out)) HGB.out HF1.out HB1.out.size HNO.out).mono ?_;rintro r w2 ⟨rfl,k2⟩;have HK2:=mkHid k2;have HB2:Hid (Below (w.alloc oZ).heap.size (w.alloc oZ) w2):=mkHid (HB1.out.trans (HK2.out.below HF1.out HB1.out.size));have hres2:w2.heap[w.heap.size]? = some (.cells #[.int .i64 0,.int .i64 0,.int .i64 0,.int .i64 0,.int .i64 0,.int .i64 0,.int .i64 0,.int .i64 0,.slice none 0 0,.int .i64 0] 69 (0,0)):=(HB2.out.block _ (by simp)).trans (heap_alloc_new w oZ);obtain ⟨r0,r1,r2,r3,r4,r5,r6,r7,r8,r9⟩:=ent_cells hres2;obtain ⟨f0,f1,f2,f3,f4,f5,f6,f7,f8,f9⟩:=ent_frozen hres2;have ce:=kc HE.out (bt (ba (Below.refl _ w) _) HB2.out);have HRS:=mkHid hres2;clear k2 hres2))
 go_region
 all_goals go_wp2
 all_goals exact bodyPost_ret (ent_leaves rfl (dh (set10_heap ((heap_alloc_old _ _ (lt_of_heap HRS.out)).trans HRS.out) _ _ _ _ _ _ _ _ _ _)) _ rfl) rfl ⟨rfl,(set10_below (ba (bt (ba (Below.refl _ w) _) HB2.out) _) (Nat.le_refl _) (.int .i64 0) (.int .i64 0) (.int .i64 0) (.int .i64 0) (.int .i64 0) (.int .i64 0) (.int .i64 0) (.int .i64 0) (.slice none 0 0) (.int .i64 0)).drew⟩
set_option maxHeartbeats 12800000 in
theorem get_end (w:World) (v:Value) (bs:List Int) (ea:Addr) (e:En) (s:List Int) (h:Rd w v bs) (hl:(bs.length:Int) ≤ 140737488355328) (he:w.cell? ⟨4,0,none⟩ = some (vErr ea)) (hok:okN e) (hd:bs = encL (nums e) ++ s) (hs:s ≠ []) :
  Calls Tryz.prog 179 #[v] w fun r w'=>r = .returned (.tuple #[zE,vErr ea]) ∧ Below w.heap.size w w':=by
 have HV:=mkHid h
 have HE:=mkHid he
 have HGB:Hid (4 < (w.alloc oZ).heap.size):=mkHid (by have:=World.block_lt_of_cell? w _ he;simp only at this;simp;omega)
 have hn1:¬ 4 = w.heap.size:=by have:=World.block_lt_of_cell? w _ he;simp only at this;omega
 have hn2:¬ w.heap.size = 4:=fun e=>hn1 e.symm
 have HOK:=mkHid hok
 have HD:=mkHid hd
 have HI:Hid ((encL (nums e)).length < bs.length):=mkHid (by
  rw [hd,List.length_append]
  have:=List.length_pos_iff.mpr hs
  omega)
 clear h he hok hd hs
 go_enter Tryz.func179,Tryz.ntmps179
 go_wp2_with (first
  |(go_at_call 122;refine (newReader_any _ v bs (HV.out.alloc _) hl).mono ?_;rintro r w1 ⟨p,F,rfl,hr1,hF1,b1⟩;have HR1:=mkHid hr1;have HF1:Hid (∀ k,F k → (w.alloc oZ).heap.size ≤ k):=mkHid hF1;have HB1:Hid (Below (w.alloc oZ).heap.size (w.alloc oZ) w1):=mkHid b1;clear hr1 hF1 b1)
  |(go_at_call 181;refine (getEntry_yes F (w.alloc oZ).heap.size w1 p bs ea e s HR1.out hl (kc HE.out (bt (ba (Below.refl _ w) _) HB1.out)) HGB.out HF1.out HB1.out.size HOK.out HD.out).mono ?_;rintro r w2 ⟨ta,tc,rfl,ho2,hr2,k2⟩;simp only [vN];have HO2:=mkHid ho2;have HR2:=mkHid hr2;have HB2:Hid (Below (w.alloc oZ).heap.size (w.alloc oZ) w2):=mkHid (HB1.out.trans (k2.below HF1.out HB1.out.size));clear ho2 hr2 k2)
  |(go_at_call 124;refine (end_err F _ p bs _ (vErr ea) (HR2.out.below ((Below.refl _ w2).alloc (Nat.le_refl _) _)) hl (kl (kc HE.out (bt (ba (Below.refl _ w) _) HB2.out)) _) HI.out).mono ?_;rintro r w3 ⟨rfl,nq,hw3⟩;have b3:Below (w2.alloc (oE e (.slice ta e.ts.length tc))).heap.size (w2.alloc (oE e (.slice ta e.ts.length tc))) w3:=by { rw [hw3];exact drb (Below.refl _ _) nq };have HB3:Hid (Below (w.alloc oZ).heap.size (w.alloc oZ) w3):=mkHid (bt (ba HB2.out (oE e (.slice ta e.ts.length tc))) b3);have hres3:w3.heap[w.heap.size]? = some (.cells #[.int .i64 0,.int .i64 0,.int .i64 0,.int .i64 0,.int .i64 0,.int .i64 0,.int .i64 0,.int .i64 0,.slice none 0 0,.int .i64 0] 69 (0,0)):=(HB3.out.block _ (by simp)).trans (heap_alloc_new w oZ);obtain ⟨r0,r1,r2,r3,r4,r5,r6,r7,r8,r9⟩:=ent_cells hres3;obtain ⟨f0,f1,f2,f3,f4,f5,f6,f7,f8,f9⟩:=ent_frozen hres3;have ce:=kc HE.out (bt (ba (Below.refl _ w) _) HB3.out);have HRS:=mkHid hres3;clear hres3;clear b3 hw3))
 go_region
 all_goals go_wp2
 all_goals exact bodyPost_ret (ent_leaves rfl (dh (set10_heap HRS.out _ _ _ _ _ _ _ _ _ _)) _ rfl) rfl ⟨rfl,(set10_below (bt (ba (Below.refl _ w) _) HB3.out) (Nat.le_refl _) (.int .i64 0) (.int .i64 0) (.int .i64 0) (.int .i64 0) (.int .i64 0) (.int .i64 0) (.int .i64 0) (.int .i64 0) (.slice none 0 0) (.int .i64 0)).drew⟩
set_option maxHeartbeats 12800000 in
theorem get_check (w:World) (v:Value) (bs:List Int) (ea es:Addr) (e:En) (h:Rd w v bs) (hl:(bs.length:Int) ≤ 140737488355328) (he:w.cell? ⟨4,0,none⟩ = some (vErr ea)) (hes:w.cell? ⟨15,0,none⟩ = some (vErr es)) (hok:okN e) (hd:bs = encL (nums e)) (hf:¬ inF e) :
  Calls Tryz.prog 179 #[v] w fun r w'=>r = .returned (.tuple #[zE,vErr ea]) ∧ Below w.heap.size w w':=by
 have HV:=mkHid h
 have HE:=mkHid he
 have HGB:Hid (4 < (w.alloc oZ).heap.size):=mkHid (by have:=World.block_lt_of_cell? w _ he;simp only at this;simp;omega)
 have hn1:¬ 4 = w.heap.size:=by have:=World.block_lt_of_cell? w _ he;simp only at this;omega
 have hn2:¬ w.heap.size = 4:=fun e=>hn1 e.symm
 obtain ⟨s,hs⟩:∃ s:List Int,s = []:=⟨_,rfl⟩
 have HES:=mkHid hes
 have HIF:=mkHid hf
 have HI:Hid ((encL (nums e)).length = bs.length):=mkHid (by rw [hd])
 have HD:Hid (bs = encL (nums e) ++ s):=mkHid (by rw [hs,List.append_nil];exact hd)
 have HOK:=mkHid hok
 clear h he hok hd hs hes hf
 go_enter Tryz.func179,Tryz.ntmps179
 go_wp2_with (first
  |(go_at_call 122;refine (newReader_any _ v bs (HV.out.alloc _) hl).mono ?_;rintro r w1 ⟨p,F,rfl,hr1,hF1,b1⟩;have HR1:=mkHid hr1;have HF1:Hid (∀ k,F k → (w.alloc oZ).heap.size ≤ k):=mkHid hF1;have HB1:Hid (Below (w.alloc oZ).heap.size (w.alloc oZ) w1):=mkHid b1;clear hr1 hF1 b1)
  |(go_at_call 181;refine (getEntry_yes F (w.alloc oZ).heap.size w1 p bs ea e s HR1.out hl (kc HE.out (bt (ba (Below.refl _ w) _) HB1.out)) HGB.out HF1.out HB1.out.size HOK.out HD.out).mono ?_;rintro r w2 ⟨ta,tc,rfl,ho2,hr2,k2⟩;simp only [vN];have HO2:=mkHid ho2;have HR2:=mkHid hr2;have HB2:Hid (Below (w.alloc oZ).heap.size (w.alloc oZ) w2):=mkHid (HB1.out.trans (k2.below HF1.out HB1.out.size));clear ho2 hr2 k2)
  |(go_at_call 124;refine (end_nil F _ p bs _ (HR2.out.below ((Below.refl _ w2).alloc (Nat.le_refl _) _)) hl HI.out).mono ?_;rintro r w9 ⟨rfl,nq,hw9⟩;have b9:Below (w2.alloc (oE e (.slice ta e.ts.length tc))).heap.size (w2.alloc (oE e (.slice ta e.ts.length tc))) w9:=by { rw [hw9];exact drb (Below.refl _ _) nq };obtain ⟨q0,q1,q2,q3,q4,q5,q6,q7,q8,q9⟩:=ent_cells ((b9.block w2.heap.size (by simp)).trans (entO w2 e (.slice ta e.ts.length tc)));have HB9:=mkHid b9;clear b9 hw9)
  |(go_at_call 117;obtain ⟨_,_,e9,HW9⟩:=tks_of_owns (xs:=e.ts) (by have:=HOK.out.1;omega) (own4_below (own4_below HO2.out ((Below.refl _ w2).alloc (Nat.le_refl _) _)) HB9.out);simp only [Value.slice.injEq] at e9;obtain ⟨rfl,_,rfl⟩:=e9;refine (check_no w9 (e,ta,tc) es HW9 HIF.out (kc HES.out (bt (bt (bt (ba (Below.refl _ w) _) HB2.out) (ba (Below.refl _ w2) _)) HB9.out))).mono ?_;rintro r w3 ⟨rfl,b3'⟩;have b3:=bt HB9.out b3';have HB3:Hid (Below (w.alloc oZ).heap.size (w.alloc oZ) w3):=mkHid (bt (ba HB2.out (oE e (.slice ta e.ts.length tc))) b3);clear q0 q1 q2 q3 q4 q5 q6 q7 q8 q9;have hres3:w3.heap[w.heap.size]? = some (.cells #[.int .i64 0,.int .i64 0,.int .i64 0,.int .i64 0,.int .i64 0,.int .i64 0,.int .i64 0,.int .i64 0,.slice none 0 0,.int .i64 0] 69 (0,0)):=(HB3.out.block _ (by simp)).trans (heap_alloc_new w oZ);obtain ⟨r0,r1,r2,r3,r4,r5,r6,r7,r8,r9⟩:=ent_cells hres3;obtain ⟨f0,f1,f2,f3,f4,f5,f6,f7,f8,f9⟩:=ent_frozen hres3;have ce:=kc HE.out (bt (ba (Below.refl _ w) _) HB3.out);have HRS:=mkHid hres3;clear hres3;clear b3 b3'))
 go_region
 all_goals go_wp2
 all_goals exact bodyPost_ret (ent_leaves rfl (dh (set10_heap HRS.out _ _ _ _ _ _ _ _ _ _)) _ rfl) rfl ⟨rfl,(set10_below (bt (ba (Below.refl _ w) _) HB3.out) (Nat.le_refl _) (.int .i64 0) (.int .i64 0) (.int .i64 0) (.int .i64 0) (.int .i64 0) (.int .i64 0) (.int .i64 0) (.int .i64 0) (.slice none 0 0) (.int .i64 0)).drew⟩
set_option maxHeartbeats 12800000 in
theorem get_yes (w:World) (v:Value) (bs:List Int) (ea:Addr) (e:En) (h:Rd w v bs) (hl:(bs.length:Int) ≤ 140737488355328) (he:w.cell? ⟨4,0,none⟩ = some (vErr ea)) (hd:bs = encL (nums e)) (hf:inF e) :
  Calls Tryz.prog 179 #[v] w fun r w'=>∃ ta tc,r = .returned (.tuple #[vP (e,ta,tc),.nilIface]) ∧ w'.ownsRow w.heap.size 137 4 (.slice ta e.ts.length tc) e.ts.length (e.ts.flatMap c4) ∧ Below w.heap.size w w':=by
 have HV:=mkHid h
 have HE:=mkHid he
 have HGB:Hid (4 < (w.alloc oZ).heap.size):=mkHid (by have:=World.block_lt_of_cell? w _ he;simp only at this;simp;omega)
 have hn1:¬ 4 = w.heap.size:=by have:=World.block_lt_of_cell? w _ he;simp only at this;omega
 have hn2:¬ w.heap.size = 4:=fun e=>hn1 e.symm
 obtain ⟨s,hs⟩:∃ s:List Int,s = []:=⟨_,rfl⟩
 have HIF:=mkHid hf
 have HI:Hid ((encL (nums e)).length = bs.length):=mkHid (by rw [hd])
 have HD:Hid (bs = encL (nums e) ++ s):=mkHid (by rw [hs,List.append_nil];exact hd)
 have HOK:=mkHid hf.okN
 clear h he hd hs hf
 go_enter Tryz.func179,Tryz.ntmps179
 go_wp2_with (first
  |(go_at_call 122;refine (newReader_any _ v bs (HV.out.alloc _) hl).mono ?_;rintro r w1 ⟨p,F,rfl,hr1,hF1,b1⟩;have HR1:=mkHid hr1;have HF1:Hid (∀ k,F k → (w.alloc oZ).heap.size ≤ k):=mkHid hF1;have HB1:Hid (Below (w.alloc oZ).heap.size (w.alloc oZ) w1):=mkHid b1;clear hr1 hF1 b1)
  |(go_at_call 181;refine (getEntry_yes F (w.alloc oZ).heap.size w1 p bs ea e s HR1.out hl (kc HE.out (bt (ba (Below.refl _ w) _) HB1.out)) HGB.out HF1.out HB1.out.size HOK.out HD.out).mono ?_;rintro r w2 ⟨ta,tc,rfl,ho2,hr2,k2⟩;simp only [vN];have HO2:=mkHid ho2;have HR2:=mkHid hr2;have HB2:Hid (Below (w.alloc oZ).heap.size (w.alloc oZ) w2):=mkHid (HB1.out.trans (k2.below HF1.out HB1.out.size));clear ho2 hr2 k2)
  |(go_at_call 124;refine (end_nil F _ p bs _ (HR2.out.below ((Below.refl _ w2).alloc (Nat.le_refl _) _)) hl HI.out).mono ?_;rintro r w9 ⟨rfl,nq,hw9⟩;have b9:Below (w2.alloc (oE e (.slice ta e.ts.length tc))).heap.size (w2.alloc (oE e (.slice ta e.ts.length tc))) w9:=by { rw [hw9];exact drb (Below.refl _ _) nq };obtain ⟨q0,q1,q2,q3,q4,q5,q6,q7,q8,q9⟩:=ent_cells ((b9.block w2.heap.size (by simp)).trans (entO w2 e (.slice ta e.ts.length tc)));have HB9:=mkHid b9;clear b9 hw9)
  |(go_at_call 117;obtain ⟨_,_,e9,HW9⟩:=tks_of_owns (xs:=e.ts) (by have:=HOK.out.1;omega) (own4_below (own4_below HO2.out ((Below.refl _ w2).alloc (Nat.le_refl _) _)) HB9.out);simp only [Value.slice.injEq] at e9;obtain ⟨rfl,_,rfl⟩:=e9;refine (check_yes w9 (e,ta,tc) HW9 HIF.out).mono ?_;rintro r w3 ⟨rfl,b3'⟩;have b3:=bt HB9.out b3';have HB3:Hid (Below (w.alloc oZ).heap.size (w.alloc oZ) w3):=mkHid (bt (ba HB2.out (oE e (.slice ta e.ts.length tc))) b3);clear q0 q1 q2 q3 q4 q5 q6 q7 q8 q9;have hres3:w3.heap[w.heap.size]? = some (.cells #[.int .i64 0,.int .i64 0,.int .i64 0,.int .i64 0,.int .i64 0,.int .i64 0,.int .i64 0,.int .i64 0,.slice none 0 0,.int .i64 0] 69 (0,0)):=(HB3.out.block _ (by simp)).trans (heap_alloc_new w oZ);obtain ⟨r0,r1,r2,r3,r4,r5,r6,r7,r8,r9⟩:=ent_cells hres3;obtain ⟨f0,f1,f2,f3,f4,f5,f6,f7,f8,f9⟩:=ent_frozen hres3;have ce:=kc HE.out (bt (ba (Below.refl _ w) _) HB3.out);have HRS:=mkHid hres3;clear hres3;obtain ⟨q0,q1,q2,q3,q4,q5,q6,q7,q8,q9⟩:=ent_cells ((b3.block w2.heap.size (by simp)).trans (entO w2 e (.slice ta e.ts.length tc)));have HO3:=mkHid (own4_below (own4_below HO2.out ((Below.refl _ w2).alloc (Nat.le_refl _) _)) b3);clear b3 b3'))
 have k10:=set10_kept (F:=fun k=>k = w.heap.size) (Kept.refl _ w3) (b:=w.heap.size) (.inl rfl) (.int .i64 e.cl) (.int .i64 e.nu) (.int .i64 e.ki) (.int .i64 e.id) (.int .i64 e.sk) (.int .i64 e.sq) (.int .i64 e.st) (.int .i64 e.po) (.slice ta e.ts.length tc) (.int .i64 e.tm)
 have hsz:w.heap.size < w1.heap.size + 1:=by have:=HB1.out.size;simp at this;omega
 exact bodyPost_ret (ent_leaves rfl (set10_heap HRS.out _ _ _ _ _ _ _ _ _ _) _ rfl) rfl ⟨ta,tc,rfl,own_up4 (own4_kept HO3.out k10 (fun k e1 e2=>by have:=(HO3.out.lt k e1).1;omega)) (by omega),set10_below (bt (ba (Below.refl _ w) _) HB3.out) (Nat.le_refl _) (.int .i64 e.cl) (.int .i64 e.nu) (.int .i64 e.ki) (.int .i64 e.id) (.int .i64 e.sk) (.int .i64 e.sq) (.int .i64 e.st) (.int .i64 e.po) (.slice ta e.ts.length tc) (.int .i64 e.tm)⟩
theorem get_any (w:World) (v:Value) (bs:List Int) (ea es:Addr) (h:Rd w v bs) (hl:(bs.length:Int) ≤ 140737488355328) (he:w.cell? ⟨4,0,none⟩ = some (vErr ea)) (hes:w.cell? ⟨15,0,none⟩ = some (vErr es)) :
  Calls Tryz.prog 179 #[v] w (GetPost w bs ea):=by
 by_cases hp:∃ e s,okN e ∧ bs = encL (nums e) ++ s
 ·obtain ⟨e,s,hok,hd⟩:=hp
  by_cases hs:s = []
  ·subst hs
   rw [List.append_nil] at hd
   by_cases hf:inF e
   ·refine (get_yes w v bs ea e h hl he hd hf).mono ?_
    rintro r w' ⟨ta,tc,rfl,ho,hb⟩
    exact .inl ⟨(e,ta,tc),hf,hd,rfl,ho,hb⟩
   ·refine (get_check w v bs ea es e h hl he hes hok hd hf).mono ?_
    rintro r w' ⟨rfl,hb⟩
    refine .inr ⟨fun f hf2 e2=>hf ?_,rfl,hb⟩
    rw [(nums_pre hok hf2.okN (s:=[]) (by rw [List.append_nil,← hd];exact e2)).1]
    exact hf2
  ·refine (get_end w v bs ea e s h hl he hok hd hs).mono ?_
   rintro r w' ⟨rfl,hb⟩
   refine .inr ⟨fun f hf2 e2=>hs ?_,rfl,hb⟩
   have:=nums_pre hf2.okN hok (s:=s) (by rw [← hd];exact e2.symm)
   exact this.2
 ·refine (get_no w v bs ea h hl he (fun e s ho hd=>hp ⟨e,s,ho,hd⟩)).mono ?_
  rintro r w' ⟨rfl,hb⟩
  exact .inr ⟨fun f hf2 e2=>hp ⟨f,[],hf2.okN,by rw [List.append_nil];exact e2⟩,rfl,hb⟩
end Go.Proofs.YtihdkgekickohaaGreatDoor
