import Derived.Test.YtihdkgekickohaaGreatDoorWal1
import Derived.Laws.CopyOwn
import Derived.Deep.RegionHeld3
import Derived.Test.YtihdkgekickohaaGreatDoorBaseH
import Derived.Laws.ResultCell
namespace Go.Proofs.YtihdkgekickohaaGreatDoor
open Go.ChangeShapes Go.WideShapes Go.ChangeAt Go.RowKit
set_option maxRecDepth 100000
theorem Rd.lenS {w:World} {v:Value} {bs:List Int} (h:Rd w v bs):∀ (W:World),(Builtin.len_ #[74] 3 #[v]).run Tryz.prog W = .ok (.int .i64 (bs.length:Int)) W:=by
 obtain ⟨_,a,c,rfl,_⟩:=h
 intro W
 go_simp
theorem size64:(Tryz.prog.info? 110).map (·.size) = some 64:=by kernel_rfl
theorem info64:(Tryz.prog.info? 110).map (fun i=>(i.zero,i.size,i.bytes)) = some (some (sec zeros),64,64):=by kernel_rfl
theorem zero64 (w:World):(zeroValue 110).run Tryz.prog w = .ok (sec zeros) w:=by
 obtain ⟨i,hi,h1,h2,h3⟩:=info_parts info64
 simp [zeroValue,typeInfo,hi,h1]
def mk64 (m:Int):List Int:=m :: List.replicate 63 0
theorem build64 (w:World) (m:Int):(Instr.build 110 #[(0,.int .u8 m)]).run Tryz.prog w = .ok (.agg (scells (mk64 m)).toArray) w:=by
 kernel_rfl
theorem wpList_build64 {w:World} {ops:Array Oper} {rest:List Oper} {o:Oper} {a:Act} {Q:Exit → Act → World → Prop} (hgd:o.guard = none) (x:Operand) (ho:o.op = .build 110 #[(0,x)]) (m:Int) (hx:a.eval x = .int .u8 m)
  (h:wpList Tryz.prog ops Q rest (a.put o.dst (.agg (scells (mk64 m)).toArray)) w):wpList Tryz.prog ops Q (o :: rest) a w:=by
 refine wpList_plain hgd fun K hK=>?_
 have hb:=build64 w m
 unfold Oper.wp execOp
 simp only [ho,List.map_toArray,List.map_cons,List.map_nil,hx,Sem.run_bind,hb,Result.andThen_ok]
 exact hK _ _ h
theorem copy_min {w:World} (ty:TypeId) (g o dLen dCap:Nat) (cur:List Value) (t:TypeId) (hg:w.heap[g]? = some (.cells cur.toArray t (0,0))) (sv:Value) (bs:List Int) (hs:Rd w sv bs) (hpos:0 < bs.length) (hfit:o + dLen ≤ cur.length) :
  ∃ W2,(Builtin.copy_ #[74,74] ty #[.slice (some ⟨g,o,none⟩) dLen dCap,sv]).run Tryz.prog w = .ok (goInt (bs.take dLen).length) W2 ∧ W2.heap[g]? = some (.cells (splice cur o ((bs.take dLen).map (Value.int .u8))).toArray t (0,0)) ∧ Kept (fun k=>k = g) w W2:=by
 obtain ⟨sa,sc,rfl,hcap,_,hr⟩:=hs.2
 obtain ⟨sb,so,rfl,hsb,hcell⟩:=hr hpos
 have hcl:(scells (bs.take dLen)).length = (bs.take dLen).length:=by rw [scells,List.length_map]
 have htl:(bs.take dLen).length = Nat.min bs.length dLen:=by rw [List.length_take];exact Nat.min_comm _ _
 have hrun:=run_copy_row (P:=Tryz.prog) w 74 74 ty 5 g o dLen dCap ⟨sb,so,none⟩ bs.length sc cur.toArray t (scells (bs.take dLen)) Tryz.underlying74 sizeByte hg (by rw [hcl,htl]) (rd_src (fun k hk=>by
   have hk2:k < bs.length:=by rw [List.length_take] at hk;omega
   have hk3:k < dLen:=by rw [List.length_take] at hk;omega
   rw [hcell k hk2]
   simp [List.getD,hk2,hk3])) (by rw [hcl,List.length_take];simp;omega) (scells_one _)
 rw [hcl] at hrun
 refine ⟨_,hrun,?_,⟨rfl,rfl,rfl,by simp [World.setRow],fun k _ hk=>setRow_other w g k _ hk⟩⟩
 rw [setRow_heap w g cur.toArray _ t (0,0) hg]
 simp [splice,scells]
theorem splice_sect (m:Int) (fr:List Int) (j:Nat):splice (scells (mk64 m)) 1 ((piece63 fr j).map (Value.int .u8)) = scells (sect m fr j):=by
 have hl:(piece63 fr j).length ≤ 63:=by unfold piece63;rw [List.length_take];omega
 unfold splice scells sect mk64
 generalize piece63 fr j = x at *
 simp only [List.map_cons,List.map_replicate,List.map_append]
 have e1:List.take 1 (Value.int .u8 m :: List.replicate 63 (Value.int .u8 0)) = [Value.int .u8 m]:=rfl
 have e2:List.drop (1 + (List.map (Value.int IntKind.u8) x).length) (Value.int .u8 m :: List.replicate 63 (Value.int .u8 0)) = List.replicate (63 - x.length) (Value.int .u8 0):=by
  rw [List.length_map,Nat.add_comm,List.drop_succ_cons,List.drop_replicate]
 rw [e1,e2]
 rfl
theorem rd_block {w:World} {g:Nat} {t:TypeId} {s:List Int} (hs:Sec s) (h:w.heap[g]? = some (.cells (scells s).toArray t (0,0))):Rd w (.slice (some ⟨g,0,none⟩) 64 64) s:=by
 refine ⟨hs.byts,some ⟨g,0,none⟩,64,by rw [hs.len],by rw [hs.len];exact Nat.le_refl _,fun e=>by simp at e,fun _=>⟨g,0,rfl,(Array.getElem?_eq_some_iff.1 h).1,fun k hk=>?_⟩⟩
 rw [Nat.zero_add]
 exact cell_of_block h (by simp [scells,List.getD,hk])
theorem markOf_bounds (j:Nat):0 ≤ markOf j ∧ markOf j ≤ 255:=by unfold markOf;split <;> omega
set_option maxHeartbeats 12800000 in
theorem wwrite_ok (F:Nat → Prop) (w:World) (p n:Nat) (f:Int → List Int) (c:List (Int × List Int)) (nw:Int) (pl:Nat) (v:Value) (fr:List Int) (h:Dk F w p n f c nw false) (hv:Rd w v fr) (hvF:∀ k,v.ownBlock = some k → ¬ F k) (hvl:∀ k,v.ownBlock = some k → k < w.heap.size) (hn:pl + npc fr.length ≤ n) (hl:(fr.length:Int) ≤ 1000000) (hn2:(n:Int) ≤ 1024) (hcl:c.length ≤ 100000000) (hnw:0 ≤ nw ∧ nw ≤ 100000000) :
  Calls Tryz.prog 112 #[.pointer (some ⟨p,0,none⟩),.int .i64 (pl:Int),v] w fun e w'=>e = .returned .nilIface ∧ ∃ F',Dk F' w' p n f (c ++ writesOf fr (pl:Int) (npc fr.length)) (nw + (npc fr.length:Int)) false ∧ (∀ k,F' k → F k ∨ w.heap.size ≤ k) ∧ Kept F w w':=by
 have hlen:=hv.lenS
 have HV:=mkHid hv
 have HF:=mkHid hvF
 have HVL:=mkHid hvl
 have HD:=mkHid h
 obtain ⟨K,hK⟩:∃ K,K = npc fr.length:=⟨_,rfl⟩
 have hKb:K ≤ 15874 ∧ (∀ j:Nat,(63 * (j:Int) < fr.length ↔ j < K)):=by
  rw [hK];unfold npc;exact ⟨by omega,fun j=>by omega⟩
 rw [← hK] at hn ⊢
 have HKB:=mkHid hKb
 clear hv hvF hvl h hK hKb
 go_enter Tryz.func112,Tryz.ntmps112
 go_wp2
 go_loopw [1,7,8] (fun pv mv iv wr=>∃ (j:Nat) (F':Nat → Prop),pv = .int .i64 ((pl:Int) + (j:Int)) ∧ mv = .int .u8 (markOf j) ∧ iv = .int .i64 (63 * (j:Int)) ∧ j ≤ K ∧ Dk F' wr p n f (c ++ writesOf fr (pl:Int) j) (nw + (j:Int)) false ∧ (∀ k,F' k → F k ∨ w.heap.size ≤ k) ∧ Kept F w wr) (fun _ _ iv _=>(fr.length:Int).toNat + 63 - (intOf iv).toNat)
 case atStart=>exact ⟨0,F,by simp,rfl,rfl,Nat.zero_le _,by simpa [writesOf] using HD.out,fun k e=>.inl e,Kept.refl _ _⟩
 case round=>
  clear HD
  obtain ⟨j,F',rfl,rfl,rfl,hj,hD,hF',hkp⟩:=hrel
  have HFK:=mkHid hF'
  have HKP:=mkHid hkp
  have HDj:=mkHid hD
  have hk3:=HKB.out.2 j
  by_cases hjK:j < K
  ·have hlt:63 * (j:Int) < (fr.length:Int):=hk3.mpr hjK
   have hR:=HV.out.kept hkp HF.out
   obtain ⟨v2,s2,r2⟩:=hR.tailS (63 * (j:Int)) (63 * j) (by omega) (by omega)
   obtain ⟨W1,hW1⟩:∃ W1,W1 = wr.alloc (.cells (scells (mk64 (markOf j))).toArray 110):=⟨_,rfl⟩
   have hb1:Below wr.heap.size wr W1:=by rw [hW1];exact (Below.refl _ wr).alloc (Nat.le_refl _) _
   have hg1:W1.drew.heap[wr.heap.size]? = some (.cells (scells (mk64 (markOf j))).toArray 110 (0,0)):=by rw [hW1];exact heap_alloc_new wr _
   have hz1:W1.heap.size = wr.heap.size + 1:=by rw [hW1];simp
   obtain ⟨W2,hrun,hg2,hk2⟩:=copy_min (w:=W1.drew) 3 wr.heap.size 1 63 63 _ 110 hg1 v2 (fr.drop (63 * j)) ((r2.later hb1).drew) (by rw [List.length_drop];omega) (by simp [scells,mk64])
   have hSec:Sec (sect (markOf j) fr j):=sect_sec (markOf_bounds j) HV.out.1 j
   have e63:(fr.drop (63 * j)).take 63 = piece63 fr j:=rfl
   rw [e63] at hg2 hrun
   rw [splice_sect] at hg2
   have HRS:=mkHid (rd_block hSec hg2)
   have HSC:=mkHid hSec
   have hb1d:Below wr.heap.size wr W1.drew:=hb1.drew
   have hnF:¬ F' wr.heap.size:=fun e=>by have:=hD.1 _ e;omega
   have HD2:=mkHid ((hD.below hb1d).kept hk2 (fun k e e2=>hnF (e2 ▸ e)))
   have hkw:Kept F w W2:=hkp.trans ((kept_below (fun k=>k = wr.heap.size) hb1d).trans hk2 (fun _ e=>.inl e)) (fun k e=>.inr (by rw [e];exact hkp.size))
   have HKW:=mkHid hkw
   have HS2:Hid (wr.heap.size ≤ W2.heap.size):=mkHid (by have:=hk2.size;have h2:W1.drew.heap.size = W1.heap.size:=rfl;omega)
   have HWS:=mkHid (writesOf_succ fr (pl:Int) j)
   have hwl:(c ++ writesOf fr (pl:Int) j).length = c.length + j:=by rw [List.length_append,writesOf_len]
   have HJ:Hid (j ≤ 15874):=mkHid (by have:=HKB.out.1;omega)
   have hmk:markOf (j + 1) = 0:=rfl
   have HMK:=mkHid hmk
   have w1:IntKind.i64.wrap ((pl:Int) + (j:Int) + 1) = (pl:Int) + (j:Int) + 1:=by rw [IntKind.wrap_i64];have:=HKB.out.1;omega
   have w2:IntKind.i64.wrap (63 * (j:Int) + 63) = 63 * (j:Int) + 63:=by rw [IntKind.wrap_i64];have:=HKB.out.1;omega
   clear hR r2 hg1 hg2 hk2 hSec e63 hb1d hnF hkw hD hF' hkp hb1 hz1 hmk hk3
   generalize markOf j = mk at *
   go_wp2_with (first
    |(refine wpList_build64 rfl (.tmp 17) rfl mk rfl ?_)
    |(refine wpList_alloc_z rfl 110 rfl (scells zeros).toArray (zero64 _) ?_)
    |(refine wpList_store_new rfl 110 (.tmp 9) (.tmp 18) rfl _ (scells (mk64 mk)) rfl rfl (by have:(scells (mk64 mk)).length = 64:=rfl;rw [this];exact size64) (by rfl) (scells_one _) ?_))
   rw [← hW1]
   clear hW1
   simp only [Act.put]
   go_region_held3 (fun _=>True) (first | trivial) (fail)
   go_wp2_with (go_at_call 110;refine (write_ok F' W2 p n f _ _ ((pl:Int) + (j:Int)) _ (sect mk fr j) HD2.out (by omega) (by omega) HRS.out HSC.out.len (by have:=HJ.out;omega) (by have:=HJ.out;omega)).mono ?_;rintro e w5 ⟨rfl,F5,hD5,hF5,hk5⟩;have HD5:=mkHid hD5;have HF5:=mkHid hF5;have HK5:=mkHid hk5;clear hD5 hF5 hk5)
   go_roundw
   case rel=>exact ⟨j + 1,F5,by go_num,by rw [HMK.out],by go_num,by omega,by rw [HWS.out,← List.append_assoc];have:=HD5.out;rwa [show nw + (j:Int) + 1 = nw + ((j + 1:Nat):Int) by omega] at this,fun k e=>by rcases HF5.out k e with h | h;exact HFK.out k h;(have:=HKP.out.size;have:=HS2.out;exact .inr (by omega)),HKW.out.trans (HK5.out.mono (G:=F') (fun _ e=>e)) (fun k e=>HFK.out k e)⟩
   case measure=>simp [intOf];omega
  ·obtain rfl:j = K:=by omega
   have hlt:¬ 63 * (j:Int) < (fr.length:Int):=fun e=>by have:=hk3.mp e;omega
   clear hD hF' hkp hk3
   go_wp2
   go_ret
   exact ⟨rfl,F',HDj.out,HFK.out,HKP.out⟩
def rmark (m:Int) (g:Int → List Int) (p:Int):Nat → List Int
 |0=>[]
 |n + 1=>if (g p).getD 0 0 = m then (g p).drop 1 ++ cont g (p + 1) n else []
theorem rmark_one (g:Int → List Int) (p:Int) (n:Nat):rmark 1 g p n = rests g p n:=by cases n <;> rfl
theorem rmark_zero (g:Int → List Int) (p:Int) (n:Nat):rmark 0 g p n = cont g p n:=by cases n <;> rfl
theorem cont_byts (g:Int → List Int) (hg:∀ i,Byts (g i)):∀ (n:Nat) (p:Int),Byts (cont g p n):=by
 intro n
 induction n with
 |zero=>intro p;exact Byts.nil
 |succ n ih=>
  intro p
  unfold cont
  split
  ·exact ((hg p).drop 1).append (ih (p + 1))
  ·exact Byts.nil
theorem rests_byts (g:Int → List Int) (hg:∀ i,Byts (g i)) (n:Nat) (p:Int):Byts (rests g p n):=by
 cases n with
 |zero=>exact Byts.nil
 |succ n=>
  simp only [rests]
  split
  ·exact ((hg p).drop 1).append (cont_byts g hg n (p + 1))
  ·exact Byts.nil
theorem cont_len (g:Int → List Int) (hg:∀ i,(g i).length = 64):∀ (n:Nat) (p:Int),(cont g p n).length ≤ 63 * n:=by
 intro n
 induction n with
 |zero=>intro p;simp [cont]
 |succ n ih=>
  intro p
  unfold cont
  split
  ·have:=ih (p + 1)
   have:=hg p
   rw [List.length_append,List.length_drop];omega
  ·simp
theorem rests_len (g:Int → List Int) (hg:∀ i,(g i).length = 64) (n:Nat) (p:Int):(rests g p n).length ≤ 63 * n:=by
 cases n with
 |zero=>simp [rests]
 |succ n=>
  simp only [rests]
  split
  ·have:=cont_len g hg n (p + 1)
   have:=hg p
   rw [List.length_append,List.length_drop];omega
  ·simp
theorem own_some {w:World} {base:Nat} {z:Value} {s:List Int} (hs:Sec s) (h:w.ownsRow base 5 1 z s.length (s.map (Value.int .u8))):∃ g c,z = .slice (some ⟨g,0,none⟩) 64 c ∧ 64 ≤ c:=by
 have hl:=hs.len
 rcases h.2 with ⟨_,h0⟩ | ⟨g,cap,cur,rfl,_,_,hc,_⟩
 ·omega
 ·exact ⟨g,cap,by rw [hl],by omega⟩
theorem own_first {w:World} {base g c:Nat} {s:List Int} (hs:Sec s) (h:w.ownsRow base 5 1 (.slice (some ⟨g,0,none⟩) 64 c) s.length (s.map (Value.int .u8))):w.cell? ⟨g,0,none⟩ = some (.int .u8 (s.getD 0 0)):=by
 have hl:=hs.len
 have h':w.ownsRow base 5 1 (.slice (some ⟨g,0,none⟩) 64 c) 64 (s.map (Value.int .u8)):=by rw [hl] at h;exact h
 have:=h'.cells (g:=g) rfl 0 (.int .u8 (s.getD 0 0)) (by simp [List.getD,show 0 < s.length by omega])
 rwa [add_none] at this
theorem tail_rd {w:World} {g c:Nat} {s:List Int} (hs:Sec s) (h:Rd w (.slice (some ⟨g,0,none⟩) 64 c) s):Rd w (.slice (some ⟨g,1,none⟩) 63 (c - 1)) (s.drop 1):=by
 have hl:=hs.len
 exact Rd.drop (n:=1) (m:=63) (by rw [hl];exact h) (by omega)
set_option maxHeartbeats 12800000 in
theorem rests_any (F:Nat → Prop) (w:World) (p n:Nat) (f:Int → List Int) (c:List (Int × List Int)) (nw:Int) (pl N:Nat) (h:Dk F w p n f c nw false) (hN:pl + N ≤ n) (hn2:(n:Int) ≤ 1024) (hcl:c.length ≤ 1000000000000) :
  Calls Tryz.prog 162 #[.pointer (some ⟨p,0,none⟩),.int .i64 (pl:Int),.int .i64 ((pl:Int) + (N:Int))] w fun e w'=>∃ z,e = .returned z ∧ w'.ownsRow w.heap.size 5 1 z (rests (seenOf f c) (pl:Int) N).length ((rests (seenOf f c) (pl:Int) N).map (Value.int .u8)) ∧ Below w.heap.size w w':=by
 obtain ⟨i0,hi0,hz0,hz1,hz2⟩:=info_parts Tryz.info5
 have HSec:=mkHid (fun i=>h.seen_sec i)
 have HD:=mkHid h
 obtain ⟨g,hg⟩:∃ g,g = seenOf f c:=⟨_,rfl⟩
 have HG:=mkHid hg
 rw [← hg] at HSec ⊢
 clear hg h
 go_enter Tryz.func162,Tryz.ntmps162
 go_wp2
 go_loopw [1,7,8] (fun pv av mv wr=>∃ (j:Nat) (m:Int) (acc:List Int),pv = .int .i64 ((pl:Int) + (j:Int)) ∧ mv = .int .u8 m ∧ (m = 0 ∨ m = 1) ∧ j ≤ N ∧ wr.ownsRow w.heap.size 5 1 av acc.length (acc.map (Value.int .u8)) ∧ acc.length = 63 * j ∧ Below w.heap.size w wr ∧ Hid (acc ++ rmark m g ((pl:Int) + (j:Int)) (N - j) = rests g (pl:Int) N)) (fun pv _ _ _=>((pl:Int) + (N:Int) + 1 - intOf pv).toNat)
 case atStart=>exact ⟨0,1,[],by simp,rfl,.inr rfl,Nat.zero_le _,World.ownsRow_nil _ _ _ _,by simp,Below.refl _ _,mkHid (by simp [rmark_one])⟩
 case round=>
  obtain ⟨j,m,acc,rfl,rfl,hm,hj,ho,hal,hb,HA⟩:=hrel
  by_cases hjN:j < N
  ·have hlt:(pl:Int) + (j:Int) < (pl:Int) + (N:Int):=by omega
   have hS:=HSec.out ((pl:Int) + (j:Int))
   obtain ⟨aa,ac,rfl⟩:=own_shape ho
   have HO:=mkHid ho
   have HB:=mkHid hb
   have hNj:N - j = (N - (j + 1)) + 1:=by omega
   have HA1:Hid ((g ((pl:Int) + (j:Int))).getD 0 0 = m → acc ++ ((g ((pl:Int) + (j:Int))).drop 1 ++ rmark 0 g ((pl:Int) + ((j + 1:Nat):Int)) (N - (j + 1))) = rests g (pl:Int) N):=mkHid (fun e=>by
    have:=HA.out
    rw [hNj,rmark,if_pos e] at this
    rw [rmark_zero,show (pl:Int) + ((j + 1:Nat):Int) = (pl:Int) + (j:Int) + 1 by omega]
    exact this)
   have HA0:Hid (¬ (g ((pl:Int) + (j:Int))).getD 0 0 = m → acc = rests g (pl:Int) N):=mkHid (fun e=>by
    have:=HA.out
    rw [hNj,rmark,if_neg e,List.append_nil] at this
    exact this)
   have HRO:=mkHid (read_ok F wr p n f c nw ((pl:Int) + (j:Int)) (HD.out.below hb) hcl (by omega) (by omega))
   rw [← HG.out] at HRO
   generalize g ((pl:Int) + (j:Int)) = s at *
   have HS:=mkHid hS
   have hs0:=hS.byts.at 0
   clear ho hb hS HA hNj
   have hd1:(s.drop 1).length = 63:=by rw [List.length_drop,HS.out.len]
   have HJ:Hid (acc.length + (s.drop 1).length ≤ maxLen ∧ acc.length + (s.drop 1).length ≤ 140737488355328):=mkHid (by rw [hd1];unfold maxLen;omega)
   have HD1:=mkHid hd1
   have HAL:=mkHid hal
   clear hal hd1
   have w1:IntKind.i64.wrap ((pl:Int) + (j:Int) + 1) = (pl:Int) + (j:Int) + 1:=by rw [IntKind.wrap_i64];omega
   obtain ⟨b0,hb0⟩:∃ b0,b0 = s.getD 0 0:=⟨_,rfl⟩
   rw [← hb0] at HA1 HA0 hs0
   have HB0:=mkHid hb0
   clear hb0
   have hcs:((b0 == m) = true ∧ b0 = m) ∨ ((b0 == m) = false ∧ ¬ b0 = m):=by
    by_cases e:b0 = m
    ·exact .inl ⟨by simp [e],e⟩
    ·exact .inr ⟨by simp [e],e⟩
   rcases hcs with ⟨hcs,he⟩ | ⟨hcs,he⟩
   ·have HA2:=mkHid (HA1.out he)
    clear he HA1 HA0
    go_wp2_with (first
     |(go_at_call 137;refine HRO.out.mono ?_;rintro e w2 ⟨z2,rfl,ho2,hb2⟩;obtain ⟨g2,c2,rfl,hc2⟩:=own_some HS.out ho2;have q0:w2.cell? ⟨g2,0,none⟩ = some (.int .u8 b0):=(by rw [HB0.out];exact own_first HS.out ho2);have HO2:=mkHid ho2;have hb2':=HB.out.trans (hb2.mono HB.out.size);have hsz:=hb2'.size;have ho3:=own_late HO.out hb2;have HB2:=mkHid hb2';have HSRC:=mkHid (tail_rd HS.out (Rd.of_owns HS.out.byts ho2)).src;clear ho2 hb2 hb2')
     |(at_builtin;refine wpList_append_src _ rfl (.tmp 31) (.tmp 33) 74 74 rfl w.heap.size 5 i0 Tryz.underlying74 hi0 hz0 hz1 hz2 _ _ _ rfl ho3 _ _ _ rfl HSRC.out HJ.out.1 HJ.out.2 hsz ?_;intro v4 w4 ho4 hg4 _;have HB4:=mkHid (HB2.out.grown hg4 hsz (fun k hk=>(ho3.lt k hk).1));have HO4:=mkHid ho4;clear ho4 hg4 ho3))
    go_roundw
    case rel=>exact ⟨j + 1,0,acc ++ s.drop 1,by go_num,rfl,.inl rfl,by omega,by have:=HO4.out;rw [← List.map_append] at this;rw [List.length_append];exact this,by rw [List.length_append,HAL.out,HD1.out];omega,HB4.out,mkHid (by rw [List.append_assoc];exact HA2.out)⟩
    case measure=>simp [intOf];omega
   ·have HA2:=mkHid (HA0.out he)
    clear he HA1 HA0
    go_wp2_with (first
     |(go_at_call 137;refine HRO.out.mono ?_;rintro e w2 ⟨z2,rfl,ho2,hb2⟩;obtain ⟨g2,c2,rfl,hc2⟩:=own_some HS.out ho2;have q0:w2.cell? ⟨g2,0,none⟩ = some (.int .u8 b0):=(by rw [HB0.out];exact own_first HS.out ho2);have HB2:=mkHid (HB.out.trans (hb2.mono HB.out.size));have HO3:=mkHid (own_late HO.out hb2);clear ho2 hb2))
    go_ret
    exact ⟨_,rfl,by rw [← HA2.out];exact HO3.out,HB2.out⟩
  ·obtain rfl:j = N:=by omega
   have hlt:¬ (pl:Int) + (j:Int) < (pl:Int) + (j:Int):=by omega
   have HA2:Hid (acc = rests g (pl:Int) j):=mkHid (by have:=HA.out;rw [Nat.sub_self] at this;simpa [rmark] using this)
   have HO:=mkHid ho
   have HB:=mkHid hb
   clear ho hb HA
   go_wp2
   go_ret
   exact ⟨_,rfl,by rw [← HA2.out];exact HO.out,HB.out⟩
def encs (ns:List Nat):List Int:=ns.flatMap enc
theorem encs_strip:∀ (ns ms:List Nat) (rest tail:List Int),ns.length ≤ ms.length → encs ns ++ rest = encs ms ++ tail → rest = encs (ms.drop ns.length) ++ tail ∧ ns = ms.take ns.length:=by
 intro ns
 induction ns with
 |nil=>intro ms rest tail _ h;exact ⟨by simpa [encs] using h,by simp⟩
 |cons x ns ih=>
  intro ms rest tail hl h
  cases ms with
  |nil=>simp at hl
  |cons y ms=>
   simp only [encs,List.flatMap_cons,List.append_assoc] at h
   obtain ⟨e1,h3⟩:=enc_free _ _ _ _ h
   subst e1
   obtain ⟨h1,h2⟩:=ih ms rest tail (by simpa using hl) h3
   exact ⟨by simpa using h1,by simp;exact h2⟩
def wnums (r:Rc):List Nat:=[r.gen,r.epoch,r.index]
theorem wpay_nums (r:Rc):wpay r = encs (wnums r) ++ (enc r.data.length ++ r.data):=by simp [wpay,encs,wnums,List.append_assoc]
theorem no_rec {bs rest:List Int} {ns:List Nat} (hb:bs = encs ns ++ rest) (hk:ns.length < 3) (hno:∀ (N:Nat) (s:List Int),(N:Int) ≤ 1099511627776 → rest ≠ enc N ++ s):recOf bs = none:=by
 refine recOf_none (fun r hr e=>?_)
 have h1:encs ns ++ rest = encs (wnums r) ++ (enc r.data.length ++ r.data):=by rw [← hb,e,wpay_nums]
 obtain ⟨h2,_⟩:=encs_strip ns (wnums r) _ _ (by simp [wnums];omega) h1
 have hg:=hr.g
 have he:=hr.e
 have hi:=hr.i
 have:ns.length = 0 ∨ ns.length = 1 ∨ ns.length = 2:=by omega
 rcases this with e0 | e0 | e0
 ·rw [e0] at h2
  exact hno r.gen _ (by omega) (by simpa [wnums,encs,List.append_assoc] using h2)
 ·rw [e0] at h2
  exact hno r.epoch _ (by omega) (by simpa [wnums,encs,List.append_assoc] using h2)
 ·rw [e0] at h2
  exact hno r.index _ (by omega) (by simpa [wnums,encs,List.append_assoc] using h2)
def fcells (ns:List Nat) (v:Value):Array Value:=#[.int .i64 ((ns.getD 0 0:Nat):Int),.int .i64 ((ns.getD 1 0:Nat):Int),.int .i64 ((ns.getD 2 0:Nat):Int),v]
theorem fcells_set (ns:List Nat) (v:Value) (k N:Nat) (hk:ns.length = k) (h3:k < 3):(fcells ns v).set! k (.int .i64 (N:Int)) = fcells (ns ++ [N]) v:=by
 have:k = 0 ∨ k = 1 ∨ k = 2:=by omega
 rcases this with rfl | rfl | rfl
 ·have:ns = []:=List.length_eq_zero_iff.mp hk
  subst this;rfl
 ·match ns,hk with
  |[a],_=>rfl
 ·match ns,hk with
  |[a,b],_=>rfl
theorem fcells_at (ns:List Nat) (v:Value) (k:Nat) (h:k < 3):(fcells ns v)[k]? = some (.int .i64 ((ns.getD k 0:Nat):Int)):=by
 have:k = 0 ∨ k = 1 ∨ k = 2:=by omega
 rcases this with rfl | rfl | rfl <;> rfl
structure RO (w wr:World) (R B0 pr:Nat) (bs:List Int) (F:Nat → Prop) (ns:List Nat) (i:Nat):Prop where
 fd:wr.heap[R + 1]? = some (.cells (fcells ns (.slice none 0 0)) 167 (0,0))
 rs:wr.heap[R]? = some (.cells (fcells [] (.slice none 0 0)) 167 (0,0))
 ps:∀ j,j < 3 → wr.cell? ⟨B0,j,none⟩ = some (.pointer (some ⟨R + 1,j,none⟩))
 rr:Rr F wr pr bs i
 ff:∀ k,F k → R + 2 ≤ k ∧ k ≠ B0
 bb:R + 2 ≤ B0 ∧ B0 < wr.heap.size
 rw_:R = w.heap.size
 bel:Below w.heap.size w wr
 eq:bs = encs ns ++ bs.drop i
 le:∀ n ∈ ns,n ≤ 1099511627776
theorem RO.num {w wr w':World} {R B0 pr:Nat} {bs:List Int} {F:Nat → Prop} {ns:List Nat} {i j:Nat} (h:RO w wr R B0 pr bs F ns i) (hk:Kept F wr w') (_:Rr F w' pr bs j):w'.heap[R + 1]? = some (.cells (fcells ns (.slice none 0 0)) 167 (0,0)) ∧ w'.heap[R]? = some (.cells (fcells [] (.slice none 0 0)) 167 (0,0)) ∧ (∀ j,j < 3 → w'.cell? ⟨B0,j,none⟩ = some (.pointer (some ⟨R + 1,j,none⟩))) ∧ Below w.heap.size w w':=by
 have l1:=(Array.getElem?_eq_some_iff.1 h.fd).1
 have l2:=(Array.getElem?_eq_some_iff.1 h.rs).1
 refine ⟨?_,?_,fun j hj=>hk.cell (h.ps j hj) (fun e=>(h.ff _ e).2 rfl),h.bel.trans (hk.below (fun k e=>by have:=(h.ff k e).1;have:=h.rw_;omega) h.bel.size)⟩
 ·rw [hk.block (R + 1) l1 (fun e=>by have:=(h.ff _ e).1;omega)];exact h.fd
 ·rw [hk.block R l2 (fun e=>by have:=(h.ff _ e).1;omega)];exact h.rs
theorem RO.next {w wr w':World} {R B0 pr N:Nat} {bs r:List Int} {F:Nat → Prop} {ns:List Nat} {i:Nat} (h:RO w wr R B0 pr bs F ns i) (hk:Kept F wr w') (hr:Rr F w' pr bs (i + (enc N).length)) (hd:bs.drop i = enc N ++ r) (hN:(N:Int) ≤ 1099511627776) (h3:ns.length < 3):RO w (w'.setCell ⟨R + 1,ns.length,none⟩ (.int .i64 (N:Int))) R B0 pr bs F (ns ++ [N]) (i + (enc N).length):=by
 obtain ⟨a1,a2,a3,a4⟩:=h.num hk hr
 have k2:Kept (fun k=>k = R + 1) w' (w'.setCell ⟨R + 1,ns.length,none⟩ (.int .i64 (N:Int))):=Kept.setCell (F:=fun k=>k = R + 1) w' (p:=⟨R + 1,ns.length,none⟩) rfl _
 have l2:=(Array.getElem?_eq_some_iff.1 a2).1
 have hdr:bs.drop (i + (enc N).length) = r:=by rw [← List.drop_drop,hd,List.drop_left]
 refine ⟨by rw [heap_set a1,fcells_set ns _ _ N rfl h3],by rw [k2.block R l2 (by omega)];exact a2,fun j hj=>k2.cell (a3 j hj) (by have:=h.bb.1;show ¬ B0 = R + 1;omega),hr.kept k2 (fun k e e2=>by have:=(h.ff k e).1;omega),h.ff,⟨h.bb.1,Nat.lt_of_lt_of_le h.bb.2 (Nat.le_trans hk.size k2.size)⟩,h.rw_,a4.trans (k2.below (fun k e=>by have:=h.rw_;omega) a4.size),?_,fun n hn=>?_⟩
 ·rw [hdr]
  have:=h.eq
  rw [hd] at this
  rw [this]
  simp [encs,List.append_assoc]
 ·rcases List.mem_append.mp hn with hn | hn
  ·exact h.le n hn
  ·simp at hn;subst hn;omega
theorem rec_yes {bs r:List Int} {g e x N:Nat} (hb:bs = encs [g,e,x] ++ (enc N ++ r)) (hN:N = r.length) (hN2:(N:Int) ≤ 32768) (hB:Byts bs) (hle:∀ n ∈ [g,e,x],n ≤ 1099511627776):recOf bs = some ⟨g,e,x,r⟩:=by
 refine recOf_some (by rw [wpay_nums,hb,hN];rfl) ⟨hle g (by simp),hle e (by simp),hle x (by simp),by show r.length ≤ 32768;omega,?_⟩
 rw [hb] at hB
 exact hB.right.right
theorem rec_no3 {bs rest:List Int} {ns:List Nat} (hb:bs = encs ns ++ rest) (hk:ns.length = 3) (hno:∀ (N:Nat) (s:List Int),rest = enc N ++ s → (N:Int) ≤ 32768 → s.length = N → False):recOf bs = none:=by
 refine recOf_none (fun r hr e=>?_)
 have h1:encs ns ++ rest = encs (wnums r) ++ (enc r.data.length ++ r.data):=by rw [← hb,e,wpay_nums]
 obtain ⟨h2,_⟩:=encs_strip ns (wnums r) _ _ (by simp [wnums];omega) h1
 rw [hk] at h2
 exact hno r.data.length r.data (by simpa [wnums,encs] using h2) (by have:=hr.d;omega) rfl
theorem sizeRec:(Tryz.prog.info? 167).map (·.size) = some 4:=by kernel_rfl
theorem rec_leaves {W:World} {R:Nat} {a b c d:Value} (hR:W.heap[R]? = some (.cells #[a,b,c,d] 167 (0,0))) (tmps:Array Value) (h2:tmps.getD 2 undef = .pointer (some ⟨R,0,none⟩)):(results Tryz.f163 tmps).run Tryz.prog W = .ok (.tuple #[.agg #[a,b,c,d],tmps.getD 3 undef]) W:=by
 have hl:=run_loadVar_row (P:=Tryz.prog) W R 167 167 #[a,b,c,d] (0,0) _ hR Tryz.underlying167 rfl sizeRec
 rw [results_cell_tmp (p:=2) (u:=3) (ty:=167) rfl,h2]
 simp [asAddr,Result.andThen,hl]
theorem kept_setc {F:Nat → Prop} {w w':World} (h:Kept F w w') {p:Addr} (hp:F p.block) (v:Value):Kept F w (w'.setCell p v):=h.trans (Kept.setCell w' hp v) (fun _ hi=>.inl hi)
def RecPost (w:World) (bs:List Int) (e:Ending) (w':World):Prop:=
 Below w.heap.size w w' ∧ ((∃ r a c,recOf bs = some r ∧ e = .returned (.tuple #[.agg #[.int .i64 (r.gen:Int),.int .i64 (r.epoch:Int),.int .i64 (r.index:Int),.slice a r.data.length c],.bool true]) ∧ Rd w' (.slice a r.data.length c) r.data ∧ (∀ k,(Value.slice a r.data.length c).ownBlock = some k → w.heap.size ≤ k ∧ k < w'.heap.size)) ∨
  (recOf bs = none ∧ e = .returned (.tuple #[.agg #[.int .i64 0,.int .i64 0,.int .i64 0,.slice none 0 0],.bool false])))
set_option maxHeartbeats 12800000 in
theorem recordOf_any (w:World) (v:Value) (bs:List Int) (ev:Value) (t:TypeId) (d:Value) (hev:ev = .iface t d) (h:Rd w v bs) (hl:(bs.length:Int) ≤ 140737488355328) (he:w.cell? ⟨4,0,none⟩ = some ev) :
  Calls Tryz.prog 163 #[v] w (RecPost w bs):=by
 subst hev
 have HV:=mkHid h
 have HE:=mkHid he
 clear h he
 obtain ⟨R,hR⟩:∃ R,R = w.heap.size:=⟨_,rfl⟩
 obtain ⟨W2,hW2⟩:∃ W2,W2 = (w.alloc (.cells #[.int .i64 0,.int .i64 0,.int .i64 0,.slice none 0 0] 167)).alloc (.cells #[.int .i64 0,.int .i64 0,.int .i64 0,.slice none 0 0] 167):=⟨_,rfl⟩
 have hb2:Below w.heap.size w W2:=by rw [hW2];exact ((Below.refl _ w).alloc (Nat.le_refl _) _).alloc (by simp) _
 have hz2:W2.heap.size = R + 2:=by rw [hW2,hR];simp
 have hr2:W2.heap[R]? = some (.cells (fcells [] (.slice none 0 0)) 167 (0,0)):=by
  rw [hW2,hR,heap_alloc_old _ _ (by simp)]
  exact heap_alloc_new w _
 have hf2:W2.heap[R + 1]? = some (.cells (fcells [] (.slice none 0 0)) 167 (0,0)):=by
  have:=heap_alloc_new (w.alloc (.cells #[.int .i64 0,.int .i64 0,.int .i64 0,.slice none 0 0] 167)) (.cells #[.int .i64 0,.int .i64 0,.int .i64 0,.slice none 0 0] 167)
  rw [show (w.alloc (.cells #[.int .i64 0,.int .i64 0,.int .i64 0,.slice none 0 0] 167)).heap.size = w.heap.size + 1 by simp] at this
  rw [hW2,hR]
  exact this
 have H2:=mkHid (And.intro hb2 (And.intro hz2 (And.intro hr2 hf2)))
 have HR:=mkHid hR
 clear hb2 hz2 hr2 hf2
 go_enter Tryz.func163,Tryz.ntmps163
 go_wp2_with (first
  |(go_at_call 122;rw [← hW2];clear hW2;refine (newReader_any W2 v bs (HV.out.later H2.out.1) hl).mono ?_;rintro e w3 ⟨pr,F3,rfl,hr3,hF3,hb3⟩;have HR3:=mkHid hr3;have HF3:=mkHid hF3;have HB3:=mkHid hb3;clear hr3 hF3 hb3))
 rw [← hR]
 clear hR
 have HRO:Hid (RO w (w3.alloc (.cells #[.pointer (some ⟨R + 1,0,none⟩),.pointer (some ⟨R + 1,1,none⟩),.pointer (some ⟨R + 1,2,none⟩)] 270)) R w3.heap.size pr bs F3 [] 0):=mkHid (by
  obtain ⟨b2,z2,r2,f2⟩:=H2.out
  have b3:=HB3.out
  have s3:=b3.size
  have hnew:=heap_alloc_new w3 (.cells #[.pointer (some ⟨R + 1,0,none⟩),.pointer (some ⟨R + 1,1,none⟩),.pointer (some ⟨R + 1,2,none⟩)] 270)
  have ba:Below w3.heap.size w3 (w3.alloc (.cells #[.pointer (some ⟨R + 1,0,none⟩),.pointer (some ⟨R + 1,1,none⟩),.pointer (some ⟨R + 1,2,none⟩)] 270)):=(Below.refl _ w3).alloc (Nat.le_refl _) _
  refine ⟨?_,?_,fun j hj=>?_,HR3.out.below ba,fun k e=>⟨by have:=HF3.out k e;omega,fun e2=>by have:=HR3.out.1 k e;omega⟩,⟨by omega,by simp⟩,HR.out,(b2.trans (b3.mono b2.size)).trans (ba.mono (Nat.le_trans b2.size s3)),by simp [encs],by simp⟩
  ·rw [ba.block (R + 1) (by omega),b3.block (R + 1) (by omega)];exact f2
  ·rw [ba.block R (by omega),b3.block R (by omega)];exact r2
  ·have:j = 0 ∨ j = 1 ∨ j = 2:=by omega
   rcases this with rfl | rfl | rfl <;> exact cell_of_block hnew rfl)
 generalize w3.heap.size = B0 at *
 clear H2 HR3 HF3 HB3
 go_loopw [19] (fun iv wr=>∃ (ns:List Nat) (i:Nat),iv = .int .i64 (ns.length:Int) ∧ ns.length ≤ 3 ∧ RO w wr R B0 pr bs F3 ns i) (fun iv _=>3 - (intOf iv).toNat)
 case atStart=>exact ⟨[],0,rfl,by simp,HRO.out⟩
 case round=>
  clear HRO
  obtain ⟨ns,i,rfl,hn3,hro⟩:=hrel
  have HRO:=mkHid hro
  have he:=(hro.bel.cell (World.block_lt_of_cell? w _ HE.out)).trans HE.out
  have HE2:=mkHid he
  clear he
  by_cases hk3:ns.length < 3
  ·obtain ⟨k,hk⟩:∃ k,k = ns.length:=⟨_,rfl⟩
   have hp:=hro.ps ns.length hk3
   have HK:=mkHid hk
   rw [← hk] at hp hk3 ⊢
   have hki:(k:Int) < 3:=by omega
   clear hro hk
   go_wp2_with (first
    |(go_at_call 139;refine (rnum_any F3 wr pr bs i 1099511627776 _ HRO.out.rr hl HE2.out).mono ?_;intro e w5 hpost;rcases hpost with ⟨N,r,hd,_,hN,rfl,hr5,hk5⟩ | ⟨hno,rfl,hr5,hk5⟩ <;> (have HN5:=mkHid (HRO.out.num hk5 hr5);have c5:w5.cell? ⟨R + 1,k,none⟩ = some (.int .i64 ((ns.getD k 0:Nat):Int)):=cell_of_block HN5.out.1 (fcells_at _ _ _ (by rw [HK.out] at *;omega));have f5:w5.frozen? ⟨R + 1,k,none⟩ = false:=frozen_of_block HN5.out.1;have z0:w5.cell? ⟨R,0,none⟩ = some (.int .i64 0):=cell_of_block HN5.out.2.1 rfl;have z1:w5.cell? ⟨R,1,none⟩ = some (.int .i64 0):=cell_of_block HN5.out.2.1 rfl;have z2:w5.cell? ⟨R,2,none⟩ = some (.int .i64 0):=cell_of_block HN5.out.2.1 rfl;have z3:w5.cell? ⟨R,3,none⟩ = some (.slice none 0 0):=cell_of_block HN5.out.2.1 rfl;have y0:w5.frozen? ⟨R,0,none⟩ = false:=frozen_of_block HN5.out.2.1;have y1:w5.frozen? ⟨R,1,none⟩ = false:=frozen_of_block HN5.out.2.1;have y2:w5.frozen? ⟨R,2,none⟩ = false:=frozen_of_block HN5.out.2.1;have y3:w5.frozen? ⟨R,3,none⟩ = false:=frozen_of_block HN5.out.2.1)))
   ·exact ⟨⟨ns ++ [N],i + (enc N).length,by rw [List.length_append,HK.out];simp,by rw [List.length_append];rw [HK.out] at hk3;simp;omega,by rw [HK.out];exact HRO.out.next hk5 hr5 hd (by omega) (by rw [HK.out] at hk3;exact hk3)⟩,by simp [intOf];omega⟩
   ·have hd6:((((w5.setCell ⟨R,0,none⟩ (.int .i64 0)).setCell ⟨R,1,none⟩ (.int .i64 0)).setCell ⟨R,2,none⟩ (.int .i64 0)).setCell ⟨R,3,none⟩ (.slice none 0 0)).heap[R]? = some (.cells #[.int .i64 0,.int .i64 0,.int .i64 0,.slice none 0 0] 167 (0,0)):=by
     rw [heap_set (heap_set (heap_set (heap_set HN5.out.2.1)))]
     rfl
    refine bodyPost_ret (rec_leaves hd6 _ rfl) rfl ⟨?_,.inr ⟨no_rec HRO.out.eq (by rw [HK.out] at hk3;exact hk3) (fun N s hN=>hno N s (by omega) hN),rfl⟩⟩
    have hle:w.heap.size ≤ R:=Nat.le_of_eq HR.out.symm
    exact (((HN5.out.2.2.2.setCell (p:=⟨R,0,none⟩) hle _).setCell (p:=⟨R,1,none⟩) hle _).setCell (p:=⟨R,2,none⟩) hle _).setCell (p:=⟨R,3,none⟩) hle _
  ·have hlen:ns.length = 3:=by omega
   have hki:¬ ((ns.length:Nat):Int) < 3:=by omega
   have HLen:=mkHid hlen
   clear hro hlen
   obtain ⟨g,ep,ix,rfl⟩:∃ g ep ix,ns = [g,ep,ix]:=by
    match ns,HLen.out with
    |[a,b,c],_=>exact ⟨a,b,c,rfl⟩
   have HBY:=mkHid HV.out.1
   go_wp2_with (first
    |(go_at_call 171;refine (rbytes_any F3 wr pr bs i 32768 _ HRO.out.rr hl HE2.out).mono ?_;intro e w5 hpost;rcases hpost with ⟨N,r,v5,hy,rfl,ho5,hr5,hk5⟩ | ⟨v5,hno,rfl,ho5,hr5,hk5⟩ <;> (first | (obtain ⟨D5,hD5⟩:∃ D5,D5 = r.take N:=⟨_,rfl⟩;rw [← hD5] at ho5;have HD5:=mkHid hD5;clear hD5;have HY:=mkHid hy;clear hy) | skip) <;> (obtain ⟨a5,c5,rfl⟩:=own_shape ho5;have HO5:=mkHid ho5;clear ho5;have HN5:=mkHid (HRO.out.num hk5 hr5);have x0:w5.cell? ⟨R + 1,0,none⟩ = some (.int .i64 (g:Int)):=cell_of_block HN5.out.1 rfl;have x1:w5.cell? ⟨R + 1,1,none⟩ = some (.int .i64 (ep:Int)):=cell_of_block HN5.out.1 rfl;have x2:w5.cell? ⟨R + 1,2,none⟩ = some (.int .i64 (ix:Int)):=cell_of_block HN5.out.1 rfl;have x3:w5.cell? ⟨R + 1,3,none⟩ = some (.slice none 0 0):=cell_of_block HN5.out.1 rfl;have f3:w5.frozen? ⟨R + 1,3,none⟩ = false:=frozen_of_block HN5.out.1;have z0:w5.cell? ⟨R,0,none⟩ = some (.int .i64 0):=cell_of_block HN5.out.2.1 rfl;have z1:w5.cell? ⟨R,1,none⟩ = some (.int .i64 0):=cell_of_block HN5.out.2.1 rfl;have z2:w5.cell? ⟨R,2,none⟩ = some (.int .i64 0):=cell_of_block HN5.out.2.1 rfl;have z3:w5.cell? ⟨R,3,none⟩ = some (.slice none 0 0):=cell_of_block HN5.out.2.1 rfl;have y0:w5.frozen? ⟨R,0,none⟩ = false:=frozen_of_block HN5.out.2.1;have y1:w5.frozen? ⟨R,1,none⟩ = false:=frozen_of_block HN5.out.2.1;have y2:w5.frozen? ⟨R,2,none⟩ = false:=frozen_of_block HN5.out.2.1;have y3:w5.frozen? ⟨R,3,none⟩ = false:=frozen_of_block HN5.out.2.1;have HR5:=mkHid hr5;have HK5:=mkHid hk5;have HE5:=mkHid ((HN5.out.2.2.2.cell (World.block_lt_of_cell? w _ HE.out)).trans HE.out);clear hr5 hk5) <;> (first | (have hyy:=HY;clear hyy;rcases (show (i + (enc N).length + N = bs.length) ∨ (i + (enc N).length + N < bs.length) from (by have:=HR5.out.2.2.1;omega)) with hz | hz <;> (have HZ:=mkHid hz;clear hz)) | skip))
    |(go_at_call 124;first | (refine (end_nil F3 w5 pr bs _ HR5.out hl HZ.out).mono ?_;rintro e w7 ⟨rfl,nq,hw7⟩;rw [hw7];clear hw7) | (refine (end_err F3 w5 pr bs _ _ HR5.out hl HE5.out HZ.out).mono ?_;rintro e w7 ⟨rfl,nq,hw7⟩;rw [hw7];clear hw7)))
   ·obtain ⟨hd,hN,hNr⟩:=HY.out
    have hi:i ≤ bs.length:=by have:=HRO.out.rr.2.2.1;omega
    have hlen:=(piece_parts hd hi).1
    have hz:=HZ.out
    have hNl:N = r.length:=by omega
    have hD:D5 = r:=by rw [HD5.out,hNl,List.take_length]
    have heq:bs = encs [g,ep,ix] ++ (enc N ++ r):=by rw [← hd];exact HRO.out.eq
    have hyes:=rec_yes heq hNl hN HBY.out HRO.out.le
    have hBr:Byts r:=by
     have:=HBY.out
     rw [heq] at this
     exact this.right.right
    subst hD
    have k1:=Kept.setCell (F:=fun k=>k = R + 1) (w5.drewN nq) (p:=⟨R + 1,3,none⟩) rfl (Value.slice a5 D5.length c5)
    have l2:=(Array.getElem?_eq_some_iff.1 HN5.out.2.1).1
    have e1:((w5.drewN nq).setCell ⟨R + 1,3,none⟩ (.slice a5 D5.length c5)).heap[R]? = some (.cells (fcells [] (.slice none 0 0)) 167 (0,0)):=by
     rw [k1.block R l2 (by omega)]
     exact HN5.out.2.1
    have hd6:(((((w5.drewN nq).setCell ⟨R + 1,3,none⟩ (.slice a5 D5.length c5)).setCell ⟨R,0,none⟩ (.int .i64 (g:Int))).setCell ⟨R,1,none⟩ (.int .i64 (ep:Int))).setCell ⟨R,2,none⟩ (.int .i64 (ix:Int))).setCell ⟨R,3,none⟩ (.slice a5 D5.length c5) |>.heap[R]? = some (.cells #[.int .i64 (g:Int),.int .i64 (ep:Int),.int .i64 (ix:Int),.slice a5 D5.length c5] 167 (0,0)):=by
     rw [heap_set (heap_set (heap_set (heap_set e1)))]
     rfl
    have kk:Kept (fun k=>k = R ∨ k = R + 1) w5 ((((((w5.drewN nq).setCell ⟨R + 1,3,none⟩ (.slice a5 D5.length c5)).setCell ⟨R,0,none⟩ (.int .i64 (g:Int))).setCell ⟨R,1,none⟩ (.int .i64 (ep:Int))).setCell ⟨R,2,none⟩ (.int .i64 (ix:Int))).setCell ⟨R,3,none⟩ (.slice a5 D5.length c5)):=
     kept_setc (kept_setc (kept_setc (kept_setc (kept_setc (drewN_kept _ w5 nq) (p:=⟨R + 1,3,none⟩) (Or.inr rfl) _) (p:=⟨R,0,none⟩) (Or.inl rfl) _) (p:=⟨R,1,none⟩) (Or.inl rfl) _) (p:=⟨R,2,none⟩) (Or.inl rfl) _) (p:=⟨R,3,none⟩) (Or.inl rfl) _
    have hsz:=(Array.getElem?_eq_some_iff.1 HRO.out.fd).1
    have hbw:=HRO.out.bel.size
    refine bodyPost_ret (rec_leaves hd6 _ rfl) rfl ⟨HN5.out.2.2.2.trans (kk.below (fun k e=>by have:=HR.out;omega) HN5.out.2.2.2.size),.inl ⟨_,a5,c5,hyes,rfl,(Rd.of_owns hBr HO5.out).kept kk (fun k hk e=>?_),fun k hk=>?_⟩⟩
    ·have:=(World.ownsRow.lt HO5.out k hk).1
     omega
    ·have h1:=(World.ownsRow.lt HO5.out k hk)
     have h2:=kk.size
     omega
   ·obtain ⟨hd,hN,hNr⟩:=HY.out
    have hi:i ≤ bs.length:=by have:=HRO.out.rr.2.2.1;omega
    have hlen:=(piece_parts hd hi).1
    have hz:=HZ.out
    have hd6:((((w5.drewN nq).setCell ⟨R,0,none⟩ (.int .i64 0)).setCell ⟨R,1,none⟩ (.int .i64 0)).setCell ⟨R,2,none⟩ (.int .i64 0)).setCell ⟨R,3,none⟩ (.slice none 0 0) |>.heap[R]? = some (.cells #[.int .i64 0,.int .i64 0,.int .i64 0,.slice none 0 0] 167 (0,0)):=by
     rw [heap_set (heap_set (heap_set (heap_set (w:=w5.drewN nq) HN5.out.2.1)))]
     rfl
    have hle:w.heap.size ≤ R:=Nat.le_of_eq HR.out.symm
    have hb7:Below w.heap.size w (w5.drewN nq):=HN5.out.2.2.2.trans ((drewN_below w5 nq).mono HN5.out.2.2.2.size)
    refine bodyPost_ret (rec_leaves hd6 _ rfl) rfl ⟨(((hb7.setCell (p:=⟨R,0,none⟩) hle _).setCell (p:=⟨R,1,none⟩) hle _).setCell (p:=⟨R,2,none⟩) hle _).setCell (p:=⟨R,3,none⟩) hle _,.inr ⟨rec_no3 HRO.out.eq rfl (fun N2 s h2 _ hs=>?_),rfl⟩⟩
    obtain ⟨e1,e2⟩:=enc_free N N2 r s (hd.symm.trans h2)
    subst e1 e2
    omega
   ·have hd6:(((w5.setCell ⟨R,0,none⟩ (.int .i64 0)).setCell ⟨R,1,none⟩ (.int .i64 0)).setCell ⟨R,2,none⟩ (.int .i64 0)).setCell ⟨R,3,none⟩ (.slice none 0 0) |>.heap[R]? = some (.cells #[.int .i64 0,.int .i64 0,.int .i64 0,.slice none 0 0] 167 (0,0)):=by
     rw [heap_set (heap_set (heap_set (heap_set HN5.out.2.1)))]
     rfl
    have hle:w.heap.size ≤ R:=Nat.le_of_eq HR.out.symm
    exact bodyPost_ret (rec_leaves hd6 _ rfl) rfl ⟨(((HN5.out.2.2.2.setCell (p:=⟨R,0,none⟩) hle _).setCell (p:=⟨R,1,none⟩) hle _).setCell (p:=⟨R,2,none⟩) hle _).setCell (p:=⟨R,3,none⟩) hle _,.inr ⟨rec_no3 HRO.out.eq rfl (fun N s h1 h2 hs=>hno N s ⟨h1,h2,by omega⟩),rfl⟩⟩
end Go.Proofs.YtihdkgekickohaaGreatDoor
