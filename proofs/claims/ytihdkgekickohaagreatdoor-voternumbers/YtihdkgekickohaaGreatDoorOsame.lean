import Derived.Test.YtihdkgekickohaaGreatDoorOput
import Derived.BigQuiet
import Derived.DeepKeys
import Derived.Deep.RegionWith
namespace Go.Proofs.YtihdkgekickohaaGreatDoor
open Go.ChangeShapes Go.WideShapes Go.ChangeAt Go.RowKit
set_option maxRecDepth 100000
attribute [local go_sem] World.cell?_alloc_some frozen_alloc_some
theorem drb {B:Nat} {W w:World} (h:Below B W w) (n:Nat):Below B W (w.drewN n):=h.trans ⟨rfl,rfl,rfl,Nat.le_refl _,fun _ _=>rfl⟩
theorem eq9 (w:World) (e f:En):(Op.equalIn 10000 200 (.agg #[.int .i64 e.cl,.int .i64 e.nu,.int .i64 e.ki,.int .i64 e.tm,.int .i64 e.id,.int .i64 e.sk,.int .i64 e.sq,.int .i64 e.st,.int .i64 e.po]) (.agg #[.int .i64 f.cl,.int .i64 f.nu,.int .i64 f.ki,.int .i64 f.tm,.int .i64 f.id,.int .i64 f.sk,.int .i64 f.sq,.int .i64 f.st,.int .i64 f.po])).run Tryz.prog w = .ok (decide (hnum e = hnum f)) w:=by
 have u3:=Tryz.underlying3
 have a3:=Tryz.isAgg3
 have z3:=Tryz.sizeOf3
 rw [show (10000:Nat) = 9999 + 1 from rfl,Op.equalIn]
 simp only [Sem.run_bind,run_underlying Tryz.underlying200,Result.andThen_ok]
 simp only [Std.Legacy.Range.forIn_eq_forIn_range',Std.Legacy.Range.size,Nat.sub_zero,Nat.add_sub_cancel,Nat.div_one,List.range'_succ,List.range'_zero,List.forIn_cons,List.forIn_nil]
 go_simp
 by_cases h0:e.cl = f.cl
 case neg=>simp [h0,hnum]
 by_cases h1:e.nu = f.nu
 case neg=>simp [h0,h1,hnum]
 by_cases h2:e.ki = f.ki
 case neg=>simp [h0,h1,h2,hnum]
 by_cases h3:e.tm = f.tm
 case neg=>simp [h0,h1,h2,h3,hnum]
 by_cases h4:e.id = f.id
 case neg=>simp [h0,h1,h2,h3,h4,hnum]
 by_cases h5:e.sk = f.sk
 case neg=>simp [h0,h1,h2,h3,h4,h5,hnum]
 by_cases h6:e.sq = f.sq
 case neg=>simp [h0,h1,h2,h3,h4,h5,h6,hnum]
 by_cases h7:e.st = f.st
 case neg=>simp [h0,h1,h2,h3,h4,h5,h6,h7,hnum]
 by_cases h8:e.po = f.po
 case neg=>simp [h0,h1,h2,h3,h4,h5,h6,h7,h8,hnum]
 simp [h0,h1,h2,h3,h4,h5,h6,h7,h8,hnum]
theorem eqT (w:World) (a0 a1 a2 a3 b0 b1 b2 b3:Int):(Op.equalIn 10000 137 (.agg #[.int .i64 a0,.int .i64 a1,.int .i64 a2,.int .i64 a3]) (.agg #[.int .i64 b0,.int .i64 b1,.int .i64 b2,.int .i64 b3])).run Tryz.prog w = .ok (decide ((a0,a1,a2,a3) = (b0,b1,b2,b3))) w:=by
 go_simp
 by_cases h0:a0 = b0
 case neg=>simp [h0]
 by_cases h1:a1 = b1
 case neg=>simp [h0,h1]
 by_cases h2:a2 = b2
 case neg=>simp [h0,h1,h2]
 by_cases h3:a3 = b3
 case neg=>simp [h0,h1,h2,h3]
 simp [h0,h1,h2,h3]
attribute [local go_sem] eq9 eqT
set_option maxHeartbeats 1600000 in
theorem eqTasks_any (w:World) (v u:Value) (xs ys:List Tk) (hv:Tks w v xs) (hu:Tks w u ys):Calls Tryz.prog 121 #[v,u] w fun r w'=>r = .returned (.bool (decide (xs = ys))) ∧ Below w.heap.size w w':=by
 obtain ⟨b,hb⟩:∃ b,b = decide (xs = ys):=⟨_,rfl⟩
 rw [← hb]
 have HQ:=mkHid hb
 obtain ⟨a0,cap0,rfl,hl0,_⟩:=id hv
 obtain ⟨a1,cap1,rfl,hl1,_⟩:=id hu
 have HV:=mkHid hv
 have HU:=mkHid hu
 clear hv hu hb
 by_cases hlen:(xs.length:Int) = (ys.length:Int)
 ·have hlen':¬ ((xs.length:Int) ≠ (ys.length:Int)):=by omega
  have HLN:=mkHid hlen
  go_enter Tryz.func121,Tryz.ntmps121
  go_wp2
  go_loopw [5,13] (fun _ iv wr=>∃ j:Nat,iv = .int .i64 (j:Int) ∧ j ≤ xs.length ∧ Hid ((∀ i,i < j → xs[i]? = ys[i]?) ∧ Below w.heap.size w wr)) (fun _ iv _=>xs.length - (intOf iv).toNat)
  case atStart=>exact ⟨0,rfl,Nat.zero_le _,mkHid ⟨fun i hi=>by omega,Below.refl _ _⟩⟩
  case round=>
   obtain ⟨j,rfl,hj,HB⟩:=hrel
   by_cases hlt:j < xs.length
   ·obtain ⟨b0,o0,x0,x1,x2,x3,rfl,hx,c0,c1,c2,c3⟩:=HV.out.at HB.out.2 j hlt
    obtain ⟨b1,o1,y0,y1,y2,y3,rfl,hy,d0,d1,d2,d3⟩:=HU.out.at HB.out.2 j (by omega)
    have hji:(j:Int) < xs.length:=by omega
    have hji2:(j:Int) < ys.length:=by omega
    have HX:=mkHid (And.intro hx hy)
    clear hx hy
    by_cases he:((x0,x1,x2,x3):Tk) = (y0,y1,y2,y3)
    ·simp only [Prod.mk.injEq] at he
     obtain ⟨rfl,rfl,rfl,rfl⟩:=he
     go_wp2
     go_quiet (fail)
     go_wp2
     go_roundw
     case rel=>exact ⟨j + 1,by go_num,by omega,mkHid ⟨fun i hi=>by
      by_cases e:i = j
      ·subst e;rw [HX.out.1,HX.out.2]
      ·exact HB.out.1 i (by omega),drb HB.out.2 nq⟩⟩
     case measure=>simp [intOf];omega
    ·have hbin:∀ W,(binOp .neq 137 (.agg #[.int .i64 x0,.int .i64 x1,.int .i64 x2,.int .i64 x3]) (.agg #[.int .i64 y0,.int .i64 y1,.int .i64 y2,.int .i64 y3])).run Tryz.prog W = .ok (.bool true) W:=fun W=>by
      rw [run_neq_struct,eqT,decide_eq_false he];rfl
     have HE:=mkHid he
     clear he
     go_wp2
     go_quiet (fail)
     go_wp2
     go_ret
     refine ⟨?_,drb HB.out.2 nq⟩
     rw [HQ.out,decide_eq_false (fun e=>HE.out (by have:=HX.out;rw [e] at this;have:=this.1.symm.trans this.2;simpa using this))]
     rfl
   ·obtain rfl:j = xs.length:=by omega
    go_wp2
    go_ret
    refine ⟨?_,HB.out.2⟩
    rw [HQ.out,decide_eq_true]
    ·rfl
    ·apply List.ext_getElem?
     intro i
     by_cases hi:i < xs.length
     ·exact HB.out.1 i hi
     ·rw [List.getElem?_eq_none (by omega),List.getElem?_eq_none (by have:=HLN.out;omega)]
 ·go_enter Tryz.func121,Tryz.ntmps121
  go_wp2
  go_ret
  refine ⟨?_,Below.refl _ _⟩
  rw [HQ.out,decide_eq_false (fun e=>hlen (by rw [e]))]
  rfl
theorem en_eq {e f:En}:e = f ↔ hnum e = hnum f ∧ e.ts = f.ts:=by
 cases e;cases f
 simp only [hnum,En.mk.injEq,List.cons.injEq]
 constructor
 ·rintro ⟨rfl,rfl,rfl,rfl,rfl,rfl,rfl,rfl,rfl,rfl⟩;simp
 ·rintro ⟨⟨rfl,rfl,rfl,rfl,rfl,rfl,rfl,rfl,rfl,_⟩,rfl⟩;simp
theorem two_facts {w w':World} {o1 o2:Obj} (hb:Below ((w.alloc o1).alloc o2).heap.size ((w.alloc o1).alloc o2) w'):w'.heap[w.heap.size]? = some o1 ∧ w'.heap[w.heap.size + 1]? = some o2:=by
 rw [hb.block _ (by simp;omega),hb.block _ (by simp)]
 exact ⟨(heap_alloc_old _ _ (by simp)).trans (heap_alloc_new w o1),two_of_two w o1 o2⟩
theorem takeD {P:Program} {md:Region.Mode} {ops:Array Oper} {Q:Exit → Act → World → Prop} {S:World → Prop} {fuel:Nat} {listed:Array Bool} {l:List Value} {df:List Deferred} {w:World} {oi:Oper} (i d:Nat) (v:Value) (hi:ops[i]? = some oi) (hd:oi.dst = some d)
  (hs:Region.noSelect ops = true) (hf:Region.free md ops listed i = true) (hr:(Region.ready md ops listed).contains i = true)
  (hQ:∀ c a w,Q (.panic c) (a.put oi.dst v) w → Q (.panic c) a w) (hy:YieldsIf P ops S oi v ⟨l.toArray,df⟩) (hS:S w)
  (h:wpAnyH P md ops Q S fuel (listed.setIfInBounds i true) ⟨(l.set d v).toArray,df⟩ w):wpAnyH P md ops Q S (fuel + 1) listed ⟨l.toArray,df⟩ w:=by
 refine wpAnyH_take hi hs hf hr hQ hy hS ?_
 rw [hd]
 simpa [Act.put] using h
theorem tkE {P:Program} {md:Region.Mode} {ops:Array Oper} {Q:Exit → Act → World → Prop} {S:World → Prop} {fuel:Nat} {listed:Array Bool} {l:List Value} {df:List Deferred} {w:World} {oi:Oper} (i d:Nat) (v:Value) (hi:ops[i]? = some oi) (hd:oi.dst = some d) (hS:S w)
  (h:wpAnyH P md ops Q S fuel (listed.setIfInBounds i true) ⟨(l.set d v).toArray,df⟩ w) (hs:Region.noSelect ops = true:=by kernel_rfl) (hf:Region.free md ops listed i = true:=by kernel_rfl) (hr:(Region.ready md ops listed).contains i = true:=by kernel_rfl)
  (hQ:∀ c a w,Q (.panic c) (a.put oi.dst v) w → Q (.panic c) a w:=by exact fun _ _ _ h=>h) (hy:YieldsIf P ops S oi v ⟨l.toArray,df⟩:=by exact Or.inl ⟨by kernel_rfl,by intro w hSw;(try dsimp only at hSw);go_simp⟩):wpAnyH P md ops Q S (fuel + 1) listed ⟨l.toArray,df⟩ w:=takeD i d v hi hd hs hf hr hQ hy hS h
set_option maxHeartbeats 12800000 in
theorem same_no (w:World) (t u:Ep) (hh:hnum t.1 ≠ hnum u.1):Calls Tryz.prog 78 #[vP t,vP u] w fun r w'=>r = .returned (.bool false) ∧ Below w.heap.size w w':=by
 obtain ⟨e,a,cap⟩:=t
 obtain ⟨f,a2,cap2⟩:=u
 have hd:decide (hnum e = hnum f) = false:=decide_eq_false hh
 clear hh
 simp only [vP,vN,tv]
 obtain ⟨W,hW⟩:∃ W,W = (w.alloc (.cells #[.int .i64 e.cl,.int .i64 e.nu,.int .i64 e.ki,.int .i64 e.id,.int .i64 e.sk,.int .i64 e.sq,.int .i64 e.st,.int .i64 e.po,.slice a e.ts.length cap,.int .i64 e.tm] 69)).alloc (.cells #[.int .i64 f.cl,.int .i64 f.nu,.int .i64 f.ki,.int .i64 f.id,.int .i64 f.sk,.int .i64 f.sq,.int .i64 f.st,.int .i64 f.po,.slice a2 f.ts.length cap2,.int .i64 f.tm] 69):=⟨_,rfl⟩
 have hb0:Below w.heap.size w W:=by rw [hW];exact ba (ba (Below.refl _ w) _) _
 have HX:Hid (∀ W',Below W.heap.size W W' → W'.heap[w.heap.size]? = some (.cells #[.int .i64 e.cl,.int .i64 e.nu,.int .i64 e.ki,.int .i64 e.id,.int .i64 e.sk,.int .i64 e.sq,.int .i64 e.st,.int .i64 e.po,.slice a e.ts.length cap,.int .i64 e.tm] 69 (0,0)) ∧ W'.heap[w.heap.size + 1]? = some (.cells #[.int .i64 f.cl,.int .i64 f.nu,.int .i64 f.ki,.int .i64 f.id,.int .i64 f.sk,.int .i64 f.sq,.int .i64 f.st,.int .i64 f.po,.slice a2 f.ts.length cap2,.int .i64 f.tm] 69 (0,0))):=mkHid (fun W' hb=>by rw [hW] at hb;exact two_facts hb)
 have HB0:Hid (Below W.heap.size W W.drew):=mkHid (Below.refl _ W).drew
 obtain ⟨p0,p1,p2,p3,p4,p5,p6,p7,p8,p9⟩:=ent_cells (HX.out _ HB0.out).1
 obtain ⟨q0,q1,q2,q3,q4,q5,q6,q7,q8,q9⟩:=ent_cells (HX.out _ HB0.out).2
 have HW0:=mkHid hb0
 clear hb0
 go_enter Tryz.func78,Tryz.ntmps78
 go_wp2
 rw [← hW]
 clear hW
 refine wp_region_held_drew (S:=fun w'=>w'.cell? ⟨w.heap.size,0,none⟩ = some (.int .i64 e.cl) ∧ w'.cell? ⟨w.heap.size,1,none⟩ = some (.int .i64 e.nu) ∧ w'.cell? ⟨w.heap.size,2,none⟩ = some (.int .i64 e.ki) ∧ w'.cell? ⟨w.heap.size,3,none⟩ = some (.int .i64 e.id) ∧ w'.cell? ⟨w.heap.size,4,none⟩ = some (.int .i64 e.sk) ∧ w'.cell? ⟨w.heap.size,5,none⟩ = some (.int .i64 e.sq) ∧ w'.cell? ⟨w.heap.size,6,none⟩ = some (.int .i64 e.st) ∧ w'.cell? ⟨w.heap.size,7,none⟩ = some (.int .i64 e.po) ∧ w'.cell? ⟨w.heap.size,8,none⟩ = some (.slice a e.ts.length cap) ∧ w'.cell? ⟨w.heap.size,9,none⟩ = some (.int .i64 e.tm) ∧ w'.cell? ⟨w.heap.size + 1,0,none⟩ = some (.int .i64 f.cl) ∧ w'.cell? ⟨w.heap.size + 1,1,none⟩ = some (.int .i64 f.nu) ∧ w'.cell? ⟨w.heap.size + 1,2,none⟩ = some (.int .i64 f.ki) ∧ w'.cell? ⟨w.heap.size + 1,3,none⟩ = some (.int .i64 f.id) ∧ w'.cell? ⟨w.heap.size + 1,4,none⟩ = some (.int .i64 f.sk) ∧ w'.cell? ⟨w.heap.size + 1,5,none⟩ = some (.int .i64 f.sq) ∧ w'.cell? ⟨w.heap.size + 1,6,none⟩ = some (.int .i64 f.st) ∧ w'.cell? ⟨w.heap.size + 1,7,none⟩ = some (.int .i64 f.po) ∧ w'.cell? ⟨w.heap.size + 1,8,none⟩ = some (.slice a2 f.ts.length cap2) ∧ w'.cell? ⟨w.heap.size + 1,9,none⟩ = some (.int .i64 f.tm)) (by kernel_rfl) ⟨p0,p1,p2,p3,p4,p5,p6,p7,p8,p9,q0,q1,q2,q3,q4,q5,q6,q7,q8,q9⟩ (fun hHeld=>?_)
 refine tkE 0 5 (.agg #[.int .i64 e.cl,.int .i64 e.nu,.int .i64 e.ki,.int .i64 e.id,.int .i64 e.sk,.int .i64 e.sq,.int .i64 e.st,.int .i64 e.po,.slice a e.ts.length cap,.int .i64 e.tm]) rfl rfl hHeld ?_
 simp only [List.set_cons_zero,List.set_cons_succ]
 refine tkE 2 7 (.agg #[.int .i64 f.cl,.int .i64 f.nu,.int .i64 f.ki,.int .i64 f.id,.int .i64 f.sk,.int .i64 f.sq,.int .i64 f.st,.int .i64 f.po,.slice a2 f.ts.length cap2,.int .i64 f.tm]) rfl rfl hHeld ?_
 simp only [List.set_cons_zero,List.set_cons_succ]
 refine wpAnyH_ready (rs:=[1]) (by kernel_rfl) (by simp) (AllReadyH.cons rfl (fun K hK=>?_) AllReadyH.nil)
 go_simp
 refine (headOf_any _ e a e.ts.length cap).mono ?_
 rintro r w1 ⟨rfl,hb6⟩
 have HB1:=mkHid (bt HB0.out hb6)
 clear hb6 hHeld
 clear p0 q0 p1 q1 p2 q2 p3 q3 p4 q4 p5 q5 p6 q6 p7 q7 p8 q8 p9 q9
 obtain ⟨p0,p1,p2,p3,p4,p5,p6,p7,p8,p9⟩:=ent_cells (HX.out _ HB1.out).1
 obtain ⟨q0,q1,q2,q3,q4,q5,q6,q7,q8,q9⟩:=ent_cells (HX.out _ HB1.out).2
 refine hK.out _ _ ⟨p0,p1,p2,p3,p4,p5,p6,p7,p8,p9,q0,q1,q2,q3,q4,q5,q6,q7,q8,q9⟩ (fun hHeld=>?_)
 clear hK K
 refine wpAnyH_ready (rs:=[3]) (by kernel_rfl) (by simp) (AllReadyH.cons rfl (fun K hK=>?_) AllReadyH.nil)
 go_simp
 refine (headOf_any _ f a2 f.ts.length cap2).mono ?_
 rintro r w2 ⟨rfl,hb6⟩
 have HB2:=mkHid (bt HB1.out hb6)
 clear hb6 hHeld
 clear p0 q0 p1 q1 p2 q2 p3 q3 p4 q4 p5 q5 p6 q6 p7 q7 p8 q8 p9 q9
 obtain ⟨p0,p1,p2,p3,p4,p5,p6,p7,p8,p9⟩:=ent_cells (HX.out _ HB2.out).1
 obtain ⟨q0,q1,q2,q3,q4,q5,q6,q7,q8,q9⟩:=ent_cells (HX.out _ HB2.out).2
 refine hK.out _ _ ⟨p0,p1,p2,p3,p4,p5,p6,p7,p8,p9,q0,q1,q2,q3,q4,q5,q6,q7,q8,q9⟩ (fun hHeld=>?_)
 clear hK K
 refine tkE 4 9 (.bool false) rfl rfl hHeld ?_
 simp only [List.set_cons_zero,List.set_cons_succ]
 refine tkE 5 10 (.bool false) rfl rfl hHeld ?_
 simp only [List.set_cons_zero,List.set_cons_succ]
 refine takeD 6 11 (undef) rfl rfl (by kernel_rfl) (by kernel_rfl) (by kernel_rfl) (fun _ _ _ h=>h) (Or.inr ⟨by kernel_rfl,rfl⟩) hHeld ?_
 simp only [List.set_cons_zero,List.set_cons_succ]
 refine takeD 7 12 (undef) rfl rfl (by kernel_rfl) (by kernel_rfl) (by kernel_rfl) (fun _ _ _ h=>h) (Or.inr ⟨by kernel_rfl,rfl⟩) hHeld ?_
 simp only [List.set_cons_zero,List.set_cons_succ]
 refine takeD 8 13 (undef) rfl rfl (by kernel_rfl) (by kernel_rfl) (by kernel_rfl) (fun _ _ _ h=>h) (Or.inr ⟨by kernel_rfl,rfl⟩) hHeld ?_
 simp only [List.set_cons_zero,List.set_cons_succ]
 refine takeD 9 14 (undef) rfl rfl (by kernel_rfl) (by kernel_rfl) (by kernel_rfl) (fun _ _ _ h=>h) (Or.inr ⟨by kernel_rfl,rfl⟩) hHeld ?_
 simp only [List.set_cons_zero,List.set_cons_succ]
 refine takeD 10 15 (undef) rfl rfl (by kernel_rfl) (by kernel_rfl) (by kernel_rfl) (fun _ _ _ h=>h) (Or.inr ⟨by kernel_rfl,rfl⟩) hHeld ?_
 simp only [List.set_cons_zero,List.set_cons_succ]
 refine takeD 11 16 (undef) rfl rfl (by kernel_rfl) (by kernel_rfl) (by kernel_rfl) (fun _ _ _ h=>h) (Or.inr ⟨by kernel_rfl,rfl⟩) hHeld ?_
 simp only [List.set_cons_zero,List.set_cons_succ]
 refine takeD 12 17 (undef) rfl rfl (by kernel_rfl) (by kernel_rfl) (by kernel_rfl) (fun _ _ _ h=>h) (Or.inr ⟨by kernel_rfl,rfl⟩) hHeld ?_
 simp only [List.set_cons_zero,List.set_cons_succ]
 refine tkE 13 18 (.bool false) rfl rfl hHeld ?_
 simp only [List.set_cons_zero,List.set_cons_succ]
 refine tkE 14 4 (.bool false) rfl rfl hHeld ?_
 simp only [List.set_cons_zero,List.set_cons_succ]
 refine wpAnyH_done (by kernel_rfl) ?_ _
 go_wp2
 go_ret
 exact ⟨rfl,bt HW0.out HB2.out⟩
set_option maxHeartbeats 12800000 in
theorem same_yes (w:World) (t u:Ep) (ht:EnW w t) (hu:EnW w u) (hh:hnum t.1 = hnum u.1):Calls Tryz.prog 78 #[vP t,vP u] w fun r w'=>r = .returned (.bool (decide (t.1.ts = u.1.ts))) ∧ Below w.heap.size w w':=by
 obtain ⟨e,a,cap⟩:=t
 obtain ⟨f,a2,cap2⟩:=u
 have hd:decide (hnum e = hnum f) = true:=decide_eq_true hh
 obtain ⟨b,hb⟩:∃ b,b = decide (e.ts = f.ts):=⟨_,rfl⟩
 obtain ⟨W,hW⟩:∃ W,W = (w.alloc (.cells #[.int .i64 e.cl,.int .i64 e.nu,.int .i64 e.ki,.int .i64 e.id,.int .i64 e.sk,.int .i64 e.sq,.int .i64 e.st,.int .i64 e.po,.slice a e.ts.length cap,.int .i64 e.tm] 69)).alloc (.cells #[.int .i64 f.cl,.int .i64 f.nu,.int .i64 f.ki,.int .i64 f.id,.int .i64 f.sk,.int .i64 f.sq,.int .i64 f.st,.int .i64 f.po,.slice a2 f.ts.length cap2,.int .i64 f.tm] 69):=⟨_,rfl⟩
 have hb0:Below w.heap.size w W:=by rw [hW];exact ba (ba (Below.refl _ w) _) _
 have HX:Hid (∀ W',Below W.heap.size W W' → W'.heap[w.heap.size]? = some (.cells #[.int .i64 e.cl,.int .i64 e.nu,.int .i64 e.ki,.int .i64 e.id,.int .i64 e.sk,.int .i64 e.sq,.int .i64 e.st,.int .i64 e.po,.slice a e.ts.length cap,.int .i64 e.tm] 69 (0,0)) ∧ W'.heap[w.heap.size + 1]? = some (.cells #[.int .i64 f.cl,.int .i64 f.nu,.int .i64 f.ki,.int .i64 f.id,.int .i64 f.sk,.int .i64 f.sq,.int .i64 f.st,.int .i64 f.po,.slice a2 f.ts.length cap2,.int .i64 f.tm] 69 (0,0))):=mkHid (fun W' hb=>by rw [hW] at hb;exact two_facts hb)
 have HEQ:=mkHid (fun W' (hW:Below W.heap.size W W')=>eqTasks_any W' _ _ e.ts f.ts (Tks.below ht (bt hb0 hW)) (Tks.below hu (bt hb0 hW)))
 simp only [← hb] at HEQ ⊢
 clear hh ht hu hb
 simp only [vP,vN,tv] at HEQ ⊢
 have HB0:Hid (Below W.heap.size W W.drew):=mkHid (Below.refl _ W).drew
 obtain ⟨p0,p1,p2,p3,p4,p5,p6,p7,p8,p9⟩:=ent_cells (HX.out _ HB0.out).1
 obtain ⟨q0,q1,q2,q3,q4,q5,q6,q7,q8,q9⟩:=ent_cells (HX.out _ HB0.out).2
 have HW0:=mkHid hb0
 clear hb0
 go_enter Tryz.func78,Tryz.ntmps78
 go_wp2
 rw [← hW]
 clear hW
 refine wp_region_held_drew (S:=fun w'=>w'.cell? ⟨w.heap.size,0,none⟩ = some (.int .i64 e.cl) ∧ w'.cell? ⟨w.heap.size,1,none⟩ = some (.int .i64 e.nu) ∧ w'.cell? ⟨w.heap.size,2,none⟩ = some (.int .i64 e.ki) ∧ w'.cell? ⟨w.heap.size,3,none⟩ = some (.int .i64 e.id) ∧ w'.cell? ⟨w.heap.size,4,none⟩ = some (.int .i64 e.sk) ∧ w'.cell? ⟨w.heap.size,5,none⟩ = some (.int .i64 e.sq) ∧ w'.cell? ⟨w.heap.size,6,none⟩ = some (.int .i64 e.st) ∧ w'.cell? ⟨w.heap.size,7,none⟩ = some (.int .i64 e.po) ∧ w'.cell? ⟨w.heap.size,8,none⟩ = some (.slice a e.ts.length cap) ∧ w'.cell? ⟨w.heap.size,9,none⟩ = some (.int .i64 e.tm) ∧ w'.cell? ⟨w.heap.size + 1,0,none⟩ = some (.int .i64 f.cl) ∧ w'.cell? ⟨w.heap.size + 1,1,none⟩ = some (.int .i64 f.nu) ∧ w'.cell? ⟨w.heap.size + 1,2,none⟩ = some (.int .i64 f.ki) ∧ w'.cell? ⟨w.heap.size + 1,3,none⟩ = some (.int .i64 f.id) ∧ w'.cell? ⟨w.heap.size + 1,4,none⟩ = some (.int .i64 f.sk) ∧ w'.cell? ⟨w.heap.size + 1,5,none⟩ = some (.int .i64 f.sq) ∧ w'.cell? ⟨w.heap.size + 1,6,none⟩ = some (.int .i64 f.st) ∧ w'.cell? ⟨w.heap.size + 1,7,none⟩ = some (.int .i64 f.po) ∧ w'.cell? ⟨w.heap.size + 1,8,none⟩ = some (.slice a2 f.ts.length cap2) ∧ w'.cell? ⟨w.heap.size + 1,9,none⟩ = some (.int .i64 f.tm)) (by kernel_rfl) ⟨p0,p1,p2,p3,p4,p5,p6,p7,p8,p9,q0,q1,q2,q3,q4,q5,q6,q7,q8,q9⟩ (fun hHeld=>?_)
 refine tkE 0 5 (.agg #[.int .i64 e.cl,.int .i64 e.nu,.int .i64 e.ki,.int .i64 e.id,.int .i64 e.sk,.int .i64 e.sq,.int .i64 e.st,.int .i64 e.po,.slice a e.ts.length cap,.int .i64 e.tm]) rfl rfl hHeld ?_
 simp only [List.set_cons_zero,List.set_cons_succ]
 refine tkE 2 7 (.agg #[.int .i64 f.cl,.int .i64 f.nu,.int .i64 f.ki,.int .i64 f.id,.int .i64 f.sk,.int .i64 f.sq,.int .i64 f.st,.int .i64 f.po,.slice a2 f.ts.length cap2,.int .i64 f.tm]) rfl rfl hHeld ?_
 simp only [List.set_cons_zero,List.set_cons_succ]
 refine wpAnyH_ready (rs:=[1]) (by kernel_rfl) (by simp) (AllReadyH.cons rfl (fun K hK=>?_) AllReadyH.nil)
 go_simp
 refine (headOf_any _ e a e.ts.length cap).mono ?_
 rintro r w1 ⟨rfl,hb6⟩
 have HB1:=mkHid (bt HB0.out hb6)
 clear hb6 hHeld
 clear p0 q0 p1 q1 p2 q2 p3 q3 p4 q4 p5 q5 p6 q6 p7 q7 p8 q8 p9 q9
 obtain ⟨p0,p1,p2,p3,p4,p5,p6,p7,p8,p9⟩:=ent_cells (HX.out _ HB1.out).1
 obtain ⟨q0,q1,q2,q3,q4,q5,q6,q7,q8,q9⟩:=ent_cells (HX.out _ HB1.out).2
 refine hK.out _ _ ⟨p0,p1,p2,p3,p4,p5,p6,p7,p8,p9,q0,q1,q2,q3,q4,q5,q6,q7,q8,q9⟩ (fun hHeld=>?_)
 clear hK K
 refine wpAnyH_ready (rs:=[3]) (by kernel_rfl) (by simp) (AllReadyH.cons rfl (fun K hK=>?_) AllReadyH.nil)
 go_simp
 refine (headOf_any _ f a2 f.ts.length cap2).mono ?_
 rintro r w2 ⟨rfl,hb6⟩
 have HB2:=mkHid (bt HB1.out hb6)
 clear hb6 hHeld
 clear p0 q0 p1 q1 p2 q2 p3 q3 p4 q4 p5 q5 p6 q6 p7 q7 p8 q8 p9 q9
 obtain ⟨p0,p1,p2,p3,p4,p5,p6,p7,p8,p9⟩:=ent_cells (HX.out _ HB2.out).1
 obtain ⟨q0,q1,q2,q3,q4,q5,q6,q7,q8,q9⟩:=ent_cells (HX.out _ HB2.out).2
 refine hK.out _ _ ⟨p0,p1,p2,p3,p4,p5,p6,p7,p8,p9,q0,q1,q2,q3,q4,q5,q6,q7,q8,q9⟩ (fun hHeld=>?_)
 clear hK K
 refine tkE 4 9 (.bool true) rfl rfl hHeld ?_
 simp only [List.set_cons_zero,List.set_cons_succ]
 refine tkE 5 10 (.bool true) rfl rfl hHeld ?_
 simp only [List.set_cons_zero,List.set_cons_succ]
 refine tkE 6 11 (.pointer (some ⟨w.heap.size,2,none⟩)) rfl rfl hHeld ?_
 simp only [List.set_cons_zero,List.set_cons_succ]
 refine tkE 7 12 (.pointer (some ⟨w.heap.size,8,none⟩)) rfl rfl hHeld ?_
 simp only [List.set_cons_zero,List.set_cons_succ]
 refine tkE 8 13 (.slice a e.ts.length cap) rfl rfl hHeld ?_
 simp only [List.set_cons_zero,List.set_cons_succ]
 refine tkE 9 14 (.pointer (some ⟨w.heap.size + 1,2,none⟩)) rfl rfl hHeld ?_
 simp only [List.set_cons_zero,List.set_cons_succ]
 refine tkE 10 15 (.pointer (some ⟨w.heap.size + 1,8,none⟩)) rfl rfl hHeld ?_
 simp only [List.set_cons_zero,List.set_cons_succ]
 refine tkE 11 16 (.slice a2 f.ts.length cap2) rfl rfl hHeld ?_
 simp only [List.set_cons_zero,List.set_cons_succ]
 refine wpAnyH_ready (rs:=[12]) (by kernel_rfl) (by simp) (AllReadyH.cons rfl (fun K hK=>?_) AllReadyH.nil)
 go_simp
 refine (HEQ.out w2 HB2.out).mono ?_
 rintro r w3 ⟨rfl,hb6⟩
 have HB3:=mkHid (bt HB2.out hb6)
 clear hb6 hHeld
 clear p0 q0 p1 q1 p2 q2 p3 q3 p4 q4 p5 q5 p6 q6 p7 q7 p8 q8 p9 q9
 obtain ⟨p0,p1,p2,p3,p4,p5,p6,p7,p8,p9⟩:=ent_cells (HX.out _ HB3.out).1
 obtain ⟨q0,q1,q2,q3,q4,q5,q6,q7,q8,q9⟩:=ent_cells (HX.out _ HB3.out).2
 refine hK.out _ _ ⟨p0,p1,p2,p3,p4,p5,p6,p7,p8,p9,q0,q1,q2,q3,q4,q5,q6,q7,q8,q9⟩ (fun hHeld=>?_)
 clear hK K
 refine tkE 13 18 (.bool b) rfl rfl hHeld ?_
 simp only [List.set_cons_zero,List.set_cons_succ]
 refine tkE 14 4 (.bool b) rfl rfl hHeld ?_
 simp only [List.set_cons_zero,List.set_cons_succ]
 refine wpAnyH_done (by kernel_rfl) ?_ _
 go_wp2
 go_ret
 exact ⟨rfl,bt HW0.out HB3.out⟩
theorem same_any (w:World) (t u:Ep) (ht:EnW w t) (hu:EnW w u):∃ b:Bool,(b = true ↔ t.1 = u.1) ∧ Calls Tryz.prog 78 #[vP t,vP u] w fun r w'=>r = .returned (.bool b) ∧ Below w.heap.size w w':=by
 by_cases hh:hnum t.1 = hnum u.1
 ·exact ⟨_,by rw [decide_eq_true_iff,en_eq];simp [hh],same_yes w t u ht hu hh⟩
 ·exact ⟨false,by rw [en_eq];simp [hh],same_no w t u hh⟩
end Go.Proofs.YtihdkgekickohaaGreatDoor
