import Derived.Test.YtihdkgekickohaaGreatDoorWaX
import Derived.Test.YtihdkgekickohaaGreatDoorBaseG
import Derived.Test.YtihdkgekickohaaGreatDoorBaseA
namespace Go.Proofs.YtihdkgekickohaaGreatDoor
open Go.ChangeShapes Go.WideShapes Go.ChangeAt Go.RowKit
set_option maxRecDepth 100000
theorem cread_no (w:World) (v:Value) (bs:List Int) (t1 t2:TypeId) (d1 d2:Value) (h:Rd w v bs) (hk:¬ kind bs = 1) (h1:w.cell? ⟨5,0,none⟩ = some (.iface t1 d1)) (h2:w.cell? ⟨8,0,none⟩ = some (.iface t2 d2)) :
  Calls Tryz.prog 138 #[v] w fun e w'=>(e = .returned (.tuple #[.slice none 0 0,.int .i64 0,.nilIface]) ∨ ∃ t d,e = .returned (.tuple #[.slice none 0 0,.int .i64 0,.iface t d])) ∧ Below w.heap.size w w':=by
 rcases kind_cases bs with k | k | k | k
 ·rcases kind_zero k with k1 | ⟨k1,k2,k3⟩
  ·refine (read_short1 w v bs h (by omega)).mono ?_
   rintro e w' ⟨rfl,hb⟩
   exact ⟨.inl rfl,hb⟩
  ·refine (read_short2 w v bs h k1 k2 k3).mono ?_
   rintro e w' ⟨rfl,hb⟩
   exact ⟨.inl rfl,hb⟩
 ·exact absurd k hk
 ·obtain ⟨k1,k2,k3⟩:=kind_four k
  refine (read_bad w v bs _ (word bs) h rfl (by omega) (by omega) k3 h1).mono ?_
  rintro e w' ⟨rfl,hb⟩
  exact ⟨.inr ⟨_,_,rfl⟩,hb⟩
 ·obtain ⟨k1,k2⟩:=kind_eight k
  refine (read_large w v bs _ h k1 k2 h2).mono ?_
  rintro e w' ⟨rfl,hb⟩
  exact ⟨.inr ⟨_,_,rfl⟩,hb⟩
theorem cread_yes (w:World) (v:Value) (bs:List Int) (h:Rd w v bs) (hk:kind bs = 1) :
  Calls Tryz.prog 138 #[v] w fun e w'=>∃ v',e = .returned (.tuple #[v',.int .i64 ((word bs + 8:Nat):Int),.nilIface]) ∧ Rd w' v' (pay bs) ∧ Below w.heap.size w w':=by
 obtain ⟨k1,k2,k3⟩:=kind_one hk
 refine (read_good w v bs (word bs) h rfl (by omega) (by omega) k3).mono ?_
 rintro e w' ⟨v',rfl,ho,hb⟩
 have hp:Byts (pay bs):=(h.1.drop 4).take (word bs)
 exact ⟨v',rfl,Rd.of_owns hp (by rw [pay_len hk];exact ho),hb⟩
theorem results_cell_tmp2 {fn:Func} {p u x:Tmp} {ty:TypeId} (h:fn.results = #[.cell p ty,.tmp u,.tmp x]) (tmps:Array Value) (P:Program) (w:World) :
  (results fn tmps).run P w =
   ((asAddr (tmps.getD p undef)).run P w).andThen fun a w₁=>((loadVar ty a).run P w₁).andThen fun v w₂=>.ok (.tuple #[v,tmps.getD u undef,tmps.getD x undef]) w₂:=by
 simp only [results,h]
 simp [Sem.run_bind,Result.andThen]
theorem stand_leaves {W:World} {R:Nat} {a b c d:Value} (hR:W.heap[R]? = some (.cells #[a,b,c,d] 167 (0,0))) (tmps:Array Value) (h2:tmps.getD 6 undef = .pointer (some ⟨R,0,none⟩)):(results Tryz.f135 tmps).run Tryz.prog W = .ok (.tuple #[.agg #[a,b,c,d],tmps.getD 7 undef,tmps.getD 8 undef]) W:=by
 have hl:=run_loadVar_row (P:=Tryz.prog) W R 167 167 #[a,b,c,d] (0,0) _ hR Tryz.underlying167 rfl sizeRec
 rw [results_cell_tmp2 (p:=6) (u:=7) (x:=8) (ty:=167) rfl,h2]
 simp [asAddr,Result.andThen,hl]
theorem zero_facts {W:World} {R:Nat} (h:W.heap[R]? = some (.cells #[.int .i64 0,.int .i64 0,.int .i64 0,.slice none 0 0] 167 (0,0))) :
  W.cell? ⟨R,0,none⟩ = some (.int .i64 0) ∧ W.cell? ⟨R,1,none⟩ = some (.int .i64 0) ∧ W.cell? ⟨R,2,none⟩ = some (.int .i64 0) ∧ W.cell? ⟨R,3,none⟩ = some (.slice none 0 0) ∧ W.frozen? ⟨R,0,none⟩ = false ∧ W.frozen? ⟨R,1,none⟩ = false ∧ W.frozen? ⟨R,2,none⟩ = false ∧ W.frozen? ⟨R,3,none⟩ = false:=
 ⟨cell_of_block h rfl,cell_of_block h rfl,cell_of_block h rfl,cell_of_block h rfl,frozen_of_block h,frozen_of_block h,frozen_of_block h,frozen_of_block h⟩
def StandPost (w:World) (o:Option (Rc × Nat)) (e:Ending) (w':World):Prop:=
 Below w.heap.size w w' ∧ ((∃ r m a c,o = some (r,m) ∧ e = .returned (.tuple #[.agg #[.int .i64 (r.gen:Int),.int .i64 (r.epoch:Int),.int .i64 (r.index:Int),.slice a r.data.length c],.int .i64 (m:Int),.bool true]) ∧ Rd w' (.slice a r.data.length c) r.data ∧ (∀ k,(Value.slice a r.data.length c).ownBlock = some k → w.heap.size ≤ k ∧ k < w'.heap.size)) ∨
  (o = none ∧ e = .returned (.tuple #[.agg #[.int .i64 0,.int .i64 0,.int .i64 0,.slice none 0 0],.int .i64 0,.bool false])))
theorem zero_leaves {W:World} {R:Nat} (h:W.heap[R]? = some (.cells #[.int .i64 0,.int .i64 0,.int .i64 0,.slice none 0 0] 167 (0,0))):((((W.setCell ⟨R,0,none⟩ (.int .i64 0)).setCell ⟨R,1,none⟩ (.int .i64 0)).setCell ⟨R,2,none⟩ (.int .i64 0)).setCell ⟨R,3,none⟩ (.slice none 0 0)).heap[R]? = some (.cells #[.int .i64 0,.int .i64 0,.int .i64 0,.slice none 0 0] 167 (0,0)):=by
 rw [heap_set (heap_set (heap_set (heap_set h)))]
 rfl
theorem below_four {b:Nat} {w W:World} {R:Nat} (h:Below b w W) (hle:b ≤ R) (v0 v1 v2 v3:Value):Below b w ((((W.setCell ⟨R,0,none⟩ v0).setCell ⟨R,1,none⟩ v1).setCell ⟨R,2,none⟩ v2).setCell ⟨R,3,none⟩ v3):=
 (((h.setCell (p:=⟨R,0,none⟩) hle _).setCell (p:=⟨R,1,none⟩) hle _).setCell (p:=⟨R,2,none⟩) hle _).setCell (p:=⟨R,3,none⟩) hle _
set_option maxHeartbeats 12800000 in
theorem standing_no (F:Nat → Prop) (w:World) (p n:Nat) (f:Int → List Int) (c:List (Int × List Int)) (nw:Int) (pl N:Nat) (t1 t2:TypeId) (d1 d2:Value) (h:Dk F w p n f c nw false) (hN:pl + N ≤ n) (hn2:(n:Int) ≤ 1024) (hcl:c.length ≤ 1000000000000)
  (h1:w.cell? ⟨5,0,none⟩ = some (.iface t1 d1)) (h2:w.cell? ⟨8,0,none⟩ = some (.iface t2 d2)) (hk:¬ kind (rests (seenOf f c) (pl:Int) N) = 1) :
  Calls Tryz.prog 135 #[.pointer (some ⟨p,0,none⟩),.int .i64 (pl:Int),.int .i64 ((pl:Int) + (N:Int))] w (StandPost w (stand (seenOf f c) (pl:Int) N)):=by
 have HO:Hid (stand (seenOf f c) (pl:Int) N = none):=mkHid (by unfold stand;rw [if_neg hk])
 have HBy:Hid (Byts (rests (seenOf f c) (pl:Int) N)):=mkHid (rests_byts (seenOf f c) (fun i=>(h.seen_sec i).byts) _ _)
 have HD:=mkHid h
 have HE1:=mkHid h1
 have HE2:=mkHid h2
 have HK:=mkHid hk
 clear h h1 h2 hk
 obtain ⟨W1,hW1⟩:∃ W1,W1 = w.alloc (.cells #[.int .i64 0,.int .i64 0,.int .i64 0,.slice none 0 0] 167):=⟨_,rfl⟩
 have hb1:Below w.heap.size w W1:=by rw [hW1];exact (Below.refl _ w).alloc (Nat.le_refl _) _
 have hr1:W1.heap[w.heap.size]? = some (.cells #[.int .i64 0,.int .i64 0,.int .i64 0,.slice none 0 0] 167 (0,0)):=by rw [hW1];exact heap_alloc_new w _
 have H1:=mkHid (And.intro hb1 hr1)
 clear hb1 hr1
 go_enter Tryz.func135,Tryz.ntmps135
 go_wp2_with (first
  |(go_at_call 162;rw [← hW1];clear hW1;refine (rests_any F W1 p n f c nw pl N (HD.out.below H1.out.1) hN hn2 hcl).mono ?_;rintro e w2 ⟨z2,rfl,ho2,hb2⟩;have HO2:=mkHid (Rd.of_owns HBy.out ho2);have HB2:=mkHid hb2;clear ho2 hb2)
  |(go_at_call 138;have hbw:=H1.out.1.trans (HB2.out.mono H1.out.1.size);refine (cread_no w2 z2 _ t1 t2 d1 d2 HO2.out HK.out ((hbw.cell (World.block_lt_of_cell? w _ HE1.out)).trans HE1.out) ((hbw.cell (World.block_lt_of_cell? w _ HE2.out)).trans HE2.out)).mono ?_;rintro e w3 ⟨rfl | ⟨t5,d5,rfl⟩,hb3⟩ <;> (have hr3:w3.heap[w.heap.size]? = some (.cells #[.int .i64 0,.int .i64 0,.int .i64 0,.slice none 0 0] 167 (0,0)):=(by have l1:=(Array.getElem?_eq_some_iff.1 H1.out.2).1;rw [hb3.block w.heap.size (Nat.lt_of_lt_of_le l1 HB2.out.size),HB2.out.block w.heap.size l1];exact H1.out.2);obtain ⟨z0,z1,z2,z3,y0,y1,y2,y3⟩:=zero_facts hr3;have HR3:=mkHid hr3;have HB3:=mkHid (hbw.trans (hb3.mono hbw.size));clear hr3 hb3 hbw)))
 all_goals exact bodyPost_ret (stand_leaves (zero_leaves HR3.out) _ rfl) rfl ⟨below_four HB3.out (Nat.le_refl _) _ _ _ _,.inr ⟨HO.out,rfl⟩⟩
theorem four_leaves {W:World} {R:Nat} (h:W.heap[R]? = some (.cells #[.int .i64 0,.int .i64 0,.int .i64 0,.slice none 0 0] 167 (0,0))) (v0 v1 v2 v3:Value):((((W.setCell ⟨R,0,none⟩ v0).setCell ⟨R,1,none⟩ v1).setCell ⟨R,2,none⟩ v2).setCell ⟨R,3,none⟩ v3).heap[R]? = some (.cells #[v0,v1,v2,v3] 167 (0,0)):=by
 rw [heap_set (heap_set (heap_set (heap_set h)))]
 rfl
theorem kept_four {F:Nat → Prop} {w W:World} {R:Nat} (h:Kept F w W) (hF:F R) (v0 v1 v2 v3:Value):Kept F w ((((W.setCell ⟨R,0,none⟩ v0).setCell ⟨R,1,none⟩ v1).setCell ⟨R,2,none⟩ v2).setCell ⟨R,3,none⟩ v3):=
 kept_setc (kept_setc (kept_setc (kept_setc h (p:=⟨R,0,none⟩) hF _) (p:=⟨R,1,none⟩) hF _) (p:=⟨R,2,none⟩) hF _) (p:=⟨R,3,none⟩) hF _
set_option maxHeartbeats 12800000 in
theorem standing_yes (F:Nat → Prop) (w:World) (p n:Nat) (f:Int → List Int) (c:List (Int × List Int)) (nw:Int) (pl N:Nat) (t3:TypeId) (d3:Value) (h:Dk F w p n f c nw false) (hN:pl + N ≤ n) (hn2:(n:Int) ≤ 1024) (hcl:c.length ≤ 1000000000000)
  (h3:w.cell? ⟨4,0,none⟩ = some (.iface t3 d3)) (hk:kind (rests (seenOf f c) (pl:Int) N) = 1) :
  Calls Tryz.prog 135 #[.pointer (some ⟨p,0,none⟩),.int .i64 (pl:Int),.int .i64 ((pl:Int) + (N:Int))] w (StandPost w (stand (seenOf f c) (pl:Int) N)):=by
 have HBy:Hid (Byts (rests (seenOf f c) (pl:Int) N)):=mkHid (rests_byts (seenOf f c) (fun i=>(h.seen_sec i).byts) _ _)
 have HO:Hid (stand (seenOf f c) (pl:Int) N = (recOf (pay (rests (seenOf f c) (pl:Int) N))).map (fun r=>(r,npc (word (rests (seenOf f c) (pl:Int) N) + 8)))):=mkHid (by unfold stand;rw [if_pos hk])
 have HD:=mkHid h
 have HE3:=mkHid h3
 have HK:=mkHid hk
 have hpl:=pay_len hk
 obtain ⟨hwd,_,_⟩:=kind_one hk
 have HRA:=mkHid (fun (W1:World) (hb:Below w.heap.size w W1)=>rests_any F W1 p n f c nw pl N (h.below hb) hN hn2 hcl)
 generalize stand (seenOf f c) (pl:Int) N = o at *
 generalize rests (seenOf f c) (pl:Int) N = bs at *
 obtain ⟨m,hm⟩:∃ m,m = word bs + 8:=⟨_,rfl⟩
 have hm0:¬ (m:Int) = 0:=by omega
 have hm9:(m:Int) ≤ 1000000000:=by omega
 have HM:=mkHid hm
 have HL:Hid (((pay bs).length:Int) ≤ 140737488355328):=mkHid (by omega)
 clear h h3 hk hm hpl hwd
 obtain ⟨W1,hW1⟩:∃ W1,W1 = w.alloc (.cells #[.int .i64 0,.int .i64 0,.int .i64 0,.slice none 0 0] 167):=⟨_,rfl⟩
 have hb1:Below w.heap.size w W1:=by rw [hW1];exact (Below.refl _ w).alloc (Nat.le_refl _) _
 have hr1:W1.heap[w.heap.size]? = some (.cells #[.int .i64 0,.int .i64 0,.int .i64 0,.slice none 0 0] 167 (0,0)):=by rw [hW1];exact heap_alloc_new w _
 have H1:=mkHid (And.intro hb1 hr1)
 clear hb1 hr1
 go_enter Tryz.func135,Tryz.ntmps135
 go_wp2_with (first
  |(go_at_call 162;rw [← hW1];clear hW1;refine (HRA.out W1 H1.out.1).mono ?_;rintro e w2 ⟨z2,rfl,ho2,hb2⟩;have HO2:=mkHid (Rd.of_owns HBy.out ho2);have HB2:=mkHid hb2;clear ho2 hb2)
  |(go_at_call 138;refine (cread_yes w2 z2 bs HO2.out HK.out).mono ?_;rintro e w3 ⟨v3,rfl,hr3,hb3⟩;rw [← HM.out];have HR3:=mkHid hr3;have HB3:=mkHid (HB2.out.trans (hb3.mono HB2.out.size));clear hr3 hb3 HB2 HO2)
  |(go_at_call 163;have hbw:=H1.out.1.trans (HB3.out.mono H1.out.1.size);refine (recordOf_any w3 v3 (pay bs) _ t3 d3 rfl HR3.out HL.out ((hbw.cell (World.block_lt_of_cell? w _ HE3.out)).trans HE3.out)).mono ?_;rintro e w4 ⟨hb4,⟨r,ra,rc,hrec,rfl,hrd,hown⟩ | ⟨hrec,rfl⟩⟩ <;> (have hr4:w4.heap[w.heap.size]? = some (.cells #[.int .i64 0,.int .i64 0,.int .i64 0,.slice none 0 0] 167 (0,0)):=(by have l1:=(Array.getElem?_eq_some_iff.1 H1.out.2).1;rw [hb4.block w.heap.size (Nat.lt_of_lt_of_le l1 HB3.out.size),HB3.out.block w.heap.size l1];exact H1.out.2);have HA:Hid (∀ ob:Obj,(w4.alloc ob).heap[w.heap.size]? = some (.cells #[.int .i64 0,.int .i64 0,.int .i64 0,.slice none 0 0] 167 (0,0))):=mkHid (fun ob=>(by rw [heap_alloc_old _ _ (Array.getElem?_eq_some_iff.1 hr4).1];exact hr4));obtain ⟨z0,z1,z2,z3,y0,y1,y2,y3⟩:=zero_facts (HA.out (.cells #[.int .i64 0,.int .i64 0,.int .i64 0,.slice none 0 0] 167));have HB4:=mkHid (hbw.trans (hb4.mono hbw.size));have HREC:=mkHid hrec;clear hr4 hb4 hrec) <;> (first | (have HRD:=mkHid hrd;have HOWN:=mkHid hown;have HBW:=mkHid hbw;clear hrd hown hbw) | skip))
  |(go_at_call 141;refine (pieces_is _ m hm9).mono ?_;rintro e w6 ⟨rfl,hw6⟩;rw [hw6];clear hw6))
 ·clear z0 z1 z2 z3 y0 y1 y2 y3
  obtain ⟨w5,hw5⟩:∃ w5,w5 = w4.alloc (.cells #[.int .i64 (r.gen:Int),.int .i64 (r.epoch:Int),.int .i64 (r.index:Int),.slice ra r.data.length rc] 167):=⟨_,rfl⟩
  have hb5:Below w4.heap.size w4 w5:=by rw [hw5];exact (Below.refl _ w4).alloc (Nat.le_refl _) _
  have hr5:w5.heap[w.heap.size]? = some (.cells #[.int .i64 0,.int .i64 0,.int .i64 0,.slice none 0 0] 167 (0,0)):=by rw [hw5];exact HA.out _
  have hn5:w5.heap[w4.heap.size]? = some (.cells #[.int .i64 (r.gen:Int),.int .i64 (r.epoch:Int),.int .i64 (r.index:Int),.slice ra r.data.length rc] 167 (0,0)):=by rw [hw5];exact heap_alloc_new w4 _
  obtain ⟨z0,z1,z2,z3,y0,y1,y2,y3⟩:=zero_facts hr5
  have q0:w5.cell? ⟨w4.heap.size,0,none⟩ = some (.int .i64 (r.gen:Int)):=cell_of_block hn5 rfl
  have q1:w5.cell? ⟨w4.heap.size,1,none⟩ = some (.int .i64 (r.epoch:Int)):=cell_of_block hn5 rfl
  have q2:w5.cell? ⟨w4.heap.size,2,none⟩ = some (.int .i64 (r.index:Int)):=cell_of_block hn5 rfl
  have q3:w5.cell? ⟨w4.heap.size,3,none⟩ = some (.slice ra r.data.length rc):=cell_of_block hn5 rfl
  have H5:=mkHid (And.intro hb5 hr5)
  rw [← hw5]
  clear hw5 hb5 hr5 hn5
  go_region_with (go_at_call 141;refine (pieces_is _ m hm9).mono ?_;rintro e w6 ⟨rfl,hw6⟩;rw [hw6];clear hw6)
  all_goals go_wp2
  all_goals
   have hle:=HB4.out.size
   have hb5:=H5.out.1
   have hs5:=hb5.size
   refine bodyPost_ret (stand_leaves (R:=w.heap.size) (a:=.int .i64 (r.gen:Int)) (b:=.int .i64 (r.epoch:Int)) (c:=.int .i64 (r.index:Int)) (d:=.slice ra r.data.length rc) ?_ _ rfl) rfl ⟨?_,.inl ⟨r,npc m,ra,rc,?_,rfl,?_,fun k hk=>?_⟩⟩
   ·exact four_leaves H5.out.2 _ _ _ _
   ·exact (below_four (HB4.out.trans (hb5.mono hle)) (Nat.le_refl _) _ _ _ _).drew
   ·rw [HO.out,HREC.out,HM.out];rfl
   ·refine ((HRD.out.later hb5).kept (kept_four (F:=fun k=>k = w.heap.size) (drewN_kept _ w5 0) rfl _ _ _ _) (fun k hk e=>?_)).dr
    have h1:=(HOWN.out k hk).1
    have h2:=(Array.getElem?_eq_some_iff.1 H1.out.2).1
    have h3:=HB3.out.size
    omega
   ·have h1:=HOWN.out k hk
    have h2:=HBW.out.size
    have h3:=(kept_four (F:=fun k=>k = w.heap.size) (R:=w.heap.size) (drewN_kept _ w5 0) rfl (.int .i64 (r.gen:Int)) (.int .i64 (r.epoch:Int)) (.int .i64 (r.index:Int)) (.slice ra r.data.length rc)).size
    exact ⟨by omega,Nat.lt_of_lt_of_le h1.2 (Nat.le_trans hs5 h3)⟩
 ·exact bodyPost_ret (stand_leaves (zero_leaves (HA.out _)) _ rfl) rfl ⟨below_four (HB4.out.alloc HB4.out.size _) (Nat.le_refl _) _ _ _ _,.inr ⟨by rw [HO.out,HREC.out];rfl,rfl⟩⟩
theorem standing_any (F:Nat → Prop) (w:World) (p n:Nat) (f:Int → List Int) (c:List (Int × List Int)) (nw:Int) (pl N:Nat) (t1 t2 t3:TypeId) (d1 d2 d3:Value) (h:Dk F w p n f c nw false) (hN:pl + N ≤ n) (hn2:(n:Int) ≤ 1024) (hcl:c.length ≤ 1000000000000)
  (h1:w.cell? ⟨5,0,none⟩ = some (.iface t1 d1)) (h2:w.cell? ⟨8,0,none⟩ = some (.iface t2 d2)) (h3:w.cell? ⟨4,0,none⟩ = some (.iface t3 d3)) :
  Calls Tryz.prog 135 #[.pointer (some ⟨p,0,none⟩),.int .i64 (pl:Int),.int .i64 ((pl:Int) + (N:Int))] w (StandPost w (stand (seenOf f c) (pl:Int) N)):=by
 by_cases hk:kind (rests (seenOf f c) (pl:Int) N) = 1
 ·exact standing_yes F w p n f c nw pl N t3 d3 h hN hn2 hcl h3 hk
 ·exact standing_no F w p n f c nw pl N t1 t2 d1 d2 h hN hn2 hcl h1 h2 hk
theorem wresults_cell1 {fn:Func} {p:Tmp} {ty:TypeId} (h:fn.results = #[.cell p ty]) (tmps:Array Value) (P:Program) (w:World) :
  (results fn tmps).run P w = ((asAddr (tmps.getD p undef)).run P w).andThen fun a w₁=>(loadVar ty a).run P w₁:=by
 simp only [results,h]
 simp [Sem.run_bind,Result.andThen]
theorem last_leaves {W:World} {R:Nat} {a b c d:Value} (hR:W.heap[R]? = some (.cells #[a,b,c,d] 167 (0,0))) (tmps:Array Value) (h2:tmps.getD 2 undef = .pointer (some ⟨R,0,none⟩)):(results Tryz.f105 tmps).run Tryz.prog W = .ok (.agg #[a,b,c,d]) W:=by
 have hl:=run_loadVar_row (P:=Tryz.prog) W R 167 167 #[a,b,c,d] (0,0) _ hR Tryz.underlying167 rfl sizeRec
 rw [wresults_cell1 (p:=2) (ty:=167) rfl,h2]
 simp [asAddr,Result.andThen,hl]
theorem two_new (w:World) (o:Obj) (r:Array Value):((w.alloc o).alloc (.cells r 167)).heap[w.heap.size + 1]? = some (.cells r 167 (0,0)):=by
 have:=heap_alloc_new (w.alloc o) (.cells r 167)
 rw [show (w.alloc o).heap.size = w.heap.size + 1 by simp] at this
 exact this
theorem last_nil (w:World) (x y z:Value) (a:Option Addr) (cap:Nat) :
  Calls Tryz.prog 105 #[.agg #[x,y,.slice a 0 cap,z]] w fun e w'=>e = .returned (.agg #[.int .i64 0,.int .i64 0,.int .i64 0,.slice none 0 0]) ∧ Below w.heap.size w w':=by
 go_enter Tryz.func105,Tryz.ntmps105
 go_wp2
 exact bodyPost_ret (last_leaves (two_new w _ _) _ rfl) rfl ⟨rfl,((Below.refl _ w).alloc (Nat.le_refl _) _).alloc (by simp) _⟩
theorem last_some (w:World) (x y z:Value) (g ep ix:Int) (da:Option Addr) (dn dc:Nat) (b off m cap:Nat) (hm:(m:Int) ≤ 1000000000000) (h0:w.cell? ⟨b,off + m * 4,none⟩ = some (.int .i64 g)) (h1:w.cell? ⟨b,off + m * 4 + 1,none⟩ = some (.int .i64 ep)) (h2:w.cell? ⟨b,off + m * 4 + 2,none⟩ = some (.int .i64 ix)) (h3:w.cell? ⟨b,off + m * 4 + 3,none⟩ = some (.slice da dn dc)) :
  Calls Tryz.prog 105 #[.agg #[x,y,.slice (some ⟨b,off,none⟩) (m + 1) cap,z]] w fun e w'=>e = .returned (.agg #[.int .i64 g,.int .i64 ep,.int .i64 ix,.slice da dn dc]) ∧ Below w.heap.size w w':=by
 have hm1:((m:Int) + 1 == 0) = false:=by simp;omega
 have hb2:Below w.heap.size w ((w.alloc (.cells #[x,y,.slice (some ⟨b,off,none⟩) (m + 1) cap,z] 151)).alloc (.cells #[.int .i64 0,.int .i64 0,.int .i64 0,.slice none 0 0] 167)):=((Below.refl _ w).alloc (Nat.le_refl _) _).alloc (by simp) _
 have q0:=(hb2.cell (World.block_lt_of_cell? w _ h0)).trans h0
 have q1:=(hb2.cell (World.block_lt_of_cell? w _ h1)).trans h1
 have q2:=(hb2.cell (World.block_lt_of_cell? w _ h2)).trans h2
 have q3:=(hb2.cell (World.block_lt_of_cell? w _ h3)).trans h3
 clear hb2 h0 h1 h2 h3
 go_enter Tryz.func105,Tryz.ntmps105
 go_wp2
 exact bodyPost_ret (last_leaves (two_new w _ _) _ rfl) rfl ⟨rfl,((Below.refl _ w).alloc (Nat.le_refl _) _).alloc (by simp) _⟩
theorem goes_nil (w:World) (x y z d:Value) (a:Option Addr) (cap g ep ix:Nat) :
  Calls Tryz.prog 136 #[.agg #[x,y,.slice a 0 cap,z],.agg #[.int .i64 (g:Int),.int .i64 (ep:Int),.int .i64 (ix:Int),d]] w fun e w'=>e = .returned (.bool (decide (ix = 0 ∧ 1 ≤ g))) ∧ Below w.heap.size w w':=by
 have hb2:Below w.heap.size w ((w.alloc (.cells #[x,y,.slice a 0 cap,z] 151)).alloc (.cells #[.int .i64 (g:Int),.int .i64 (ep:Int),.int .i64 (ix:Int),d] 167)):=((Below.refl _ w).alloc (Nat.le_refl _) _).alloc (by simp) _
 have HB:=mkHid hb2
 clear hb2
 by_cases h1:ix = 0
 ·subst h1
  by_cases h2:1 ≤ g
  ·have h2i:(1:Int) ≤ (g:Int):=by omega
   go_enter Tryz.func136,Tryz.ntmps136
   go_wp2
   go_ret
   exact ⟨by simp [h2],HB.out⟩
  ·have h2i:¬ (1:Int) ≤ (g:Int):=by omega
   go_enter Tryz.func136,Tryz.ntmps136
   go_wp2
   go_ret
   exact ⟨by simp,HB.out⟩
 ·have h1i:((ix:Int) == 0) = false:=by simp;omega
  go_enter Tryz.func136,Tryz.ntmps136
  go_wp2
  go_ret
  exact ⟨by simp [h1],HB.out⟩
theorem goes_some (w:World) (x y z d:Value) (g ep ix lg le lx:Nat) (da:Option Addr) (dn dc b off m cap:Nat) (hm:(m:Int) ≤ 1000000000000) (hx:(lx:Int) ≤ 1099511627776) (h0:w.cell? ⟨b,off + m * 4,none⟩ = some (.int .i64 (lg:Int))) (h1:w.cell? ⟨b,off + m * 4 + 1,none⟩ = some (.int .i64 (le:Int))) (h2:w.cell? ⟨b,off + m * 4 + 2,none⟩ = some (.int .i64 (lx:Int))) (h3:w.cell? ⟨b,off + m * 4 + 3,none⟩ = some (.slice da dn dc)) :
    Calls Tryz.prog 136 #[.agg #[x,y,.slice (some ⟨b,off,none⟩) (m + 1) cap,z],.agg #[.int .i64 (g:Int),.int .i64 (ep:Int),.int .i64 (ix:Int),d]] w fun e w'=>e = .returned (.bool (decide (g = lg ∧ ix = lx + 1 ∧ le ≤ ep))) ∧ Below w.heap.size w w':=by
  obtain ⟨W2,hW2⟩:∃ W2,W2 = (w.alloc (.cells #[x,y,.slice (some ⟨b,off,none⟩) (m + 1) cap,z] 151)).alloc (.cells #[.int .i64 (g:Int),.int .i64 (ep:Int),.int .i64 (ix:Int),d] 167):=⟨_,rfl⟩
  have hb2:Below w.heap.size w W2:=by rw [hW2];exact ((Below.refl _ w).alloc (Nat.le_refl _) _).alloc (by simp) _
  have hn2:W2.heap[w.heap.size + 1]? = some (.cells #[.int .i64 (g:Int),.int .i64 (ep:Int),.int .i64 (ix:Int),d] 167 (0,0)):=by rw [hW2];exact two_new w _ _
  have HB:=mkHid hb2
  have HN:=mkHid hn2
  have HC:=mkHid (last_some W2 x y z (lg:Int) (le:Int) (lx:Int) da dn dc b off m cap hm ((hb2.cell (World.block_lt_of_cell? w _ h0)).trans h0) ((hb2.cell (World.block_lt_of_cell? w _ h1)).trans h1) ((hb2.cell (World.block_lt_of_cell? w _ h2)).trans h2) ((hb2.cell (World.block_lt_of_cell? w _ h3)).trans h3))
  clear hb2 hn2 h0 h1 h2 h3
  have hm1:((m:Int) + 1 == 0) = false:=by simp;omega
  have hw1:IntKind.i64.wrap ((lx:Int) + 1) = (lx:Int) + 1:=by rw [IntKind.wrap_i64];omega
  obtain ⟨c1,hc1⟩:∃ c1,((g:Int) == (lg:Int)) = c1:=⟨_,rfl⟩
  obtain ⟨c2,hc2⟩:∃ c2,((ix:Int) == (lx:Int) + 1) = c2:=⟨_,rfl⟩
  have hcs:decide (g = lg ∧ ix = lx + 1 ∧ le ≤ ep) = (c1 && (c2 && decide ((le:Int) ≤ (ep:Int)))):=by
    subst hc1 hc2
    rw [Bool.eq_iff_iff]
    simp
    omega
  rw [hcs]
  clear hcs
  by_cases hc3:(le:Int) ≤ (ep:Int) <;> cases c1 <;> cases c2 <;>
  (go_enter Tryz.func136,Tryz.ntmps136
   go_wp2_with (first
    | (go_at_call 105;rw [← hW2];refine HC.out.mono ?_;rintro e w3 ⟨rfl,hb3⟩;have hn3:=HN.out;rw [← hb3.block (w.heap.size + 1) (Array.getElem?_eq_some_iff.1 hn3).1] at hn3;have hb4:=((Below.refl _ w3).alloc (Nat.le_refl _) (.cells #[.int .i64 (lg:Int),.int .i64 (le:Int),.int .i64 (lx:Int),.slice da dn dc] 167));have hn4:=hn3;rw [← hb4.block (w.heap.size + 1) (Array.getElem?_eq_some_iff.1 hn3).1] at hn4;have r0:=cell_of_block (i:=0) hn4 rfl;have r1:=cell_of_block (i:=1) hn4 rfl;have r2:=cell_of_block (i:=2) hn4 rfl;have HB3:=mkHid ((HB.out.trans (hb3.mono HB.out.size)).trans (hb4.mono (HB.out.trans (hb3.mono HB.out.size)).size));clear hn3 hn4 hb3 hb4))
   go_ret
   exact ⟨by first | rfl | (simp only [hc3,decide_true,Bool.true_and,Bool.and_true];done) | (simp [hc3];done) | (simp;omega),HB3.out⟩)
theorem sizeArea:(Tryz.prog.info? 151).map (·.size) = some 4:=by kernel_rfl
theorem area_leaves {W:World} {R:Nat} {p:Tmp} {fn:Func} {a b c d:Value} (hf:fn.results = #[.cell p 151]) (hR:W.heap[R]? = some (.cells #[a,b,c,d] 151 (0,0))) (tmps:Array Value) (h2:tmps.getD p undef = .pointer (some ⟨R,0,none⟩)):(results fn tmps).run Tryz.prog W = .ok (.agg #[a,b,c,d]) W:=by
 have hl:=run_loadVar_row (P:=Tryz.prog) W R 151 151 #[a,b,c,d] (0,0) _ hR Tryz.underlying151 rfl sizeArea
 rw [wresults_cell1 hf,h2]
 simp [asAddr,Result.andThen,hl]
theorem empty_is (w:World) (f s:Nat) (hf:(f:Int) ≤ 1000000) (hs:(s:Int) ≤ 1000000) :
  Calls Tryz.prog 103 #[.int .i64 (f:Int),.int .i64 (s:Int)] w fun e w'=>e = .returned (.agg #[.int .i64 (f:Int),.int .i64 ((f:Int) + (s:Int)),.slice none 0 0,.int .i64 (f:Int)]) ∧ Below w.heap.size w w':=by
 go_enter Tryz.func103,Tryz.ntmps103
 go_wp2
 exact bodyPost_ret (area_leaves rfl (heap_alloc_new w _) _ rfl) rfl ⟨rfl,(Below.refl _ w).alloc (Nat.le_refl _) _⟩
theorem azero_facts {W:World} {R:Nat} (h:W.heap[R]? = some (.cells #[.int .i64 0,.int .i64 0,.slice none 0 0,.int .i64 0] 151 (0,0))) :
  W.cell? ⟨R,0,none⟩ = some (.int .i64 0) ∧ W.cell? ⟨R,1,none⟩ = some (.int .i64 0) ∧ W.cell? ⟨R,2,none⟩ = some (.slice none 0 0) ∧ W.cell? ⟨R,3,none⟩ = some (.int .i64 0) ∧ W.frozen? ⟨R,0,none⟩ = false ∧ W.frozen? ⟨R,1,none⟩ = false ∧ W.frozen? ⟨R,2,none⟩ = false ∧ W.frozen? ⟨R,3,none⟩ = false:=
 ⟨cell_of_block h rfl,cell_of_block h rfl,cell_of_block h rfl,cell_of_block h rfl,frozen_of_block h,frozen_of_block h,frozen_of_block h,frozen_of_block h⟩
theorem afour_leaves {W:World} {R:Nat} (h:W.heap[R]? = some (.cells #[.int .i64 0,.int .i64 0,.slice none 0 0,.int .i64 0] 151 (0,0))) (v0 v1 v2 v3:Value):((((W.setCell ⟨R,0,none⟩ v0).setCell ⟨R,1,none⟩ v1).setCell ⟨R,2,none⟩ v2).setCell ⟨R,3,none⟩ v3).heap[R]? = some (.cells #[v0,v1,v2,v3] 151 (0,0)):=by
 rw [heap_set (heap_set (heap_set (heap_set h)))]
 rfl
theorem atwo_new (w:World) (o:Obj) (r:Array Value):((w.alloc o).alloc (.cells r 151)).heap[w.heap.size + 1]? = some (.cells r 151 (0,0)):=by
 have:=heap_alloc_new (w.alloc o) (.cells r 151)
 rw [show (w.alloc o).heap.size = w.heap.size + 1 by simp] at this
 exact this
theorem other_first (w:World) (s:Nat) (v x:Value) (hs:(s:Int) ≤ 1000000) :
  Calls Tryz.prog 107 #[.agg #[.int .i64 0,.int .i64 (s:Int),v,x]] w fun e w'=>e = .returned (.agg #[.int .i64 (s:Int),.int .i64 ((s:Int) + (s:Int)),.slice none 0 0,.int .i64 (s:Int)]) ∧ Below w.heap.size w w':=by
 obtain ⟨W2,hW2⟩:∃ W2,W2 = (w.alloc (.cells #[.int .i64 0,.int .i64 (s:Int),v,x] 151)).alloc (.cells #[.int .i64 0,.int .i64 0,.slice none 0 0,.int .i64 0] 151):=⟨_,rfl⟩
 have hb2:Below w.heap.size w W2:=by rw [hW2];exact ((Below.refl _ w).alloc (Nat.le_refl _) _).alloc (by simp) _
 have HN:Hid (W2.heap[w.heap.size + 1]? = some (.cells #[.int .i64 0,.int .i64 0,.slice none 0 0,.int .i64 0] 151 (0,0))):=mkHid (by rw [hW2];exact atwo_new w _ _)
 have HB:=mkHid hb2
 clear hb2
 go_enter Tryz.func107,Tryz.ntmps107
 go_wp2_with (first
  |(go_at_call 103;rw [← hW2];refine (empty_is W2 s s (by omega) hs).mono ?_;rintro e w2 ⟨rfl,hb2⟩;have hn3:=HN.out;rw [← hb2.block (w.heap.size + 1) (Array.getElem?_eq_some_iff.1 hn3).1] at hn3;obtain ⟨z0,z1,z2,z3,y0,y1,y2,y3⟩:=azero_facts hn3;have HN3:=mkHid hn3;have HB3:=mkHid (HB.out.trans (hb2.mono HB.out.size));clear hn3 hb2))
 exact bodyPost_ret (area_leaves rfl (afour_leaves HN3.out _ _ _ _) _ rfl) rfl ⟨rfl,below_four HB3.out (Nat.le_succ _) _ _ _ _⟩
theorem other_second (w:World) (s:Nat) (v x:Value) (hs:(s:Int) ≤ 1000000) (h0:0 < s) :
  Calls Tryz.prog 107 #[.agg #[.int .i64 (s:Int),.int .i64 ((s:Int) + (s:Int)),v,x]] w fun e w'=>e = .returned (.agg #[.int .i64 0,.int .i64 (s:Int),.slice none 0 0,.int .i64 0]) ∧ Below w.heap.size w w':=by
 obtain ⟨W2,hW2⟩:∃ W2,W2 = (w.alloc (.cells #[.int .i64 (s:Int),.int .i64 ((s:Int) + (s:Int)),v,x] 151)).alloc (.cells #[.int .i64 0,.int .i64 0,.slice none 0 0,.int .i64 0] 151):=⟨_,rfl⟩
 have hb2:Below w.heap.size w W2:=by rw [hW2];exact ((Below.refl _ w).alloc (Nat.le_refl _) _).alloc (by simp) _
 have HN:Hid (W2.heap[w.heap.size + 1]? = some (.cells #[.int .i64 0,.int .i64 0,.slice none 0 0,.int .i64 0] 151 (0,0))):=mkHid (by rw [hW2];exact atwo_new w _ _)
 have HB:=mkHid hb2
 clear hb2
 have h1:((s:Int) == 0) = false:=by simp;omega
 go_enter Tryz.func107,Tryz.ntmps107
 go_wp2_with (first
  |(go_at_call 103;rw [← hW2];refine (empty_is W2 0 s (by omega) hs).mono ?_;rintro e w2 ⟨rfl,hb2⟩;have hn3:=HN.out;rw [← hb2.block (w.heap.size + 1) (Array.getElem?_eq_some_iff.1 hn3).1] at hn3;obtain ⟨z0,z1,z2,z3,y0,y1,y2,y3⟩:=azero_facts hn3;have HN3:=mkHid hn3;have HB3:=mkHid (HB.out.trans (hb2.mono HB.out.size));clear hn3 hb2))
 exact bodyPost_ret (area_leaves rfl (afour_leaves HN3.out _ _ _ _) _ rfl) rfl ⟨by simp,below_four HB3.out (Nat.le_succ _) _ _ _ _⟩
theorem wfl_get {α:Type} (f:α → List Value) (n:Nat) (hf:∀ x,(f x).length = n):∀ (xs:List α) (i r:Nat) (x:α),xs[i]? = some x → r < n → (xs.flatMap f)[i * n + r]? = (f x)[r]?
 |[],i,r,x,hx,_=>by simp at hx
 |y :: l,0,r,x,hx,hr=>by
  simp at hx
  subst hx
  rw [List.flatMap_cons,Nat.zero_mul,Nat.zero_add,List.getElem?_append_left (by rw [hf];exact hr)]
 |y :: l,i + 1,r,x,hx,hr=>by
  simp at hx
  have e:(i + 1) * n + r - n = i * n + r:=by rw [Nat.add_mul];omega
  rw [List.flatMap_cons,List.getElem?_append_right (by rw [hf,Nat.add_mul];omega),hf,e]
  exact wfl_get f n hf l i r x hx hr
abbrev Rp:=Rc × Option Addr × Nat
def dv (t:Rp):Value:=.slice t.2.1 t.1.data.length t.2.2
def rcl (t:Rp):List Value:=[.int .i64 (t.1.gen:Int),.int .i64 (t.1.epoch:Int),.int .i64 (t.1.index:Int),dv t]
structure Recs (F:Nat → Prop) (w:World) (v:Value) (ts:List Rp):Prop where
 own:w.ownsRow 0 167 4 v ts.length (ts.flatMap rcl)
 row:∀ k,v.ownBlock = some k → F k
 rd:∀ t ∈ ts,Rd w (dv t) t.1.data
 blk:∀ t ∈ ts,∀ k,(dv t).ownBlock = some k → F k ∧ v.ownBlock ≠ some k
 ok:∀ t ∈ ts,t.1.ok
 lt:∀ k,F k → k < w.heap.size
theorem Recs.nil (w:World):Recs (fun _=>False) w (.slice none 0 0) []:=
 ⟨World.ownsRow_nil _ _ _ _,fun k hk=>by simp [Value.ownBlock] at hk,fun _ h=>by simp at h,fun _ h=>by simp at h,fun _ h=>by simp at h,fun _ h=>h.elim⟩
theorem Recs.kept {F G:Nat → Prop} {w w':World} {v:Value} {ts:List Rp} (h:Recs F w v ts) (hk:Kept G w w') (hn:∀ k,F k → ¬ G k):Recs F w' v ts:=by
 obtain ⟨ho,hr,hd,hb,hok,hl⟩:=h
 refine ⟨⟨ho.1,?_⟩,hr,fun t ht=>(hd t ht).kept hk (fun k hk'=>hn k (hb t ht k hk').1),hb,hok,fun k hk'=>Nat.lt_of_lt_of_le (hl k hk') hk.size⟩
 rcases ho.2 with h1 | ⟨g,cap,cur,rfl,hbg,hg,rest⟩
 ·exact .inl h1
 ·have:=hr g rfl
  exact .inr ⟨g,cap,cur,rfl,hbg,by rw [hk.block g (hl g this) (hn g this)];exact hg,rest⟩
theorem Recs.below {F:Nat → Prop} {w w':World} {v:Value} {ts:List Rp} (h:Recs F w v ts) (hb:Below w.heap.size w w'):Recs F w' v ts:=
 h.kept (kept_of_below hb) (fun k hk hle=>by have:=h.lt k hk;omega)
theorem Recs.push {F:Nat → Prop} {w w1:World} {v v1:Value} {ts:List Rp} {t:Rp} (h:Recs F w v ts) (hown:w1.ownsRow 0 167 4 v1 (ts.length + 1) (ts.flatMap rcl ++ rcl t)) (hg:w.grownBy w1 v.ownBlock)
  (hat:v1.ownBlock = v.ownBlock ∨ v1.ownBlock = some w.heap.size) (hr:Rd w (dv t) t.1.data) (hok:t.1.ok) (hd:∀ k,(dv t).ownBlock = some k → k < w.heap.size ∧ v.ownBlock ≠ some k) :
  Recs (fun k=>k < w1.heap.size ∧ (F k ∨ (dv t).ownBlock = some k ∨ k = w.heap.size)) w1 v1 (ts ++ [t]):=by
 have hs:=hg.size
 have k1:Kept (fun k=>v.ownBlock = some k) w w1:=Kept.grown hg (fun k hk=>hk)
 have hne:∀ k,k < w.heap.size → v.ownBlock ≠ some k → v1.ownBlock ≠ some k:=by
  intro k hk hn e
  rcases hat with a | a
  ·exact hn (a ▸ e)
  ·rw [a] at e;simp at e;omega
 refine ⟨?_,?_,?_,?_,?_,fun k hk=>hk.1⟩
 ·rw [List.flatMap_append,List.length_append]
  simpa using hown
 ·intro k hk
  refine ⟨(hown.lt k hk).2,?_⟩
  rcases hat with a | a
  ·exact .inl (h.row k (a ▸ hk))
  ·rw [a] at hk;simp at hk;exact .inr (.inr hk.symm)
 ·intro t' ht'
  rcases List.mem_append.mp ht' with m | m
  ·exact (h.rd t' m).kept k1 (fun k hk=>(h.blk t' m k hk).2)
  ·simp at m;subst m
   exact hr.kept k1 (fun k hk=>(hd k hk).2)
 ·intro t' ht' k hk
  rcases List.mem_append.mp ht' with m | m
  ·obtain ⟨a,b⟩:=h.blk t' m k hk
   have:=h.lt k a
   exact ⟨⟨by omega,.inl a⟩,hne k this b⟩
  ·simp at m;subst m
   obtain ⟨a,b⟩:=hd k hk
   exact ⟨⟨by omega,.inr (.inl hk)⟩,hne k a b⟩
 ·intro t' ht'
  rcases List.mem_append.mp ht' with m | m
  ·exact h.ok t' m
  ·simp at m;subst m;exact hok
theorem Recs.shape {F:Nat → Prop} {w:World} {v:Value} {ts:List Rp} (h:Recs F w v ts):∃ a c,v = .slice a ts.length c:=own_shape h.own
theorem Recs.last {F:Nat → Prop} {w:World} {v:Value} {ts:List Rp} {t:Rp} (h:Recs F w v (ts ++ [t])):∃ g cap,v = .slice (some ⟨g,0,none⟩) (ts.length + 1) cap ∧ w.cell? ⟨g,0 + ts.length * 4,none⟩ = some (.int .i64 (t.1.gen:Int)) ∧ w.cell? ⟨g,0 + ts.length * 4 + 1,none⟩ = some (.int .i64 (t.1.epoch:Int)) ∧ w.cell? ⟨g,0 + ts.length * 4 + 2,none⟩ = some (.int .i64 (t.1.index:Int)) ∧ w.cell? ⟨g,0 + ts.length * 4 + 3,none⟩ = some (dv t):=by
 have ho:=h.own
 rcases ho.2 with ⟨_,h0⟩ | ⟨g,cap,cur,rfl,_⟩
 ·simp at h0
 ·have hc:=ho.cells (g:=g) rfl
  have hx:(ts ++ [t])[ts.length]? = some t:=by simp
  have e:∀ r u,r < 4 → (rcl t)[r]? = some u → w.cell? ⟨g,0 + (ts.length * 4 + r),none⟩ = some u:=by
   intro r u hr hu
   have:=hc (ts.length * 4 + r) u (by rw [wfl_get rcl 4 (fun _=>rfl) _ _ r t hx hr];exact hu)
   rwa [add_none] at this
  exact ⟨g,cap,by simp,e 0 _ (by omega) rfl,by have:=e 1 _ (by omega) rfl;simpa [Nat.add_assoc] using this,by have:=e 2 _ (by omega) rfl;simpa [Nat.add_assoc] using this,by have:=e 3 _ (by omega) rfl;simpa [Nat.add_assoc] using this⟩
theorem goes_any {F:Nat → Prop} (w:World) (x y z v d:Value) (ts:List Rp) (r:Rc) (h:Recs F w v ts) (hl:(ts.length:Int) ≤ 1000000000000) :
  Calls Tryz.prog 136 #[.agg #[x,y,v,z],.agg #[.int .i64 (r.gen:Int),.int .i64 (r.epoch:Int),.int .i64 (r.index:Int),d]] w fun e w'=>e = .returned (.bool (goesOn (ts.map (·.1)) r)) ∧ Below w.heap.size w w':=by
 rcases List.eq_nil_or_concat ts with rfl | ⟨ts,t,rfl⟩
 ·obtain ⟨a,c,rfl⟩:=h.shape
  refine (goes_nil w x y z d a c r.gen r.epoch r.index).mono ?_
  rintro e w' ⟨rfl,hb⟩
  exact ⟨by simp [goesOn],hb⟩
 ·rw [List.concat_eq_append] at *
  obtain ⟨g,cap,rfl,h0,h1,h2,h3⟩:=h.last
  have hi:=(h.ok t (by simp)).i
  refine (goes_some w x y z d r.gen r.epoch r.index t.1.gen t.1.epoch t.1.index _ _ _ g 0 ts.length cap (by simp at hl;omega) (by omega) h0 h1 h2 h3).mono ?_
  rintro e w' ⟨rfl,hb⟩
  exact ⟨by simp [goesOn],hb⟩
theorem src_rec (w:World) (t:Rp):Src Tryz.prog 4 149 (.slice (some ⟨w.heap.size,0,none⟩) 1 1) 1 (rcl t) (w.alloc (.cells #[.int .i64 (t.1.gen:Int),.int .i64 (t.1.epoch:Int),.int .i64 (t.1.index:Int),dv t] 167)):=by
 refine Src.ofSlice _ Tryz.underlying149 _ 1 1 _ rfl (fun j u hj=>?_) (fun u hu=>by simp [rcl,dv] at hu;rcases hu with rfl | rfl | rfl | rfl <;> rfl)
 have hn:=heap_alloc_new w (.cells #[.int .i64 (t.1.gen:Int),.int .i64 (t.1.epoch:Int),.int .i64 (t.1.index:Int),dv t] 167)
 rw [add_none]
 match j,hj with
 |0,hj=>simp [rcl] at hj;subst hj;exact cell_of_block hn rfl
 |1,hj=>simp [rcl] at hj;subst hj;exact cell_of_block hn rfl
 |2,hj=>simp [rcl] at hj;subst hj;exact cell_of_block hn rfl
 |3,hj=>simp [rcl] at hj;subst hj;exact cell_of_block hn rfl
 |j + 4,hj=>simp [rcl] at hj
theorem stand_fits {g:Int → List Int} (hg:∀ i,(g i).length = 64) {p:Int} {n m:Nat} {r:Rc} (h:stand g p n = some (r,m)):r.ok ∧ 1 ≤ m ∧ m ≤ n:=by
 unfold stand at h
 split at h
 ·rename_i hk
  obtain ⟨k1,k2,_⟩:=kind_one hk
  have hl:=rests_len g hg n p
  cases hr:recOf (pay (rests g p n)) with
  |none=>rw [hr] at h;simp at h
  |some s=>
   rw [hr] at h
   simp at h
   obtain ⟨rfl,rfl⟩:=h
   refine ⟨(recOf_is hr).2,?_,?_⟩ <;> unfold npc <;> omega
 ·simp at h
theorem areaGo_more {g:Int → List Int} {k:Nat} {rs:List Rc} {p:Int} {n m:Nat} {r:Rc} (h:stand g p n = some (r,m)) (hc:goesOn rs r = true):areaGo g (k + 1) rs p n = areaGo g k (rs ++ [r]) (p + (m:Int)) (n - m):=by
 rw [areaGo,h];simp [hc]
theorem areaGo_end {g:Int → List Int} {k:Nat} {rs:List Rc} {p:Int} {n:Nat} (h:stand g p n = none):areaGo g (k + 1) rs p n = (rs,p):=by
 rw [areaGo,h]
theorem areaGo_stop {g:Int → List Int} {k:Nat} {rs:List Rc} {p:Int} {n m:Nat} {r:Rc} (h:stand g p n = some (r,m)) (hc:goesOn rs r = false):areaGo g (k + 1) rs p n = (rs,p):=by
 rw [areaGo,h];simp [hc]
end Go.Proofs.YtihdkgekickohaaGreatDoor
namespace Go.Proofs.YtihdkgekickohaaGreatDoor
open Go.ChangeShapes Go.WideShapes Go.ChangeAt Go.RowKit
set_option maxRecDepth 100000
open Classical in
noncomputable def cellN (s:List Int):Nat:=if h:kind s = 1 ∧ ∃ N,pay s = enc N ∧ N ≤ 1099511627776 then h.2.choose else 0
theorem cellN_yes {s:List Int} {N:Nat} (hk:kind s = 1) (hp:pay s = enc N) (hN:N ≤ 1099511627776):cellN s = N:=by
 have h:kind s = 1 ∧ ∃ N,pay s = enc N ∧ N ≤ 1099511627776:=⟨hk,N,hp,hN⟩
 unfold cellN
 rw [dif_pos h]
 have h2:=h.2.choose_spec.1
 exact (enc_free _ _ [] [] (by rw [List.append_nil,List.append_nil,← h2,hp])).1
theorem cellN_no {s:List Int} (h:kind s = 1 → ∀ N,N ≤ 1099511627776 → ¬ pay s = enc N):cellN s = 0:=by
 unfold cellN
 rw [dif_neg]
 rintro ⟨hk,N,hp,hN⟩
 exact h hk N hN hp
set_option maxHeartbeats 12800000 in
theorem cell_no (F:Nat → Prop) (w:World) (p n:Nat) (f:Int → List Int) (c:List (Int × List Int)) (nw i:Int) (t1 t2 t3:TypeId) (d1 d2 d3:Value) (h:Dk F w p n f c nw false) (hcl:c.length ≤ 1000000000000) (hi0:0 ≤ i) (hi:i < (n:Int))
  (h1:w.cell? ⟨5,0,none⟩ = some (.iface t1 d1)) (h2:w.cell? ⟨8,0,none⟩ = some (.iface t2 d2)) (h3:w.cell? ⟨4,0,none⟩ = some (.iface t3 d3)) (hk:¬ kind (seenOf f c i) = 1) :
  Calls Tryz.prog 106 #[.pointer (some ⟨p,0,none⟩),.int .i64 i] w fun e w'=>e = .returned (.int .i64 (cellN (seenOf f c i):Int)) ∧ Below w.heap.size w w':=by
 rw [cellN_no (fun e=>absurd e hk)]
 have HRO:=mkHid (read_ok F w p n f c nw i h hcl hi0 hi)
 have HS:=mkHid (h.seen_sec i)
 have HE1:=mkHid h1
 have HE2:=mkHid h2
 have HE3:=mkHid h3
 have HK:=mkHid hk
 clear h h1 h2 h3 hk
 generalize seenOf f c i = s at *
 go_enter Tryz.func106,Tryz.ntmps106
 go_wp2_with (first
  |(go_at_call 137;refine HRO.out.mono ?_;rintro e w2 ⟨z2,rfl,ho2,hb2⟩;have HO2:=mkHid (Rd.of_owns HS.out.byts ho2);have HB2:=mkHid hb2;clear ho2 hb2)
  |(go_at_call 138;refine (cread_no w2 z2 s t1 t2 d1 d2 HO2.out HK.out ((HB2.out.cell (World.block_lt_of_cell? w _ HE1.out)).trans HE1.out) ((HB2.out.cell (World.block_lt_of_cell? w _ HE2.out)).trans HE2.out)).mono ?_;rintro e w3 ⟨rfl | ⟨t5,d5,rfl⟩,hb3⟩ <;> (have HB3:=mkHid (HB2.out.trans (hb3.mono HB2.out.size));clear hb3))
  |(go_at_call 122;refine (newReader_any w3 _ [] (rd_nil w3) (by simp)).mono ?_;rintro e w4 ⟨pr,F4,rfl,hr4,hF4,hb4⟩;have HR4:=mkHid hr4;have HF4:=mkHid hF4;have HB4:=mkHid (HB3.out.trans (hb4.mono HB3.out.size));clear hr4 hF4 hb4)
  |(go_at_call 139;refine (rnum_any F4 w4 pr [] 0 1099511627776 _ HR4.out (by simp) ((HB4.out.cell (World.block_lt_of_cell? w _ HE3.out)).trans HE3.out)).mono ?_;intro e w5 hpost;rcases hpost with ⟨N,r,hd,_,hN,rfl,hr5,hk5⟩ | ⟨hno,rfl,hr5,hk5⟩ <;> (have HB5:=mkHid (HB4.out.trans (hk5.below (fun k e=>Nat.le_trans HB3.out.size (HF4.out k e)) HB4.out.size));clear hr5 hk5)))
 ·exfalso
  have h9:=congrArg List.length hd
  have h8:=enc_len_pos N
  simp at h9
  omega
 ·go_ret
  exact ⟨rfl,HB5.out⟩
 ·go_ret
  exact ⟨rfl,HB3.out⟩
set_option maxHeartbeats 12800000 in
theorem cell_yes (F:Nat → Prop) (w:World) (p n:Nat) (f:Int → List Int) (c:List (Int × List Int)) (nw i:Int) (t3:TypeId) (d3:Value) (h:Dk F w p n f c nw false) (hcl:c.length ≤ 1000000000000) (hi0:0 ≤ i) (hi:i < (n:Int))
  (h3:w.cell? ⟨4,0,none⟩ = some (.iface t3 d3)) (hk:kind (seenOf f c i) = 1) :
  Calls Tryz.prog 106 #[.pointer (some ⟨p,0,none⟩),.int .i64 i] w fun e w'=>e = .returned (.int .i64 (cellN (seenOf f c i):Int)) ∧ Below w.heap.size w w':=by
 have HRO:=mkHid (read_ok F w p n f c nw i h hcl hi0 hi)
 have HS:=mkHid (h.seen_sec i)
 have HE3:=mkHid h3
 have HK:=mkHid hk
 have hw1:=(kind_one hk).1
 have hl:((pay (seenOf f c i)).length:Int) ≤ 140737488355328:=by rw [pay_len hk];omega
 clear h h3 hk hw1
 generalize seenOf f c i = s at *
 obtain ⟨P,hP⟩:∃ P,P = pay s:=⟨_,rfl⟩
 rw [← hP] at hl
 have HP:=mkHid hP
 clear hP
 obtain ⟨C,hC⟩:∃ C,C = cellN s:=⟨_,rfl⟩
 rw [← hC]
 have HCN:=mkHid hC
 clear hC
 go_enter Tryz.func106,Tryz.ntmps106
 go_wp2_with (first
  |(go_at_call 137;refine HRO.out.mono ?_;rintro e w2 ⟨z2,rfl,ho2,hb2⟩;have HO2:=mkHid (Rd.of_owns HS.out.byts ho2);have HB2:=mkHid hb2;clear ho2 hb2)
  |(go_at_call 138;refine (cread_yes w2 z2 s HO2.out HK.out).mono ?_;rintro e w3 ⟨v3,rfl,hr3,hb3⟩;rw [← HP.out] at hr3;have HR3:=mkHid hr3;generalize word s + 8 = m;have HB3:=mkHid (HB2.out.trans (hb3.mono HB2.out.size));clear hb3 hr3)
  |(go_at_call 122;refine (newReader_any w3 v3 P HR3.out hl).mono ?_;rintro e w4 ⟨pr,F4,rfl,hr4,hF4,hb4⟩;have HR4:=mkHid hr4;have HF4:=mkHid hF4;have HB4:=mkHid (HB3.out.trans (hb4.mono HB3.out.size));clear hr4 hF4 hb4)
  |(go_at_call 139;refine (rnum_any F4 w4 pr P 0 1099511627776 _ HR4.out hl ((HB4.out.cell (World.block_lt_of_cell? w _ HE3.out)).trans HE3.out)).mono ?_;intro e w5 hpost;rcases hpost with ⟨N,r,hd,_,hN,rfl,hr5,hk5⟩ | ⟨hno,rfl,hr5,hk5⟩ <;> (have HB5:=mkHid (HB4.out.trans (hk5.below (fun k e=>Nat.le_trans HB3.out.size (HF4.out k e)) HB4.out.size));have HR5:=mkHid hr5;clear hr5 hk5) <;> (first | (have hdd:=hd;clear hdd;rcases (show (0 + (enc N).length = P.length) ∨ (0 + (enc N).length < P.length) from (by have:=HR5.out.2.2.1;omega)) with hz | hz <;> (have HZ:=mkHid hz;have HD:=mkHid hd;clear hz hd)) | skip))
  |(go_at_call 124;first | (refine (end_nil F4 w5 pr P _ HR5.out hl HZ.out).mono ?_;rintro e w7 ⟨rfl,nq,hw7⟩;rw [hw7];clear hw7) | (refine (end_err F4 w5 pr P _ _ HR5.out hl ((HB5.out.cell (World.block_lt_of_cell? w _ HE3.out)).trans HE3.out) HZ.out).mono ?_;rintro e w7 ⟨rfl,nq,hw7⟩;rw [hw7];clear hw7)))
 ·go_ret
  have hd:P = enc N ++ r:=HD.out
  have h9:=congrArg List.length hd
  rw [List.length_append] at h9
  have hz:=HZ.out
  obtain rfl:r = []:=List.eq_nil_of_length_eq_zero (by omega)
  rw [List.append_nil] at hd
  exact ⟨by rw [HCN.out,cellN_yes HK.out (by rw [← HP.out];exact hd) (by omega)];rfl,HB5.out.trans ((drewN_below w5 nq).mono HB5.out.size)⟩
 ·go_ret
  have hd:P = enc N ++ r:=HD.out
  have hz:=HZ.out
  refine ⟨?_,HB5.out.trans ((drewN_below w5 nq).mono HB5.out.size)⟩
  rw [HCN.out,cellN_no]
  ·rfl
  ·intro _ M _ hp
   rw [← HP.out,hd] at hp
   obtain ⟨rfl,rfl⟩:=enc_free N M r [] (by rw [List.append_nil];exact hp)
   rw [hd,List.append_nil] at hz
   omega
 ·go_ret
  refine ⟨?_,HB5.out⟩
  rw [HCN.out,cellN_no]
  ·rfl
  ·intro _ M hM hp
   exact hno M [] (by omega) (by omega) (by rw [List.append_nil,← hp,← HP.out];rfl)
theorem cell_any (F:Nat → Prop) (w:World) (p n:Nat) (f:Int → List Int) (c:List (Int × List Int)) (nw i:Int) (t1 t2 t3:TypeId) (d1 d2 d3:Value) (h:Dk F w p n f c nw false) (hcl:c.length ≤ 1000000000000) (hi0:0 ≤ i) (hi:i < (n:Int))
  (h1:w.cell? ⟨5,0,none⟩ = some (.iface t1 d1)) (h2:w.cell? ⟨8,0,none⟩ = some (.iface t2 d2)) (h3:w.cell? ⟨4,0,none⟩ = some (.iface t3 d3)) :
  Calls Tryz.prog 106 #[.pointer (some ⟨p,0,none⟩),.int .i64 i] w fun e w'=>e = .returned (.int .i64 (cellN (seenOf f c i):Int)) ∧ Below w.heap.size w w':=by
 by_cases hk:kind (seenOf f c i) = 1
 ·exact cell_yes F w p n f c nw i t3 d3 h hcl hi0 hi h3 hk
 ·exact cell_no F w p n f c nw i t1 t2 t3 d1 d2 d3 h hcl hi0 hi h1 h2 h3 hk
end Go.Proofs.YtihdkgekickohaaGreatDoor
namespace Go.Proofs.YtihdkgekickohaaGreatDoor
open Go.ChangeShapes Go.WideShapes Go.ChangeAt Go.RowKit
set_option maxRecDepth 100000
theorem infoRec:(Tryz.prog.info? 167).map (fun i=>(i.zero,i.size,i.bytes)) = some (some (.agg #[.int .i64 0,.int .i64 0,.int .i64 0,.slice none 0 0]),4,48):=by kernel_rfl
structure AR (w wr:World) (fr N:Nat) (g:Int → List Int) (v:Value) (ts:List Rp) (F:Nat → Prop) (k nx rem:Nat):Prop where
 box:wr.heap[w.heap.size]? = some (.cells #[.int .i64 (fr:Int),.int .i64 ((fr:Int) + (N:Int)),v,.int .i64 (nx:Int)] 151 (0,0))
 res:wr.heap[w.heap.size + 1]? = some (.cells #[.int .i64 0,.int .i64 0,.slice none 0 0,.int .i64 0] 151 (0,0))
 go:areaGo g (k + 1) (ts.map (·.1)) (nx:Int) rem = areaGo g (N + 1) [] (fr:Int) N
 sum:nx + rem = fr + N
 kr:rem ≤ k
 tl:ts.length + rem ≤ N
 recs:Recs F wr v ts
 ff:∀ i,F i → w.heap.size + 2 ≤ i
 bel:Below w.heap.size w wr
theorem wlt_of_heap {w:World} {p:Nat} {o:Obj} (h:w.heap[p]? = some o):p < w.heap.size:=(Array.getElem?_eq_some_iff.1 h).1
theorem AR.box' {w wr:World} {fr N:Nat} {g:Int → List Int} {v:Value} {ts:List Rp} {F:Nat → Prop} {k nx rem:Nat} (h:AR w wr fr N g v ts F k nx rem) {W:World} (hb:Below wr.heap.size wr W):W.heap[w.heap.size]? = some (.cells #[.int .i64 (fr:Int),.int .i64 ((fr:Int) + (N:Int)),v,.int .i64 (nx:Int)] 151 (0,0)):=by
 rw [hb.block _ (wlt_of_heap h.box)];exact h.box
theorem AR.res' {w wr:World} {fr N:Nat} {g:Int → List Int} {v:Value} {ts:List Rp} {F:Nat → Prop} {k nx rem:Nat} (h:AR w wr fr N g v ts F k nx rem) {W:World} (hb:Below wr.heap.size wr W):W.heap[w.heap.size + 1]? = some (.cells #[.int .i64 0,.int .i64 0,.slice none 0 0,.int .i64 0] 151 (0,0)):=by
 rw [hb.block _ (wlt_of_heap h.res)];exact h.res
theorem four_facts {W:World} {R:Nat} {t:TypeId} {a b c d:Value} (h:W.heap[R]? = some (.cells #[a,b,c,d] t (0,0))) :
  W.cell? ⟨R,0,none⟩ = some a ∧ W.cell? ⟨R,1,none⟩ = some b ∧ W.cell? ⟨R,2,none⟩ = some c ∧ W.cell? ⟨R,3,none⟩ = some d ∧ W.frozen? ⟨R,0,none⟩ = false ∧ W.frozen? ⟨R,1,none⟩ = false ∧ W.frozen? ⟨R,2,none⟩ = false ∧ W.frozen? ⟨R,3,none⟩ = false:=
 ⟨cell_of_block h rfl,cell_of_block h rfl,cell_of_block h rfl,cell_of_block h rfl,frozen_of_block h,frozen_of_block h,frozen_of_block h,frozen_of_block h⟩
def nxOf (w:World) (R:Nat):Nat:=match w.cell? ⟨R,3,none⟩ with
 |some (.int _ x)=>x.toNat
 |_=>0
theorem AR.nx {w wr:World} {fr N:Nat} {g:Int → List Int} {v:Value} {ts:List Rp} {F:Nat → Prop} {k nx rem:Nat} (h:AR w wr fr N g v ts F k nx rem):nxOf wr w.heap.size = nx:=by
 unfold nxOf
 rw [(four_facts h.box).2.2.2.1]
 simp
theorem AR.start (w:World) (fr N:Nat) (g:Int → List Int):AR w ((w.alloc (.cells #[.int .i64 (fr:Int),.int .i64 ((fr:Int) + (N:Int)),.slice none 0 0,.int .i64 (fr:Int)] 151)).alloc (.cells #[.int .i64 0,.int .i64 0,.slice none 0 0,.int .i64 0] 151)) fr N g (.slice none 0 0) [] (fun _=>False) N fr N:=
 ⟨by rw [heap_alloc_old _ _ (by simp)];exact heap_alloc_new w _,atwo_new w _ _,rfl,rfl,Nat.le_refl _,by simp,Recs.nil _,fun _ h=>h.elim,((Below.refl _ w).alloc (Nat.le_refl _) _).alloc (by simp) _⟩
theorem AR.push {w wr w4 w5:World} {fr N:Nat} {g:Int → List Int} {v v5:Value} {ts:List Rp} {F:Nat → Prop} {k nx rem m:Nat} {t:Rp} (h:AR w wr fr N g v ts F k nx rem) (hg64:∀ i,(g i).length = 64) (hst:stand g (nx:Int) rem = some (t.1,m)) (hgo:goesOn (ts.map (·.1)) t.1 = true)
  (hb4:Below wr.heap.size wr w4) (hr:Rd w4 (dv t) t.1.data) (hd:∀ i,(dv t).ownBlock = some i → wr.heap.size ≤ i ∧ i < w4.heap.size) (hown:w5.ownsRow 0 167 4 v5 (ts.length + 1) (ts.flatMap rcl ++ rcl t)) (hg:w4.grownBy w5 v.ownBlock)
  (hat:v5.ownBlock = v.ownBlock ∨ v5.ownBlock = some w4.heap.size) :
  w5.heap[w.heap.size]? = some (.cells #[.int .i64 (fr:Int),.int .i64 ((fr:Int) + (N:Int)),v,.int .i64 (nx:Int)] 151 (0,0)) ∧ ∃ F',AR w ((w5.setCell ⟨w.heap.size,2,none⟩ v5).setCell ⟨w.heap.size,3,none⟩ (.int .i64 ((nx:Int) + (m:Int)))) fr N g v5 (ts ++ [t]) F' (k - 1) (nx + m) (rem - m):=by
 obtain ⟨hok,hm1,hmr⟩:=stand_fits hg64 hst
 have hs:=h.bel.size
 have hs4:=hb4.size
 have hlb:=wlt_of_heap h.box
 have hlr:=wlt_of_heap h.res
 have hkr:=h.kr
 have hbv:∀ i,i < w.heap.size + 2 → some i ≠ v.ownBlock:=fun i hi e=>by have:=h.ff i (h.recs.row i e.symm);omega
 have e5:w5.heap[w.heap.size]? = some (.cells #[.int .i64 (fr:Int),.int .i64 ((fr:Int) + (N:Int)),v,.int .i64 (nx:Int)] 151 (0,0)):=by
  rw [hg.block _ (by omega) (hbv _ (by omega))];exact h.box' hb4
 have r5:w5.heap[w.heap.size + 1]? = some (.cells #[.int .i64 0,.int .i64 0,.slice none 0 0,.int .i64 0] 151 (0,0)):=by
  rw [hg.block _ (by omega) (hbv _ (by omega))];exact h.res' hb4
 have hp:=(h.recs.below hb4).push hown hg hat hr hok (fun i hi=>⟨(hd i hi).2,fun e=>by have h1:=(hd i hi).1;have h2:=h.recs.lt i (h.recs.row i e);omega⟩)
 have kw:Kept (fun i=>i = w.heap.size) w5 ((w5.setCell ⟨w.heap.size,2,none⟩ v5).setCell ⟨w.heap.size,3,none⟩ (.int .i64 ((nx:Int) + (m:Int)))):=kept_setc (F:=fun i=>i = w.heap.size) (kept_setc (F:=fun i=>i = w.heap.size) (Kept.refl _ w5) (p:=⟨w.heap.size,2,none⟩) rfl _) (p:=⟨w.heap.size,3,none⟩) rfl _
 have hff:∀ i,(i < w5.heap.size ∧ (F i ∨ (dv t).ownBlock = some i ∨ i = w4.heap.size)) → w.heap.size + 2 ≤ i:=by
  rintro i ⟨_,a | a | a⟩
  ·exact h.ff i a
  ·have:=(hd i a).1;omega
  ·omega
 refine ⟨e5,_,⟨?_,?_,?_,?_,?_,?_,hp.kept kw (fun i hi e=>by have:=hff i hi;omega),hff,?_⟩⟩
 ·rw [heap_set (heap_set e5)]
  simp
 ·rw [kw.block _ (wlt_of_heap r5) (by omega)];exact r5
 ·rw [← h.go,areaGo_more hst hgo,show k - 1 + 1 = k by omega]
  simp
 ·have:=h.sum;omega
 ·omega
 ·have:=h.tl;rw [List.length_append];simp;omega
 ·have b5:Below w.heap.size w w5:=(h.bel.trans (hb4.mono hs)).grown hg (by omega) (fun i hi=>by have:=h.ff i (h.recs.row i hi);omega)
  exact (b5.setCell (p:=⟨w.heap.size,2,none⟩) (Nat.le_refl _) _).setCell (p:=⟨w.heap.size,3,none⟩) (Nat.le_refl _) _
def AreaPost (w:World) (fr N:Nat) (o:List Rc × Int) (e:Ending) (w':World):Prop:=
 ∃ (v:Value) (ts:List Rp) (nx:Nat) (F:Nat → Prop),e = .returned (.agg #[.int .i64 (fr:Int),.int .i64 ((fr:Int) + (N:Int)),v,.int .i64 (nx:Int)]) ∧ o = (ts.map (·.1),(nx:Int)) ∧ Recs F w' v ts ∧ (∀ k,F k → w.heap.size ≤ k) ∧ Below w.heap.size w w' ∧ fr ≤ nx ∧ nx ≤ fr + N ∧ ts.length ≤ N
theorem AR.end {w wr W:World} {fr N:Nat} {g:Int → List Int} {v:Value} {ts:List Rp} {F:Nat → Prop} {k nx rem:Nat} (h:AR w wr fr N g v ts F k nx rem) (he:areaGo g (k + 1) (ts.map (·.1)) (nx:Int) rem = (ts.map (·.1),(nx:Int))) (hb:Below wr.heap.size wr W) (v0 v1 v2 v3:Value) :
  AreaPost w fr N (areaGo g (N + 1) [] (fr:Int) N) (.returned (.agg #[.int .i64 (fr:Int),.int .i64 ((fr:Int) + (N:Int)),v,.int .i64 (nx:Int)])) ((((W.setCell ⟨w.heap.size + 1,0,none⟩ v0).setCell ⟨w.heap.size + 1,1,none⟩ v1).setCell ⟨w.heap.size + 1,2,none⟩ v2).setCell ⟨w.heap.size + 1,3,none⟩ v3):=by
 have hs:=h.sum
 have ht:=h.tl
 refine ⟨v,ts,nx,F,rfl,by rw [← h.go];exact he,(h.recs.below hb).kept (kept_four (F:=fun i=>i = w.heap.size + 1) (Kept.refl _ W) rfl v0 v1 v2 v3) (fun i hi e=>by have:=h.ff i hi;omega),fun i hi=>by have:=h.ff i hi;omega,below_four (h.bel.trans (hb.mono h.bel.size)) (Nat.le_succ _) _ _ _ _,by omega,by omega,by omega⟩
set_option maxHeartbeats 12800000 in
theorem aread_any (F:Nat → Prop) (w:World) (p n:Nat) (f:Int → List Int) (c:List (Int × List Int)) (nw:Int) (fr N:Nat) (t1 t2 t3:TypeId) (d1 d2 d3:Value) (h:Dk F w p n f c nw false) (hN:fr + N ≤ n) (hn2:(n:Int) ≤ 1024) (hcl:c.length ≤ 1000000000000)
  (h1:w.cell? ⟨5,0,none⟩ = some (.iface t1 d1)) (h2:w.cell? ⟨8,0,none⟩ = some (.iface t2 d2)) (h3:w.cell? ⟨4,0,none⟩ = some (.iface t3 d3)) :
  Calls Tryz.prog 104 #[.agg #[.int .i64 (fr:Int),.int .i64 ((fr:Int) + (N:Int)),.slice none 0 0,.int .i64 (fr:Int)],.pointer (some ⟨p,0,none⟩)] w (AreaPost w fr N (areaGo (seenOf f c) (N + 1) [] (fr:Int) N)):=by
 obtain ⟨ie,hie,hz1,hz2,hz3⟩:=info_parts infoRec
 have HI:=mkHid (And.intro hie (And.intro hz1 (And.intro hz2 hz3)))
 have HG:Hid (∀ i,(seenOf f c i).length = 64):=mkHid (fun i=>(h.seen_sec i).len)
 have HST:Hid (∀ (wr:World) (nx rem:Nat),Below w.heap.size w wr → nx + rem = fr + N → Calls Tryz.prog 135 #[.pointer (some ⟨p,0,none⟩),.int .i64 (nx:Int),.int .i64 ((fr:Int) + (N:Int))] wr (StandPost wr (stand (seenOf f c) (nx:Int) rem))):=mkHid (fun wr nx rem hb hs=>by
  have:=standing_any F wr p n f c nw nx rem t1 t2 t3 d1 d2 d3 (h.below hb) (by omega) hn2 hcl ((hb.cell (World.block_lt_of_cell? w _ h1)).trans h1) ((hb.cell (World.block_lt_of_cell? w _ h2)).trans h2) ((hb.cell (World.block_lt_of_cell? w _ h3)).trans h3)
  rw [show (fr:Int) + (N:Int) = (nx:Int) + (rem:Int) by omega]
  exact this)
 clear h h1 h2 h3 hie hz1 hz2 hz3
 generalize seenOf f c = g at *
 have hN1:(fr:Int) + (N:Int) ≤ 1024:=by omega
 go_enter Tryz.func104,Tryz.ntmps104
 go_wp2
 go_loopw [] (fun wr=>∃ v ts F k nx rem,Hid (AR w wr fr N g v ts F k nx rem)) (fun wr=>fr + N - nxOf wr w.heap.size)
 case atStart=>exact ⟨_,_,_,_,_,_,mkHid (AR.start w fr N g)⟩
 case round=>
  obtain ⟨v,ts,F1,k,nx,rem,HA⟩:=hrel
  obtain ⟨va,vc,rfl⟩:=HA.out.recs.shape
  obtain ⟨q0,q1,q2,q3,_,_,y2,y3⟩:=four_facts HA.out.box
  have hsum:=HA.out.sum
  have htl:=HA.out.tl
  have HC:=mkHid (HST.out wr nx rem HA.out.bel hsum)
  cases hst:stand g (nx:Int) rem with
  |none=>
   rw [hst] at HC
   have HE:=mkHid (areaGo_end (k:=k) (rs:=ts.map (·.1)) hst)
   clear hst
   go_wp2_with (go_at_call 135;refine HC.out.mono ?_;rintro e w2 ⟨hb2,⟨r,m,a,c,ho,_⟩ | ⟨_,rfl⟩⟩ <;> first | (exfalso;simp at ho;done) | (have hb3:=hb2.alloc hb2.size (.cells #[.int .i64 0,.int .i64 0,.int .i64 0,.slice none 0 0] 167);clear q0 q1 q2 q3 y2 y3;obtain ⟨q0,q1,q2,q3,_,_,_,_⟩:=four_facts (HA.out.box' hb3);obtain ⟨z0,z1,z2,z3,x0,x1,x2,x3⟩:=four_facts (HA.out.res' hb3);have HB3:=mkHid hb3;clear hb2 hb3))
   all_goals exact bodyPost_ret (area_leaves rfl (afour_leaves (HA.out.res' HB3.out) _ _ _ _) _ rfl) rfl (HA.out.end HE.out HB3.out _ _ _ _)
  |some rm=>
   obtain ⟨r,m⟩:=rm
   rw [hst] at HC
   have HS:=mkHid hst
   cases hgo:goesOn (ts.map (·.1)) r with
   |false=>
    have HE:=mkHid (areaGo_stop (k:=k) hst hgo)
    have HGO:=mkHid hgo
    clear hst hgo
    go_wp2_with (first
     |(go_at_call 135;refine HC.out.mono ?_;rintro e w2 ⟨hb2,⟨r2,m2,a2,c2,ho,rfl,hrd,hown⟩ | ⟨ho,_⟩⟩ <;> first | (exfalso;simp at ho;done) | (simp at ho;obtain ⟨rfl,rfl⟩:=ho;have hb3:=hb2.alloc hb2.size (.cells #[.int .i64 (r.gen:Int),.int .i64 (r.epoch:Int),.int .i64 (r.index:Int),.slice a2 r.data.length c2] 167);clear q0 q1 q2 q3 y2 y3;obtain ⟨q0,q1,q2,q3,_,_,_,_⟩:=four_facts (HA.out.box' hb3);have hn:=heap_alloc_new w2 (.cells #[.int .i64 (r.gen:Int),.int .i64 (r.epoch:Int),.int .i64 (r.index:Int),.slice a2 r.data.length c2] 167);obtain ⟨z0,z1,z2,z3,_,_,_,_⟩:=four_facts hn;have HB3:=mkHid hb3;clear hb2 hb3 hn hrd hown))
     |(go_at_call 136;refine (goes_any _ _ _ _ _ _ ts r (HA.out.recs.below HB3.out) (by omega)).mono ?_;rintro e w4 ⟨rfl,hb4⟩;rw [HGO.out];have hb4':=HB3.out.trans (hb4.mono HB3.out.size);clear q0 q1 q2 q3 z0 z1 z2 z3;obtain ⟨q0,q1,q2,q3,_,_,_,_⟩:=four_facts (HA.out.box' hb4');obtain ⟨z0,z1,z2,z3,x0,x1,x2,x3⟩:=four_facts (HA.out.res' hb4');have HB4:=mkHid hb4';clear hb4 hb4'))
    all_goals exact bodyPost_ret (area_leaves rfl (afour_leaves (HA.out.res' HB4.out) _ _ _ _) _ rfl) rfl (HA.out.end HE.out HB4.out _ _ _ _)
   |true=>
    obtain ⟨_,hm1,hmr⟩:=stand_fits HG.out hst
    have hw1:IntKind.i64.wrap ((nx:Int) + (m:Int)) = (nx:Int) + (m:Int):=by rw [IntKind.wrap_i64];omega
    have HGO:=mkHid hgo
    have HL:Hid (ts.length + 1 ≤ 1025):=mkHid (by omega)
    clear hst hgo
    go_wp2_with (first
     |(go_at_call 135;refine HC.out.mono ?_;rintro e w2 ⟨hb2,⟨r2,m2,a2,c2,ho,rfl,hrd,hown⟩ | ⟨ho,_⟩⟩ <;> first | (exfalso;simp at ho;done) | (simp at ho;obtain ⟨rfl,rfl⟩:=ho;have hb3:=hb2.alloc hb2.size (.cells #[.int .i64 (r.gen:Int),.int .i64 (r.epoch:Int),.int .i64 (r.index:Int),.slice a2 r.data.length c2] 167);have hb23:=(Below.refl w2.heap.size w2).alloc (Nat.le_refl _) (.cells #[.int .i64 (r.gen:Int),.int .i64 (r.epoch:Int),.int .i64 (r.index:Int),.slice a2 r.data.length c2] 167);clear q0 q1 q2 q3 y2 y3;obtain ⟨q0,q1,q2,q3,_,_,_,_⟩:=four_facts (HA.out.box' hb3);have hn:=heap_alloc_new w2 (.cells #[.int .i64 (r.gen:Int),.int .i64 (r.epoch:Int),.int .i64 (r.index:Int),.slice a2 r.data.length c2] 167);obtain ⟨z0,z1,z2,z3,_,_,_,_⟩:=four_facts hn;have HN:=mkHid hn;have HB3:=mkHid hb3;have HB23:=mkHid hb23;have HRD:=mkHid hrd;have HOW:=mkHid hown;have HS2:=mkHid hb2.size;clear hb2 hb3 hb23 hn hrd hown))
     |(go_at_call 136;refine (goes_any _ _ _ _ _ _ ts r (HA.out.recs.below HB3.out) (by omega)).mono ?_;rintro e w4 ⟨rfl,hb4⟩;rw [HGO.out];have hb4':=HB3.out.trans (hb4.mono HB3.out.size);clear q0 q1 q2 q3 z0 z1 z2 z3;obtain ⟨q0,q1,q2,q3,_,_,y2,y3⟩:=four_facts (HA.out.box' hb4');have hn4:=HN.out;rw [← hb4.block _ (wlt_of_heap hn4)] at hn4;obtain ⟨z0,z1,z2,z3,_,_,_,_⟩:=four_facts hn4;have HB4:=mkHid hb4';have HB24:=mkHid (HB23.out.trans (hb4.mono HB23.out.size));clear hb4 hb4' hn4)
     |(at_builtin;have hbU:=HB4.out.alloc HB4.out.size (.cells #[.int .i64 (r.gen:Int),.int .i64 (r.epoch:Int),.int .i64 (r.index:Int),.slice a2 r.data.length c2] 167);have hb2U:=HB24.out.alloc HB24.out.size (.cells #[.int .i64 (r.gen:Int),.int .i64 (r.epoch:Int),.int .i64 (r.index:Int),.slice a2 r.data.length c2] 167);refine wpList_append_src4 _ rfl (.tmp 28) (.tmp 30) 149 149 rfl 0 167 ie Tryz.underlying149 HI.out.1 (.agg #[.int .i64 0,.int .i64 0,.int .i64 0,.slice none 0 0]) 48 HI.out.2.1 rfl HI.out.2.2.1 HI.out.2.2.2 _ ts.length (ts.flatMap rcl) rfl (HA.out.recs.below hbU).own _ 1 (rcl (r,a2,c2)) rfl (src_rec w4 (r,a2,c2)) (by have:=HL.out;unfold maxLen;omega) (by have:=HL.out;omega) (Nat.zero_le _) ?_;intro v5 w5 ho5 hg5 hat5;obtain ⟨e5,F5,hA5⟩:=HA.out.push (t:=(r,a2,c2)) (m:=m) HG.out HS.out HGO.out hbU (HRD.out.later hb2U) (fun i hi=>⟨(HOW.out i hi).1,Nat.lt_of_lt_of_le (HOW.out i hi).2 hb2U.size⟩) ho5 hg5 hat5;obtain ⟨va5,vc5,rfl⟩:=own_shape ho5;clear q0 q1 q2 q3 y2 y3 z0 z1 z2 z3;obtain ⟨q0,q1,q2,q3,_,_,y2,y3⟩:=four_facts e5;have HA5:=mkHid hA5;clear hbU hb2U ho5 hg5 hat5 e5 hA5))
    go_roundw
    case rel=>exact ⟨_,_,_,_,_,_,HA5⟩
    case measure=>rw [HA5.out.nx,HA.out.nx];omega
end Go.Proofs.YtihdkgekickohaaGreatDoor
