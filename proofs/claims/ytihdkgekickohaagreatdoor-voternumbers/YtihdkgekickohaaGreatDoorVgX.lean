import Derived.Test.YtihdkgekickohaaGreatDoorVfX
namespace Go.Proofs.YtihdkgekickohaaGreatDoor
open Go.ChangeShapes Go.WideShapes Go.ChangeAt Go.RowKit
set_option maxRecDepth 100000
attribute [local go_sem] World.cell?_alloc_some frozen_alloc_some
def opR (s E G U:Nat) (ds:List (List Int)) (st:Vs):Option Vr → Bool × Nat × Nat × List (List Int) × Vs
 |none=>(true,G,U,ds,st)
 |some r=>((apd s E G U ds (bytesS st) (bytesR r)).1,(apd s E G U ds (bytesS st) (bytesR r)).2.1,(apd s E G U ds (bytesS st) (bytesR r)).2.2.1,(apd s E G U ds (bytesS st) (bytesR r)).2.2.2,if (apd s E G U ds (bytesS st) (bytesR r)).1 then st.does r else st)
theorem VS.lt {B:Nat → Prop} {w wr:World} {p v n s E G I k U:Nat} {num:Int} {ds:List (List Int)} {st:Vs} (h:VS B w wr p v num n s E G I k U ds st) (j:Nat) (hj:B j):w.heap.size ≤ j ∧ j < wr.heap.size:=by
 obtain ⟨BL,l,a,c,ps,hsl,hx,_,hB⟩:=h
 rcases (hB j).mp hj with e | rfl | e
 ·exact hsl.blk j e
 ·exact ⟨hx.ge,lt_of_heap hx.vb⟩
 ·exact hx.led.lbk j e
theorem VS.kept {B:Nat → Prop} {w wr w':World} {p v n s E G I k U:Nat} {num:Int} {ds:List (List Int)} {st:Vs} (h:VS B w wr p v num n s E G I k U ds st) {K:Nat → Prop} (hk:Kept K wr w') (hK:∀ j,B j → ¬ K j) (hge:∀ j,K j → w.heap.size ≤ j):VS B w w' p v num n s E G I k U ds st:=by
 obtain ⟨BL,l,a,c,ps,hsl,hx,hlg,hB⟩:=h
 exact ⟨BL,l,a,c,ps,hsl.kept hk (fun j e=>hK j ((hB j).mpr (.inl e))) hge,hx.kept hk (hK v ((hB v).mpr (.inr (.inl rfl)))) (fun j e=>hK j ((hB j).mpr (.inr (.inr e)))),hlg,hB⟩
theorem VS.below {B:Nat → Prop} {w wr w':World} {p v n s E G I k U:Nat} {num:Int} {ds:List (List Int)} {st:Vs} (h:VS B w wr p v num n s E G I k U ds st) (hb:Below wr.heap.size wr w'):VS B w w' p v num n s E G I k U ds st:=by
 obtain ⟨BL,l,a,c,ps,hsl,hx,hlg,hB⟩:=h
 exact ⟨BL,l,a,c,ps,hsl.below hb,hx.below hb,hlg,hB⟩
theorem VS.more {B:Nat → Prop} {w wr:World} {p v n s E G I k U:Nat} {num:Int} {ds:List (List Int)} {st:Vs} (h:VS B w wr p v num n s E G I k U ds st) (I' k':Nat) (hI:I ≤ I') (hk:k ≤ k'):VS B w wr p v num n s E G I' k' U ds st:=by
 obtain ⟨BL,l,a,c,ps,hsl,hx,hlg,hB⟩:=h
 exact ⟨BL,l,a,c,ps,hsl.more _ _ hI hk,hx,hlg,hB⟩
theorem VS.low {B:Nat → Prop} {w wr:World} {p v n s E G I k U:Nat} {num:Int} {ds:List (List Int)} {st:Vs} (h:VS B w wr p v num n s E G I k U ds st):Below w.heap.size w wr:=by
 obtain ⟨BL,l,a,c,ps,hsl,hx,hlg,hB⟩:=h
 exact hsl.low
theorem VS.ok {B:Nat → Prop} {w wr:World} {p v n s E G I k U:Nat} {num:Int} {ds:List (List Int)} {st:Vs} (h:VS B w wr p v num n s E G I k U ds st):st.ok:=by
 obtain ⟨BL,l,a,c,ps,hsl,hx,hlg,hB⟩:=h
 exact hlg.ok
theorem neq_bal (w:World) (a1 a2 b1 b2:Int):(binOp .neq 39 (.agg #[.int .i64 a1,.int .i64 a2]) (.agg #[.int .i64 b1,.int .i64 b2])).run Tryz.prog w = .ok (.bool (!(decide (a1 = b1) && decide (a2 = b2)))) w:=by
 go_simp
 by_cases h0:a1 = b1
 case neg=>simp [h0]
 by_cases h1:a2 = b2
 case neg=>simp [h0,h1]
 simp [h0,h1]
theorem three_leaves {W:World} {R:Nat} {p u x:Tmp} {fn:Func} {c0 c1:Value} (hf:fn.results = #[.cell p 39,.tmp u,.tmp x]) (hR:W.heap[R]? = some (.cells #[c0,c1] 39 (0,0))) (tmps:Array Value) (h2:tmps.getD p undef = .pointer (some ⟨R,0,none⟩)):(results fn tmps).run Tryz.prog W = .ok (.tuple #[.agg #[c0,c1],tmps.getD u undef,tmps.getD x undef]) W:=by
 have hl:=run_loadVar_row (P:=Tryz.prog) W R 39 39 #[c0,c1] (0,0) _ hR Tryz.underlying39 rfl size2
 rw [results_cell_tmp2 hf,h2]
 simp [asAddr,Result.andThen,hl]
def OpP (B:Nat → Prop) (w wr:World) (p v:Nat) (num:Int) (n s E G I k U:Nat) (ds:List (List Int)) (st:Vs) (r:Option Vr) (w':World):Prop:=
 ∃ B',VS B' w w' p v num n s E (opR s E G U ds st r).2.1 (I + 2) (k + 3) (opR s E G U ds st r).2.2.1 (opR s E G U ds st r).2.2.2.1 (opR s E G U ds st r).2.2.2.2 ∧ (∀ j,B' j → B j ∨ wr.heap.size ≤ j) ∧ Kept B wr w'
theorem OpP.up {B:Nat → Prop} {w wr W w' W':World} {p v:Nat} {num:Int} {n s E G I k U:Nat} {ds:List (List Int)} {st:Vs} {r:Option Vr} (h:OpP B w W p v num n s E G I k U ds st r w') (hb:Below wr.heap.size wr W) {K:Nat → Prop} (hk:Kept K w' W') (hK:∀ j,K j → wr.heap.size ≤ j ∧ (W.heap.size ≤ j → w'.heap.size ≤ j)) (hB:∀ j,B j → j < wr.heap.size) (hw:w.heap.size ≤ wr.heap.size):OpP B w wr p v num n s E G I k U ds st r W':=by
 obtain ⟨B',h1,h2,h3⟩:=h
 have hs:=hb.size
 refine ⟨B',h1.kept hk (fun j hj f=>?_) (fun j f=>by have:=(hK j f).1;omega),fun j hj=>(h2 j hj).imp id (fun e=>by omega),((keptB B hb).trans h3 (fun j e=>.inl e)).trans hk (fun j f=>.inr (hK j f).1)⟩
 have h4:=h1.lt j hj
 rcases h2 j hj with e | e
 ·have:=hB j e;have:=(hK j f).1;omega
 ·have:=(hK j f).2 e;omega
def PreP (B:Nat → Prop) (w wr:World) (p v:Nat) (num:Int) (n s E G I k U:Nat) (ds:List (List Int)) (st:Vs) (b:Bl) (eN eB eF:Addr) (e:Ending) (w':World):Prop:=
 ((balB b && !aboveB st.p b) = false ∧ (∃ z y,e = .returned (.tuple #[vB z,y,refE st b eN eB])) ∧ Below wr.heap.size wr w') ∨
 ((balB b && !aboveB st.p b) = true ∧ (∃ z y,e = .returned (.tuple #[vB z,y,if (opR s E G U ds st (if b = st.p then none else some (.pr b))).1 then .nilIface else vEr eF])) ∧ OpP B w wr p v num n s E G I k U ds st (if b = st.p then none else some (.pr b)) w')
theorem PreP.no {B:Nat → Prop} {w wr w1 w9:World} {p v n s E G I k U:Nat} {num:Int} {ds:List (List Int)} {st:Vs} {b:Bl} {eN eB eF:Addr} {q r:Bool} {ev y:Value} {z:Bl} (hq:q = balB b) (hr:r = aboveB st.p b) (hev:ev = if q then (if r then vErr eB else .nilIface) else vErr eN) (h1:Below wr.heap.size wr w1) (hk:Kept (fun j=>j = wr.heap.size + 1) w1 w9) (hf:(q && !r) = false:=by rfl):PreP B w wr p v num n s E G I k U ds st b eN eB eF (.returned (.tuple #[vB z,y,ev])) w9:=by
 subst hq hr hev
 exact .inl ⟨hf,⟨z,y,rfl⟩,h1.trans (hk.below (fun j e=>by omega) h1.size)⟩
theorem PreP.yes {B:Nat → Prop} {w wr w9:World} {p v n s E G I k U:Nat} {num:Int} {ds:List (List Int)} {st:Vs} {b:Bl} {eN eB eF:Addr} {ev y:Value} {z:Bl} (hq:true = balB b) (hr:false = aboveB st.p b) (r:Option Vr) (hrr:(if b = st.p then none else some (.pr b)) = r) (hev:ev = if (opR s E G U ds st r).1 then .nilIface else vEr eF) (h:OpP B w wr p v num n s E G I k U ds st r w9):PreP B w wr p v num n s E G I k U ds st b eN eB eF (.returned (.tuple #[vB z,y,ev])) w9:=by
 refine .inr ⟨by rw [← hq,← hr];rfl,⟨z,y,?_⟩,?_⟩
 ·rw [hrr,hev]
 ·rw [hrr];exact h
theorem OpP.same {B:Nat → Prop} {w wr w9:World} {p v n s E G I k U:Nat} {num:Int} {ds:List (List Int)} {st:Vs} (h:VS B w wr p v num n s E G I k U ds st) (hb:Below wr.heap.size wr w9):OpP B w wr p v num n s E G I k U ds st none w9:=
 ⟨B,(h.below hb).more _ _ (by omega) (by omega),fun j e=>.inl e,keptB B hb⟩
theorem WdP.op {B:Nat → Prop} {w wr w':World} {p v n s E G I k U:Nat} {num:Int} {ds:List (List Int)} {st:Vs} {r:Vr} {eF:Addr} {e:Ending} (h:WdP B w wr p v num n s E G I k U ds st r eF e w'):e = .returned (if (apd s E G U ds (bytesS st) (bytesR r)).1 then .nilIface else vEr eF) ∧ OpP B w wr p v num n s E G I k U ds st (some r) w':=by
 obtain ⟨B',h1,h2,h3,h4⟩:=h
 exact ⟨h1,B',h2,h3,h4⟩
theorem OpP.sz {B:Nat → Prop} {w wr w':World} {p v n s E G I k U:Nat} {num:Int} {ds:List (List Int)} {st:Vs} {r:Option Vr} (h:OpP B w wr p v num n s E G I k U ds st r w'):wr.heap.size ≤ w'.heap.size:=by
 obtain ⟨_,_,_,h3⟩:=h
 exact h3.size
theorem OpP.new {B:Nat → Prop} {w wr W W0 w':World} {p v n s E G I k U X I' k':Nat} {num:Int} {ds:List (List Int)} {st:Vs} {r:Option Vr} {o:Obj} (h:OpP B w W p v num n s E G I' k' U ds st r w') (hv:VS B w wr p v num n s E G I k U ds st) (_hb:Below W0.heap.size W0 W) (hX:W.heap[X]? = some o) (hge:wr.heap.size ≤ X):w'.heap[X]? = some o:=by
 obtain ⟨_,_,_,h3⟩:=h
 exact (h3.block X (lt_of_heap hX) (fun f=>by have:=(hv.lt X f).2;omega)).trans hX
theorem VS.acc {B:Nat → Prop} {w wr:World} {p v n s E G I k U:Nat} {num:Int} {ds:List (List Int)} {st:Vs} (h:VS B w wr p v num n s E G I k U ds st):Calls Tryz.prog 22 #[.pointer (some ⟨v,0,none⟩)] wr (AccP wr st):=by
 obtain ⟨BL,l,a,c,ps,hsl,hx,hlg,hB⟩:=h
 exact accepted_v hx
theorem opR_does {s E G U:Nat} {ds:List (List Int)} {st:Vs} {r:Vr} (h:(apd s E G U ds (bytesS st) (bytesR r)).1 = true):(opR s E G U ds st (some r)).2.2.2.2 = st.does r:=by
 show (if (apd s E G U ds (bytesS st) (bytesR r)).1 then st.does r else st) = _
 rw [if_pos h]
set_option maxHeartbeats 6400000 in
theorem prepare_v {B:Nat → Prop} {w wr:World} {p v n s E G I k U:Nat} {num:Int} {ds:List (List Int)} {st:Vs} (h:VS B w wr p v num n s E G I k U ds st) (b:Bl) (hn:(n:Int) ≤ 1024) (hk:k ≤ 1900) (hI:I ≤ 900000) (hG:G ≤ 900000) (eN eB eS eF:Addr) (heN:w.cell? ⟨1,0,none⟩ = some (vErr eN)) (heB:w.cell? ⟨14,0,none⟩ = some (vErr eB)) (heS:w.cell? ⟨15,0,none⟩ = some (vErr eS)) (heF:w.cell? ⟨2,0,none⟩ = some (vEr eF)) :
  Calls Tryz.prog 17 #[.pointer (some ⟨v,0,none⟩),vB b] wr (PreP B w wr p v num n s E G I k U ds st b eN eB eF):=by
 have HVS:=mkHid h
 have hlow:=h.low
 have hL0:=hlow.size
 obtain ⟨l,lv,hvb,hvn⟩:∃ l lv,wr.heap[v]? = some (oV num l st lv) ∧ B v:=by
  obtain ⟨BL,l,a,c,ps,_,hx,_,hB⟩:=h
  exact ⟨l,_,hx.vb,(hB v).mpr (.inr (.inl rfl))⟩
 have HVB:=mkHid hvb
 have HLT:=mkHid (fun j hj=>(h.lt j hj).2)
 have hb0:Below wr.heap.size wr ((wr.alloc (oB b)).alloc oZB):=ba (ba (Below.refl _ wr) _) _
 have HRF:=mkHid (refused_v ((wr.alloc (oB b)).alloc oZB) v l num st lv b eN eB ((hb0.block v (lt_of_heap hvb)).trans hvb) (kc heN (bt hlow hb0)) (kc heB (bt hlow hb0)))
 have HE:=mkHid (And.intro heS heF)
 have HL0:=mkHid hL0
 unfold refE at HRF
 obtain ⟨q,hq⟩:∃ q,q = balB b:=⟨_,rfl⟩
 obtain ⟨r,hr⟩:∃ r,r = aboveB st.p b:=⟨_,rfl⟩
 rw [← hq,← hr] at HRF
 have HQ:=mkHid (And.intro hq hr)
 have HNE:=fun W=>neq_bal W b.1 b.2 st.p.1 st.p.2
 obtain ⟨z0,z1,z2,z3,z4,z5,z6,z7⟩:=vt_cells hvb
 clear h hlow hvb hb0 heN heB heS heF hq hr z0 z1 z2 z3 z4 z5 z6 z7
 obtain ⟨b1,b2⟩:=b
 simp only [vB] at HRF ⊢
 cases q
 case false=>
  go_enter Tryz.func17,Tryz.ntmps17
  go_wp2_with (first
   |(go_at_call 40;(with_reducible refine HRF.out.mono ?_);rintro e w1 ⟨rfl,b1x⟩;have HB1:Hid (Below ((wr.alloc (oB (b1,b2))).alloc oZB).heap.size ((wr.alloc (oB (b1,b2))).alloc oZB) w1):=mkHid b1x;have hz1:w1.heap[wr.heap.size + 1]? = some oZB:=(b1x.block (wr.heap.size + 1) (by simp)).trans (two_of_two wr _ _);have HZ1:=mkHid hz1;clear b1x hz1)
   |(refine wpList_store_box rfl 39 (.tmp 4) (.tmp 16) rfl (wr.heap.size + 1) #[.int .i64 0,.int .i64 0] rfl rfl 39 _ HZ1.out size2 rfl (one2 _ _) ?_;intro w9 h9 k9))
  exact bodyPost_ret (three_leaves rfl h9 _ rfl) rfl (PreP.no (z:=(0,0)) HQ.out.1 HQ.out.2 rfl (bt (ba (ba (Below.refl _ wr) (oB (b1,b2))) oZB) HB1.out) k9)
 cases r
 case true=>
  go_enter Tryz.func17,Tryz.ntmps17
  go_wp2_with (first
   |(go_at_call 40;(with_reducible refine HRF.out.mono ?_);rintro e w1 ⟨rfl,b1x⟩;have HB1:Hid (Below ((wr.alloc (oB (b1,b2))).alloc oZB).heap.size ((wr.alloc (oB (b1,b2))).alloc oZB) w1):=mkHid b1x;have hz1:w1.heap[wr.heap.size + 1]? = some oZB:=(b1x.block (wr.heap.size + 1) (by simp)).trans (two_of_two wr _ _);have HZ1:=mkHid hz1;clear b1x hz1)
   |(refine wpList_store_box rfl 39 (.tmp 4) (.tmp 16) rfl (wr.heap.size + 1) #[.int .i64 0,.int .i64 0] rfl rfl 39 _ HZ1.out size2 rfl (one2 _ _) ?_;intro w9 h9 k9))
  exact bodyPost_ret (three_leaves rfl h9 _ rfl) rfl (PreP.no (z:=(0,0)) HQ.out.1 HQ.out.2 rfl (bt (ba (ba (Below.refl _ wr) (oB (b1,b2))) oZB) HB1.out) k9)
 have hbal:balF (b1,b2):=balB_iff.mp HQ.out.1.symm
 have HBAL:=mkHid hbal
 clear hbal
 have HBR:Hid (Below wr.heap.size wr ((wr.alloc (oB (b1,b2))).alloc oZB)):=mkHid (ba (ba (Below.refl _ wr) _) _)
 obtain ⟨⟨p1,p2⟩,⟨a1,a2⟩,c',l'⟩:=st
 simp only at HNE
 obtain ⟨ne,hne⟩:∃ ne,ne = !(decide (b1 = p1) && decide (b2 = p2)):=⟨_,rfl⟩
 rw [← hne] at HNE
 have HNN:=mkHid hne
 clear hne
 have FACTS:=mkHid (fun (w1:World) (hb:Below ((wr.alloc (oB (b1,b2))).alloc oZB).heap.size ((wr.alloc (oB (b1,b2))).alloc oZB) w1)=>(⟨((bt HBR.out hb).block v (lt_of_heap HVB.out)).trans HVB.out,box_late ((ba (Below.refl _ (wr.alloc (oB (b1,b2)))) oZB).trans (hb.mono (by simp)))⟩:w1.heap[v]? = some (oV num l ⟨(p1,p2),(a1,a2),c',l'⟩ lv) ∧ w1.heap[wr.heap.size]? = some (oB (b1,b2))))
 cases ne
 ·
  go_enter Tryz.func17,Tryz.ntmps17
  go_wp2_with ((go_at_call 40;(with_reducible refine HRF.out.mono ?_);rintro e w1 ⟨rfl,b1x⟩;have HB1:Hid (Below ((wr.alloc (oB (b1,b2))).alloc oZB).heap.size ((wr.alloc (oB (b1,b2))).alloc oZB) w1):=mkHid b1x;have hz1:w1.heap[wr.heap.size + 1]? = some oZB:=(b1x.block (wr.heap.size + 1) (by simp)).trans (two_of_two wr _ _);have HZ1:=mkHid hz1;clear b1x hz1))
  obtain ⟨z0,z1,z2,z3,z4,z5,z6,z7⟩:=vt_cells (FACTS.out w1 HB1.out).1
  obtain ⟨y0,y1⟩:=two_cells (FACTS.out w1 HB1.out).2
  clear z0 z1 z4 z5 z6 z7
  go_region
  clear z2 z3 y0 y1
  have HBD:Hid (Below ((wr.alloc (oB (b1,b2))).alloc oZB).heap.size ((wr.alloc (oB (b1,b2))).alloc oZB) w1.drew):=mkHid HB1.out.drew
  have HZD:Hid (w1.drew.heap[wr.heap.size + 1]? = some oZB):=mkHid HZ1.out
  generalize w1.drew = w1' at HBD HZD ⊢
  go_wp2_with (first
   |(go_at_call 22;have HN:=VS.acc (HVS.out.below (bt HBR.out HBD.out));(with_reducible refine HN.mono ?_);clear HN;rintro e w2 ⟨a2x,c2x,qs,rfl,_,_,b2x⟩;have HB2:=mkHid b2x;simp only [vB];have hz2:=(ba b2x (oB (a1,a2))).block (wr.heap.size + 1) (lt_of_heap HZD.out);have HZ2:=mkHid (hz2.trans HZD.out);clear b2x hz2)
   |(refine wpList_store_box rfl 39 (.tmp 4) (.tmp 38) rfl (wr.heap.size + 1) #[.int .i64 a1,.int .i64 a2] rfl rfl 39 _ HZ2.out size2 rfl (one2 _ _) ?_;intro w9 h9 k9))
  have hbf:Below wr.heap.size wr w9:=(bt (bt (bt HBR.out HBD.out) HB2.out) (ba (Below.refl _ w2) (oB (a1,a2)))).trans (k9.below (fun j e=>by omega) (by have:=(bt (bt (bt HBR.out HBD.out) HB2.out) (ba (Below.refl _ w2) (oB (a1,a2)))).size;omega))
  have heq:(b1,b2) = (p1,p2):=by
   have:=HNN.out
   simp at this
   rw [this.1,this.2]
  exact bodyPost_ret (three_leaves rfl h9 _ rfl) rfl (PreP.yes (z:=(a1,a2)) HQ.out.1 HQ.out.2 none (if_pos heq) rfl (OpP.same HVS.out hbf))
 ·skip
  go_enter Tryz.func17,Tryz.ntmps17
  go_wp2_with ((go_at_call 40;(with_reducible refine HRF.out.mono ?_);rintro e w1 ⟨rfl,b1x⟩;have HB1:Hid (Below ((wr.alloc (oB (b1,b2))).alloc oZB).heap.size ((wr.alloc (oB (b1,b2))).alloc oZB) w1):=mkHid b1x;have hz1:w1.heap[wr.heap.size + 1]? = some oZB:=(b1x.block (wr.heap.size + 1) (by simp)).trans (two_of_two wr _ _);have HZ1:=mkHid hz1;clear b1x hz1))
  obtain ⟨z0,z1,z2,z3,z4,z5,z6,z7⟩:=vt_cells (FACTS.out w1 HB1.out).1
  obtain ⟨y0,y1⟩:=two_cells (FACTS.out w1 HB1.out).2
  clear z0 z1 z4 z5 z6 z7
  go_region
  clear z2 z3 y0 y1
  have HBD:Hid (Below ((wr.alloc (oB (b1,b2))).alloc oZB).heap.size ((wr.alloc (oB (b1,b2))).alloc oZB) w1.drew):=mkHid HB1.out.drew
  have HZD:Hid (w1.drew.heap[wr.heap.size + 1]? = some oZB):=mkHid HZ1.out
  generalize w1.drew = w1' at HBD HZD ⊢
  obtain ⟨y0,y1⟩:=two_cells (FACTS.out w1' HBD.out).2
  obtain ⟨qd,hqd⟩:∃ qd,qd = (apd s E G U ds (bytesS ⟨(p1,p2),(a1,a2),c',l'⟩) (bytesR (.pr (b1,b2)))).1:=⟨_,rfl⟩
  have HD:=mkHid hqd
  have HNB:Hid (¬ (b1,b2) = (p1,p2)):=mkHid (fun e=>by have:=HNN.out;simp at e;rw [e.1,e.2] at this;simp at this)
  clear hqd
  cases qd
  ·skip
   go_wp2_with (first
    |(go_at_call 41;have HN:=writeDown_v (HVS.out.below (bt HBR.out HBD.out)) (.pr (b1,b2)) 1 b1 b2 0 (.slice none 0 0) HBAL.out trivial (fun W a c ps _ _ hps hc=>(behind_pr W ⟨(p1,p2),(a1,a2),c',l'⟩ a ps.length c b1 b2 0 (.slice none 0 0)).mono (fun e w' hp=>⟨a,c,ps,hp.1,hps,.inl ⟨rfl,rfl,rfl⟩,hp.2⟩)) (fun W _=>rbytes_pr W b1 b2 0 (.slice none 0 0) HBAL.out) hn hk hI hG eS eF HE.out.1 HE.out.2;(with_reducible refine HN.mono ?_);clear HN;intro e w3 hwd;obtain ⟨he3,hop⟩:=hwd.op;rw [← HD.out] at he3;obtain rfl:=he3;have HOP:=mkHid hop;have hz3:=HOP.out.new HVS.out HBD.out HZD.out (by omega);have HZ3:=mkHid hz3;clear hwd hop hz3)
    |(refine wpList_store_box rfl 39 (.tmp 4) (.tmp 31) rfl (wr.heap.size + 1) #[.int .i64 0,.int .i64 0] rfl rfl 39 _ HZ3.out size2 rfl (one2 _ _) ?_;intro w9 h9 k9))
   exact bodyPost_ret (three_leaves rfl h9 _ rfl) rfl (PreP.yes (z:=(0,0)) HQ.out.1 HQ.out.2 (some (.pr (b1,b2))) (if_neg HNB.out) (by show _ = if (apd _ _ _ _ _ _ _).1 then _ else _;rw [← HD.out];rfl) (HOP.out.up (bt HBR.out HBD.out) k9 (fun j e=>⟨by omega,fun f=>by have:=HBD.out.size;simp at this;omega⟩) HLT.out HL0.out))
  ·skip
   go_wp2_with (first
    |(go_at_call 41;have HN:=writeDown_v (HVS.out.below (bt HBR.out HBD.out)) (.pr (b1,b2)) 1 b1 b2 0 (.slice none 0 0) HBAL.out trivial (fun W a c ps _ _ hps hc=>(behind_pr W ⟨(p1,p2),(a1,a2),c',l'⟩ a ps.length c b1 b2 0 (.slice none 0 0)).mono (fun e w' hp=>⟨a,c,ps,hp.1,hps,.inl ⟨rfl,rfl,rfl⟩,hp.2⟩)) (fun W _=>rbytes_pr W b1 b2 0 (.slice none 0 0) HBAL.out) hn hk hI hG eS eF HE.out.1 HE.out.2;(with_reducible refine HN.mono ?_);clear HN;intro e w3 hwd;obtain ⟨he3,hop⟩:=hwd.op;rw [← HD.out] at he3;obtain rfl:=he3;have HOP:=mkHid hop;have hz3:=HOP.out.new HVS.out HBD.out HZD.out (by omega);have HZ3:=mkHid hz3;obtain ⟨B3,s3,_,_⟩:=hop;have HVA:=mkHid (opR_does HD.out.symm ▸ s3);clear hwd hz3 s3)
    |(go_at_call 22;have HN:=VS.acc HVA.out;(with_reducible refine HN.mono ?_);clear HN;rintro e w2 ⟨a2x,c2x,qs,rfl,_,_,b2x⟩;have HB2:=mkHid b2x;simp only [vB];have hz2:=(ba b2x (oB (a1,a2))).block (wr.heap.size + 1) (lt_of_heap HZ3.out);have HZ2:=mkHid (hz2.trans HZ3.out);clear b2x hz2)
    |(refine wpList_store_box rfl 39 (.tmp 4) (.tmp 38) rfl (wr.heap.size + 1) #[.int .i64 a1,.int .i64 a2] rfl rfl 39 _ HZ2.out size2 rfl (one2 _ _) ?_;intro w9 h9 k9))
   have hk9:Kept (fun j=>j = wr.heap.size + 1 ∨ w3.heap.size ≤ j) w3 w9:=(keptB _ (bt HB2.out (ba (Below.refl _ w2) (oB (a1,a2))))).trans k9 (fun j e=>.inl (.inl e))
   exact bodyPost_ret (three_leaves rfl h9 _ rfl) rfl (PreP.yes (z:=(a1,a2)) HQ.out.1 HQ.out.2 (some (.pr (b1,b2))) (if_neg HNB.out) (by show _ = if (apd _ _ _ _ _ _ _).1 then _ else _;rw [← HD.out];rfl) (HOP.out.up (bt HBR.out HBD.out) hk9 (fun j e=>⟨by have:=HOP.out.sz;have:=(bt HBR.out HBD.out).size;omega,fun f=>by have:=HBD.out.size;simp at this;omega⟩) HLT.out HL0.out))
def acR (st:Vs) (b:Bl) (ls:List En):Vr:=.ac b (firsts st.l ls) (ls.drop (firsts st.l ls))
theorem acR_does (st:Vs) (b:Bl) (ls:List En):st.does (acR st b ls) = ⟨b,b,st.c,ls⟩:=by
 show Vs.mk b b st.c (st.l.take (firsts st.l ls) ++ ls.drop (firsts st.l ls)) = _
 rw [firsts_join]
def mayB (st:Vs) (b:Bl):Bool:=balB b && !aboveB st.p b
def AcpP (B:Nat → Prop) (w wr:World) (p v:Nat) (num:Int) (n s E G I k U:Nat) (ds:List (List Int)) (st:Vs) (b:Bl) (ls:List En) (eN eB eL eS eF:Addr) (e:Ending) (w':World):Prop:=
 (mayB st b = false ∧ e = .returned (refE st b eN eB) ∧ Below wr.heap.size wr w') ∨
 (mayB st b = true ∧ 64 < ls.length ∧ e = .returned (vErr eL) ∧ Below wr.heap.size wr w') ∨
 (mayB st b = true ∧ ls.length ≤ 64 ∧ (¬ ∀ x ∈ ls,inF x) ∧ e = .returned (vErr eS) ∧ Below wr.heap.size wr w') ∨
 (mayB st b = true ∧ ledF ls ∧ e = .returned (if (opR s E G U ds st (some (acR st b ls))).1 then .nilIface else vEr eF) ∧ OpP B w wr p v num n s E G I k U ds st (some (acR st b ls)) w')
theorem VS.led {B:Nat → Prop} {w wr:World} {p v n s E G I k U:Nat} {num:Int} {ds:List (List Int)} {st:Vs} (h:VS B w wr p v num n s E G I k U ds st):∃ l a c ps,(∀ W,Below wr.heap.size wr W → W.heap[v]? = some (oV num l st (.slice a ps.length c)) ∧ Ens W (.slice a ps.length c) ps) ∧ fs1 ps = st.l:=by
 obtain ⟨BL,l,a,c,ps,hsl,hx,hlg,hB⟩:=h
 exact ⟨l,a,c,ps,fun W hW=>⟨(hx.below hW).vb,hx.ens.below hW⟩,hx.eq⟩
theorem fs1_inF {qs:List Ep}:(∀ t ∈ qs,inF t.1) ↔ ∀ x ∈ fs1 qs,inF x:=by
 constructor
 ·intro h x hx
  obtain ⟨t,ht,rfl⟩:=List.mem_map.mp hx
  exact h t ht
 ·intro h t ht
  exact h t.1 (List.mem_map.mpr ⟨t,ht,rfl⟩)
theorem inF_small {t:Ep} (h:inF t.1):small t:=by
 have:=h.2.1.1
 unfold Go.Proofs.YtihdkgekickohaaGreatDoor.small;omega
theorem acR_ok {st:Vs} {b:Bl} {ls:List En} (hb:balF b) (hs:ledF st.l) (hl:ledF ls):(acR st b ls).ok ∧ (acR st b ls).fits st:=by
 have h1:=firsts_le st.l ls
 have h2:=hs.1
 have h3:=hl.1
 refine ⟨⟨hb,by omega,⟨?_,fun e he=>hl.2 e (List.mem_of_mem_drop he)⟩⟩,h1.1,?_⟩
 ·rw [List.length_drop];omega
 ·rw [List.length_drop];omega
theorem AcpP.no {B:Nat → Prop} {w wr w1:World} {p v n s E G I k U:Nat} {num:Int} {ds:List (List Int)} {st:Vs} {b:Bl} {ls:List En} {eN eB eL eS eF:Addr} {q r:Bool} {ev:Value} (hq:q = balB b) (hr:r = aboveB st.p b) (hev:ev = if q then (if r then vErr eB else .nilIface) else vErr eN) (h1:Below wr.heap.size wr w1) (hf:(q && !r) = false:=by rfl):AcpP B w wr p v num n s E G I k U ds st b ls eN eB eL eS eF (.returned ev) w1:=by
 subst hq hr hev
 exact .inl ⟨hf,rfl,h1⟩
theorem mayB_yes {st:Vs} {b:Bl} (hq:true = balB b) (hr:false = aboveB st.p b):mayB st b = true:=by unfold mayB;rw [← hq,← hr];rfl
theorem mem_take_drop {ps qs:List Ep} {k:Nat} (h1:∀ t ∈ ps,inF t.1) (h2:∀ t ∈ qs,inF t.1):∀ t ∈ ps.take k ++ qs,small t:=fun t ht=>by
 rcases List.mem_append.mp ht with m | m
 ·exact inF_small (h1 t (List.mem_of_mem_take m))
 ·exact inF_small (h2 t m)
set_option maxHeartbeats 6400000 in
theorem accept_v {B:Nat → Prop} {w wr:World} {p v n s E G I k U:Nat} {num:Int} {ds:List (List Int)} {st:Vs} (h:VS B w wr p v num n s E G I k U ds st) (b:Bl) (qa:Option Addr) (qc:Nat) (qs:List Ep) (hqs:Ens wr (.slice qa qs.length qc) qs) (hqc:qs.length ≤ qc) (hn:(n:Int) ≤ 1024) (hk:k ≤ 1900) (hI:I ≤ 900000) (hG:G ≤ 900000) (eN eB eL eS eF:Addr) (heN:w.cell? ⟨1,0,none⟩ = some (vErr eN)) (heB:w.cell? ⟨14,0,none⟩ = some (vErr eB)) (heL:w.cell? ⟨8,0,none⟩ = some (vErr eL)) (heS:w.cell? ⟨15,0,none⟩ = some (vErr eS)) (heF:w.cell? ⟨2,0,none⟩ = some (vEr eF)) :
  Calls Tryz.prog 18 #[.pointer (some ⟨v,0,none⟩),vB b,.slice qa qs.length qc] wr (AcpP B w wr p v num n s E G I k U ds st b (fs1 qs) eN eB eL eS eF):=by
 have HVS:=mkHid h
 have hlow:=h.low
 have hL0:=hlow.size
 obtain ⟨l,a,c,ps,hvb,heq⟩:=h.led
 have HVB:=mkHid hvb
 have HEQ:=mkHid heq
 have HLT:=mkHid (fun j hj=>(h.lt j hj).2)
 have HOK:=mkHid h.ok
 have HQS:=mkHid hqs
 have HQC:=mkHid hqc
 have hb0:Below wr.heap.size wr (wr.alloc (oB b)):=ba (Below.refl _ wr) _
 have HRF:=mkHid (refused_v (wr.alloc (oB b)) v l num st (.slice a ps.length c) b eN eB (hvb _ hb0).1 (kc heN (bt hlow hb0)) (kc heB (bt hlow hb0)))
 have HE:=mkHid (And.intro heS heF)
 have HEL:=mkHid (And.intro (fun W (hW:Below wr.heap.size wr W)=>kc heL (bt hlow hW)) (fun W (hW:Below wr.heap.size wr W)=>kc heS (bt hlow hW)))
 have HL0:=mkHid hL0
 unfold refE at HRF
 obtain ⟨q,hq⟩:∃ q,q = balB b:=⟨_,rfl⟩
 obtain ⟨r,hr⟩:∃ r,r = aboveB st.p b:=⟨_,rfl⟩
 rw [← hq,← hr] at HRF
 have HQ:=mkHid (And.intro hq hr)
 clear h hlow hvb heq hb0 heN heB heL heS heF hq hr hqs hqc
 obtain ⟨b1,b2⟩:=b
 simp only [vB] at HRF ⊢
 cases q
 case false=>
  go_enter Tryz.func18,Tryz.ntmps18
  go_wp2_with (go_at_call 40;(with_reducible refine HRF.out.mono ?_);rintro e w1 ⟨rfl,b1x⟩;have HB1:Hid (Below (wr.alloc (oB (b1,b2))).heap.size (wr.alloc (oB (b1,b2))) w1):=mkHid b1x;clear b1x)
  go_ret
  exact AcpP.no HQ.out.1 HQ.out.2 rfl (bt (ba (Below.refl _ wr) (oB (b1,b2))) HB1.out)
 cases r
 case true=>
  go_enter Tryz.func18,Tryz.ntmps18
  go_wp2_with (go_at_call 40;(with_reducible refine HRF.out.mono ?_);rintro e w1 ⟨rfl,b1x⟩;have HB1:Hid (Below (wr.alloc (oB (b1,b2))).heap.size (wr.alloc (oB (b1,b2))) w1):=mkHid b1x;clear b1x)
  go_ret
  exact AcpP.no HQ.out.1 HQ.out.2 rfl (bt (ba (Below.refl _ wr) (oB (b1,b2))) HB1.out)
 have hbal:balF (b1,b2):=balB_iff.mp HQ.out.1.symm
 have HBAL:=mkHid hbal
 clear hbal
 by_cases hlen:64 < qs.length
 case pos=>
  go_enter Tryz.func18,Tryz.ntmps18
  go_wp2_with (first
   |(go_at_call 40;(with_reducible refine HRF.out.mono ?_);rintro e w1 ⟨rfl,b1x⟩;have HB1:Hid (Below (wr.alloc (oB (b1,b2))).heap.size (wr.alloc (oB (b1,b2))) w1):=mkHid b1x;clear b1x)
   |(go_at_call 42;have HN:=write_large w1 (.slice qa qs.length qc) qs eL (HQS.out.below (bt (ba (Below.refl _ wr) (oB (b1,b2))) HB1.out)) hlen (HEL.out.1 w1 (bt (ba (Below.refl _ wr) (oB (b1,b2))) HB1.out));(with_reducible refine HN.mono ?_);clear HN;rintro e w2 ⟨rfl,b2x⟩;have HB2:=mkHid b2x;clear b2x))
  go_ret
  exact .inr (.inl ⟨mayB_yes HQ.out.1 HQ.out.2,by simpa [fs1] using hlen,rfl,bt (bt (ba (Below.refl _ wr) (oB (b1,b2))) HB1.out) HB2.out⟩)
 by_cases hinF:∀ t ∈ qs,inF t.1
 case neg=>
  go_enter Tryz.func18,Tryz.ntmps18
  go_wp2_with (first
   |(go_at_call 40;(with_reducible refine HRF.out.mono ?_);rintro e w1 ⟨rfl,b1x⟩;have HB1:Hid (Below (wr.alloc (oB (b1,b2))).heap.size (wr.alloc (oB (b1,b2))) w1):=mkHid b1x;clear b1x)
   |(go_at_call 42;have HN:=write_all w1 (.slice qa qs.length qc) qs eS (HQS.out.below (bt (ba (Below.refl _ wr) (oB (b1,b2))) HB1.out)) (by omega) (HEL.out.2 w1 (bt (ba (Below.refl _ wr) (oB (b1,b2))) HB1.out));(with_reducible refine HN.mono ?_);clear HN;rintro e w2 ⟨b2x,(⟨hyes,_⟩ | ⟨_,rfl⟩)⟩ <;> first | exact absurd hyes hinF | skip;have HB2:=mkHid b2x;clear b2x))
  go_ret
  exact .inr (.inr (.inl ⟨mayB_yes HQ.out.1 HQ.out.2,by simpa [fs1] using (show qs.length ≤ 64 by omega),fun e=>hinF (fs1_inF.mpr e),rfl,bt (bt (ba (Below.refl _ wr) (oB (b1,b2))) HB1.out) HB2.out⟩))
 have HIN:=mkHid hinF
 have HLE:Hid (ledF (fs1 qs)):=mkHid ⟨by simp [fs1];omega,fs1_inF.mp hinF⟩
 obtain ⟨sk,hsk⟩:∃ sk,sk = firsts st.l (fs1 qs):=⟨_,rfl⟩
 have hskl:=firsts_le st.l (fs1 qs)
 rw [← hsk,show (fs1 qs).length = qs.length by simp [fs1]] at hskl
 obtain ⟨tv',htv,hTE⟩:=HQS.out.tailE HQC.out sk hskl.2 (by omega)
 have hdl:(qs.drop sk).length = qs.length - sk:=List.length_drop
 obtain ⟨ta,tc,rfl⟩:∃ a c,tv' = .slice a (qs.length - sk) c:=by
  obtain ⟨a,c,e,_⟩:=hTE
  exact ⟨a,c,by rw [e,hdl]⟩
 have HSK:=mkHid hsk
 have HTE:=mkHid hTE
 have HTV:=mkHid htv
 have HSKL:=mkHid hskl
 have HDL:=mkHid hdl
 have HOKR:Hid ((acR st (b1,b2) (fs1 qs)).ok ∧ (acR st (b1,b2) (fs1 qs)).fits st):=mkHid (acR_ok HBAL.out HOK.out.l HLE.out)
 have HACR:Hid (acR st (b1,b2) (fs1 qs) = .ac (b1,b2) sk (fs1 (qs.drop sk))):=mkHid (by rw [hsk];unfold acR;simp [fs1,List.map_drop])
 clear hinF hsk hTE htv hdl
 go_enter Tryz.func18,Tryz.ntmps18
 go_wp2_with (first
  |(go_at_call 40;(with_reducible refine HRF.out.mono ?_);rintro e w1 ⟨rfl,b1x⟩;have HB1:Hid (Below (wr.alloc (oB (b1,b2))).heap.size (wr.alloc (oB (b1,b2))) w1):=mkHid b1x;clear b1x)
  |(go_at_call 42;have HN:=write_all w1 (.slice qa qs.length qc) qs eS (HQS.out.below (bt (ba (Below.refl _ wr) (oB (b1,b2))) HB1.out)) (by omega) (HEL.out.2 w1 (bt (ba (Below.refl _ wr) (oB (b1,b2))) HB1.out));(with_reducible refine HN.mono ?_);clear HN;rintro e w2 ⟨b2x,(⟨_,wv,rfl,_⟩ | ⟨hno,_⟩)⟩ <;> first | exact absurd HIN.out hno | skip;have HB2:Hid (Below (wr.alloc (oB (b1,b2))).heap.size (wr.alloc (oB (b1,b2))) w2):=mkHid (bt HB1.out b2x);clear b2x;obtain ⟨x0,x1,x2,x3,x4,x5,x6,x7⟩:=vt_cells (HVB.out w2 (bt (ba (Below.refl _ wr) (oB (b1,b2))) HB2.out)).1;clear x0 x1 x2 x3 x4 x5 x6)
  |(go_at_call 43;have HN:=sameFirst_any w2 (.slice a ps.length c) (.slice qa qs.length qc) ps qs (HVB.out w2 (bt (ba (Below.refl _ wr) (oB (b1,b2))) HB2.out)).2 (HQS.out.below (bt (ba (Below.refl _ wr) (oB (b1,b2))) HB2.out));rw [HEQ.out,← HSK.out] at HN;(with_reducible refine HN.mono ?_);clear HN;rintro e w3 ⟨rfl,b3x⟩;have HB3:Hid (Below (wr.alloc (oB (b1,b2))).heap.size (wr.alloc (oB (b1,b2))) w3):=mkHid (bt HB2.out b3x);clear b3x x7))
 obtain ⟨y0,y1⟩:=two_cells (box_late HB3.out)
 have HBW:Hid (Below wr.heap.size wr w3.drew):=mkHid (bt (ba (Below.refl _ wr) (oB (b1,b2))) HB3.out).drew
 have HBX:Hid (Below (wr.alloc (oB (b1,b2))).heap.size (wr.alloc (oB (b1,b2))) w3.drew):=mkHid HB3.out.drew
 have HHE:Hid (∀ W (a':Option Addr) (c':Nat) (ps':List Ep),Below w3.drew.heap.size w3.drew W → Ens W (.slice a' ps'.length c') ps' → fs1 ps' = st.l → ps'.length ≤ c' → Calls Tryz.prog 73 #[vS st (.slice a' ps'.length c'),vR 2 b1 b2 sk (.slice ta (qs.length - sk) tc)] W (BehP W st (.ac (b1,b2) sk (fs1 (qs.drop sk))) a' c' ps')):=mkHid (fun W a' c' ps' hW hps hpl hpc=>by
  have hpin:∀ t ∈ ps',inF t.1:=fs1_inF.mpr (by rw [hpl];exact HOK.out.l.2)
  have hpk:ps'.length = st.l.length:=by rw [← hpl];simp [fs1]
  have h64:=HOK.out.l.1
  have hs1:=HSKL.out
  have hd1:=HDL.out
  refine (behind_ac W st (.slice a' ps'.length c') (.slice ta (qs.length - sk) tc) ps' (qs.drop sk) b1 b2 sk hps (HTE.out.below (bt HBW.out hW)) hpl (by omega) (by omega) (fun _ _ _ e=>by simp only [Value.slice.injEq] at e;omega) (by omega) (mem_take_drop hpin (fun t ht=>HIN.out t (List.mem_of_mem_drop ht)))).mono (fun e w' hp=>?_)
  obtain ⟨a3,c3,ts,he,hts,hld,hbl⟩:=hp
  exact ⟨a3,c3,ts,he,hts,.inr hld,hbl⟩)
 have HBY:Hid (∀ W,Below w3.drew.heap.size w3.drew W → Calls Tryz.prog 74 #[vR 2 b1 b2 sk (.slice ta (qs.length - sk) tc)] W (BytesP W (bytesR (.ac (b1,b2) sk (fs1 (qs.drop sk)))))):=mkHid (fun W hW=>by
  exact rbytes_ac W b1 b2 sk (.slice ta (qs.length - sk) tc) (qs.drop sk) eS (HTE.out.below (bt HBW.out hW)) (HEL.out.2 W (bt HBW.out hW)) (HACR.out ▸ HOKR.out.1))
 have HWD:=mkHid (writeDown_v (HVS.out.below HBW.out) (.ac (b1,b2) sk (fs1 (qs.drop sk))) 2 b1 b2 sk (.slice ta (qs.length - sk) tc) (HACR.out ▸ HOKR.out.1) (HACR.out ▸ HOKR.out.2) HHE.out HBY.out hn hk hI hG eS eF HE.out.1 HE.out.2)
 refine wp_region_held_drew (S:=fun w'=>w'.cell? ⟨wr.heap.size,0,none⟩ = some (.int .i64 b1) ∧ w'.cell? ⟨wr.heap.size,1,none⟩ = some (.int .i64 b2)) (by kernel_rfl) ⟨y0,y1⟩ (fun hHeld=>?_)
 refine tkE 0 32 (.pointer (some ⟨v,0,none⟩)) rfl rfl hHeld ?_
 (try simp only [List.set_cons_zero,List.set_cons_succ])
 refine tkE 1 33 (.agg #[.int .i64 b1,.int .i64 b2]) rfl rfl hHeld ?_
 (try simp only [List.set_cons_zero,List.set_cons_succ])
 refine tkE 2 34 (.int .i64 (sk:Int)) rfl rfl hHeld ?_
 (try simp only [List.set_cons_zero,List.set_cons_succ])
 refine tkE 3 35 (.slice qa qs.length qc) rfl rfl hHeld ?_
 (try simp only [List.set_cons_zero,List.set_cons_succ])
 refine tkE 4 36 (.int .i64 (sk:Int)) rfl rfl hHeld ?_
 (try simp only [List.set_cons_zero,List.set_cons_succ])
 refine takeD 5 37 (.slice ta (qs.length - sk) tc) rfl rfl (by kernel_rfl) (by kernel_rfl) (by kernel_rfl) (fun _ _ _ h=>h) (Or.inl ⟨by kernel_rfl,by intro w _;exact yields_slice (t:=40) rfl elemEn.1 (by simpa [Act.eval] using HTV.out) w⟩) hHeld ?_
 (try simp only [List.set_cons_zero,List.set_cons_succ])
 refine tkE 6 38 (vR 2 b1 b2 sk (.slice ta (qs.length - sk) tc)) rfl rfl hHeld ?_
 (try simp only [List.set_cons_zero,List.set_cons_succ])
 refine wpAnyH_ready (rs:=[7]) (by kernel_rfl) (by simp) (AllReadyH.cons rfl (fun K hK=>?_) AllReadyH.nil)
 go_simp
 refine HWD.out.mono ?_
 intro e w9 hwd
 obtain ⟨he9,hop⟩:=hwd.op
 obtain ⟨ev,hev⟩:∃ ev:Value,ev = if (apd s E G U ds (bytesS st) (bytesR (.ac (b1,b2) sk (fs1 (qs.drop sk))))).1 then .nilIface else vEr eF:=⟨_,rfl⟩
 rw [← hev] at he9
 have HEV:=mkHid hev
 obtain rfl:=he9
 have HOP:=mkHid hop
 have hbx:=HOP.out.new HVS.out HBW.out (box_late HBX.out) (by omega)
 obtain ⟨u0,u1⟩:=two_cells hbx
 clear hwd hop hHeld hbx y0 y1 hev
 refine hK.out _ _ ⟨u0,u1⟩ (fun hHeld=>?_)
 clear hK K u0 u1
 (try simp only [Act.put])
 refine tkE 8 6 (ev) rfl rfl hHeld ?_
 (try simp only [List.set_cons_zero,List.set_cons_succ])
 refine wpAnyH_done (by kernel_rfl) ?_ _
 go_wp2
 go_ret
 refine .inr (.inr (.inr ⟨mayB_yes HQ.out.1 HQ.out.2,HLE.out,?_,?_⟩))
 ·rw [HACR.out];exact congrArg Ending.returned HEV.out
 ·rw [HACR.out]
  exact HOP.out.up HBW.out (Kept.refl (fun _=>False) _) (fun j e=>e.elim) HLT.out HL0.out
def clM (st:Vs) (b:Bl):Int:=if b.1 ≤ 1099511627776 then max (max st.p.1 st.c) b.1 else max st.p.1 st.c
theorem clM_ok {st:Vs} (h:st.ok) (b:Bl):0 ≤ clM st b ∧ clM st b ≤ 1099511627776 ∧ st.p.1 ≤ clM st b ∧ st.c ≤ clM st b:=by
 have h1:=h.p.amt.1
 have h2:=h.c
 unfold amt at h1 h2
 unfold clM
 split <;> omega
def ClmP (B:Nat → Prop) (w wr:World) (p v:Nat) (num:Int) (n s E G I k U:Nat) (ds:List (List Int)) (st:Vs) (b:Bl) (eF:Addr) (e:Ending) (w':World):Prop:=
 (clM st b = 1099511627776 ∧ e = .returned (.tuple #[vB (0,0),vEr eF]) ∧ Below wr.heap.size wr w') ∨
 (clM st b < 1099511627776 ∧ e = .returned (.tuple #[vB (if (opR s E G U ds st (some (.cl (clM st b + 1)))).1 then (clM st b + 1,num) else (0,0)),if (opR s E G U ds st (some (.cl (clM st b + 1)))).1 then .nilIface else vEr eF]) ∧ OpP B w wr p v num n s E G I k U ds st (some (.cl (clM st b + 1))) w')
theorem ClmP.yes {B:Nat → Prop} {w wr w9:World} {p v n s E G I k U:Nat} {num:Int} {ds:List (List Int)} {st:Vs} {b:Bl} {eF:Addr} {x:Bl} {ev:Value} {m:Int} (hm:m = clM st b) (hlt:m < 1099511627776) {qd:Bool} (hq:qd = (apd s E G U ds (bytesS st) (bytesR (.cl (m + 1)))).1) (hx:x = if qd then (m + 1,num) else (0,0)) (hev:ev = if qd then .nilIface else vEr eF) (h:OpP B w wr p v num n s E G I k U ds st (some (.cl (m + 1))) w9):ClmP B w wr p v num n s E G I k U ds st b eF (.returned (.tuple #[vB x,ev])) w9:=by
 subst hm hq hx hev
 exact .inr ⟨hlt,rfl,h⟩
set_option maxHeartbeats 6400000 in
theorem claim_v {B:Nat → Prop} {w wr:World} {p v n s E G I k U:Nat} {num:Int} {ds:List (List Int)} {st:Vs} (h:VS B w wr p v num n s E G I k U ds st) (b:Bl) (hn:(n:Int) ≤ 1024) (hk:k ≤ 1900) (hI:I ≤ 900000) (hG:G ≤ 900000) (eS eF:Addr) (heS:w.cell? ⟨15,0,none⟩ = some (vErr eS)) (heF:w.cell? ⟨2,0,none⟩ = some (vEr eF)) :
  Calls Tryz.prog 19 #[.pointer (some ⟨v,0,none⟩),vB b] wr (ClmP B w wr p v num n s E G I k U ds st b eF):=by
 have HVS:=mkHid h
 have hlow:=h.low
 have hL0:=hlow.size
 obtain ⟨l,a,c,ps,hvb,_⟩:=h.led
 have HVB:=mkHid hvb
 have HLT:=mkHid (fun j hj=>(h.lt j hj).2)
 have hcl:=clM_ok h.ok b
 have hcl2:∃ m,m = max st.p.1 st.c ∧ 0 ≤ m ∧ m ≤ 1099511627776 ∧ clM st b = if b.1 ≤ 1099511627776 then max m b.1 else m:=by
  have h1:=h.ok.p.amt.1
  have h2:=h.ok.c
  unfold amt at h1 h2
  exact ⟨_,rfl,by omega,by omega,rfl⟩
 obtain ⟨m,hm,hm0,hm1,hmc⟩:=hcl2
 have HE:=mkHid (And.intro heS heF)
 have HEF:=mkHid (fun W (hW:Below wr.heap.size wr W)=>kc heF (bt hlow hW))
 have HL0:=mkHid hL0
 obtain ⟨⟨p1,p2⟩,⟨a1,a2⟩,c',l'⟩:=st
 obtain ⟨b1,b2⟩:=b
 have HM:=mkHid hm
 have HCL:=mkHid hcl
 simp only at hmc
 have HBD:Hid (Below wr.heap.size wr ((wr.alloc (oB (b1,b2))).alloc oZB).drew):=mkHid (ba (ba (Below.refl _ wr) _) _).drew
 have HZD:Hid (((wr.alloc (oB (b1,b2))).alloc oZB).drew.heap[wr.heap.size + 1]? = some oZB):=mkHid (two_of_two wr _ _)
 have HXD:Hid (((wr.alloc (oB (b1,b2))).alloc oZB).drew.heap[wr.heap.size]? = some (oB (b1,b2))):=mkHid (box_late ((ba (Below.refl _ (wr.alloc (oB (b1,b2)))) oZB).drew))
 have HSZ:Hid (((wr.alloc (oB (b1,b2))).alloc oZB).drew.heap.size = wr.heap.size + 2):=mkHid (by simp)
 obtain ⟨x0,x1,x2,x3,x4,x5,x6,x7⟩:=vt_cells (HVB.out _ (ba (ba (Below.refl _ wr) (oB (b1,b2))) oZB)).1
 clear h hlow hvb heS heF x0 x1 x3 x4 x5 x7 hm hcl
 simp only [vB]
 go_enter Tryz.func19,Tryz.ntmps19
 go_wp2
 refine wp_region_held_drew (S:=fun w'=>w'.cell? ⟨v,2,none⟩ = some (.int .i64 p1) ∧ w'.cell? ⟨v,6,none⟩ = some (.int .i64 c')) (by kernel_rfl) ⟨x2,x6⟩ (fun hHeld=>?_)
 refine tkE 0 9 (.pointer (some ⟨v,0,none⟩)) rfl rfl hHeld ?_
 (try simp only [List.set_cons_zero,List.set_cons_succ])
 refine tkE 1 10 (.pointer (some ⟨v,0,none⟩)) rfl rfl hHeld ?_
 (try simp only [List.set_cons_zero,List.set_cons_succ])
 refine tkE 2 11 (.pointer (some ⟨v,2,none⟩)) rfl rfl hHeld ?_
 (try simp only [List.set_cons_zero,List.set_cons_succ])
 refine tkE 3 12 (.pointer (some ⟨v,2,none⟩)) rfl rfl hHeld ?_
 (try simp only [List.set_cons_zero,List.set_cons_succ])
 refine tkE 4 13 (.pointer (some ⟨v,2,none⟩)) rfl rfl hHeld ?_
 (try simp only [List.set_cons_zero,List.set_cons_succ])
 refine tkE 5 14 (.int .i64 p1) rfl rfl hHeld ?_
 (try simp only [List.set_cons_zero,List.set_cons_succ])
 refine tkE 6 15 (.pointer (some ⟨v,0,none⟩)) rfl rfl hHeld ?_
 (try simp only [List.set_cons_zero,List.set_cons_succ])
 refine tkE 7 16 (.pointer (some ⟨v,0,none⟩)) rfl rfl hHeld ?_
 (try simp only [List.set_cons_zero,List.set_cons_succ])
 refine tkE 8 17 (.pointer (some ⟨v,2,none⟩)) rfl rfl hHeld ?_
 (try simp only [List.set_cons_zero,List.set_cons_succ])
 refine tkE 9 18 (.pointer (some ⟨v,6,none⟩)) rfl rfl hHeld ?_
 (try simp only [List.set_cons_zero,List.set_cons_succ])
 refine tkE 10 19 (.int .i64 c') rfl rfl hHeld ?_
 (try simp only [List.set_cons_zero,List.set_cons_succ])
 refine takeD 11 20 (.int .i64 m) rfl rfl (by kernel_rfl) (by kernel_rfl) (by kernel_rfl) (fun _ _ _ h=>h) (Or.inl ⟨by kernel_rfl,by intro w hSw;(try dsimp only at hSw);go_simp;have:=HM.out;omega⟩) hHeld ?_
 (try simp only [List.set_cons_zero,List.set_cons_succ])
 refine tkE 12 6 (.int .i64 m) rfl rfl hHeld ?_
 (try simp only [List.set_cons_zero,List.set_cons_succ])
 refine wpAnyH_done (by kernel_rfl) ?_ _
 clear hHeld x2 x6
 generalize ((wr.alloc (oB (b1,b2))).alloc oZB).drew = W1 at HBD HZD HXD HSZ ⊢
 obtain ⟨y0,y1⟩:=two_cells HXD.out
 obtain ⟨x0,x1,x2,x3,x4,x5,x6,x7⟩:=vt_cells (HVB.out W1 HBD.out).1
 clear y1 x1 x2 x3 x4 x5 x6 x7
 by_cases hA:b1 ≤ 1099511627776
 case neg=>
  rw [if_neg hA] at hmc
  have HB4:Hid (Below wr.heap.size wr (W1.alloc (oB (m + 1,num)))):=mkHid (ba HBD.out (oB (m + 1,num)))
  have HZ4:Hid ((W1.alloc (oB (m + 1,num))).heap[wr.heap.size + 1]? = some oZB):=mkHid ((heap_alloc_old _ _ (by have:=HSZ.out;omega)).trans HZD.out)
  have HO4:Hid ((W1.alloc (oB (m + 1,num))).heap[W1.heap.size]? = some (oB (m + 1,num))):=mkHid (heap_alloc_new _ _)
  by_cases hfull:1099511627776 < m + 1
  ·have hlt:(W1.alloc (oB (m + 1,num))).cell? ⟨2,0,none⟩ = some (vEr eF):=HEF.out _ HB4.out
   have HG2:=mkHid (World.block_lt_of_cell? _ _ (HEF.out wr (Below.refl _ _)))
   go_wp2
   have g2:=hlt
   refine wp_region_held_drew (S:=fun w'=>w'.cell? ⟨2,0,none⟩ = some (vEr eF)) (by kernel_rfl) g2 (fun hHeld=>?_)
   refine tkE 0 38 (.agg #[.int .i64 0,.int .i64 0]) rfl rfl hHeld ?_
   (try simp only [List.set_cons_zero,List.set_cons_succ])
   refine tkE 1 39 (vEr eF) rfl rfl hHeld ?_
   (try simp only [List.set_cons_zero,List.set_cons_succ])
   refine wpAnyH_ready (rs:=[2]) (by kernel_rfl) (by simp) (AllReadyH.cons rfl (fun K hK=>?_) AllReadyH.nil)
   refine step_store_box6 rfl 39 (.tmp 4) (.tmp 38) rfl (wr.heap.size + 1) #[.int .i64 0,.int .i64 0] (by simp [Act.eval]) (by simp [Act.eval]) 39 _ HZ4.out size2 rfl (one2 _ _) ?_
   intro w9 h9 k9
   have g9:=k9.cell g2 (by have:=lt_of_heap HZ4.out;have:=HG2.out;simp;omega)
   refine hK.out _ _ g9 (fun hHeld=>?_)
   clear hK K
   (try simp only [Act.put])
   refine tkE 3 5 (vEr eF) rfl rfl hHeld ?_
   (try simp only [List.set_cons_zero,List.set_cons_succ])
   refine wpAnyH_done (by kernel_rfl) ?_ _
   go_wp2
   exact bodyPost_ret (two_leaves rfl h9 _ rfl) rfl (.inl ⟨by have:=HCL.out.2.1;rw [hmc] at this ⊢;omega,rfl,HB4.out.drew.trans (k9.below (fun j e=>by omega) HB4.out.drew.size)⟩)
  ·have HRO:Hid (Vr.ok (.cl (m + 1))):=mkHid (by show 1 ≤ m + 1 ∧ m + 1 ≤ 1099511627776;omega)
   obtain ⟨qd,hqd⟩:∃ qd,qd = (apd s E G U ds (bytesS ⟨(p1,p2),(a1,a2),c',l'⟩) (bytesR (.cl (m + 1)))).1:=⟨_,rfl⟩
   have HD:=mkHid hqd
   clear hqd
   have HLM:Hid (m < 1099511627776):=mkHid (by omega)
   cases qd
   ·skip
    go_wp2_with (first
     |(go_at_call 41;have HN:=writeDown_v (HVS.out.below HB4.out) (.cl (m + 1)) 3 (m + 1) num 0 (.slice none 0 0) HRO.out trivial (fun W a c ps _ _ hps hc=>(behind_cl W ⟨(p1,p2),(a1,a2),c',l'⟩ a ps.length c (m + 1) num 0 (.slice none 0 0)).mono (fun e w' hp=>⟨a,c,ps,hp.1,hps,.inl ⟨rfl,rfl,rfl⟩,hp.2⟩)) (fun W _=>rbytes_cl W (m + 1) num 0 (.slice none 0 0) HRO.out) hn hk hI hG eS eF HE.out.1 HE.out.2;(with_reducible refine HN.mono ?_);clear HN;intro e w5 hwd;obtain ⟨he5,hop⟩:=hwd.op;rw [← HD.out] at he5;obtain rfl:=he5;have HOP:=mkHid hop;have hz5:=HOP.out.new HVS.out HB4.out HZ4.out (by omega);have hx5:=HOP.out.new HVS.out HB4.out HO4.out (by have:=HSZ.out;omega);have HZ5:=mkHid hz5;obtain ⟨o0,o1⟩:=two_cells hx5;clear hwd hop hz5 hx5)
     |(refine wpList_store_box rfl 39 (.tmp 4) (.tmp 46) rfl (wr.heap.size + 1) #[.int .i64 0,.int .i64 0] rfl rfl 39 _ HZ5.out size2 rfl (one2 _ _) ?_;intro w9 h9 k9))
    exact bodyPost_ret (two_leaves rfl h9 _ rfl) rfl (ClmP.yes (x:=(0,0)) hmc.symm HLM.out HD.out rfl rfl (HOP.out.up HB4.out k9 (fun j e=>⟨by omega,fun f=>by have:=HSZ.out;simp at f;omega⟩) HLT.out HL0.out))
   ·skip
    go_wp2_with (first
     |(go_at_call 41;have HN:=writeDown_v (HVS.out.below HB4.out) (.cl (m + 1)) 3 (m + 1) num 0 (.slice none 0 0) HRO.out trivial (fun W a c ps _ _ hps hc=>(behind_cl W ⟨(p1,p2),(a1,a2),c',l'⟩ a ps.length c (m + 1) num 0 (.slice none 0 0)).mono (fun e w' hp=>⟨a,c,ps,hp.1,hps,.inl ⟨rfl,rfl,rfl⟩,hp.2⟩)) (fun W _=>rbytes_cl W (m + 1) num 0 (.slice none 0 0) HRO.out) hn hk hI hG eS eF HE.out.1 HE.out.2;(with_reducible refine HN.mono ?_);clear HN;intro e w5 hwd;obtain ⟨he5,hop⟩:=hwd.op;rw [← HD.out] at he5;obtain rfl:=he5;have HOP:=mkHid hop;have hz5:=HOP.out.new HVS.out HB4.out HZ4.out (by omega);have hx5:=HOP.out.new HVS.out HB4.out HO4.out (by have:=HSZ.out;omega);have HZ5:=mkHid hz5;obtain ⟨o0,o1⟩:=two_cells hx5;clear hwd hop hz5 hx5)
     |(refine wpList_store_box rfl 39 (.tmp 4) (.tmp 48) rfl (wr.heap.size + 1) #[.int .i64 (m + 1),.int .i64 num] rfl rfl 39 _ HZ5.out size2 rfl (one2 _ _) ?_;intro w9 h9 k9))
    exact bodyPost_ret (two_leaves rfl h9 _ rfl) rfl (ClmP.yes (x:=(m + 1,num)) hmc.symm HLM.out HD.out rfl rfl (HOP.out.up HB4.out k9 (fun j e=>⟨by omega,fun f=>by have:=HSZ.out;simp at f;omega⟩) HLT.out HL0.out))
 rw [if_pos hA] at hmc
 obtain ⟨mm,hmax⟩:∃ mm,max m b1 = mm:=⟨_,rfl⟩
 rw [hmax] at hmc
 have hmm:0 ≤ mm ∧ mm ≤ 1099511627776:=by omega
 have HB4:Hid (Below wr.heap.size wr (W1.alloc (oB (mm + 1,num)))):=mkHid (ba HBD.out (oB (mm + 1,num)))
 have HZ4:Hid ((W1.alloc (oB (mm + 1,num))).heap[wr.heap.size + 1]? = some oZB):=mkHid ((heap_alloc_old _ _ (by have:=HSZ.out;omega)).trans HZD.out)
 have HO4:Hid ((W1.alloc (oB (mm + 1,num))).heap[W1.heap.size]? = some (oB (mm + 1,num))):=mkHid (heap_alloc_new _ _)
 by_cases hfull:1099511627776 < mm + 1
 ·have hlt:(W1.alloc (oB (mm + 1,num))).cell? ⟨2,0,none⟩ = some (vEr eF):=HEF.out _ HB4.out
  have HG2:=mkHid (World.block_lt_of_cell? _ _ (HEF.out wr (Below.refl _ _)))
  go_wp2
  have g2:=hlt
  refine wp_region_held_drew (S:=fun w'=>w'.cell? ⟨2,0,none⟩ = some (vEr eF)) (by kernel_rfl) g2 (fun hHeld=>?_)
  refine tkE 0 38 (.agg #[.int .i64 0,.int .i64 0]) rfl rfl hHeld ?_
  (try simp only [List.set_cons_zero,List.set_cons_succ])
  refine tkE 1 39 (vEr eF) rfl rfl hHeld ?_
  (try simp only [List.set_cons_zero,List.set_cons_succ])
  refine wpAnyH_ready (rs:=[2]) (by kernel_rfl) (by simp) (AllReadyH.cons rfl (fun K hK=>?_) AllReadyH.nil)
  refine step_store_box6 rfl 39 (.tmp 4) (.tmp 38) rfl (wr.heap.size + 1) #[.int .i64 0,.int .i64 0] (by simp [Act.eval]) (by simp [Act.eval]) 39 _ HZ4.out size2 rfl (one2 _ _) ?_
  intro w9 h9 k9
  have g9:=k9.cell g2 (by have:=lt_of_heap HZ4.out;have:=HG2.out;simp;omega)
  refine hK.out _ _ g9 (fun hHeld=>?_)
  clear hK K
  (try simp only [Act.put])
  refine tkE 3 5 (vEr eF) rfl rfl hHeld ?_
  (try simp only [List.set_cons_zero,List.set_cons_succ])
  refine wpAnyH_done (by kernel_rfl) ?_ _
  go_wp2
  exact bodyPost_ret (two_leaves rfl h9 _ rfl) rfl (.inl ⟨by have:=HCL.out.2.1;rw [hmc] at this ⊢;omega,rfl,HB4.out.drew.trans (k9.below (fun j e=>by omega) HB4.out.drew.size)⟩)
 ·have HRO:Hid (Vr.ok (.cl (mm + 1))):=mkHid (by show 1 ≤ mm + 1 ∧ mm + 1 ≤ 1099511627776;omega)
  obtain ⟨qd,hqd⟩:∃ qd,qd = (apd s E G U ds (bytesS ⟨(p1,p2),(a1,a2),c',l'⟩) (bytesR (.cl (mm + 1)))).1:=⟨_,rfl⟩
  have HD:=mkHid hqd
  clear hqd
  have HLM:Hid (mm < 1099511627776):=mkHid (by omega)
  cases qd
  ·skip
   go_wp2_with (first
    |(go_at_call 41;have HN:=writeDown_v (HVS.out.below HB4.out) (.cl (mm + 1)) 3 (mm + 1) num 0 (.slice none 0 0) HRO.out trivial (fun W a c ps _ _ hps hc=>(behind_cl W ⟨(p1,p2),(a1,a2),c',l'⟩ a ps.length c (mm + 1) num 0 (.slice none 0 0)).mono (fun e w' hp=>⟨a,c,ps,hp.1,hps,.inl ⟨rfl,rfl,rfl⟩,hp.2⟩)) (fun W _=>rbytes_cl W (mm + 1) num 0 (.slice none 0 0) HRO.out) hn hk hI hG eS eF HE.out.1 HE.out.2;(with_reducible refine HN.mono ?_);clear HN;intro e w5 hwd;obtain ⟨he5,hop⟩:=hwd.op;rw [← HD.out] at he5;obtain rfl:=he5;have HOP:=mkHid hop;have hz5:=HOP.out.new HVS.out HB4.out HZ4.out (by omega);have hx5:=HOP.out.new HVS.out HB4.out HO4.out (by have:=HSZ.out;omega);have HZ5:=mkHid hz5;obtain ⟨o0,o1⟩:=two_cells hx5;clear hwd hop hz5 hx5)
    |(refine wpList_store_box rfl 39 (.tmp 4) (.tmp 46) rfl (wr.heap.size + 1) #[.int .i64 0,.int .i64 0] rfl rfl 39 _ HZ5.out size2 rfl (one2 _ _) ?_;intro w9 h9 k9))
   exact bodyPost_ret (two_leaves rfl h9 _ rfl) rfl (ClmP.yes (x:=(0,0)) hmc.symm HLM.out HD.out rfl rfl (HOP.out.up HB4.out k9 (fun j e=>⟨by omega,fun f=>by have:=HSZ.out;simp at f;omega⟩) HLT.out HL0.out))
  ·skip
   go_wp2_with (first
    |(go_at_call 41;have HN:=writeDown_v (HVS.out.below HB4.out) (.cl (mm + 1)) 3 (mm + 1) num 0 (.slice none 0 0) HRO.out trivial (fun W a c ps _ _ hps hc=>(behind_cl W ⟨(p1,p2),(a1,a2),c',l'⟩ a ps.length c (mm + 1) num 0 (.slice none 0 0)).mono (fun e w' hp=>⟨a,c,ps,hp.1,hps,.inl ⟨rfl,rfl,rfl⟩,hp.2⟩)) (fun W _=>rbytes_cl W (mm + 1) num 0 (.slice none 0 0) HRO.out) hn hk hI hG eS eF HE.out.1 HE.out.2;(with_reducible refine HN.mono ?_);clear HN;intro e w5 hwd;obtain ⟨he5,hop⟩:=hwd.op;rw [← HD.out] at he5;obtain rfl:=he5;have HOP:=mkHid hop;have hz5:=HOP.out.new HVS.out HB4.out HZ4.out (by omega);have hx5:=HOP.out.new HVS.out HB4.out HO4.out (by have:=HSZ.out;omega);have HZ5:=mkHid hz5;obtain ⟨o0,o1⟩:=two_cells hx5;clear hwd hop hz5 hx5)
    |(refine wpList_store_box rfl 39 (.tmp 4) (.tmp 48) rfl (wr.heap.size + 1) #[.int .i64 (mm + 1),.int .i64 num] rfl rfl 39 _ HZ5.out size2 rfl (one2 _ _) ?_;intro w9 h9 k9))
   exact bodyPost_ret (two_leaves rfl h9 _ rfl) rfl (ClmP.yes (x:=(mm + 1,num)) hmc.symm HLM.out HD.out rfl rfl (HOP.out.up HB4.out k9 (fun j e=>⟨by omega,fun f=>by have:=HSZ.out;simp at f;omega⟩) HLT.out HL0.out))
end Go.Proofs.YtihdkgekickohaaGreatDoor
