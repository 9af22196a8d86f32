import Derived.Test.YtihdkgekickohaaGreatDoorVeX
import Derived.Test.YtihdkgekickohaaGreatDoorVlog
namespace Go.Proofs.YtihdkgekickohaaGreatDoor
open Go.ChangeShapes Go.WideShapes Go.ChangeAt Go.RowKit
set_option maxRecDepth 100000
attribute [local go_sem] World.cell?_alloc_some frozen_alloc_some
def apd (s E G U:Nat) (ds:List (List Int)) (sb b:List Int):Bool × Nat × Nat × List (List Int):=
 if U + np6 E G ds.length b ≤ s then (true,G,U + np6 E G ds.length b,ds ++ [b])
 else if np6 E (G + 1) 0 sb ≤ s then (if np6 E (G + 1) 0 sb + np6 E (G + 1) 1 b ≤ s then (true,G + 1,np6 E (G + 1) 0 sb + np6 E (G + 1) 1 b,[sb,b]) else (false,G + 1,np6 E (G + 1) 0 sb,[sb]))
 else (false,G,U,ds)
abbrev oV (num:Int) (l:Nat) (s:Vs) (lv:Value):Obj:=.cells #[.int .i64 num,.pointer (some ⟨l,0,none⟩),.int .i64 s.p.1,.int .i64 s.p.2,.int .i64 s.a.1,.int .i64 s.a.2,.int .i64 s.c,lv] 103
theorem vt_cells {w:World} {b:Nat} {x0 x1 x2 x3 x4 x5 x6 x7:Value} {T:TypeId} (h:w.heap[b]? = some (.cells #[x0,x1,x2,x3,x4,x5,x6,x7] T (0,0))):w.cell? ⟨b,0,none⟩ = some x0 ∧ w.cell? ⟨b,1,none⟩ = some x1 ∧ w.cell? ⟨b,2,none⟩ = some x2 ∧ w.cell? ⟨b,3,none⟩ = some x3 ∧ w.cell? ⟨b,4,none⟩ = some x4 ∧ w.cell? ⟨b,5,none⟩ = some x5 ∧ w.cell? ⟨b,6,none⟩ = some x6 ∧ w.cell? ⟨b,7,none⟩ = some x7:=
 ⟨cell_of_block h rfl,cell_of_block h rfl,cell_of_block h rfl,cell_of_block h rfl,cell_of_block h rfl,cell_of_block h rfl,cell_of_block h rfl,cell_of_block h rfl⟩
def LBk (lv:Value) (ps:List Ep) (j:Nat):Prop:=lv.ownBlock = some j ∨ ∃ t ∈ ps,(tv t).ownBlock = some j
theorem Led.kept' {G:Nat → Prop} {base:Nat} {w w':World} {v:Value} {ps:List Ep} (h:Led base w v ps) (hk:Kept G w w') (hG:∀ j,LBk v ps j → ¬ G j):Led base w' v ps:=
 ⟨ownN_kept h.own hk (fun k e=>hG k (.inl e)),fun t ht=>ownN_kept (h.tk t ht) hk (fun k e=>hG k (.inr ⟨t,ht,e⟩)),h.ne⟩
theorem Led.lbk {base:Nat} {w:World} {v:Value} {ps:List Ep} (h:Led base w v ps) (j:Nat) (hj:LBk v ps j):base ≤ j ∧ j < w.heap.size:=by
 rcases hj with e | ⟨t,ht,e⟩
 ·exact h.own.lt j e
 ·exact (h.tk t ht).lt j e
structure VX (BL:Nat → Prop) (w wr:World) (v l:Nat) (num:Int) (st:Vs) (a:Option Addr) (c:Nat) (ps:List Ep):Prop where
 vb:wr.heap[v]? = some (oV num l st (.slice a ps.length c))
 led:Led w.heap.size wr (.slice a ps.length c) ps
 eq:fs1 ps = st.l
 ok:st.ok
 nv:¬ BL v
 ge:w.heap.size ≤ v
 lb:∀ j,LBk (.slice a ps.length c) ps j → ¬ BL j ∧ j ≠ v
theorem VX.kept {BL:Nat → Prop} {w wr w':World} {v l:Nat} {num:Int} {st:Vs} {a:Option Addr} {c:Nat} {ps:List Ep} (h:VX BL w wr v l num st a c ps) {K:Nat → Prop} (hk:Kept K wr w') (hv:¬ K v) (hl:∀ j,LBk (.slice a ps.length c) ps j → ¬ K j):VX BL w w' v l num st a c ps:=
 ⟨(hk.block v (lt_of_heap h.vb) hv).trans h.vb,h.led.kept' hk hl,h.eq,h.ok,h.nv,h.ge,h.lb⟩
theorem VX.log {BL BL':Nat → Prop} {w wr w':World} {v l:Nat} {num:Int} {st:Vs} {a:Option Addr} {c:Nat} {ps:List Ep} (h:VX BL w wr v l num st a c ps) (hk:Kept BL wr w') (hB:∀ j,BL' j → BL j ∨ wr.heap.size ≤ j):VX BL' w w' v l num st a c ps:=by
 have h1:=h.kept hk h.nv (fun j hj=>(h.lb j hj).1)
 refine ⟨h1.vb,h1.led,h1.eq,h1.ok,fun e=>?_,h.ge,fun j hj=>⟨fun e=>?_,(h.lb j hj).2⟩⟩
 ·rcases hB v e with e | e
  ·exact h.nv e
  ·have:=lt_of_heap h.vb;omega
 ·rcases hB j e with e | e
  ·exact (h.lb j hj).1 e
  ·have:=(h.led.lbk j hj).2;omega
theorem VX.below {BL:Nat → Prop} {w wr w':World} {v l:Nat} {num:Int} {st:Vs} {a:Option Addr} {c:Nat} {ps:List Ep} (h:VX BL w wr v l num st a c ps) (hb:Below wr.heap.size wr w'):VX BL w w' v l num st a c ps:=
 h.kept (kept_of_below hb) (fun e=>by have:=lt_of_heap h.vb;omega) (fun j hj e=>by have:=(h.led.lbk j hj).2;omega)
theorem VX.ens {BL:Nat → Prop} {w wr:World} {v l:Nat} {num:Int} {st:Vs} {a:Option Addr} {c:Nat} {ps:List Ep} (h:VX BL w wr v l num st a c ps):Ens wr (.slice a ps.length c) ps:=
 h.led.ens (by have:=h.ok.l.1;rw [← h.eq] at this;simp [fs1] at this;omega) (fun t ht=>by
  have:=(h.ok.l.2 t.1 (by rw [← h.eq];exact List.mem_map.mpr ⟨t,ht,rfl⟩)).2.1.1
  omega)
theorem VX.small {BL:Nat → Prop} {w wr:World} {v l:Nat} {num:Int} {st:Vs} {a:Option Addr} {c:Nat} {ps:List Ep} (h:VX BL w wr v l num st a c ps):ps.length ≤ 64 ∧ ps.length ≤ c ∧ ∀ t ∈ ps,small t:=by
 refine ⟨by have:=h.ok.l.1;rw [← h.eq] at this;simpa [fs1] using this,?_,fun t ht=>?_⟩
 ·obtain ⟨_,_,e,hc⟩:=own_sh h.led.own
  simp only [Value.slice.injEq] at e
  rw [e.2.2];exact hc
 ·have:=(h.ok.l.2 t.1 (by rw [← h.eq];exact List.mem_map.mpr ⟨t,ht,rfl⟩)).2.1.1
  unfold Go.Proofs.YtihdkgekickohaaGreatDoor.small;omega
def AppP (BL:Nat → Prop) (w wr:World) (p l n s E G I k U:Nat) (ds:List (List Int)) (sb b:List Int) (eF:Addr) (e:Ending) (w':World):Prop:=
 ∃ BL' q,e = .returned (if (apd s E G U ds sb b).1 then .nilIface else vEr eF) ∧ SL BL' w w' p l n s E (apd s E G U ds sb b).2.1 (I + 2) (k + 3) (apd s E G U ds sb b).2.2.1 q (apd s E G U ds sb b).2.2.2 ∧ ((apd s E G U ds sb b).1 = false → q = true) ∧ (∀ j,BL' j → BL j ∨ wr.heap.size ≤ j) ∧ Kept BL wr w'
theorem BX3 {BL B3:Nat → Prop} {wr w2:World} (hb:Below wr.heap.size wr w2) (h:∀ j,B3 j → BL j ∨ w2.heap.size ≤ j) (j:Nat) (hj:B3 j):BL j ∨ wr.heap.size ≤ j:=(h j hj).imp id (fun e=>Nat.le_trans hb.size e)
theorem BX4 {BL B3 B4:Nat → Prop} {wr w2 w3:World} (hb:Below wr.heap.size wr w2) (hk:Kept BL wr w3) (h:∀ j,B3 j → BL j ∨ w2.heap.size ≤ j) (h4:∀ j,B4 j → B3 j ∨ w3.heap.size ≤ j) (j:Nat) (hj:B4 j):BL j ∨ wr.heap.size ≤ j:=by
 rcases h4 j hj with e | e
 ·exact BX3 hb h j e
 ·exact .inr (Nat.le_trans hk.size e)
theorem AppP.mk1 {BL B1:Nat → Prop} {w wr w':World} {p l n s E G I k U I' k':Nat} {q:Bool} {ds:List (List Int)} {sb b:List Int} {eF:Addr} (h1:U + np6 E G ds.length b ≤ s) (h:SL B1 w w' p l n s E G I' k' (U + np6 E G ds.length b) q (ds ++ [b])) (hI:I' ≤ I + 2) (hk:k' ≤ k + 3) (hB:∀ j,B1 j → BL j ∨ wr.heap.size ≤ j) (hK:Kept BL wr w'):AppP BL w wr p l n s E G I k U ds sb b eF (.returned .nilIface) w':=by
 unfold AppP apd
 rw [if_pos h1]
 exact ⟨B1,q,rfl,h.more _ _ hI hk,fun e=>by simp at e,hB,hK⟩
theorem AppP.mk2 {BL B1:Nat → Prop} {w wr w':World} {p l n s E G I k U I' k':Nat} {q:Bool} {ds:List (List Int)} {sb b:List Int} {eF:Addr} (h1:¬ U + np6 E G ds.length b ≤ s) (h2:np6 E (G + 1) 0 sb ≤ s) (h3:np6 E (G + 1) 0 sb + np6 E (G + 1) 1 b ≤ s) (h:SL B1 w w' p l n s E (G + 1) I' k' (np6 E (G + 1) 0 sb + np6 E (G + 1) 1 b) q [sb,b]) (hI:I' ≤ I + 2) (hk:k' ≤ k + 3) (hB:∀ j,B1 j → BL j ∨ wr.heap.size ≤ j) (hK:Kept BL wr w'):AppP BL w wr p l n s E G I k U ds sb b eF (.returned .nilIface) w':=by
 unfold AppP apd
 rw [if_neg h1,if_pos h2,if_pos h3]
 exact ⟨B1,q,rfl,h.more _ _ hI hk,fun e=>by simp at e,hB,hK⟩
theorem AppP.mk3 {BL B1:Nat → Prop} {w wr w':World} {p l n s E G I k U I' k':Nat} {ds:List (List Int)} {sb b:List Int} {eF:Addr} (h1:¬ U + np6 E G ds.length b ≤ s) (h2:np6 E (G + 1) 0 sb ≤ s) (h3:¬ np6 E (G + 1) 0 sb + np6 E (G + 1) 1 b ≤ s) (h:SL B1 w w' p l n s E (G + 1) I' k' (np6 E (G + 1) 0 sb) true [sb]) (hI:I' ≤ I + 2) (hk:k' ≤ k + 3) (hB:∀ j,B1 j → BL j ∨ wr.heap.size ≤ j) (hK:Kept BL wr w'):AppP BL w wr p l n s E G I k U ds sb b eF (.returned (vEr eF)) w':=by
 unfold AppP apd
 rw [if_neg h1,if_pos h2,if_neg h3]
 exact ⟨B1,true,rfl,h.more _ _ hI hk,fun _=>rfl,hB,hK⟩
theorem AppP.mk4 {BL B1:Nat → Prop} {w wr w':World} {p l n s E G I k U I' k':Nat} {ds:List (List Int)} {sb b:List Int} {eF:Addr} (h1:¬ U + np6 E G ds.length b ≤ s) (h2:¬ np6 E (G + 1) 0 sb ≤ s) (h:SL B1 w w' p l n s E G I' k' U true ds) (hI:I' ≤ I + 2) (hk:k' ≤ k + 3) (hB:∀ j,B1 j → BL j ∨ wr.heap.size ≤ j) (hK:Kept BL wr w'):AppP BL w wr p l n s E G I k U ds sb b eF (.returned (vEr eF)) w':=by
 unfold AppP apd
 rw [if_neg h1,if_neg h2]
 exact ⟨B1,true,rfl,h.more _ _ hI hk,fun _=>rfl,hB,hK⟩
set_option maxHeartbeats 6400000 in
theorem append_v {BL:Nat → Prop} {w wr:World} {p l v n s E G I k U:Nat} {num:Int} {ds:List (List Int)} {st:Vs} {a:Option Addr} {c:Nat} {ps:List Ep} (h:SL BL w wr p l n s E G I k U true ds) (hx:VX BL w wr v l num st a c ps) (hn:(n:Int) ≤ 1024) (hk:k ≤ 1900) (hI:I ≤ 900000) (hG:G ≤ 900000) (ba:Option Addr) (bc:Nat) (data:List Int) (hrd:∀ w',Kept BL wr w' → Rd w' (.slice ba data.length bc) data) (hd:data.length ≤ 32000) (eS eF:Addr) (heS:w.cell? ⟨15,0,none⟩ = some (vErr eS)) (heF:w.cell? ⟨2,0,none⟩ = some (vEr eF)) :
  Calls Tryz.prog 75 #[.pointer (some ⟨v,0,none⟩),.slice ba data.length bc] wr (AppP BL w wr p l n s E G I k U ds (bytesS st) data eF):=by
 have HSL:=mkHid h
 have HX:=mkHid hx
 have HRD:=mkHid hrd
 have HE:=mkHid (And.intro heS heF)
 have g2:=kc heF h.low
 obtain ⟨x0,x1,x2,x3,x4,x5,x6,x7⟩:=vt_cells hx.vb
 clear h hx hrd heS heF x0 x2 x3 x4 x5 x6 x7
 by_cases hfit:U + np6 E G ds.length data ≤ s
 ·skip
  go_enter Tryz.func75,Tryz.ntmps75
  go_wp2_with (first
   |(go_at_call 114;have HN:=sl_append HSL.out hn (by omega) (by omega) ba bc data (HRD.out wr (Kept.refl _ _)) hd eF HE.out.2;(with_reducible refine HN.mono ?_);clear HN;rintro r w1 (⟨_,rfl,B1,q1,q2,q3⟩ | ⟨hno,_,_⟩) <;> first | exact absurd hfit hno | skip;have H1:=mkHid (And.intro q1 (And.intro q2 q3));have g2:=kc HE.out.2 q1.low;clear q1 q2 q3 x1)
   |(go_at_call 115;(with_reducible refine (is_nil eF _).mono ?_);rintro r w9 ⟨rfl,hw⟩;obtain rfl:=hw.symm))
  go_ret
  exact AppP.mk1 hfit H1.out.1 (by omega) (by omega) H1.out.2.1 H1.out.2.2
 ·by_cases hfit2:np6 E (G + 1) 0 (bytesS st) ≤ s
  ·by_cases hfit3:np6 E (G + 1) 0 (bytesS st) + np6 E (G + 1) 1 data ≤ s
   ·skip
    go_enter Tryz.func75,Tryz.ntmps75
    go_wp2_with (first
     |(go_at_call 114;have HN:=sl_append HSL.out hn (by omega) (by omega) ba bc data (HRD.out wr (Kept.refl _ _)) hd eF HE.out.2;(with_reducible refine HN.mono ?_);clear HN;rintro r w1 (⟨hyes,_,_⟩ | ⟨_,rfl,b1⟩) <;> first | exact absurd hyes hfit | skip;have H1:=mkHid (HSL.out.below b1);have HX1:=mkHid (HX.out.below b1);have HB1:=mkHid b1;have g2:=kc HE.out.2 H1.out.low;clear b1 x1;obtain ⟨x0,x1,x2,x3,x4,x5,x6,x7⟩:=vt_cells HX1.out.vb;clear x0)
     |(go_at_call 115;(with_reducible refine (is_same eF _).mono ?_);rintro r w9 ⟨rfl,hw⟩;obtain rfl:=hw.symm)
     |(go_at_call 38;have HN:=sbytes_ok w1 st (.slice a ps.length c) ps eS HX1.out.ens HX1.out.eq (kc HE.out.1 H1.out.low) HX1.out.ok;(with_reducible refine HN.mono ?_);clear HN;rintro r w2 ⟨v2,rfl,ho2,b2⟩;obtain ⟨a2,c2,rfl⟩:=own_shape ho2;have H2:=mkHid (H1.out.below b2);have HX2:=mkHid (HX1.out.below b2);have HR2:=mkHid (Rd.of_owns (bytesS_byts st) ho2);have HB2:=mkHid (bt HB1.out b2);clear ho2 b2 x1 x2 x3 x4 x5 x6 x7 g2;obtain ⟨x0,x1,x2,x3,x4,x5,x6,x7⟩:=vt_cells HX2.out.vb;clear x0 x2 x3 x4 x5 x6 x7)
     |(go_at_call 116;have HN:=sl_check H2.out hn (by omega) (by omega) a2 c2 (bytesS st) HR2.out (by have:=bytesS_len HX.out.ok;omega) eF HE.out.2;(with_reducible refine HN.mono ?_);clear HN;rintro r w3 (⟨_,rfl,B3,q1,q2,q3⟩ | ⟨hno,_,_⟩) <;> first | exact absurd hfit2 hno | skip;have H3:=mkHid (And.intro q1 (And.intro q2 q3));have HX3:=mkHid (HX2.out.log q3 q2);clear q1 q2 q3 x1;have KW3:Hid (Kept BL wr w3):=mkHid ((keptB BL HB2.out).trans H3.out.2.2 (fun j hj=>.inl hj));obtain ⟨x0,x1,x2,x3,x4,x5,x6,x7⟩:=vt_cells HX3.out.vb;clear x0 x2 x3 x4 x5 x6 x7)
     |(go_at_call 114;have HN:=sl_append H3.out.1 hn (by omega) (by omega) ba bc data (HRD.out w3 (KW3.out)) hd eF HE.out.2;(with_reducible refine HN.mono ?_);clear HN;rintro r w4 (⟨_,rfl,B4,q1,q2,q3⟩ | ⟨hno,_,_⟩) <;> first | exact absurd hfit3 hno | skip;have H4:=mkHid (And.intro q1 (And.intro q2 q3));clear q1 q2 q3 x1))
    go_ret
    exact AppP.mk2 hfit hfit2 hfit3 H4.out.1 (by omega) (by omega) (BX4 HB2.out KW3.out H3.out.2.1 H4.out.2.1) (KW3.out.trans H4.out.2.2 (BX3 HB2.out H3.out.2.1))
   ·skip
    go_enter Tryz.func75,Tryz.ntmps75
    go_wp2_with (first
     |(go_at_call 114;have HN:=sl_append HSL.out hn (by omega) (by omega) ba bc data (HRD.out wr (Kept.refl _ _)) hd eF HE.out.2;(with_reducible refine HN.mono ?_);clear HN;rintro r w1 (⟨hyes,_,_⟩ | ⟨_,rfl,b1⟩) <;> first | exact absurd hyes hfit | skip;have H1:=mkHid (HSL.out.below b1);have HX1:=mkHid (HX.out.below b1);have HB1:=mkHid b1;have g2:=kc HE.out.2 H1.out.low;clear b1 x1;obtain ⟨x0,x1,x2,x3,x4,x5,x6,x7⟩:=vt_cells HX1.out.vb;clear x0)
     |(go_at_call 115;(with_reducible refine (is_same eF _).mono ?_);rintro r w9 ⟨rfl,hw⟩;obtain rfl:=hw.symm)
     |(go_at_call 38;have HN:=sbytes_ok w1 st (.slice a ps.length c) ps eS HX1.out.ens HX1.out.eq (kc HE.out.1 H1.out.low) HX1.out.ok;(with_reducible refine HN.mono ?_);clear HN;rintro r w2 ⟨v2,rfl,ho2,b2⟩;obtain ⟨a2,c2,rfl⟩:=own_shape ho2;have H2:=mkHid (H1.out.below b2);have HX2:=mkHid (HX1.out.below b2);have HR2:=mkHid (Rd.of_owns (bytesS_byts st) ho2);have HB2:=mkHid (bt HB1.out b2);clear ho2 b2 x1 x2 x3 x4 x5 x6 x7 g2;obtain ⟨x0,x1,x2,x3,x4,x5,x6,x7⟩:=vt_cells HX2.out.vb;clear x0 x2 x3 x4 x5 x6 x7)
     |(go_at_call 116;have HN:=sl_check H2.out hn (by omega) (by omega) a2 c2 (bytesS st) HR2.out (by have:=bytesS_len HX.out.ok;omega) eF HE.out.2;(with_reducible refine HN.mono ?_);clear HN;rintro r w3 (⟨_,rfl,B3,q1,q2,q3⟩ | ⟨hno,_,_⟩) <;> first | exact absurd hfit2 hno | skip;have H3:=mkHid (And.intro q1 (And.intro q2 q3));have HX3:=mkHid (HX2.out.log q3 q2);clear q1 q2 q3 x1;have KW3:Hid (Kept BL wr w3):=mkHid ((keptB BL HB2.out).trans H3.out.2.2 (fun j hj=>.inl hj));obtain ⟨x0,x1,x2,x3,x4,x5,x6,x7⟩:=vt_cells HX3.out.vb;clear x0 x2 x3 x4 x5 x6 x7)
     |(go_at_call 114;have HN:=sl_append H3.out.1 hn (by omega) (by omega) ba bc data (HRD.out w3 (KW3.out)) hd eF HE.out.2;(with_reducible refine HN.mono ?_);clear HN;rintro r w4 (⟨hyes,_,_⟩ | ⟨_,rfl,b4⟩) <;> first | exact absurd hyes hfit3 | skip;have H4:=mkHid (H3.out.1.below b4);have HB4:=mkHid b4;clear b4 x1))
    go_ret
    exact AppP.mk3 hfit hfit2 hfit3 H4.out (by omega) (by omega) (BX3 HB2.out H3.out.2.1) (KW3.out.trans (keptB BL HB4.out) (fun j hj=>.inl hj))
  ·skip
   go_enter Tryz.func75,Tryz.ntmps75
   go_wp2_with (first
    |(go_at_call 114;have HN:=sl_append HSL.out hn (by omega) (by omega) ba bc data (HRD.out wr (Kept.refl _ _)) hd eF HE.out.2;(with_reducible refine HN.mono ?_);clear HN;rintro r w1 (⟨hyes,_,_⟩ | ⟨_,rfl,b1⟩) <;> first | exact absurd hyes hfit | skip;have H1:=mkHid (HSL.out.below b1);have HX1:=mkHid (HX.out.below b1);have HB1:=mkHid b1;have g2:=kc HE.out.2 H1.out.low;clear b1 x1;obtain ⟨x0,x1,x2,x3,x4,x5,x6,x7⟩:=vt_cells HX1.out.vb;clear x0)
    |(go_at_call 115;(with_reducible refine (is_same eF _).mono ?_);rintro r w9 ⟨rfl,hw⟩;obtain rfl:=hw.symm)
    |(go_at_call 38;have HN:=sbytes_ok w1 st (.slice a ps.length c) ps eS HX1.out.ens HX1.out.eq (kc HE.out.1 H1.out.low) HX1.out.ok;(with_reducible refine HN.mono ?_);clear HN;rintro r w2 ⟨v2,rfl,ho2,b2⟩;obtain ⟨a2,c2,rfl⟩:=own_shape ho2;have H2:=mkHid (H1.out.below b2);have HX2:=mkHid (HX1.out.below b2);have HR2:=mkHid (Rd.of_owns (bytesS_byts st) ho2);have HB2:=mkHid (bt HB1.out b2);clear ho2 b2 x1 x2 x3 x4 x5 x6 x7 g2;obtain ⟨x0,x1,x2,x3,x4,x5,x6,x7⟩:=vt_cells HX2.out.vb;clear x0 x2 x3 x4 x5 x6 x7)
    |(go_at_call 116;have HN:=sl_check H2.out hn (by omega) (by omega) a2 c2 (bytesS st) HR2.out (by have:=bytesS_len HX.out.ok;omega) eF HE.out.2;(with_reducible refine HN.mono ?_);clear HN;rintro r w3 (⟨hyes,_,_⟩ | ⟨_,rfl,b3⟩) <;> first | exact absurd hyes hfit2 | skip;have H3:=mkHid (H2.out.below b3);have HB3:=mkHid (bt HB2.out b3);clear b3 x1))
   go_ret
   exact AppP.mk4 hfit hfit2 H3.out (by omega) (by omega) (fun j hj=>.inl hj) (keptB BL HB3.out)
def LG (ds:List (List Int)) (st:Vs):Prop:=∃ s0 rs,ds = bytesS s0 :: rs.map bytesR ∧ s0.ok ∧ runs s0 rs ∧ behinds s0 rs = st
theorem LG.ok {ds:List (List Int)} {st:Vs} (h:LG ds st):st.ok:=by
 obtain ⟨s0,rs,_,h1,h2,rfl⟩:=h
 exact h1.behinds h2
theorem LG.snoc {ds:List (List Int)} {st:Vs} (h:LG ds st) {r:Vr} (hr:r.ok) (hf:r.fits st):LG (ds ++ [bytesR r]) (st.does r):=by
 obtain ⟨s0,rs,rfl,h1,h2,rfl⟩:=h
 exact ⟨s0,rs ++ [r],by simp,h1,runs_snoc _ _ _ h2 hr hf,behinds_snoc _ _ _⟩
theorem LG.new {st:Vs} (h:st.ok):LG [bytesS st] st:=⟨st,[],rfl,h,trivial,rfl⟩
theorem LG.apd {ds:List (List Int)} {st:Vs} (h:LG ds st) {r:Vr} (hr:r.ok) (hf:r.fits st) (s E G U:Nat):((apd s E G U ds (bytesS st) (bytesR r)).1 = true → LG (apd s E G U ds (bytesS st) (bytesR r)).2.2.2 (st.does r)) ∧ ((apd s E G U ds (bytesS st) (bytesR r)).1 = false → LG (apd s E G U ds (bytesS st) (bytesR r)).2.2.2 st):=by
 unfold Go.Proofs.YtihdkgekickohaaGreatDoor.apd
 have h2:=(LG.new h.ok).snoc hr hf
 split
 ·exact ⟨fun _=>h.snoc hr hf,fun e=>by simp at e⟩
 ·split
  ·split
   ·exact ⟨fun _=>h2,fun e=>by simp at e⟩
   ·exact ⟨fun e=>by simp at e,fun _=>LG.new h.ok⟩
  ·exact ⟨fun e=>by simp at e,fun _=>h⟩
abbrev set6 (w:World) (v:Nat) (v2 v3 v4 v5 v6 v7:Value):World:=(((((w.setCell ⟨v,2,none⟩ v2).setCell ⟨v,3,none⟩ v3).setCell ⟨v,4,none⟩ v4).setCell ⟨v,5,none⟩ v5).setCell ⟨v,6,none⟩ v6).setCell ⟨v,7,none⟩ v7
theorem set6_heap {w:World} {v l:Nat} {num:Int} {s s':Vs} {lv lv':Value} (h:w.heap[v]? = some (oV num l s lv)):(set6 w v (.int .i64 s'.p.1) (.int .i64 s'.p.2) (.int .i64 s'.a.1) (.int .i64 s'.a.2) (.int .i64 s'.c) lv').heap[v]? = some (oV num l s' lv'):=by
 rw [heap_set (heap_set (heap_set (heap_set (heap_set (heap_set h)))))]
 rfl
theorem set6_kept (w:World) (v:Nat) (v2 v3 v4 v5 v6 v7:Value):Kept (fun j=>j = v) w (set6 w v v2 v3 v4 v5 v6 v7):=by
 have hs:∀ (W:World) (j:Nat) (x:Value),Kept (fun j=>j = v) W (W.setCell ⟨v,j,none⟩ x):=fun W j x=>Kept.setCell (F:=fun k=>k = v) W (p:=⟨v,j,none⟩) rfl _
 exact (((((hs w 2 v2).trans (hs _ 3 v3) (fun _ e=>.inl e)).trans (hs _ 4 v4) (fun _ e=>.inl e)).trans (hs _ 5 v5) (fun _ e=>.inl e)).trans (hs _ 6 v6) (fun _ e=>.inl e)).trans (hs _ 7 v7) (fun _ e=>.inl e)
def Nxt (W w':World) (a:Option Addr) (c:Nat) (ps:List Ep) (a':Option Addr) (c':Nat) (ts:List Ep):Prop:=(a' = a ∧ c' = c ∧ ts = ps) ∨ Led W.heap.size w' (.slice a' ts.length c') ts
def BehP (W:World) (st:Vs) (r:Vr) (a:Option Addr) (c:Nat) (ps:List Ep) (e:Ending) (w':World):Prop:=∃ a' c' ts,e = .returned (.tuple #[vS (st.does r) (.slice a' ts.length c'),.nilIface]) ∧ fs1 ts = (st.does r).l ∧ Nxt W w' a c ps a' c' ts ∧ Below W.heap.size W w'
def VS (B:Nat → Prop) (w wr:World) (p v:Nat) (num:Int) (n s E G I k U:Nat) (ds:List (List Int)) (st:Vs):Prop:=
 ∃ BL l a c ps,SL BL w wr p l n s E G I k U true ds ∧ VX BL w wr v l num st a c ps ∧ LG ds st ∧ ∀ j,B j ↔ (BL j ∨ j = v ∨ LBk (.slice a ps.length c) ps j)
def WdP (B:Nat → Prop) (w wr:World) (p v:Nat) (num:Int) (n s E G I k U:Nat) (ds:List (List Int)) (st:Vs) (r:Vr) (eF:Addr) (e:Ending) (w':World):Prop:=
 ∃ B',e = .returned (if (apd s E G U ds (bytesS st) (bytesR r)).1 then .nilIface else vEr eF) ∧ VS B' w w' p v num n s E (apd s E G U ds (bytesS st) (bytesR r)).2.1 (I + 2) (k + 3) (apd s E G U ds (bytesS st) (bytesR r)).2.2.1 (apd s E G U ds (bytesS st) (bytesR r)).2.2.2 (if (apd s E G U ds (bytesS st) (bytesR r)).1 then st.does r else st) ∧ (∀ j,B' j → B j ∨ wr.heap.size ≤ j) ∧ Kept B wr w'
theorem WdP.no {B BL BL':Nat → Prop} {w wr w':World} {p v n s E G I k U l c:Nat} {num:Int} {ds:List (List Int)} {st:Vs} {r:Vr} {eF:Addr} {a:Option Addr} {ps:List Ep} (hlg:LG ds st) (hr:r.ok) (hf:r.fits st) (hx:VX BL w wr v l num st a c ps) (hB:∀ j,B j ↔ (BL j ∨ j = v ∨ LBk (.slice a ps.length c) ps j))
  (h1:(apd s E G U ds (bytesS st) (bytesR r)).1 = false) (hsl:SL BL' w w' p l n s E (apd s E G U ds (bytesS st) (bytesR r)).2.1 (I + 2) (k + 3) (apd s E G U ds (bytesS st) (bytesR r)).2.2.1 true (apd s E G U ds (bytesS st) (bytesR r)).2.2.2) (hBL:∀ j,BL' j → BL j ∨ wr.heap.size ≤ j) (hK:Kept BL wr w'):WdP B w wr p v num n s E G I k U ds st r eF (.returned (vEr eF)) w':=by
 unfold WdP
 rw [h1]
 refine ⟨fun j=>BL' j ∨ j = v ∨ LBk (.slice a ps.length c) ps j,rfl,⟨BL',l,a,c,ps,hsl,hx.log hK hBL,(hlg.apd hr hf s E G U).2 h1,fun j=>Iff.rfl⟩,fun j hj=>?_,hK.mono (fun j e=>(hB j).mpr (.inl e))⟩
 rcases hj with e | e | e
 ·exact (hBL j e).imp (fun e=>(hB j).mpr (.inl e)) id
 ·exact .inl ((hB j).mpr (.inr (.inl e)))
 ·exact .inl ((hB j).mpr (.inr (.inr e)))
theorem WdP.yes {B BL BL':Nat → Prop} {w wr w':World} {p v n s E G I k U l c c2:Nat} {num:Int} {ds:List (List Int)} {st:Vs} {r:Vr} {eF:Addr} {a a2:Option Addr} {ps ts:List Ep} (hlg:LG ds st) (hr:r.ok) (hf:r.fits st) (hx:VX BL w wr v l num st a c ps) (hB:∀ j,B j ↔ (BL j ∨ j = v ∨ LBk (.slice a ps.length c) ps j))
  (h1:(apd s E G U ds (bytesS st) (bytesR r)).1 = true) (hsl:SL BL' w w' p l n s E (apd s E G U ds (bytesS st) (bytesR r)).2.1 (I + 2) (k + 3) (apd s E G U ds (bytesS st) (bytesR r)).2.2.1 true (apd s E G U ds (bytesS st) (bytesR r)).2.2.2) (hBL:∀ j,BL' j → BL j ∨ wr.heap.size ≤ j) (hK:Kept BL wr w')
  (hts:fs1 ts = (st.does r).l) (hled:Led w.heap.size w' (.slice a2 ts.length c2) ts) (hlb:∀ j,LBk (.slice a2 ts.length c2) ts j → (LBk (.slice a ps.length c) ps j ∨ wr.heap.size ≤ j) ∧ ¬ BL' j):WdP B w wr p v num n s E G I k U ds st r eF (.returned .nilIface) (set6 w' v (.int .i64 (st.does r).p.1) (.int .i64 (st.does r).p.2) (.int .i64 (st.does r).a.1) (.int .i64 (st.does r).a.2) (.int .i64 (st.does r).c) (.slice a2 ts.length c2)):=by
 have hx':=hx.log hK hBL
 have hk6:=set6_kept w' v (.int .i64 (st.does r).p.1) (.int .i64 (st.does r).p.2) (.int .i64 (st.does r).a.1) (.int .i64 (st.does r).a.2) (.int .i64 (st.does r).c) (.slice a2 ts.length c2)
 have hnv:∀ j,LBk (.slice a2 ts.length c2) ts j → j ≠ v:=fun j hj=>by
  rcases (hlb j hj).1 with e | e
  ·exact (hx.lb j e).2
  ·have:=lt_of_heap hx.vb;omega
 unfold WdP
 rw [h1]
 refine ⟨fun j=>BL' j ∨ j = v ∨ LBk (.slice a2 ts.length c2) ts j,rfl,⟨BL',l,a2,c2,ts,hsl.kept hk6 (fun j hj e=>hx'.nv (e ▸ hj)) (fun j e=>by rw [e];exact hx.ge),⟨set6_heap hx'.vb,hled.kept' hk6 hnv,hts,hlg.ok.does hr hf,hx'.nv,hx.ge,fun j hj=>⟨(hlb j hj).2,hnv j hj⟩⟩,(hlg.apd hr hf s E G U).1 h1,fun j=>Iff.rfl⟩,fun j hj=>?_,(hK.mono (fun j e=>(hB j).mpr (.inl e))).trans hk6 (fun j e=>.inl ((hB j).mpr (.inr (.inl e))))⟩
 rcases hj with e | e | e
 ·exact (hBL j e).imp (fun e=>(hB j).mpr (.inl e)) id
 ·exact .inl ((hB j).mpr (.inr (.inl e)))
 ·exact (hlb j e).1.imp (fun e=>(hB j).mpr (.inr (.inr e))) id
theorem step_store_box6 {P:Program} {ops:Array Oper} {o:Oper} {a:Act} {w:World} {K:Act → World → Prop} {Q:Exit → Act → World → Prop} {E:Prop} (hgd:o.guard = none) (ty:TypeId) (x y:Operand) (ho:o.op = .store ty x y)
  (g:Nat) (cells:Array Value) (hx:a.eval x = .pointer (some ⟨g,0,none⟩)) (hy:a.eval y = .agg cells)
  (t:TypeId) (old:Array Value) (hg:w.heap[g]? = some (.cells old t (0,0))) (hi:(P.info? ty).map (·.size) = some cells.size) (hold:old.size = cells.size) (h1:cells.all (·.oneCell') = true)
  (h:∀ w',w'.heap[g]? = some (.cells cells t (0,0)) → Kept (fun k=>k = g) w w' → K (a.put o.dst undef) w'):if Region.wanted o (yielded ops a.tmps) = true then Oper.wp P o a w K Q else E:=by
 have hw:Region.wanted o (yielded ops a.tmps) = true:=by simp [Region.wanted,hgd]
 rw [if_pos hw]
 exact wp_store_row ty x y ho g cells hx hy t old hg hi hold h1 (h _ (setRow_heap w g old cells t (0,0) hg) (setRow_kept w g cells))
theorem C11 {BL:Nat → Prop} {w wr:World} {v l:Nat} {num:Int} {p1 p2 a1 a2 c':Int} {l':List En} {a:Option Addr} {c:Nat} {ps:List Ep} {k0 k1 k2 k3:Int} {rl:Value} (h:VX BL w wr v l num ⟨(p1,p2),(a1,a2),c',l'⟩ a c ps) {W:World} (hb:Below (wr.alloc (oRc k0 k1 k2 k3 rl)).heap.size (wr.alloc (oRc k0 k1 k2 k3 rl)) W):W.cell? ⟨v,2,none⟩ = some (.int .i64 p1) ∧ W.cell? ⟨v,3,none⟩ = some (.int .i64 p2) ∧ W.cell? ⟨v,4,none⟩ = some (.int .i64 a1) ∧ W.cell? ⟨v,5,none⟩ = some (.int .i64 a2) ∧ W.cell? ⟨v,6,none⟩ = some (.int .i64 c') ∧ W.cell? ⟨v,7,none⟩ = some (.slice a ps.length c) ∧ W.cell? ⟨wr.heap.size,0,none⟩ = some (.int .i64 k0) ∧ W.cell? ⟨wr.heap.size,1,none⟩ = some (.int .i64 k1) ∧ W.cell? ⟨wr.heap.size,2,none⟩ = some (.int .i64 k2) ∧ W.cell? ⟨wr.heap.size,3,none⟩ = some (.int .i64 k3) ∧ W.cell? ⟨wr.heap.size,4,none⟩ = some (rl):=by
 obtain ⟨_,_,x2,x3,x4,x5,x6,x7⟩:=vt_cells (h.below (bt (ba (Below.refl _ wr) (oRc k0 k1 k2 k3 rl)) hb)).vb
 obtain ⟨y0,y1,y2,y3,y4⟩:=rc_cells (box_late hb)
 exact ⟨x2,x3,x4,x5,x6,x7,y0,y1,y2,y3,y4⟩
def Ldx (w wr W:World) (a:Option Addr) (c:Nat) (ps:List Ep) (a':Option Addr) (c':Nat) (ts:List Ep):Prop:=Led w.heap.size W (.slice a' ts.length c') ts ∧ ∀ j,LBk (.slice a' ts.length c') ts j → LBk (.slice a ps.length c) ps j ∨ wr.heap.size ≤ j
theorem Ldx.below {w wr W W':World} {a:Option Addr} {c:Nat} {ps:List Ep} {a':Option Addr} {c':Nat} {ts:List Ep} (h:Ldx w wr W a c ps a' c' ts) (hb:Below W.heap.size W W'):Ldx w wr W' a c ps a' c' ts:=⟨h.1.below hb,h.2⟩
theorem nxt_led {BL:Nat → Prop} {w wr W w2:World} {v l:Nat} {num:Int} {st:Vs} {a a':Option Addr} {c c':Nat} {ps ts:List Ep} (h:VX BL w wr v l num st a c ps) (hw:Below wr.heap.size wr W) (hb:Below W.heap.size W w2) (hn:Nxt W w2 a c ps a' c' ts):Ldx w wr w2 a c ps a' c' ts:=by
 rcases hn with ⟨rfl,rfl,rfl⟩ | hl
 ·exact ⟨h.led.below (bt hw hb),fun j hj=>.inl hj⟩
 ·have h1:=hw.size
  have h2:=(h.led.own.1)
  have h3:=lt_of_heap h.vb
  have h4:=h.ge
  exact ⟨hl.up (by omega),fun j hj=>.inr (by have:=(hl.lbk j hj).1;omega)⟩
theorem nxt_far {W w2:World} {a a':Option Addr} {c c' N:Nat} {ps ts:List Ep} (hN:N < W.heap.size) (hn:Nxt W w2 a c ps a' c' ts):∀ j,LBk (.slice a' ts.length c') ts j → LBk (.slice a ps.length c) ps j ∨ N < j:=by
 rcases hn with ⟨rfl,rfl,rfl⟩ | hl
 ·exact fun j hj=>.inl hj
 ·exact fun j hj=>.inr (by have:=(hl.lbk j hj).1;omega)
theorem RdB {BL:Nat → Prop} {w wr w7 w8:World} {p l n s E G I k U:Nat} {q:Bool} {ds:List (List Int)} (h:SL BL w wr p l n s E G I k U q ds) (hb:Below wr.heap.size wr w7) {a:Option Addr} {c:Nat} {r:Vr} (ho:w8.ownsRow w7.heap.size 5 1 (.slice a (bytesR r).length c) (bytesR r).length ((bytesR r).map (Value.int .u8))):∀ w',Kept BL w8 w' → Rd w' (.slice a (bytesR r).length c) (bytesR r):=fun w' hk=>
 (Rd.of_owns (bytesR_byts r) ho).kept hk (fun j e f=>by have:=(ho.lt j e).1;have:=(h.blk j f).2;have:=hb.size;omega)
theorem TX {BL B9:Nat → Prop} {w wr w7 w8 w9 w10:World} {p l n s E G I k U X:Nat} {q:Bool} {ds:List (List Int)} {o:Obj} (h:SL BL w wr p l n s E G I k U q ds) (_h7:Below wr.heap.size wr w7) (h8:Below w7.heap.size w7 w8) (h9:∀ j,B9 j → BL j ∨ w8.heap.size ≤ j) (k9:Kept BL w8 w9) (k10:Kept B9 w9 w10) (hX:w7.heap[X]? = some o) (hge:wr.heap.size ≤ X):w10.heap[X]? = some o:=by
 have h1:=lt_of_heap hX
 have h2:=h8.size
 have h3:=k9.size
 have hn:¬ BL X:=fun f=>by have:=(h.blk X f).2;omega
 rw [k10.block X (by omega) (fun f=>by rcases h9 X f with e | e;exact hn e;omega),k9.block X (by omega) hn,h8.block X h1]
 exact hX
theorem LX {BL B9:Nat → Prop} {w wr w7 w8 w9 w10:World} {p l n s E G I k U v c:Nat} {num:Int} {st:Vs} {q:Bool} {ds:List (List Int)} {a a2:Option Addr} {c2:Nat} {ps ts:List Ep} (h:SL BL w wr p l n s E G I k U q ds) (hx:VX BL w wr v l num st a c ps) (hl:Ldx w wr w7 a c ps a2 c2 ts) (_h7:Below wr.heap.size wr w7) (h8:Below w7.heap.size w7 w8) (h9:∀ j,B9 j → BL j ∨ w8.heap.size ≤ j) (k9:Kept BL w8 w9) (k10:Kept B9 w9 w10) :
  Led w.heap.size w10 (.slice a2 ts.length c2) ts ∧ ∀ j,LBk (.slice a2 ts.length c2) ts j → (LBk (.slice a ps.length c) ps j ∨ wr.heap.size ≤ j) ∧ ¬ B9 j:=by
 have hn:∀ j,LBk (.slice a2 ts.length c2) ts j → ¬ BL j:=fun j hj f=>by
  rcases hl.2 j hj with e | e
  ·exact (hx.lb j e).1 f
  ·have:=(h.blk j f).2;omega
 have hn9:∀ j,LBk (.slice a2 ts.length c2) ts j → ¬ B9 j:=fun j hj f=>by
  rcases h9 j f with e | e
  ·exact hn j hj e
  ·have:=(hl.1.lbk j hj).2;have:=h8.size;omega
 exact ⟨((hl.1.below h8).kept' k9 hn).kept' k10 hn9,fun j hj=>⟨hl.2 j hj,hn9 j hj⟩⟩
set_option maxHeartbeats 12800000 in
theorem writeDown_v {B:Nat → Prop} {w wr:World} {p v n s E G I k U:Nat} {num:Int} {ds:List (List Int)} {st:Vs} (h:VS B w wr p v num n s E G I k U ds st) (r:Vr) (k0 k1 k2 k3:Int) (rl:Value) (hro:r.ok) (hrf:r.fits st)
  (hbh:∀ W a c ps,Below wr.heap.size wr W → Ens W (.slice a ps.length c) ps → fs1 ps = st.l → ps.length ≤ c → Calls Tryz.prog 73 #[vS st (.slice a ps.length c),vR k0 k1 k2 k3 rl] W (BehP W st r a c ps))
  (hby:∀ W,Below wr.heap.size wr W → Calls Tryz.prog 74 #[vR k0 k1 k2 k3 rl] W (BytesP W (bytesR r)))
  (hn:(n:Int) ≤ 1024) (hk:k ≤ 1900) (hI:I ≤ 900000) (hG:G ≤ 900000) (eS eF:Addr) (heS:w.cell? ⟨15,0,none⟩ = some (vErr eS)) (heF:w.cell? ⟨2,0,none⟩ = some (vEr eF)) :
  Calls Tryz.prog 41 #[.pointer (some ⟨v,0,none⟩),vR k0 k1 k2 k3 rl] wr (WdP B w wr p v num n s E G I k U ds st r eF):=by
 obtain ⟨BL,l,a,c,ps,hsl,hx,hlg,hB⟩:=h
 have HSL:=mkHid hsl
 have HX:=mkHid hx
 have HG:=mkHid (And.intro hlg (And.intro hro (And.intro hrf hB)))
 have HE:=mkHid (And.intro heS heF)
 have W0b:Below wr.heap.size wr (wr.alloc (oRc k0 k1 k2 k3 rl)):=ba (Below.refl _ wr) _
 have HBH:=mkHid (fun W (hW:Below wr.heap.size wr W)=>hbh W a c ps hW (hx.ens.below hW) hx.eq hx.small.2.1)
 have HBY:=mkHid hby
 have HNX:Hid ((st.does r).ok):=mkHid (hlg.ok.does hro hrf)
 obtain ⟨st',hst'⟩:∃ st',st' = st.does r:=⟨_,rfl⟩
 have HST:=mkHid hst'
 have hx0:=hx.below W0b
 obtain ⟨_,_,x2,x3,x4,x5,x6,x7⟩:=vt_cells hx0.vb
 obtain ⟨y0,y1,y2,y3,y4⟩:=rc_cells (heap_alloc_new wr (oRc k0 k1 k2 k3 rl))
 unfold BehP at HBH
 rw [← hst'] at HBH
 obtain ⟨⟨p1,p2⟩,⟨a1,a2⟩,c',l'⟩:=st
 obtain ⟨⟨p1',p2'⟩,⟨a1',a2'⟩,cc',l''⟩:=st'
 simp only [vS] at HBH
 simp only [vR] at HBH HBY ⊢
 clear hsl hx hlg hro hrf hB heS heF hbh hby hst' hx0 W0b
 go_enter Tryz.func41,Tryz.ntmps41
 go_wp2
 have HC:=mkHid (fun W (hb:Below (wr.alloc (oRc k0 k1 k2 k3 rl)).heap.size (wr.alloc (oRc k0 k1 k2 k3 rl)) W)=>(C11 HX.out hb:W.cell? ⟨v,2,none⟩ = some (.int .i64 p1) ∧ W.cell? ⟨v,3,none⟩ = some (.int .i64 p2) ∧ W.cell? ⟨v,4,none⟩ = some (.int .i64 a1) ∧ W.cell? ⟨v,5,none⟩ = some (.int .i64 a2) ∧ W.cell? ⟨v,6,none⟩ = some (.int .i64 c') ∧ W.cell? ⟨v,7,none⟩ = some (.slice a ps.length c) ∧ W.cell? ⟨wr.heap.size,0,none⟩ = some (.int .i64 k0) ∧ W.cell? ⟨wr.heap.size,1,none⟩ = some (.int .i64 k1) ∧ W.cell? ⟨wr.heap.size,2,none⟩ = some (.int .i64 k2) ∧ W.cell? ⟨wr.heap.size,3,none⟩ = some (.int .i64 k3) ∧ W.cell? ⟨wr.heap.size,4,none⟩ = some (rl)))
 refine wp_region_held_drew (S:=fun w'=>w'.cell? ⟨v,2,none⟩ = some (.int .i64 p1) ∧ w'.cell? ⟨v,3,none⟩ = some (.int .i64 p2) ∧ w'.cell? ⟨v,4,none⟩ = some (.int .i64 a1) ∧ w'.cell? ⟨v,5,none⟩ = some (.int .i64 a2) ∧ w'.cell? ⟨v,6,none⟩ = some (.int .i64 c') ∧ w'.cell? ⟨v,7,none⟩ = some (.slice a ps.length c) ∧ w'.cell? ⟨wr.heap.size,0,none⟩ = some (.int .i64 k0) ∧ w'.cell? ⟨wr.heap.size,1,none⟩ = some (.int .i64 k1) ∧ w'.cell? ⟨wr.heap.size,2,none⟩ = some (.int .i64 k2) ∧ w'.cell? ⟨wr.heap.size,3,none⟩ = some (.int .i64 k3) ∧ w'.cell? ⟨wr.heap.size,4,none⟩ = some (rl)) (by kernel_rfl) ⟨x2,x3,x4,x5,x6,x7,y0,y1,y2,y3,y4⟩ (fun hHeld=>?_)
 refine tkE 0 11 (.pointer (some ⟨v,0,none⟩)) rfl rfl hHeld ?_
 (try simp only [List.set_cons_zero,List.set_cons_succ])
 refine tkE 1 12 (.pointer (some ⟨v,0,none⟩)) rfl rfl hHeld ?_
 (try simp only [List.set_cons_zero,List.set_cons_succ])
 refine tkE 2 13 (.pointer (some ⟨v,2,none⟩)) rfl rfl hHeld ?_
 (try simp only [List.set_cons_zero,List.set_cons_succ])
 refine tkE 3 14 (.agg #[.int .i64 p1,.int .i64 p2,.int .i64 a1,.int .i64 a2,.int .i64 c',.slice a ps.length c]) rfl rfl hHeld ?_
 (try simp only [List.set_cons_zero,List.set_cons_succ])
 refine tkE 4 15 (.agg #[.int .i64 k0,.int .i64 k1,.int .i64 k2,.int .i64 k3,rl]) rfl rfl hHeld ?_
 (try simp only [List.set_cons_zero,List.set_cons_succ])
 refine wpAnyH_ready (rs:=[5,9]) (by kernel_rfl) (by simp) (AllReadyH.cons rfl (fun K hK=>?_) (AllReadyH.cons rfl (fun K hK=>?_) AllReadyH.nil))
 ·go_simp
  refine (HBH.out _ (ba (Below.refl _ wr) _).drew).mono ?_
  rintro e w2 ⟨A2,C2,ts,rfl,e2,n2,b2⟩
  have hb0:Below (wr.alloc (oRc k0 k1 k2 k3 rl)).heap.size (wr.alloc (oRc k0 k1 k2 k3 rl)) w2:=(Below.refl _ (wr.alloc (oRc k0 k1 k2 k3 rl))).drew.trans b2
  have HB0:=mkHid hb0
  have H2:=mkHid (And.intro e2 (nxt_led HX.out (ba (Below.refl _ wr) (oRc k0 k1 k2 k3 rl)).drew b2 n2))
  clear e2 n2 b2 hHeld hb0
  refine hK.out _ _ (HC.out _ HB0.out) (fun hHeld=>?_)
  clear hK K
  (try simp only [Act.put])
  refine tkE 6 10 (.tuple #[.agg #[.int .i64 p1',.int .i64 p2',.int .i64 a1',.int .i64 a2',.int .i64 cc',.slice A2 ts.length C2],.nilIface]) rfl rfl hHeld ?_
  (try simp only [List.set_cons_zero,List.set_cons_succ])
  refine tkE 7 17 (.agg #[.int .i64 p1',.int .i64 p2',.int .i64 a1',.int .i64 a2',.int .i64 cc',.slice A2 ts.length C2]) rfl rfl hHeld ?_
  (try simp only [List.set_cons_zero,List.set_cons_succ])
  refine tkE 8 18 (.nilIface) rfl rfl hHeld ?_
  (try simp only [List.set_cons_zero,List.set_cons_succ])
  refine wpAnyH_ready (rs:=[9]) (by kernel_rfl) (by simp) (AllReadyH.cons rfl (fun K hK=>?_) AllReadyH.nil)
  go_simp
  refine hK.out _ _ (HC.out _ (bt HB0.out (ba (Below.refl _ w2) oZ6))) (fun hHeld=>?_)
  clear hK K
  (try simp only [Act.put])
  refine wpAnyH_ready (rs:=[10]) (by kernel_rfl) (by simp) (AllReadyH.cons rfl (fun K hK=>?_) AllReadyH.nil)
  refine step_store_box6 rfl 96 (.tmp 5) (.tmp 17) rfl w2.heap.size #[.int .i64 p1',.int .i64 p2',.int .i64 a1',.int .i64 a2',.int .i64 cc',.slice A2 ts.length C2] (by simp [Act.eval]) (by simp [Act.eval]) 96 _ (heap_alloc_new w2 _) size6 rfl (one6 _ _ _ _ _ _ _ _) ?_
  intro w7 h7 k7
  have hb7:Below w2.heap.size w2 w7:=(ba (Below.refl _ w2) oZ6).trans (k7.below (fun j e=>by omega) (by simp))
  have HB7x:=mkHid (bt HB0.out hb7)
  have HB7:=mkHid (bt (ba (Below.refl _ wr) (oRc k0 k1 k2 k3 rl)) HB7x.out)
  have HT7:=mkHid (And.intro h7 (And.intro (show wr.heap.size ≤ w2.heap.size by have:=HB0.out.size;simp at this;omega) (And.intro H2.out.1 (Ldx.below H2.out.2 hb7))))
  have HX7:=mkHid (And.intro (HX.out.below HB7.out) (box_late HB7x.out))
  refine hK.out _ _ (HC.out _ HB7x.out) (fun hHeld=>?_)
  clear hK K h7 k7 hb7
  (try simp only [Act.put])
  refine tkE 11 6 (.nilIface) rfl rfl hHeld ?_
  (try simp only [List.set_cons_zero,List.set_cons_succ])
  refine wpAnyH_done (by kernel_rfl) ?_ _
  obtain ⟨x0,x1,x2,x3,x4,x5,x6,x7⟩:=vt_cells (HX7.out.1.vb)
  obtain ⟨y0,y1,y2,y3,y4⟩:=rc_cells (HX7.out.2)
  clear x0 x1 x2 x3 x4 x5 x6 x7
  obtain ⟨q,hq⟩:∃ q,q = (apd s E G U ds (bytesS ⟨(p1,p2),(a1,a2),c',l'⟩) (bytesR r)).1:=⟨_,rfl⟩
  have HQ:=mkHid hq
  clear hq
  cases q
  ·go_wp2_with (first
    |(go_at_call 74;(with_reducible refine (HBY.out w7 HB7.out).mono ?_);rintro e w8 ⟨v8,rfl,ho8,b8⟩;obtain ⟨a8,c8,rfl⟩:=own_shape ho8;have HO8:=mkHid (And.intro ho8 b8);have HB8:=mkHid (bt HB7.out b8);clear ho8 b8 y0 y1 y2 y3 y4)
    |(go_at_call 75;have HN:=append_v (HSL.out.below HB8.out) (HX.out.below HB8.out) hn hk hI hG a8 c8 (bytesR r) (RdB HSL.out HB7.out HO8.out.1) (by have:=bytesR_len HG.out.2.1;omega) eS eF HE.out.1 HE.out.2;(with_reducible refine HN.mono ?_);clear HN;rintro e w9 ⟨B9,q9,he9,s9,t9,u9,k9⟩;rw [← HQ.out] at he9 t9;obtain rfl:=he9;obtain rfl:=t9 rfl;have H9:=mkHid (And.intro s9 (And.intro u9 k9));clear s9 t9 u9 k9))
   go_ret
   exact WdP.no HG.out.1 HG.out.2.1 HG.out.2.2.1 HX.out HG.out.2.2.2 HQ.out.symm H9.out.1 (BX3 HB8.out H9.out.2.1) ((keptB BL HB8.out).trans H9.out.2.2 (fun j e=>.inl e))
  ·go_wp2_with (first
    |(go_at_call 74;(with_reducible refine (HBY.out w7 HB7.out).mono ?_);rintro e w8 ⟨v8,rfl,ho8,b8⟩;obtain ⟨a8,c8,rfl⟩:=own_shape ho8;have HO8:=mkHid (And.intro ho8 b8);have HB8:=mkHid (bt HB7.out b8);clear ho8 b8 y0 y1 y2 y3 y4)
    |(go_at_call 75;have HN:=append_v (HSL.out.below HB8.out) (HX.out.below HB8.out) hn hk hI hG a8 c8 (bytesR r) (RdB HSL.out HB7.out HO8.out.1) (by have:=bytesR_len HG.out.2.1;omega) eS eF HE.out.1 HE.out.2;(with_reducible refine HN.mono ?_);clear HN;rintro e w9 ⟨B9,q9,he9,s9,t9,u9,k9⟩;rw [← HQ.out] at he9;obtain rfl:=he9;have H9:=mkHid (And.intro s9 (And.intro u9 k9));have HX9:=mkHid ((HX.out.below HB8.out).log k9 u9);clear s9 t9 u9 k9;obtain ⟨x0,x1,x2,x3,x4,x5,x6,x7⟩:=vt_cells HX9.out.vb;clear x0 x2 x3 x4 x5 x6 x7)
    |(go_at_call 76;have HN:=sl_sync H9.out.1 (by omega);(with_reducible refine HN.mono ?_);clear HN;rintro e w10 ⟨rfl,s10,k10⟩;have H10:=mkHid (And.intro s10 k10);have HX10:=mkHid (HX9.out.log k10 (fun j e=>.inl e));have hT:=TX HSL.out HB7.out HO8.out.2 H9.out.2.1 H9.out.2.2 k10 HT7.out.1 HT7.out.2.1;have HT10:=mkHid hT;obtain ⟨z0,z1,z2,z3,z4,z5⟩:=st_cells hT;clear hT s10 k10 x1;obtain ⟨x0,x1,x2,x3,x4,x5,x6,x7⟩:=vt_cells HX10.out.vb;have f2:w10.frozen? ⟨v,2,none⟩ = false:=frozen_of_block HX10.out.vb;have f3:w10.frozen? ⟨v,3,none⟩ = false:=frozen_of_block HX10.out.vb;have f4:w10.frozen? ⟨v,4,none⟩ = false:=frozen_of_block HX10.out.vb;have f5:w10.frozen? ⟨v,5,none⟩ = false:=frozen_of_block HX10.out.vb;have f6:w10.frozen? ⟨v,6,none⟩ = false:=frozen_of_block HX10.out.vb;have f7:w10.frozen? ⟨v,7,none⟩ = false:=frozen_of_block HX10.out.vb))
   go_ret
   have hw:=WdP.yes (eF:=eF) (a2:=A2) (c2:=C2) (ts:=ts) HG.out.1 HG.out.2.1 HG.out.2.2.1 HX.out HG.out.2.2.2 HQ.out.symm H10.out.1 (BX3 HB8.out H9.out.2.1) (((keptB BL HB8.out).trans H9.out.2.2 (fun j e=>.inl e)).trans H10.out.2 (BX3 HB8.out H9.out.2.1)) (by rw [← HST.out];exact HT7.out.2.2.1) (LX HSL.out HX.out HT7.out.2.2.2 HB7.out HO8.out.2 H9.out.2.1 H9.out.2.2 H10.out.2).1 (LX HSL.out HX.out HT7.out.2.2.2 HB7.out HO8.out.2 H9.out.2.1 H9.out.2.2 H10.out.2).2
   rw [← HST.out] at hw
   exact hw
 ·go_simp
  refine hK.out _ _ (HC.out _ (ba (Below.refl _ (wr.alloc (oRc k0 k1 k2 k3 rl))).drew oZ6)) (fun hHeld=>?_)
  clear hK K
  (try simp only [Act.put])
  refine wpAnyH_ready (rs:=[5]) (by kernel_rfl) (by simp) (AllReadyH.cons rfl (fun K hK=>?_) AllReadyH.nil)
  go_simp
  refine (HBH.out _ (bt (ba (Below.refl _ wr) (oRc k0 k1 k2 k3 rl)) (ba (Below.refl _ (wr.alloc (oRc k0 k1 k2 k3 rl))) oZ6)).drew).mono ?_
  rintro e w2 ⟨A2,C2,ts,rfl,e2,n2,b2⟩
  have hz0:w2.heap[(wr.alloc (oRc k0 k1 k2 k3 rl)).heap.size]? = some oZ6:=(b2.block _ (by simp)).trans (heap_alloc_new (wr.alloc (oRc k0 k1 k2 k3 rl)) oZ6)
  have hb0:Below (wr.alloc (oRc k0 k1 k2 k3 rl)).heap.size (wr.alloc (oRc k0 k1 k2 k3 rl)) w2:=bt (ba (Below.refl _ (wr.alloc (oRc k0 k1 k2 k3 rl))) oZ6) ((Below.refl _ ((wr.alloc (oRc k0 k1 k2 k3 rl)).alloc oZ6)).drew.trans b2)
  have HB0:=mkHid hb0
  have HZ0:Hid (w2.heap[wr.heap.size + 1]? = some oZ6):=mkHid (by simpa using hz0)
  have H2:=mkHid (And.intro e2 (And.intro (nxt_led HX.out (bt (ba (Below.refl _ wr) (oRc k0 k1 k2 k3 rl)) (ba (Below.refl _ (wr.alloc (oRc k0 k1 k2 k3 rl))) oZ6)).drew b2 n2) (nxt_far (N:=wr.heap.size + 1) (by simp) n2)))
  clear e2 n2 b2 hHeld hb0 hz0
  refine hK.out _ _ (HC.out _ HB0.out) (fun hHeld=>?_)
  clear hK K
  (try simp only [Act.put])
  refine tkE 6 10 (.tuple #[.agg #[.int .i64 p1',.int .i64 p2',.int .i64 a1',.int .i64 a2',.int .i64 cc',.slice A2 ts.length C2],.nilIface]) rfl rfl hHeld ?_
  (try simp only [List.set_cons_zero,List.set_cons_succ])
  refine tkE 7 17 (.agg #[.int .i64 p1',.int .i64 p2',.int .i64 a1',.int .i64 a2',.int .i64 cc',.slice A2 ts.length C2]) rfl rfl hHeld ?_
  (try simp only [List.set_cons_zero,List.set_cons_succ])
  refine tkE 8 18 (.nilIface) rfl rfl hHeld ?_
  (try simp only [List.set_cons_zero,List.set_cons_succ])
  refine wpAnyH_ready (rs:=[10]) (by kernel_rfl) (by simp) (AllReadyH.cons rfl (fun K hK=>?_) AllReadyH.nil)
  refine step_store_box6 rfl 96 (.tmp 5) (.tmp 17) rfl (wr.heap.size + 1) #[.int .i64 p1',.int .i64 p2',.int .i64 a1',.int .i64 a2',.int .i64 cc',.slice A2 ts.length C2] (by simp [Act.eval]) (by simp [Act.eval]) 96 _ HZ0.out size6 rfl (one6 _ _ _ _ _ _ _ _) ?_
  intro w7 h7 k7
  have HB7x:=mkHid (HB0.out.trans (k7.below (B:=(wr.alloc (oRc k0 k1 k2 k3 rl)).heap.size) (fun j e=>by simp;omega) HB0.out.size))
  have HB7:=mkHid (bt (ba (Below.refl _ wr) (oRc k0 k1 k2 k3 rl)) HB7x.out)
  have HT7:=mkHid (And.intro h7 (And.intro (show wr.heap.size ≤ wr.heap.size + 1 by omega) (And.intro H2.out.1 (show Ldx w wr w7 a c ps A2 C2 ts from ⟨H2.out.2.1.1.kept' k7 (fun j hj e=>by
    rcases H2.out.2.2 j hj with q | q
    ·have:=(HX.out.led.lbk j q).2;omega
    ·omega),H2.out.2.1.2⟩))))
  have HX7:=mkHid (And.intro (HX.out.below HB7.out) (box_late HB7x.out))
  refine hK.out _ _ (HC.out _ HB7x.out) (fun hHeld=>?_)
  clear hK K h7 k7
  (try simp only [Act.put])
  refine tkE 11 6 (.nilIface) rfl rfl hHeld ?_
  (try simp only [List.set_cons_zero,List.set_cons_succ])
  refine wpAnyH_done (by kernel_rfl) ?_ _
  obtain ⟨x0,x1,x2,x3,x4,x5,x6,x7⟩:=vt_cells (HX7.out.1.vb)
  obtain ⟨y0,y1,y2,y3,y4⟩:=rc_cells (HX7.out.2)
  clear x0 x1 x2 x3 x4 x5 x6 x7
  obtain ⟨q,hq⟩:∃ q,q = (apd s E G U ds (bytesS ⟨(p1,p2),(a1,a2),c',l'⟩) (bytesR r)).1:=⟨_,rfl⟩
  have HQ:=mkHid hq
  clear hq
  cases q
  ·go_wp2_with (first
    |(go_at_call 74;(with_reducible refine (HBY.out w7 HB7.out).mono ?_);rintro e w8 ⟨v8,rfl,ho8,b8⟩;obtain ⟨a8,c8,rfl⟩:=own_shape ho8;have HO8:=mkHid (And.intro ho8 b8);have HB8:=mkHid (bt HB7.out b8);clear ho8 b8 y0 y1 y2 y3 y4)
    |(go_at_call 75;have HN:=append_v (HSL.out.below HB8.out) (HX.out.below HB8.out) hn hk hI hG a8 c8 (bytesR r) (RdB HSL.out HB7.out HO8.out.1) (by have:=bytesR_len HG.out.2.1;omega) eS eF HE.out.1 HE.out.2;(with_reducible refine HN.mono ?_);clear HN;rintro e w9 ⟨B9,q9,he9,s9,t9,u9,k9⟩;rw [← HQ.out] at he9 t9;obtain rfl:=he9;obtain rfl:=t9 rfl;have H9:=mkHid (And.intro s9 (And.intro u9 k9));clear s9 t9 u9 k9))
   go_ret
   exact WdP.no HG.out.1 HG.out.2.1 HG.out.2.2.1 HX.out HG.out.2.2.2 HQ.out.symm H9.out.1 (BX3 HB8.out H9.out.2.1) ((keptB BL HB8.out).trans H9.out.2.2 (fun j e=>.inl e))
  ·go_wp2_with (first
    |(go_at_call 74;(with_reducible refine (HBY.out w7 HB7.out).mono ?_);rintro e w8 ⟨v8,rfl,ho8,b8⟩;obtain ⟨a8,c8,rfl⟩:=own_shape ho8;have HO8:=mkHid (And.intro ho8 b8);have HB8:=mkHid (bt HB7.out b8);clear ho8 b8 y0 y1 y2 y3 y4)
    |(go_at_call 75;have HN:=append_v (HSL.out.below HB8.out) (HX.out.below HB8.out) hn hk hI hG a8 c8 (bytesR r) (RdB HSL.out HB7.out HO8.out.1) (by have:=bytesR_len HG.out.2.1;omega) eS eF HE.out.1 HE.out.2;(with_reducible refine HN.mono ?_);clear HN;rintro e w9 ⟨B9,q9,he9,s9,t9,u9,k9⟩;rw [← HQ.out] at he9;obtain rfl:=he9;have H9:=mkHid (And.intro s9 (And.intro u9 k9));have HX9:=mkHid ((HX.out.below HB8.out).log k9 u9);clear s9 t9 u9 k9;obtain ⟨x0,x1,x2,x3,x4,x5,x6,x7⟩:=vt_cells HX9.out.vb;clear x0 x2 x3 x4 x5 x6 x7)
    |(go_at_call 76;have HN:=sl_sync H9.out.1 (by omega);(with_reducible refine HN.mono ?_);clear HN;rintro e w10 ⟨rfl,s10,k10⟩;have H10:=mkHid (And.intro s10 k10);have HX10:=mkHid (HX9.out.log k10 (fun j e=>.inl e));have hT:=TX HSL.out HB7.out HO8.out.2 H9.out.2.1 H9.out.2.2 k10 HT7.out.1 HT7.out.2.1;have HT10:=mkHid hT;obtain ⟨z0,z1,z2,z3,z4,z5⟩:=st_cells hT;clear hT s10 k10 x1;obtain ⟨x0,x1,x2,x3,x4,x5,x6,x7⟩:=vt_cells HX10.out.vb;have f2:w10.frozen? ⟨v,2,none⟩ = false:=frozen_of_block HX10.out.vb;have f3:w10.frozen? ⟨v,3,none⟩ = false:=frozen_of_block HX10.out.vb;have f4:w10.frozen? ⟨v,4,none⟩ = false:=frozen_of_block HX10.out.vb;have f5:w10.frozen? ⟨v,5,none⟩ = false:=frozen_of_block HX10.out.vb;have f6:w10.frozen? ⟨v,6,none⟩ = false:=frozen_of_block HX10.out.vb;have f7:w10.frozen? ⟨v,7,none⟩ = false:=frozen_of_block HX10.out.vb))
   go_ret
   have hw:=WdP.yes (eF:=eF) (a2:=A2) (c2:=C2) (ts:=ts) HG.out.1 HG.out.2.1 HG.out.2.2.1 HX.out HG.out.2.2.2 HQ.out.symm H10.out.1 (BX3 HB8.out H9.out.2.1) (((keptB BL HB8.out).trans H9.out.2.2 (fun j e=>.inl e)).trans H10.out.2 (BX3 HB8.out H9.out.2.1)) (by rw [← HST.out];exact HT7.out.2.2.1) (LX HSL.out HX.out HT7.out.2.2.2 HB7.out HO8.out.2 H9.out.2.1 H9.out.2.2 H10.out.2).1 (LX HSL.out HX.out HT7.out.2.2.2 HB7.out HO8.out.2 H9.out.2.1 H9.out.2.2 H10.out.2).2
   rw [← HST.out] at hw
   exact hw
abbrev oZB:Obj:=.cells #[.int .i64 0,.int .i64 0] 39
theorem size2:(Tryz.prog.info? 39).map (·.size) = some 2:=by kernel_rfl
theorem one2 (x0 x1:Int):(#[Value.int .i64 x0,.int .i64 x1]:Array Value).all (·.oneCell') = true:=by simp [Value.oneCell']
theorem two_leaves {W:World} {R:Nat} {p u:Tmp} {fn:Func} {c0 c1:Value} (hf:fn.results = #[.cell p 39,.tmp u]) (hR:W.heap[R]? = some (.cells #[c0,c1] 39 (0,0))) (tmps:Array Value) (h2:tmps.getD p undef = .pointer (some ⟨R,0,none⟩)):(results fn tmps).run Tryz.prog W = .ok (.tuple #[.agg #[c0,c1],tmps.getD u undef]) W:=by
 have hl:=run_loadVar_row (P:=Tryz.prog) W R 39 39 #[c0,c1] (0,0) _ hR Tryz.underlying39 rfl size2
 rw [results_cell_tmp hf,h2]
 simp [asAddr,Result.andThen,hl]
def refE (st:Vs) (b:Bl) (eN eB:Addr):Value:=if balB b then (if aboveB st.p b then vErr eB else .nilIface) else vErr eN
set_option maxHeartbeats 3200000 in
theorem refused_v (w:World) (v l:Nat) (num:Int) (st:Vs) (lv:Value) (b:Bl) (eN eB:Addr) (hv:w.heap[v]? = some (oV num l st lv)) (heN:w.cell? ⟨1,0,none⟩ = some (vErr eN)) (heB:w.cell? ⟨14,0,none⟩ = some (vErr eB)) :
  Calls Tryz.prog 40 #[.pointer (some ⟨v,0,none⟩),vB b] w fun e w'=>e = .returned (refE st b eN eB) ∧ Below w.heap.size w w':=by
 obtain ⟨q,hq⟩:∃ q,q = balB b:=⟨_,rfl⟩
 obtain ⟨r,hr⟩:∃ r,r = aboveB st.p b:=⟨_,rfl⟩
 have HL:=fun W=>mkHid (isLegal_any W b)
 have HAB:=mkHid (fun W=>above_any W st.p b)
 unfold refE
 rw [← hq,← hr]
 rw [← hq] at HL
 rw [← hr] at HAB
 have HV:=mkHid hv
 have HE:=mkHid (And.intro heN heB)
 clear hq hr hv heN heB
 obtain ⟨b1,b2⟩:=b
 obtain ⟨⟨p1,p2⟩,⟨a1,a2⟩,c',l'⟩:=st
 simp only [vB] at HL HAB ⊢
 cases q
 ·go_enter Tryz.func40,Tryz.ntmps40
  go_wp2_with (go_at_call 72;(with_reducible refine (HL _).out.mono ?_);rintro r1 w1 ⟨rfl,hb1⟩;have HB1:=mkHid (bt (ba (Below.refl _ w) (oB (b1,b2))) hb1);have g1:=kc HE.out.1 HB1.out;clear hb1)
  go_ret
  exact ⟨rfl,HB1.out⟩
 ·go_enter Tryz.func40,Tryz.ntmps40
  go_wp2_with (go_at_call 72;(with_reducible refine (HL _).out.mono ?_);rintro r1 w1 ⟨rfl,hb1⟩;have HB1:=mkHid (bt (ba (Below.refl _ w) (oB (b1,b2))) hb1);have hbx:=box_late hb1;have HBX:=mkHid hbx;clear hb1)
  obtain ⟨q0,q1⟩:=two_cells HBX.out
  obtain ⟨z0,z1,z2,z3,z4,z5,z6,z7⟩:=vt_cells ((HB1.out.block v (lt_of_heap HV.out)).trans HV.out)
  clear z0 z1 z4 z5 z6 z7
  refine wp_region_held_drew (S:=fun w'=>w'.cell? ⟨v,2,none⟩ = some (.int .i64 p1) ∧ w'.cell? ⟨v,3,none⟩ = some (.int .i64 p2) ∧ w'.cell? ⟨w.heap.size,0,none⟩ = some (.int .i64 b1) ∧ w'.cell? ⟨w.heap.size,1,none⟩ = some (.int .i64 b2)) (by kernel_rfl) ⟨z2,z3,q0,q1⟩ (fun hHeld=>?_)
  refine tkE 0 9 (.pointer (some ⟨v,0,none⟩)) rfl rfl hHeld ?_
  simp only [List.set_cons_zero,List.set_cons_succ]
  refine tkE 1 10 (.pointer (some ⟨v,0,none⟩)) rfl rfl hHeld ?_
  simp only [List.set_cons_zero,List.set_cons_succ]
  refine tkE 2 11 (.pointer (some ⟨v,2,none⟩)) rfl rfl hHeld ?_
  simp only [List.set_cons_zero,List.set_cons_succ]
  refine tkE 3 12 (.pointer (some ⟨v,2,none⟩)) rfl rfl hHeld ?_
  simp only [List.set_cons_zero,List.set_cons_succ]
  refine tkE 4 13 (.agg #[.int .i64 p1,.int .i64 p2]) rfl rfl hHeld ?_
  simp only [List.set_cons_zero,List.set_cons_succ]
  refine tkE 5 14 (.agg #[.int .i64 b1,.int .i64 b2]) rfl rfl hHeld ?_
  simp only [List.set_cons_zero,List.set_cons_succ]
  refine wpAnyH_ready (rs:=[6]) (by kernel_rfl) (by simp) (AllReadyH.cons rfl (fun K hK=>?_) AllReadyH.nil)
  go_simp
  refine (HAB.out _).mono ?_
  rintro e w3 ⟨rfl,bw3⟩
  have fw3_0:w3.cell? ⟨v,2,none⟩ = some (.int .i64 p1):=kc (show w1.drew.cell? _ = _ from z2) bw3
  have fw3_1:w3.cell? ⟨v,3,none⟩ = some (.int .i64 p2):=kc (show w1.drew.cell? _ = _ from z3) bw3
  have fw3_2:w3.cell? ⟨w.heap.size,0,none⟩ = some (.int .i64 b1):=kc (show w1.drew.cell? _ = _ from q0) bw3
  have fw3_3:w3.cell? ⟨w.heap.size,1,none⟩ = some (.int .i64 b2):=kc (show w1.drew.cell? _ = _ from q1) bw3
  have HB3:=mkHid (bt HB1.out.drew bw3)
  clear bw3 hHeld
  refine hK.out _ _ ⟨fw3_0,fw3_1,fw3_2,fw3_3⟩ (fun hHeld=>?_)
  clear hK K
  refine wpAnyH_done (by kernel_rfl) ?_ _
  have g1:=kc HE.out.2 HB3.out
  cases r
  all_goals
   go_wp2
   go_ret
   exact ⟨rfl,HB3.out⟩
theorem promised_v (w:World) (v l:Nat) (num:Int) (st:Vs) (lv:Value) (hv:w.heap[v]? = some (oV num l st lv)) :
  Calls Tryz.prog 23 #[.pointer (some ⟨v,0,none⟩)] w fun e w'=>e = .returned (vB st.p) ∧ Below w.heap.size w w':=by
 obtain ⟨⟨p1,p2⟩,⟨a1,a2⟩,c',l'⟩:=st
 obtain ⟨z0,z1,z2,z3,z4,z5,z6,z7⟩:=vt_cells (((ba (Below.refl _ w) oZB).block v (lt_of_heap hv)).trans hv)
 clear z0 z1 z4 z5 z6 z7 hv
 simp only [vB]
 go_enter Tryz.func23,Tryz.ntmps23
 go_wp2
 refine bodyPost_ret (arr_leaves (p:=2) rfl (run_loadVar_row _ w.heap.size _ 39 _ _ _ (heap_alloc_new w _) Tryz.underlying39 rfl ?_) _ rfl) rfl ⟨rfl,ba (Below.refl _ _) _⟩
 exact size2
def AccP (w:World) (st:Vs) (e:Ending) (w':World):Prop:=∃ a c qs,e = .returned (.tuple #[vB st.a,.slice a qs.length c]) ∧ Led (w.heap.size + 1) w' (.slice a qs.length c) qs ∧ fs1 qs = st.l ∧ Below w.heap.size w w'
set_option maxHeartbeats 3200000 in
theorem accepted_v {BL:Nat → Prop} {w0 w:World} {v l:Nat} {num:Int} {st:Vs} {a:Option Addr} {c:Nat} {ps:List Ep} (h:VX BL w0 w v l num st a c ps) :
  Calls Tryz.prog 22 #[.pointer (some ⟨v,0,none⟩)] w (AccP w st):=by
 have HV:=mkHid (lt_of_heap h.vb)
 have HCL:=mkHid (fun W (hW:Below w.heap.size w W)=>cloneV W _ ps (h.ens.below hW) (by have:=h.small.1;omega) h.small.2.2)
 have hE:=h.eq
 rw [hE] at HCL
 obtain ⟨⟨p1,p2⟩,⟨a1,a2⟩,c',l'⟩:=st
 obtain ⟨z0,z1,z2,z3,x4,x5,z6,x7⟩:=vt_cells (h.below (ba (Below.refl _ w) oZB)).vb
 clear z0 z1 z2 z3 z6 h hE
 unfold AccP
 simp only [vB]
 go_enter Tryz.func22,Tryz.ntmps22
 go_wp2
 refine wp_region_held_drew (S:=fun w'=>w'.cell? ⟨v,4,none⟩ = some (.int .i64 a1) ∧ w'.cell? ⟨v,5,none⟩ = some (.int .i64 a2) ∧ w'.cell? ⟨v,7,none⟩ = some (.slice a ps.length c)) (by kernel_rfl) ⟨x4,x5,x7⟩ (fun hHeld=>?_)
 refine tkE 0 4 (.pointer (some ⟨v,0,none⟩)) rfl rfl hHeld ?_
 (try simp only [List.set_cons_zero,List.set_cons_succ])
 refine tkE 1 5 (.pointer (some ⟨v,0,none⟩)) rfl rfl hHeld ?_
 (try simp only [List.set_cons_zero,List.set_cons_succ])
 refine tkE 2 6 (.pointer (some ⟨v,2,none⟩)) rfl rfl hHeld ?_
 (try simp only [List.set_cons_zero,List.set_cons_succ])
 refine tkE 3 7 (.pointer (some ⟨v,4,none⟩)) rfl rfl hHeld ?_
 (try simp only [List.set_cons_zero,List.set_cons_succ])
 refine tkE 4 8 (.agg #[.int .i64 a1,.int .i64 a2]) rfl rfl hHeld ?_
 (try simp only [List.set_cons_zero,List.set_cons_succ])
 refine tkE 5 9 (.pointer (some ⟨v,0,none⟩)) rfl rfl hHeld ?_
 (try simp only [List.set_cons_zero,List.set_cons_succ])
 refine tkE 6 10 (.pointer (some ⟨v,0,none⟩)) rfl rfl hHeld ?_
 (try simp only [List.set_cons_zero,List.set_cons_succ])
 refine tkE 7 11 (.pointer (some ⟨v,2,none⟩)) rfl rfl hHeld ?_
 (try simp only [List.set_cons_zero,List.set_cons_succ])
 refine tkE 8 12 (.pointer (some ⟨v,7,none⟩)) rfl rfl hHeld ?_
 (try simp only [List.set_cons_zero,List.set_cons_succ])
 refine tkE 9 13 (.slice a ps.length c) rfl rfl hHeld ?_
 (try simp only [List.set_cons_zero,List.set_cons_succ])
 refine wpAnyH_ready (rs:=[10]) (by kernel_rfl) (by simp) (AllReadyH.cons rfl (fun K hK=>?_) AllReadyH.nil)
 go_simp
 refine (HCL.out _ (ba (Below.refl _ w) _).drew).mono ?_
 rintro e w3 ⟨a3,c3,qs,rfl,l3,f3,b3⟩
 have HB3:Hid (Below (w.alloc oZB).heap.size (w.alloc oZB) w3):=mkHid ((Below.refl _ (w.alloc oZB)).drew.trans b3)
 have HL3:=mkHid (And.intro l3 f3)
 have u4:=kc x4 HB3.out
 have u5:=kc x5 HB3.out
 have u7:=kc x7 HB3.out
 clear l3 f3 b3 x4 x5 x7 hHeld
 refine hK.out _ _ ⟨u4,u5,u7⟩ (fun hHeld=>?_)
 clear hK K
 (try simp only [Act.put])
 refine wpAnyH_ready (rs:=[11]) (by kernel_rfl) (by simp) (AllReadyH.cons rfl (fun K hK=>?_) AllReadyH.nil)
 refine step_store_box6 rfl 39 (.tmp 2) (.tmp 8) rfl w.heap.size #[.int .i64 a1,.int .i64 a2] (by simp [Act.eval]) (by simp [Act.eval]) 39 _ (box_late HB3.out) size2 rfl (one2 _ _) ?_
 intro w4 h4 k4
 have hnv:¬ v = w.heap.size:=by have:=HV.out;omega
 have s4:=k4.cell u4 hnv
 have s5:=k4.cell u5 hnv
 have s7:=k4.cell u7 hnv
 clear u4 u5 u7 hHeld hnv
 refine hK.out _ _ ⟨s4,s5,s7⟩ (fun hHeld=>?_)
 clear hK K
 (try simp only [Act.put])
 refine tkE 12 3 (.slice a3 qs.length c3) rfl rfl hHeld ?_
 (try simp only [List.set_cons_zero,List.set_cons_succ])
 refine wpAnyH_done (by kernel_rfl) ?_ _
 go_wp2
 have hb3:=HB3.out.size
 simp at hb3
 refine bodyPost_ret (two_leaves rfl h4 _ rfl) rfl ⟨a3,c3,qs,rfl,((HL3.out.1.up (b:=w.heap.size + 1) (by simp)).kept k4 (fun j e=>.inl (by omega))),HL3.out.2,(bt (ba (Below.refl _ w) oZB) HB3.out).trans (k4.below (fun j e=>by omega) (by omega))⟩
end Go.Proofs.YtihdkgekickohaaGreatDoor
