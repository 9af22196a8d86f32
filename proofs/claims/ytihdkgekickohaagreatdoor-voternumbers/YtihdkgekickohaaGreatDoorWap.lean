import Derived.Test.YtihdkgekickohaaGreatDoorWeX
import Derived.Deep.RegionHeld3
namespace Go.Proofs.YtihdkgekickohaaGreatDoor
open Go.ChangeShapes Go.WideShapes Go.ChangeAt Go.RowKit
set_option maxRecDepth 100000
def ApPost (F FR:Nat → Prop) (w:World) (l p n:Nat) (f:Int → List Int) (c:List (Int × List Int)) (nw:Int) (fr en nx NX ep:Nat) (ts:List Rp) (r:Rc) (e:Ending) (w':World):Prop:=
 e = .returned .nilIface ∧ ∃ (F' F1:Nat → Prop) (v':Value) (da:Option Addr) (dc:Nat),Dk F' w' p n f (c ++ writesOf (frm r) (nx:Int) (npc (frm r).length)) (nw + (npc (frm r).length:Int)) false ∧ Lg w' l p fr en v' NX ep ∧ Recs F1 w' v' (ts ++ [(r,da,dc)]) ∧ (∀ k,F' k → F k ∨ w.heap.size ≤ k) ∧ (∀ k,F1 k → (FR k ∨ w.heap.size ≤ k) ∧ ¬ F' k) ∧ Kept (fun k=>F k ∨ k = l ∨ FR k) w w'
structure CA (w w5:World) (ab:Nat) (FR FA:Nat → Prop) (v0 v z:Value) (ts:List Rp) (t:Rp):Prop where
 bel:Kept (fun k=>v0.ownBlock = some k) w w5
 box:w5.heap[ab]? = some oAZ
 hab:w.heap.size ≤ ab
 recs:Recs FA w5 v (ts ++ [t])
 ge:∀ k,FA k → (FR k ∨ w.heap.size ≤ k) ∧ k ≠ ab
 rd:Rd w5 z (frm t.1)
 zo:∀ k,z.ownBlock = some k → w.heap.size ≤ k ∧ k < w5.heap.size ∧ k ≠ ab
set_option maxRecDepth 100000 in
set_option maxHeartbeats 51200000 in
theorem ap_ok (F FR:Nat → Prop) (w:World) (l p n fr en nx gn gx X1 ep:Nat) (va:Option Addr) (vc:Nat) (ts:List Rp) (f:Int → List Int) (c:List (Int × List Int)) (nw:Int) (ba:Option Addr) (bc:Nat) (data:List Int) (h:Lg w l p fr en (.slice va ts.length vc) nx ep) (hD:Dk F w p n f c nw false) (hR:Recs FR w (.slice va ts.length vc) ts) (hrd:Rd w (.slice ba data.length bc) data) (hd:data.length ≤ 32000)
  (hla:Calls Tryz.prog 105 #[.agg #[.int .i64 (fr:Int),.int .i64 (en:Int),.slice va ts.length vc,.int .i64 (nx:Int)]] w fun e w'=>(∃ (ge:Int) (gd:Option Addr) (gl gc:Nat),e = .returned (.agg #[.int .i64 (gn:Int),.int .i64 ge,.int .i64 (gx:Int),.slice gd gl gc])) ∧ Below w.heap.size w w')
  (hwi:∀ W da dc,Below w.heap.size w W → Rd W (.slice da data.length dc) data → (∀ k,(Value.slice da data.length dc).ownBlock = some k → w.heap.size ≤ k ∧ k < W.heap.size) → Calls Tryz.prog 108 #[.agg #[.int .i64 (fr:Int),.int .i64 (en:Int),.slice va ts.length vc,.int .i64 (nx:Int)],.agg #[.int .i64 (gn:Int),.int .i64 (ep:Int),.int .i64 (X1:Int),.slice da data.length dc]] W (WithPost FR W fr en nx (.slice va ts.length vc) ts ((⟨gn,ep,X1,data⟩:Rc),da,dc)))
  (hx1:X1 = gx + 1) (hgx:(gx:Int) ≤ 1099511627776) (hl:l < w.heap.size) (hlF:¬ F l) (hlR:¬ FR l) (hFR:∀ k,FR k → ¬ F k) (hfit:nx + npc (frm (⟨gn,ep,X1,data⟩:Rc)).length ≤ n) (hfl:((frm (⟨gn,ep,X1,data⟩:Rc)).length:Int) ≤ 1000000) (hn2:(n:Int) ≤ 1024) (hcl:c.length ≤ 100000000) (hnw:0 ≤ nw ∧ nw ≤ 100000000) (NX:Nat) (hNX:NX = nx + npc (frm (⟨gn,ep,X1,data⟩:Rc)).length) :
  Calls Tryz.prog 114 #[.pointer (some ⟨l,0,none⟩),.slice ba data.length bc] w (ApPost F FR w l p n f c nw fr en nx NX ep ts (⟨gn,ep,X1,data⟩:Rc)):=by
 obtain ⟨l0,l1,l2,l3,l4,l5,_,_,_,_⟩:=h.facts
 have HW:=mkHid (wref_ok F w p n f c nw ba data.length bc hD (by omega))
 have HRD:=mkHid hrd
 have HDL:=mkHid hd
 have HWI:=mkHid hwi
 have HLA:=mkHid hla
 have HLG:=mkHid h
 have HD:=mkHid hD
 have HRR:=mkHid hR
 have hnx:(nx:Int) + (npc (frm (⟨gn,ep,X1,data⟩:Rc)).length:Int) = (NX:Int):=by omega
 have hx2:IntKind.i64.wrap ((gx:Int) + 1) = (X1:Int):=by rw [IntKind.wrap_i64];omega
 have hlv:¬ (Value.slice va ts.length vc).ownBlock = some l:=fun e=>hlR (hR.row l e)
 have HM:=mkHid (And.intro hl (And.intro hlF (And.intro hfit (And.intro hfl (And.intro hn2 (And.intro hcl hnw))))))
 have HM2:=mkHid (And.intro hlR hFR)
 clear h hD hrd hd hwi hla hR hl hlF hlR hFR hfit hfl hn2 hcl hnw hNX hx1 hgx
 go_enter Tryz.func114,Tryz.ntmps114
 go_wp2_with (first | (go_at_call 65;refine HW.out.mono ?_;rintro e w2 ⟨rfl,hw2⟩;rw [hw2];clear hw2) | (go_at_call 105;refine HLA.out.mono ?_;rintro e w3 ⟨⟨ge,gd,gl,gc,rfl⟩,b3⟩;have HB3:=mkHid b3;clear b3))
 obtain ⟨bl,hbl⟩:∃ bl,bl = w3.heap.size:=⟨_,rfl⟩
 obtain ⟨W0,hW0⟩:∃ W0,W0 = w3.alloc (.cells #[.int .i64 (gn:Int),.int .i64 ge,.int .i64 (gx:Int),.slice gd gl gc] 167):=⟨_,rfl⟩
 have HB1:Hid (Below w.heap.size w W0.drew):=mkHid (by rw [hW0];exact (HB3.out.alloc HB3.out.size _).drew)
 have HX1:Hid (W0.drew.heap[bl]? = some (.cells #[.int .i64 (gn:Int),.int .i64 ge,.int .i64 (gx:Int),.slice gd gl gc] 167 (0,0))):=mkHid (by rw [hW0,hbl];exact heap_alloc_new w3 _)
 have HBL:Hid (w.heap.size ≤ bl):=mkHid (by rw [hbl];exact HB3.out.size)
 have hbv:¬ (Value.slice va ts.length vc).ownBlock = some bl:=fun e=>by have:=HRR.out.lt bl (HRR.out.row bl e);have:=HBL.out;omega
 rw [← hW0,← hbl]
 clear hW0 hbl
 refine wp_region_held_drew (S:=fun w'=>w'.cell? ⟨l,1,none⟩ = some (.int .i64 (fr:Int)) ∧ w'.cell? ⟨l,2,none⟩ = some (.int .i64 (en:Int)) ∧ w'.cell? ⟨l,3,none⟩ = some (.slice va ts.length vc) ∧ w'.cell? ⟨l,4,none⟩ = some (.int .i64 (nx:Int)) ∧ w'.cell? ⟨l,5,none⟩ = some (.int .i64 (ep:Int)) ∧ w'.cell? ⟨bl,0,none⟩ = some (.int .i64 (gn:Int)) ∧ w'.cell? ⟨bl,2,none⟩ = some (.int .i64 (gx:Int))) (by kernel_rfl) ⟨cell_lat HB1.out l1,cell_lat HB1.out l2,cell_lat HB1.out l3,cell_lat HB1.out l4,cell_lat HB1.out l5,cell_of_block (i:=0) HX1.out rfl,cell_of_block (i:=2) HX1.out rfl⟩ (fun hHeld=>?_)
 clear l0 l1 l2 l3 l4 l5
 generalize W0.drew = w1 at *
 refine wtE 0 26 (.pointer (some ⟨l,0,none⟩)) rfl rfl hHeld ?_
 simp only [List.set_cons_zero,List.set_cons_succ]
 refine wtE 1 27 (.pointer (some ⟨l,0,none⟩)) rfl rfl hHeld ?_
 simp only [List.set_cons_zero,List.set_cons_succ]
 refine wtE 2 28 (.pointer (some ⟨l,1,none⟩)) rfl rfl hHeld ?_
 simp only [List.set_cons_zero,List.set_cons_succ]
 refine wtE 3 29 (.agg #[.int .i64 (fr:Int),.int .i64 (en:Int),.slice va ts.length vc,.int .i64 (nx:Int)]) rfl rfl hHeld ?_
 simp only [List.set_cons_zero,List.set_cons_succ]
 refine wtE 4 30 (.pointer (some ⟨bl,0,none⟩)) rfl rfl hHeld ?_
 simp only [List.set_cons_zero,List.set_cons_succ]
 refine wtE 5 31 (.int .i64 (gn:Int)) rfl rfl hHeld ?_
 simp only [List.set_cons_zero,List.set_cons_succ]
 refine wtE 6 32 (.pointer (some ⟨l,0,none⟩)) rfl rfl hHeld ?_
 simp only [List.set_cons_zero,List.set_cons_succ]
 refine wtE 7 33 (.pointer (some ⟨l,0,none⟩)) rfl rfl hHeld ?_
 simp only [List.set_cons_zero,List.set_cons_succ]
 refine wtE 8 34 (.pointer (some ⟨l,5,none⟩)) rfl rfl hHeld ?_
 simp only [List.set_cons_zero,List.set_cons_succ]
 refine wtE 9 35 (.int .i64 (ep:Int)) rfl rfl hHeld ?_
 simp only [List.set_cons_zero,List.set_cons_succ]
 refine wtE 10 36 (.pointer (some ⟨bl,2,none⟩)) rfl rfl hHeld ?_
 simp only [List.set_cons_zero,List.set_cons_succ]
 refine wtE 11 37 (.int .i64 (gx:Int)) rfl rfl hHeld ?_
 simp only [List.set_cons_zero,List.set_cons_succ]
 refine wtE 12 38 (.int .i64 (X1:Int)) rfl rfl hHeld ?_
 simp only [List.set_cons_zero,List.set_cons_succ]
 refine wtE 13 39 (.slice ba data.length bc) rfl rfl hHeld ?_
 simp only [List.set_cons_zero,List.set_cons_succ]
 refine wpAnyH_ready (rs:=[14,21]) (by kernel_rfl) (by simp) (AllReadyH.cons rfl (fun K hK=>?_) (AllReadyH.cons rfl (fun K hK=>?_) AllReadyH.nil))
 ·go_simp
  refine (clone_any w1 _ data (HRD.out.later HB1.out) (by have:=HDL.out;omega)).mono ?_
  rintro e w3 ⟨v3,rfl,ho3,b3⟩
  obtain ⟨da,dc,rfl⟩:=own_shape ho3
  have HO3:=mkHid ho3
  have HC3:=mkHid b3
  have HB3:=mkHid (HB1.out.trans (b3.mono HB1.out.size))
  refine hK.out _ _ ⟨cell_lat b3 hHeld.1,cell_lat b3 hHeld.2.1,cell_lat b3 hHeld.2.2.1,cell_lat b3 hHeld.2.2.2.1,cell_lat b3 hHeld.2.2.2.2.1,cell_lat b3 hHeld.2.2.2.2.2.1,cell_lat b3 hHeld.2.2.2.2.2.2⟩ (fun hHeld=>?_)
  clear hK K b3 ho3
  refine wtE 15 41 (.agg #[.int .i64 (gn:Int),.int .i64 (ep:Int),.int .i64 (X1:Int),.slice da data.length dc]) rfl rfl hHeld ?_
  simp only [List.set_cons_zero,List.set_cons_succ]
  refine wpAnyH_ready (rs:=[16,21]) (by kernel_rfl) (by simp) (AllReadyH.cons rfl (fun K hK=>?_) (AllReadyH.cons rfl (fun K hK=>?_) AllReadyH.nil))
  ·go_simp
   refine (HWI.out w3 da dc HB3.out (Rd.of_owns HRD.out.1 HO3.out) (fun k e=>⟨by have:=(HO3.out.lt k e).1;have:=HB1.out.size;omega,(HO3.out.lt k e).2⟩)).mono ?_
   rintro e w4 ⟨v4,z4,F4,rfl,hR4,hF4,hz4,hzo4,hb4⟩
   obtain ⟨xa,xc,rfl⟩:=hR4.shape
   obtain ⟨za,zc,rfl⟩:∃ a c,z4 = .slice a (frm (⟨gn,ep,X1,data⟩:Rc)).length c:=hz4.2.imp fun a h=>h.imp fun c h=>h.1
   rw [List.length_append,List.length_singleton] at hR4
   simp only [List.length_append,List.length_singleton]
   rw [hnx]
   have HP4:=mkHid (And.intro hR4 (And.intro hF4 (And.intro hz4 hzo4)))
   have HC4:=mkHid hb4
   have HB4:Hid (Kept (fun k=>(Value.slice va ts.length vc).ownBlock = some k) w w4):=mkHid ((kept_below _ HB3.out).trans hb4 (fun _ h=>.inl h))
   refine hK.out _ _ ⟨hb4.cell hHeld.1 hlv,hb4.cell hHeld.2.1 hlv,hb4.cell hHeld.2.2.1 hlv,hb4.cell hHeld.2.2.2.1 hlv,hb4.cell hHeld.2.2.2.2.1 hlv,hb4.cell hHeld.2.2.2.2.2.1 hbv,hb4.cell hHeld.2.2.2.2.2.2 hbv⟩ (fun hHeld=>?_)
   clear hK K hR4 hF4 hz4 hzo4 hb4
   (try simp only [Act.put])
   refine wtE 17 25 (.tuple #[.agg #[.int .i64 (fr:Int),.int .i64 (en:Int),.slice xa (ts.length + 1) xc,.int .i64 (NX:Int)],.slice za (frm (⟨gn,ep,X1,data⟩:Rc)).length zc,.nilIface]) rfl rfl hHeld ?_
   simp only [List.set_cons_zero,List.set_cons_succ]
   refine wtE 18 43 (.agg #[.int .i64 (fr:Int),.int .i64 (en:Int),.slice xa (ts.length + 1) xc,.int .i64 (NX:Int)]) rfl rfl hHeld ?_
   simp only [List.set_cons_zero,List.set_cons_succ]
   refine wtE 19 44 (.slice za (frm (⟨gn,ep,X1,data⟩:Rc)).length zc) rfl rfl hHeld ?_
   simp only [List.set_cons_zero,List.set_cons_succ]
   refine wtE 20 45 (.nilIface) rfl rfl hHeld ?_
   simp only [List.set_cons_zero,List.set_cons_succ]
   refine wpAnyH_ready (rs:=[21]) (by kernel_rfl) (by simp) (AllReadyH.cons rfl (fun K hK=>?_) AllReadyH.nil)
   obtain ⟨w5,hw5⟩:∃ w5,w5 = w4.alloc oAZ:=⟨_,rfl⟩
   have hb5:Below w4.heap.size w4 w5:=by rw [hw5];exact (Below.refl _ _).alloc (Nat.le_refl _) _
   have HX5:Hid (w5.heap[w4.heap.size]? = some oAZ):=mkHid (by rw [hw5];exact heap_alloc_new w4 _)
   have HB5:=mkHid (HB4.out.trans (kept_below (fun k=>(Value.slice va ts.length vc).ownBlock = some k) hb5) (fun _ h=>.inl h))
   have HC5:=mkHid hb5
   obtain ⟨ab,hab⟩:∃ ab,ab = w4.heap.size:=⟨_,rfl⟩
   have HAB:=mkHid hab
   rw [← hab] at HX5
   go_simp
   rw [← hw5,← hab]
   refine hK.out _ _ ⟨cell_lat hb5 hHeld.1,cell_lat hb5 hHeld.2.1,cell_lat hb5 hHeld.2.2.1,cell_lat hb5 hHeld.2.2.2.1,cell_lat hb5 hHeld.2.2.2.2.1,cell_lat hb5 hHeld.2.2.2.2.2.1,cell_lat hb5 hHeld.2.2.2.2.2.2⟩ (fun hHeld=>?_)
   clear hK K hb5 hw5 hab
   (try simp only [Act.put])
   have HCA:Hid (CA w w5 ab FR _ (.slice va ts.length vc) (.slice xa (ts.length + 1) xc) (.slice za (frm (⟨gn,ep,X1,data⟩:Rc)).length zc) ts ((⟨gn,ep,X1,data⟩:Rc),da,dc)):=mkHid (by
    have hs1:=HB1.out.size
    have hq:∀ k,F4 k → (FR k ∨ w.heap.size ≤ k) ∧ k ≠ ab:=fun k hk=>by
     have hl:=HP4.out.1.lt k hk
     have hab:=HAB.out
     rcases HP4.out.2.1 k hk with a | a | a
     ·exact ⟨.inl a,by have:=HRR.out.lt k a;have:=HC3.out.size;have:=HC4.out.size;omega⟩
     ·have:=HO3.out.lt k a;exact ⟨.inr (by have:=HC3.out.size;have:=HC4.out.size;omega),by have:=HC3.out.size;have:=HC4.out.size;omega⟩
     ·exact ⟨.inr (by have:=HC3.out.size;have:=HC4.out.size;omega),by have:=HC3.out.size;have:=HC4.out.size;omega⟩
    have hz:∀ k,(.slice za (frm (⟨gn,ep,X1,data⟩:Rc)).length zc:Value).ownBlock = some k → w.heap.size ≤ k ∧ k < w4.heap.size ∧ k ≠ ab:=fun k e=>by
     have h1:=HP4.out.2.2.2 k e
     have hab:=HAB.out
     refine ⟨by have:=HC3.out.size;have:=HC4.out.size;omega,h1.2.1,by have:=HC3.out.size;have:=HC4.out.size;omega⟩
    exact ⟨HB5.out,HX5.out,by have:=HAB.out;have:=HB4.out.size;omega,HP4.out.1.below HC5.out,hq,HP4.out.2.2.1.later HC5.out,fun k e=>⟨(hz k e).1,Nat.lt_of_lt_of_le (hz k e).2.1 HC5.out.size,(hz k e).2.2⟩⟩)
   obtain ⟨c0,c1,c2,c3,fc0,fc1,fc2,fc3⟩:=azero_facts HCA.out.box
   have hm:=HM.out
   have hlab:¬ l = ab:=by have:=HCA.out.hab;omega
   have hbab:¬ bl = ab:=by have:=wlt_of_heap HX1.out;have:=HAB.out;have:=HC3.out.size;have:=HC4.out.size;omega
   refine wpAnyH_ready (rs:=[22]) (by kernel_rfl) (by simp) (AllReadyH.cons rfl (fun K hK=>?_) AllReadyH.nil)
   go_simp
   have HK7:=mkHid (kept_four (F:=fun k=>k = ab) (R:=ab) (Kept.refl _ w5) rfl (.int .i64 (fr:Int)) (.int .i64 (en:Int)) (.slice xa (ts.length + 1) xc) (.int .i64 (NX:Int)))
   have HX7:=mkHid (afour_leaves HCA.out.box (.int .i64 (fr:Int)) (.int .i64 (en:Int)) (.slice xa (ts.length + 1) xc) (.int .i64 (NX:Int)))
   refine hK.out _ _ ⟨HK7.out.cell hHeld.1 hlab,HK7.out.cell hHeld.2.1 hlab,HK7.out.cell hHeld.2.2.1 hlab,HK7.out.cell hHeld.2.2.2.1 hlab,HK7.out.cell hHeld.2.2.2.2.1 hlab,HK7.out.cell hHeld.2.2.2.2.2.1 hbab,HK7.out.cell hHeld.2.2.2.2.2.2 hbab⟩ (fun hHeld=>?_)
   clear hK K
   (try simp only [Act.put])
   refine wtE 23 8 (.slice za (frm (⟨gn,ep,X1,data⟩:Rc)).length zc) rfl rfl hHeld ?_
   simp only [List.set_cons_zero,List.set_cons_succ]
   refine wtE 24 9 (.nilIface) rfl rfl hHeld ?_
   simp only [List.set_cons_zero,List.set_cons_succ]
   refine wpAnyH_done (by kernel_rfl) ?_ _
   clear hHeld c0 c1 c2 c3 fc0 fc1 fc2 fc3
   generalize ((((w5.setCell ⟨ab,0,none⟩ (.int .i64 (fr:Int))).setCell ⟨ab,1,none⟩ (.int .i64 (en:Int))).setCell ⟨ab,2,none⟩ (.slice xa (ts.length + 1) xc)).setCell ⟨ab,3,none⟩ (.int .i64 (NX:Int))) = w7 at *
   have HB7:Hid (Kept (fun k=>(Value.slice va ts.length vc).ownBlock = some k) w w7):=mkHid (HCA.out.bel.trans HK7.out (fun k e=>.inr (by have:=HCA.out.hab;omega)))
   have HD7:Hid (Dk F w7.drew p n f c nw false):=mkHid ((HD.out.kept HB7.out (fun k hk e=>HM2.out.2 k (HRR.out.row k e) hk)).below (Below.refl _ _).drew)
   have HL7:Hid (Lg w7 l p fr en (.slice va ts.length vc) nx ep):=mkHid ((HB7.out.block l hm.1 hlv).trans HLG.out)
   obtain ⟨l0,_,_,_,l4,_,_,_,_,_⟩:=HL7.out.facts
   have HZ7:Hid (Rd w7.drew (.slice za (frm (⟨gn,ep,X1,data⟩:Rc)).length zc) (frm (⟨gn,ep,X1,data⟩:Rc))):=mkHid ((HCA.out.rd.kept HK7.out (fun k e e2=>(HCA.out.zo k e).2.2 e2)).later (Below.refl _ _).drew)
   have HWR:=mkHid (wwrite_ok F w7.drew p n f c nw nx _ (frm (⟨gn,ep,X1,data⟩:Rc)) HD7.out HZ7.out (fun k e hf=>by have h1:=HD.out.1 k hf;have h2:=(HCA.out.zo k e).1;omega) (fun k e=>Nat.lt_of_lt_of_le (HCA.out.zo k e).2.1 HK7.out.size) hm.2.2.1 hm.2.2.2.1 hm.2.2.2.2.1 hm.2.2.2.2.2.1 hm.2.2.2.2.2.2)
   have hlF:=hm.2.1
   have habF:¬ F ab:=fun e=>by have:=HD.out.1 ab e;have:=HCA.out.hab;omega
   clear hm
   go_wp2
   go_region_held3 (fun w'=>w'.cell? ⟨l,0,none⟩ = some (.pointer (some ⟨p,0,none⟩)) ∧ w'.cell? ⟨l,4,none⟩ = some (.int .i64 (nx:Int))) (go_keep) (first | (go_at_call 112;refine HWR.out.mono ?_;rintro e w8 ⟨rfl,F8,hD8,hF8,hk8⟩;have HE8:=mkHid (And.intro hD8 (And.intro hF8 hk8));have m0:w8.cell? ⟨l,0,none⟩ = some (.pointer (some ⟨p,0,none⟩)):=hk8.cell (a:=⟨l,0,none⟩) l0 hlF;have m4:w8.cell? ⟨l,4,none⟩ = some (.int .i64 (nx:Int)):=hk8.cell (a:=⟨l,4,none⟩) l4 hlF;clear hD8 hF8 hk8))
   all_goals
    have HL8:Hid (Lg w8 l p fr en (.slice va ts.length vc) nx ep):=mkHid ((HE8.out.2.2.block l (wlt_of_heap (show w7.drew.heap[l]? = _ from HL7.out)) hlF).trans HL7.out)
    have HX8:Hid (w8.heap[ab]? = some (oA (.int .i64 (fr:Int)) (.int .i64 (en:Int)) (.slice xa (ts.length + 1) xc) (.int .i64 (NX:Int)))):=mkHid ((HE8.out.2.2.block ab (wlt_of_heap (show w7.drew.heap[ab]? = _ from HX7.out)) habF).trans HX7.out)
    obtain ⟨x0,x1,x2,x3,_,_,_,_⟩:=four_facts HX8.out
    obtain ⟨y0,y1,y2,y3,y4,y5,z1,z2,z3,z4⟩:=HL8.out.facts
    go_wp2
    go_ret
    have hs7:=HB7.out.size
    have k7:Kept (fun k=>k = l) w8 ((((w8.setCell ⟨l,1,none⟩ (.int .i64 (fr:Int))).setCell ⟨l,2,none⟩ (.int .i64 (en:Int))).setCell ⟨l,3,none⟩ (.slice xa (ts.length + 1) xc)).setCell ⟨l,4,none⟩ (.int .i64 (NX:Int))):=kept_setc (F:=fun k=>k = l) (kept_setc (F:=fun k=>k = l) (kept_setc (F:=fun k=>k = l) (kept_setc (F:=fun k=>k = l) (Kept.refl _ w8) (p:=⟨l,1,none⟩) rfl _) (p:=⟨l,2,none⟩) rfl _) (p:=⟨l,3,none⟩) rfl _) (p:=⟨l,4,none⟩) rfl _
    have hF8:∀ k,F8 k → F k ∨ w.heap.size ≤ k:=fun k hk=>by
     rcases HE8.out.2.1 k hk with a | a
     ·exact .inl a
     ·have:w7.heap.size ≤ k:=a
      exact .inr (by omega)
    have hlF8:¬ F8 l:=fun e=>by
     rcases HE8.out.2.1 l e with a | a
     ·exact hlF a
     ·have:w7.heap.size ≤ l:=a
      have:=HM.out.1
      omega
    have hr5:∀ k,_ → (FR k ∨ w.heap.size ≤ k) ∧ k ≠ ab:=HCA.out.ge
    have hr7:=HCA.out.recs.kept HK7.out (fun k hk e=>(HCA.out.ge k hk).2 e)
    have hnF:∀ k,_ → ¬ F k:=fun k hk hf=>by
     rcases (HCA.out.ge k hk).1 with a | a
     ·exact HM2.out.2 k a hf
     ·have:=HD.out.1 k hf;omega
    have hnl:∀ k,_ → ¬ k = l:=fun k hk e=>by
     rcases (HCA.out.ge k hk).1 with a | a
     ·exact HM2.out.1 (e ▸ a)
     ·have:=HM.out.1;omega
    have hr8:=(hr7.below (w':=w7.drew) (Below.refl _ _).drew).kept HE8.out.2.2 hnF
    have hb7:Kept (fun k=>F k ∨ k = l ∨ FR k) w w7.drew:=⟨HB7.out.os,HB7.out.tape,HB7.out.output,HB7.out.size,fun k hk hn=>HB7.out.block k hk (fun e=>hn (.inr (.inr (HRR.out.row k e))))⟩
    refine ⟨rfl,F8,_,_,da,dc,HE8.out.1.kept k7 (fun k e e2=>hlF8 (e2 ▸ e)),HL8.out.set fr en NX _,hr8.kept k7 hnl,hF8,fun k hk=>⟨(HCA.out.ge k hk).1,fun hf=>?_⟩,(hb7.trans HE8.out.2.2 (fun k e=>.inl (.inl e))).trans k7 (fun k e=>.inl (.inr (.inl e)))⟩
    have h2:k < w7.heap.size:=hr7.lt k hk
    rcases HE8.out.2.1 k hf with a | a
    ·exact hnF k hk a
    ·have:w7.heap.size ≤ k:=a
     omega
  ·obtain ⟨w4,hw4⟩:∃ w4,w4 = w3.alloc oAZ:=⟨_,rfl⟩
   have hb4:Below w3.heap.size w3 w4:=by rw [hw4];exact (Below.refl _ _).alloc (Nat.le_refl _) _
   have HX4:Hid (w4.heap[w3.heap.size]? = some oAZ):=mkHid (by rw [hw4];exact heap_alloc_new w3 _)
   have HB4:=mkHid (HB3.out.trans (hb4.mono HB3.out.size))
   have HC4:=mkHid hb4
   obtain ⟨ab,hab⟩:∃ ab,ab = w3.heap.size:=⟨_,rfl⟩
   have HAB:=mkHid hab
   rw [← hab] at HX4
   go_simp
   rw [← hw4,← hab]
   refine hK.out _ _ ⟨cell_lat hb4 hHeld.1,cell_lat hb4 hHeld.2.1,cell_lat hb4 hHeld.2.2.1,cell_lat hb4 hHeld.2.2.2.1,cell_lat hb4 hHeld.2.2.2.2.1,cell_lat hb4 hHeld.2.2.2.2.2.1,cell_lat hb4 hHeld.2.2.2.2.2.2⟩ (fun hHeld=>?_)
   clear hK K hb4 hw4 hab
   (try simp only [Act.put])
   refine wpAnyH_ready (rs:=[16]) (by kernel_rfl) (by simp) (AllReadyH.cons rfl (fun K hK=>?_) AllReadyH.nil)
   go_simp
   refine (HWI.out w4 da dc HB4.out ((Rd.of_owns HRD.out.1 HO3.out).later HC4.out) (fun k e=>⟨by have:=(HO3.out.lt k e).1;have:=HB1.out.size;omega,Nat.lt_of_lt_of_le (HO3.out.lt k e).2 HC4.out.size⟩)).mono ?_
   rintro e w5 ⟨v5,z5,F5,rfl,hR5,hF5,hz5,hzo5,hb5⟩
   obtain ⟨xa,xc,rfl⟩:=hR5.shape
   obtain ⟨za,zc,rfl⟩:∃ a c,z5 = .slice a (frm (⟨gn,ep,X1,data⟩:Rc)).length c:=hz5.2.imp fun a h=>h.imp fun c h=>h.1
   rw [List.length_append,List.length_singleton] at hR5
   simp only [List.length_append,List.length_singleton]
   rw [hnx]
   have HP5:=mkHid (And.intro hR5 (And.intro hF5 (And.intro hz5 hzo5)))
   have HC5:=mkHid hb5
   have HB5:Hid (Kept (fun k=>(Value.slice va ts.length vc).ownBlock = some k) w w5):=mkHid ((kept_below _ HB4.out).trans hb5 (fun _ h=>.inl h))
   refine hK.out _ _ ⟨hb5.cell hHeld.1 hlv,hb5.cell hHeld.2.1 hlv,hb5.cell hHeld.2.2.1 hlv,hb5.cell hHeld.2.2.2.1 hlv,hb5.cell hHeld.2.2.2.2.1 hlv,hb5.cell hHeld.2.2.2.2.2.1 hbv,hb5.cell hHeld.2.2.2.2.2.2 hbv⟩ (fun hHeld=>?_)
   clear hK K hR5 hF5 hz5 hzo5 hb5
   (try simp only [Act.put])
   refine wtE 17 25 (.tuple #[.agg #[.int .i64 (fr:Int),.int .i64 (en:Int),.slice xa (ts.length + 1) xc,.int .i64 (NX:Int)],.slice za (frm (⟨gn,ep,X1,data⟩:Rc)).length zc,.nilIface]) rfl rfl hHeld ?_
   simp only [List.set_cons_zero,List.set_cons_succ]
   refine wtE 18 43 (.agg #[.int .i64 (fr:Int),.int .i64 (en:Int),.slice xa (ts.length + 1) xc,.int .i64 (NX:Int)]) rfl rfl hHeld ?_
   simp only [List.set_cons_zero,List.set_cons_succ]
   refine wtE 19 44 (.slice za (frm (⟨gn,ep,X1,data⟩:Rc)).length zc) rfl rfl hHeld ?_
   simp only [List.set_cons_zero,List.set_cons_succ]
   refine wtE 20 45 (.nilIface) rfl rfl hHeld ?_
   simp only [List.set_cons_zero,List.set_cons_succ]
   have HCA:Hid (CA w w5 ab FR _ (.slice va ts.length vc) (.slice xa (ts.length + 1) xc) (.slice za (frm (⟨gn,ep,X1,data⟩:Rc)).length zc) ts ((⟨gn,ep,X1,data⟩:Rc),da,dc)):=mkHid (by
    have hs1:=HB1.out.size
    have hq:∀ k,F5 k → (FR k ∨ w.heap.size ≤ k) ∧ k ≠ ab:=fun k hk=>by
     have hl:=HP5.out.1.lt k hk
     have hab:=HAB.out
     rcases HP5.out.2.1 k hk with a | a | a
     ·exact ⟨.inl a,by have:=HRR.out.lt k a;have:=HC3.out.size;have:=wlt_of_heap HX4.out;have:=HC5.out.size;omega⟩
     ·have:=HO3.out.lt k a;exact ⟨.inr (by have:=HC3.out.size;have:=wlt_of_heap HX4.out;have:=HC5.out.size;omega),by have:=HC3.out.size;have:=wlt_of_heap HX4.out;have:=HC5.out.size;omega⟩
     ·exact ⟨.inr (by have:=HC3.out.size;have:=wlt_of_heap HX4.out;have:=HC5.out.size;omega),by have:=HC3.out.size;have:=wlt_of_heap HX4.out;have:=HC5.out.size;omega⟩
    have hz:∀ k,(.slice za (frm (⟨gn,ep,X1,data⟩:Rc)).length zc:Value).ownBlock = some k → w.heap.size ≤ k ∧ k < w5.heap.size ∧ k ≠ ab:=fun k e=>by
     have h1:=HP5.out.2.2.2 k e
     have hab:=HAB.out
     refine ⟨by have:=HC3.out.size;have:=wlt_of_heap HX4.out;have:=HC5.out.size;omega,h1.2.1,by have:=HC3.out.size;have:=wlt_of_heap HX4.out;have:=HC5.out.size;omega⟩
    exact ⟨HB5.out,(HC5.out.block ab (wlt_of_heap HX4.out) (fun e=>by have:=HRR.out.lt ab (HRR.out.row ab e);have:=HAB.out;have:=HB1.out.size;have:=HC3.out.size;omega)).trans HX4.out,by have:=HAB.out;have:=HC3.out.size;omega,HP5.out.1,hq,HP5.out.2.2.1,hz⟩)
   obtain ⟨c0,c1,c2,c3,fc0,fc1,fc2,fc3⟩:=azero_facts HCA.out.box
   have hm:=HM.out
   have hlab:¬ l = ab:=by have:=HCA.out.hab;omega
   have hbab:¬ bl = ab:=by have:=wlt_of_heap HX1.out;have:=HAB.out;have:=HC3.out.size;omega
   refine wpAnyH_ready (rs:=[22]) (by kernel_rfl) (by simp) (AllReadyH.cons rfl (fun K hK=>?_) AllReadyH.nil)
   go_simp
   have HK7:=mkHid (kept_four (F:=fun k=>k = ab) (R:=ab) (Kept.refl _ w5) rfl (.int .i64 (fr:Int)) (.int .i64 (en:Int)) (.slice xa (ts.length + 1) xc) (.int .i64 (NX:Int)))
   have HX7:=mkHid (afour_leaves HCA.out.box (.int .i64 (fr:Int)) (.int .i64 (en:Int)) (.slice xa (ts.length + 1) xc) (.int .i64 (NX:Int)))
   refine hK.out _ _ ⟨HK7.out.cell hHeld.1 hlab,HK7.out.cell hHeld.2.1 hlab,HK7.out.cell hHeld.2.2.1 hlab,HK7.out.cell hHeld.2.2.2.1 hlab,HK7.out.cell hHeld.2.2.2.2.1 hlab,HK7.out.cell hHeld.2.2.2.2.2.1 hbab,HK7.out.cell hHeld.2.2.2.2.2.2 hbab⟩ (fun hHeld=>?_)
   clear hK K
   (try simp only [Act.put])
   refine wtE 23 8 (.slice za (frm (⟨gn,ep,X1,data⟩:Rc)).length zc) rfl rfl hHeld ?_
   simp only [List.set_cons_zero,List.set_cons_succ]
   refine wtE 24 9 (.nilIface) rfl rfl hHeld ?_
   simp only [List.set_cons_zero,List.set_cons_succ]
   refine wpAnyH_done (by kernel_rfl) ?_ _
   clear hHeld c0 c1 c2 c3 fc0 fc1 fc2 fc3
   generalize ((((w5.setCell ⟨ab,0,none⟩ (.int .i64 (fr:Int))).setCell ⟨ab,1,none⟩ (.int .i64 (en:Int))).setCell ⟨ab,2,none⟩ (.slice xa (ts.length + 1) xc)).setCell ⟨ab,3,none⟩ (.int .i64 (NX:Int))) = w7 at *
   have HB7:Hid (Kept (fun k=>(Value.slice va ts.length vc).ownBlock = some k) w w7):=mkHid (HCA.out.bel.trans HK7.out (fun k e=>.inr (by have:=HCA.out.hab;omega)))
   have HD7:Hid (Dk F w7.drew p n f c nw false):=mkHid ((HD.out.kept HB7.out (fun k hk e=>HM2.out.2 k (HRR.out.row k e) hk)).below (Below.refl _ _).drew)
   have HL7:Hid (Lg w7 l p fr en (.slice va ts.length vc) nx ep):=mkHid ((HB7.out.block l hm.1 hlv).trans HLG.out)
   obtain ⟨l0,_,_,_,l4,_,_,_,_,_⟩:=HL7.out.facts
   have HZ7:Hid (Rd w7.drew (.slice za (frm (⟨gn,ep,X1,data⟩:Rc)).length zc) (frm (⟨gn,ep,X1,data⟩:Rc))):=mkHid ((HCA.out.rd.kept HK7.out (fun k e e2=>(HCA.out.zo k e).2.2 e2)).later (Below.refl _ _).drew)
   have HWR:=mkHid (wwrite_ok F w7.drew p n f c nw nx _ (frm (⟨gn,ep,X1,data⟩:Rc)) HD7.out HZ7.out (fun k e hf=>by have h1:=HD.out.1 k hf;have h2:=(HCA.out.zo k e).1;omega) (fun k e=>Nat.lt_of_lt_of_le (HCA.out.zo k e).2.1 HK7.out.size) hm.2.2.1 hm.2.2.2.1 hm.2.2.2.2.1 hm.2.2.2.2.2.1 hm.2.2.2.2.2.2)
   have hlF:=hm.2.1
   have habF:¬ F ab:=fun e=>by have:=HD.out.1 ab e;have:=HCA.out.hab;omega
   clear hm
   go_wp2
   go_region_held3 (fun w'=>w'.cell? ⟨l,0,none⟩ = some (.pointer (some ⟨p,0,none⟩)) ∧ w'.cell? ⟨l,4,none⟩ = some (.int .i64 (nx:Int))) (go_keep) (first | (go_at_call 112;refine HWR.out.mono ?_;rintro e w8 ⟨rfl,F8,hD8,hF8,hk8⟩;have HE8:=mkHid (And.intro hD8 (And.intro hF8 hk8));have m0:w8.cell? ⟨l,0,none⟩ = some (.pointer (some ⟨p,0,none⟩)):=hk8.cell (a:=⟨l,0,none⟩) l0 hlF;have m4:w8.cell? ⟨l,4,none⟩ = some (.int .i64 (nx:Int)):=hk8.cell (a:=⟨l,4,none⟩) l4 hlF;clear hD8 hF8 hk8))
   all_goals
    have HL8:Hid (Lg w8 l p fr en (.slice va ts.length vc) nx ep):=mkHid ((HE8.out.2.2.block l (wlt_of_heap (show w7.drew.heap[l]? = _ from HL7.out)) hlF).trans HL7.out)
    have HX8:Hid (w8.heap[ab]? = some (oA (.int .i64 (fr:Int)) (.int .i64 (en:Int)) (.slice xa (ts.length + 1) xc) (.int .i64 (NX:Int)))):=mkHid ((HE8.out.2.2.block ab (wlt_of_heap (show w7.drew.heap[ab]? = _ from HX7.out)) habF).trans HX7.out)
    obtain ⟨x0,x1,x2,x3,_,_,_,_⟩:=four_facts HX8.out
    obtain ⟨y0,y1,y2,y3,y4,y5,z1,z2,z3,z4⟩:=HL8.out.facts
    go_wp2
    go_ret
    have hs7:=HB7.out.size
    have k7:Kept (fun k=>k = l) w8 ((((w8.setCell ⟨l,1,none⟩ (.int .i64 (fr:Int))).setCell ⟨l,2,none⟩ (.int .i64 (en:Int))).setCell ⟨l,3,none⟩ (.slice xa (ts.length + 1) xc)).setCell ⟨l,4,none⟩ (.int .i64 (NX:Int))):=kept_setc (F:=fun k=>k = l) (kept_setc (F:=fun k=>k = l) (kept_setc (F:=fun k=>k = l) (kept_setc (F:=fun k=>k = l) (Kept.refl _ w8) (p:=⟨l,1,none⟩) rfl _) (p:=⟨l,2,none⟩) rfl _) (p:=⟨l,3,none⟩) rfl _) (p:=⟨l,4,none⟩) rfl _
    have hF8:∀ k,F8 k → F k ∨ w.heap.size ≤ k:=fun k hk=>by
     rcases HE8.out.2.1 k hk with a | a
     ·exact .inl a
     ·have:w7.heap.size ≤ k:=a
      exact .inr (by omega)
    have hlF8:¬ F8 l:=fun e=>by
     rcases HE8.out.2.1 l e with a | a
     ·exact hlF a
     ·have:w7.heap.size ≤ l:=a
      have:=HM.out.1
      omega
    have hr5:∀ k,_ → (FR k ∨ w.heap.size ≤ k) ∧ k ≠ ab:=HCA.out.ge
    have hr7:=HCA.out.recs.kept HK7.out (fun k hk e=>(HCA.out.ge k hk).2 e)
    have hnF:∀ k,_ → ¬ F k:=fun k hk hf=>by
     rcases (HCA.out.ge k hk).1 with a | a
     ·exact HM2.out.2 k a hf
     ·have:=HD.out.1 k hf;omega
    have hnl:∀ k,_ → ¬ k = l:=fun k hk e=>by
     rcases (HCA.out.ge k hk).1 with a | a
     ·exact HM2.out.1 (e ▸ a)
     ·have:=HM.out.1;omega
    have hr8:=(hr7.below (w':=w7.drew) (Below.refl _ _).drew).kept HE8.out.2.2 hnF
    have hb7:Kept (fun k=>F k ∨ k = l ∨ FR k) w w7.drew:=⟨HB7.out.os,HB7.out.tape,HB7.out.output,HB7.out.size,fun k hk hn=>HB7.out.block k hk (fun e=>hn (.inr (.inr (HRR.out.row k e))))⟩
    refine ⟨rfl,F8,_,_,da,dc,HE8.out.1.kept k7 (fun k e e2=>hlF8 (e2 ▸ e)),HL8.out.set fr en NX _,hr8.kept k7 hnl,hF8,fun k hk=>⟨(HCA.out.ge k hk).1,fun hf=>?_⟩,(hb7.trans HE8.out.2.2 (fun k e=>.inl (.inl e))).trans k7 (fun k e=>.inl (.inr (.inl e)))⟩
    have h2:k < w7.heap.size:=hr7.lt k hk
    rcases HE8.out.2.1 k hf with a | a
    ·exact hnF k hk a
    ·have:w7.heap.size ≤ k:=a
     omega
 ·obtain ⟨w3,hw3⟩:∃ w3,w3 = w1.alloc oAZ:=⟨_,rfl⟩
  have hb3:Below w1.heap.size w1 w3:=by rw [hw3];exact (Below.refl _ _).alloc (Nat.le_refl _) _
  have HX3:Hid (w3.heap[w1.heap.size]? = some oAZ):=mkHid (by rw [hw3];exact heap_alloc_new w1 _)
  have HB3:=mkHid (HB1.out.trans (hb3.mono HB1.out.size))
  have HC3:=mkHid hb3
  obtain ⟨ab,hab⟩:∃ ab,ab = w1.heap.size:=⟨_,rfl⟩
  have HAB:=mkHid hab
  rw [← hab] at HX3
  go_simp
  rw [← hw3,← hab]
  refine hK.out _ _ ⟨cell_lat hb3 hHeld.1,cell_lat hb3 hHeld.2.1,cell_lat hb3 hHeld.2.2.1,cell_lat hb3 hHeld.2.2.2.1,cell_lat hb3 hHeld.2.2.2.2.1,cell_lat hb3 hHeld.2.2.2.2.2.1,cell_lat hb3 hHeld.2.2.2.2.2.2⟩ (fun hHeld=>?_)
  clear hK K hb3 hw3 hab
  (try simp only [Act.put])
  refine wpAnyH_ready (rs:=[14]) (by kernel_rfl) (by simp) (AllReadyH.cons rfl (fun K hK=>?_) AllReadyH.nil)
  go_simp
  refine (clone_any w3 _ data (HRD.out.later HB3.out) (by have:=HDL.out;omega)).mono ?_
  rintro e w4 ⟨v4,rfl,ho4,b4⟩
  obtain ⟨da,dc,rfl⟩:=own_shape ho4
  have HO4:=mkHid ho4
  have HC4:=mkHid b4
  have HB4:=mkHid (HB3.out.trans (b4.mono HB3.out.size))
  refine hK.out _ _ ⟨cell_lat b4 hHeld.1,cell_lat b4 hHeld.2.1,cell_lat b4 hHeld.2.2.1,cell_lat b4 hHeld.2.2.2.1,cell_lat b4 hHeld.2.2.2.2.1,cell_lat b4 hHeld.2.2.2.2.2.1,cell_lat b4 hHeld.2.2.2.2.2.2⟩ (fun hHeld=>?_)
  clear hK K b4 ho4
  refine wtE 15 41 (.agg #[.int .i64 (gn:Int),.int .i64 (ep:Int),.int .i64 (X1:Int),.slice da data.length dc]) rfl rfl hHeld ?_
  simp only [List.set_cons_zero,List.set_cons_succ]
  refine wpAnyH_ready (rs:=[16]) (by kernel_rfl) (by simp) (AllReadyH.cons rfl (fun K hK=>?_) AllReadyH.nil)
  go_simp
  refine (HWI.out w4 da dc HB4.out (Rd.of_owns HRD.out.1 HO4.out) (fun k e=>⟨by have:=(HO4.out.lt k e).1;have:=HB3.out.size;omega,(HO4.out.lt k e).2⟩)).mono ?_
  rintro e w5 ⟨v5,z5,F5,rfl,hR5,hF5,hz5,hzo5,hb5⟩
  obtain ⟨xa,xc,rfl⟩:=hR5.shape
  obtain ⟨za,zc,rfl⟩:∃ a c,z5 = .slice a (frm (⟨gn,ep,X1,data⟩:Rc)).length c:=hz5.2.imp fun a h=>h.imp fun c h=>h.1
  rw [List.length_append,List.length_singleton] at hR5
  simp only [List.length_append,List.length_singleton]
  rw [hnx]
  have HP5:=mkHid (And.intro hR5 (And.intro hF5 (And.intro hz5 hzo5)))
  have HC5:=mkHid hb5
  have HB5:Hid (Kept (fun k=>(Value.slice va ts.length vc).ownBlock = some k) w w5):=mkHid ((kept_below _ HB4.out).trans hb5 (fun _ h=>.inl h))
  refine hK.out _ _ ⟨hb5.cell hHeld.1 hlv,hb5.cell hHeld.2.1 hlv,hb5.cell hHeld.2.2.1 hlv,hb5.cell hHeld.2.2.2.1 hlv,hb5.cell hHeld.2.2.2.2.1 hlv,hb5.cell hHeld.2.2.2.2.2.1 hbv,hb5.cell hHeld.2.2.2.2.2.2 hbv⟩ (fun hHeld=>?_)
  clear hK K hR5 hF5 hz5 hzo5 hb5
  (try simp only [Act.put])
  refine wtE 17 25 (.tuple #[.agg #[.int .i64 (fr:Int),.int .i64 (en:Int),.slice xa (ts.length + 1) xc,.int .i64 (NX:Int)],.slice za (frm (⟨gn,ep,X1,data⟩:Rc)).length zc,.nilIface]) rfl rfl hHeld ?_
  simp only [List.set_cons_zero,List.set_cons_succ]
  refine wtE 18 43 (.agg #[.int .i64 (fr:Int),.int .i64 (en:Int),.slice xa (ts.length + 1) xc,.int .i64 (NX:Int)]) rfl rfl hHeld ?_
  simp only [List.set_cons_zero,List.set_cons_succ]
  refine wtE 19 44 (.slice za (frm (⟨gn,ep,X1,data⟩:Rc)).length zc) rfl rfl hHeld ?_
  simp only [List.set_cons_zero,List.set_cons_succ]
  refine wtE 20 45 (.nilIface) rfl rfl hHeld ?_
  simp only [List.set_cons_zero,List.set_cons_succ]
  have HCA:Hid (CA w w5 ab FR _ (.slice va ts.length vc) (.slice xa (ts.length + 1) xc) (.slice za (frm (⟨gn,ep,X1,data⟩:Rc)).length zc) ts ((⟨gn,ep,X1,data⟩:Rc),da,dc)):=mkHid (by
   have hs1:=HB1.out.size
   have hq:∀ k,F5 k → (FR k ∨ w.heap.size ≤ k) ∧ k ≠ ab:=fun k hk=>by
    have hl:=HP5.out.1.lt k hk
    have hab:=HAB.out
    rcases HP5.out.2.1 k hk with a | a | a
    ·exact ⟨.inl a,by have:=HRR.out.lt k a;have:=wlt_of_heap HX3.out;have:=HC4.out.size;have:=HC5.out.size;omega⟩
    ·have:=HO4.out.lt k a;exact ⟨.inr (by have:=wlt_of_heap HX3.out;have:=HC4.out.size;have:=HC5.out.size;omega),by have:=wlt_of_heap HX3.out;have:=HC4.out.size;have:=HC5.out.size;omega⟩
    ·exact ⟨.inr (by have:=wlt_of_heap HX3.out;have:=HC4.out.size;have:=HC5.out.size;omega),by have:=wlt_of_heap HX3.out;have:=HC4.out.size;have:=HC5.out.size;omega⟩
   have hz:∀ k,(.slice za (frm (⟨gn,ep,X1,data⟩:Rc)).length zc:Value).ownBlock = some k → w.heap.size ≤ k ∧ k < w5.heap.size ∧ k ≠ ab:=fun k e=>by
    have h1:=HP5.out.2.2.2 k e
    have hab:=HAB.out
    refine ⟨by have:=wlt_of_heap HX3.out;have:=HC4.out.size;have:=HC5.out.size;omega,h1.2.1,by have:=wlt_of_heap HX3.out;have:=HC4.out.size;have:=HC5.out.size;omega⟩
   exact ⟨HB5.out,(HC5.out.block ab (Nat.lt_of_lt_of_le (wlt_of_heap HX3.out) HC4.out.size) (fun e=>by have:=HRR.out.lt ab (HRR.out.row ab e);have:=HAB.out;have:=HB1.out.size;omega)).trans ((HC4.out.block ab (wlt_of_heap HX3.out)).trans HX3.out),by have:=HAB.out;omega,HP5.out.1,hq,HP5.out.2.2.1,hz⟩)
  obtain ⟨c0,c1,c2,c3,fc0,fc1,fc2,fc3⟩:=azero_facts HCA.out.box
  have hm:=HM.out
  have hlab:¬ l = ab:=by have:=HCA.out.hab;omega
  have hbab:¬ bl = ab:=by have:=wlt_of_heap HX1.out;have:=HAB.out;omega
  refine wpAnyH_ready (rs:=[22]) (by kernel_rfl) (by simp) (AllReadyH.cons rfl (fun K hK=>?_) AllReadyH.nil)
  go_simp
  have HK7:=mkHid (kept_four (F:=fun k=>k = ab) (R:=ab) (Kept.refl _ w5) rfl (.int .i64 (fr:Int)) (.int .i64 (en:Int)) (.slice xa (ts.length + 1) xc) (.int .i64 (NX:Int)))
  have HX7:=mkHid (afour_leaves HCA.out.box (.int .i64 (fr:Int)) (.int .i64 (en:Int)) (.slice xa (ts.length + 1) xc) (.int .i64 (NX:Int)))
  refine hK.out _ _ ⟨HK7.out.cell hHeld.1 hlab,HK7.out.cell hHeld.2.1 hlab,HK7.out.cell hHeld.2.2.1 hlab,HK7.out.cell hHeld.2.2.2.1 hlab,HK7.out.cell hHeld.2.2.2.2.1 hlab,HK7.out.cell hHeld.2.2.2.2.2.1 hbab,HK7.out.cell hHeld.2.2.2.2.2.2 hbab⟩ (fun hHeld=>?_)
  clear hK K
  (try simp only [Act.put])
  refine wtE 23 8 (.slice za (frm (⟨gn,ep,X1,data⟩:Rc)).length zc) rfl rfl hHeld ?_
  simp only [List.set_cons_zero,List.set_cons_succ]
  refine wtE 24 9 (.nilIface) rfl rfl hHeld ?_
  simp only [List.set_cons_zero,List.set_cons_succ]
  refine wpAnyH_done (by kernel_rfl) ?_ _
  clear hHeld c0 c1 c2 c3 fc0 fc1 fc2 fc3
  generalize ((((w5.setCell ⟨ab,0,none⟩ (.int .i64 (fr:Int))).setCell ⟨ab,1,none⟩ (.int .i64 (en:Int))).setCell ⟨ab,2,none⟩ (.slice xa (ts.length + 1) xc)).setCell ⟨ab,3,none⟩ (.int .i64 (NX:Int))) = w7 at *
  have HB7:Hid (Kept (fun k=>(Value.slice va ts.length vc).ownBlock = some k) w w7):=mkHid (HCA.out.bel.trans HK7.out (fun k e=>.inr (by have:=HCA.out.hab;omega)))
  have HD7:Hid (Dk F w7.drew p n f c nw false):=mkHid ((HD.out.kept HB7.out (fun k hk e=>HM2.out.2 k (HRR.out.row k e) hk)).below (Below.refl _ _).drew)
  have HL7:Hid (Lg w7 l p fr en (.slice va ts.length vc) nx ep):=mkHid ((HB7.out.block l hm.1 hlv).trans HLG.out)
  obtain ⟨l0,_,_,_,l4,_,_,_,_,_⟩:=HL7.out.facts
  have HZ7:Hid (Rd w7.drew (.slice za (frm (⟨gn,ep,X1,data⟩:Rc)).length zc) (frm (⟨gn,ep,X1,data⟩:Rc))):=mkHid ((HCA.out.rd.kept HK7.out (fun k e e2=>(HCA.out.zo k e).2.2 e2)).later (Below.refl _ _).drew)
  have HWR:=mkHid (wwrite_ok F w7.drew p n f c nw nx _ (frm (⟨gn,ep,X1,data⟩:Rc)) HD7.out HZ7.out (fun k e hf=>by have h1:=HD.out.1 k hf;have h2:=(HCA.out.zo k e).1;omega) (fun k e=>Nat.lt_of_lt_of_le (HCA.out.zo k e).2.1 HK7.out.size) hm.2.2.1 hm.2.2.2.1 hm.2.2.2.2.1 hm.2.2.2.2.2.1 hm.2.2.2.2.2.2)
  have hlF:=hm.2.1
  have habF:¬ F ab:=fun e=>by have:=HD.out.1 ab e;have:=HCA.out.hab;omega
  clear hm
  go_wp2
  go_region_held3 (fun w'=>w'.cell? ⟨l,0,none⟩ = some (.pointer (some ⟨p,0,none⟩)) ∧ w'.cell? ⟨l,4,none⟩ = some (.int .i64 (nx:Int))) (go_keep) (first | (go_at_call 112;refine HWR.out.mono ?_;rintro e w8 ⟨rfl,F8,hD8,hF8,hk8⟩;have HE8:=mkHid (And.intro hD8 (And.intro hF8 hk8));have m0:w8.cell? ⟨l,0,none⟩ = some (.pointer (some ⟨p,0,none⟩)):=hk8.cell (a:=⟨l,0,none⟩) l0 hlF;have m4:w8.cell? ⟨l,4,none⟩ = some (.int .i64 (nx:Int)):=hk8.cell (a:=⟨l,4,none⟩) l4 hlF;clear hD8 hF8 hk8))
  all_goals
   have HL8:Hid (Lg w8 l p fr en (.slice va ts.length vc) nx ep):=mkHid ((HE8.out.2.2.block l (wlt_of_heap (show w7.drew.heap[l]? = _ from HL7.out)) hlF).trans HL7.out)
   have HX8:Hid (w8.heap[ab]? = some (oA (.int .i64 (fr:Int)) (.int .i64 (en:Int)) (.slice xa (ts.length + 1) xc) (.int .i64 (NX:Int)))):=mkHid ((HE8.out.2.2.block ab (wlt_of_heap (show w7.drew.heap[ab]? = _ from HX7.out)) habF).trans HX7.out)
   obtain ⟨x0,x1,x2,x3,_,_,_,_⟩:=four_facts HX8.out
   obtain ⟨y0,y1,y2,y3,y4,y5,z1,z2,z3,z4⟩:=HL8.out.facts
   go_wp2
   go_ret
   have hs7:=HB7.out.size
   have k7:Kept (fun k=>k = l) w8 ((((w8.setCell ⟨l,1,none⟩ (.int .i64 (fr:Int))).setCell ⟨l,2,none⟩ (.int .i64 (en:Int))).setCell ⟨l,3,none⟩ (.slice xa (ts.length + 1) xc)).setCell ⟨l,4,none⟩ (.int .i64 (NX:Int))):=kept_setc (F:=fun k=>k = l) (kept_setc (F:=fun k=>k = l) (kept_setc (F:=fun k=>k = l) (kept_setc (F:=fun k=>k = l) (Kept.refl _ w8) (p:=⟨l,1,none⟩) rfl _) (p:=⟨l,2,none⟩) rfl _) (p:=⟨l,3,none⟩) rfl _) (p:=⟨l,4,none⟩) rfl _
   have hF8:∀ k,F8 k → F k ∨ w.heap.size ≤ k:=fun k hk=>by
    rcases HE8.out.2.1 k hk with a | a
    ·exact .inl a
    ·have:w7.heap.size ≤ k:=a
     exact .inr (by omega)
   have hlF8:¬ F8 l:=fun e=>by
    rcases HE8.out.2.1 l e with a | a
    ·exact hlF a
    ·have:w7.heap.size ≤ l:=a
     have:=HM.out.1
     omega
   have hr5:∀ k,_ → (FR k ∨ w.heap.size ≤ k) ∧ k ≠ ab:=HCA.out.ge
   have hr7:=HCA.out.recs.kept HK7.out (fun k hk e=>(HCA.out.ge k hk).2 e)
   have hnF:∀ k,_ → ¬ F k:=fun k hk hf=>by
    rcases (HCA.out.ge k hk).1 with a | a
    ·exact HM2.out.2 k a hf
    ·have:=HD.out.1 k hf;omega
   have hnl:∀ k,_ → ¬ k = l:=fun k hk e=>by
    rcases (HCA.out.ge k hk).1 with a | a
    ·exact HM2.out.1 (e ▸ a)
    ·have:=HM.out.1;omega
   have hr8:=(hr7.below (w':=w7.drew) (Below.refl _ _).drew).kept HE8.out.2.2 hnF
   have hb7:Kept (fun k=>F k ∨ k = l ∨ FR k) w w7.drew:=⟨HB7.out.os,HB7.out.tape,HB7.out.output,HB7.out.size,fun k hk hn=>HB7.out.block k hk (fun e=>hn (.inr (.inr (HRR.out.row k e))))⟩
   refine ⟨rfl,F8,_,_,da,dc,HE8.out.1.kept k7 (fun k e e2=>hlF8 (e2 ▸ e)),HL8.out.set fr en NX _,hr8.kept k7 hnl,hF8,fun k hk=>⟨(HCA.out.ge k hk).1,fun hf=>?_⟩,(hb7.trans HE8.out.2.2 (fun k e=>.inl (.inl e))).trans k7 (fun k e=>.inl (.inr (.inl e)))⟩
   have h2:k < w7.heap.size:=hr7.lt k hk
   rcases HE8.out.2.1 k hf with a | a
   ·exact hnF k hk a
   ·have:w7.heap.size ≤ k:=a
    omega
end Go.Proofs.YtihdkgekickohaaGreatDoor
