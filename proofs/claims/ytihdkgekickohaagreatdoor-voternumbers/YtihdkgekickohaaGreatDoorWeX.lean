import Derived.Test.YtihdkgekickohaaGreatDoorWdX
import Derived.Test.YtihdkgekickohaaGreatDoorLists
import Derived.Test.YtihdkgekickohaaGreatDoorBaseA
namespace Go.Proofs.YtihdkgekickohaaGreatDoor
open Go.ChangeShapes Go.WideShapes Go.ChangeAt Go.RowKit
set_option maxRecDepth 100000
def CkPost (F:Nat → Prop) (w:World) (l p n:Nat) (f:Int → List Int) (c:List (Int × List Int)) (nw:Int) (fr2 en2 NX ep:Nat) (r:Rc) (e:Ending) (w':World):Prop:=
 e = .returned .nilIface ∧ ∃ (F' F1:Nat → Prop) (v':Value) (da:Option Addr) (dc:Nat),Dk F' w' p n (flushed f (c ++ writesOf (frm r) (fr2:Int) (npc (frm r).length))) [] (nw + (npc (frm r).length:Int)) false ∧ Lg w' l p fr2 en2 v' NX ep ∧ Recs F1 w' v' [(r,da,dc)] ∧ (∀ k,F' k → F k ∨ w.heap.size ≤ k) ∧ (∀ k,F1 k → w.heap.size ≤ k ∧ ¬ F' k) ∧ Kept (fun k=>F k ∨ k = l) w w'
structure CK (w w5:World) (ab:Nat) (FA:Nat → Prop) (v z:Value) (t:Rp):Prop where
 bel:Below w.heap.size w w5
 box:w5.heap[ab]? = some oAZ
 hab:w.heap.size ≤ ab
 recs:Recs FA w5 v [t]
 ge:∀ k,FA k → w.heap.size ≤ k ∧ k ≠ ab
 rd:Rd w5 z (frm t.1)
 zo:∀ k,z.ownBlock = some k → w.heap.size ≤ k ∧ k < w5.heap.size ∧ k ≠ ab
set_option maxHeartbeats 51200000 in
theorem ck_ok (F:Nat → Prop) (w:World) (l p n fr en nx fr2 en2 g1 ep:Nat) (va:Option Addr) (vc:Nat) (ts:List Rp) (f:Int → List Int) (c:List (Int × List Int)) (nw:Int) (ba:Option Addr) (bc:Nat) (data:List Int) (h:Lg w l p fr en (.slice va ts.length vc) nx ep) (hD:Dk F w p n f c nw false) (hrd:Rd w (.slice ba data.length bc) data) (hd:data.length ≤ 32000)
  (han:∀ W da dc,Below w.heap.size w W → Rd W (.slice da data.length dc) data → (∀ k,(Value.slice da data.length dc).ownBlock = some k → k < W.heap.size) → Calls Tryz.prog 68 #[.agg #[.int .i64 (fr:Int),.int .i64 (en:Int),.slice va ts.length vc,.int .i64 (nx:Int)],.int .i64 (ep:Int),.slice da data.length dc] W (AnewPost W fr2 en2 ((⟨g1,ep,0,data⟩:Rc),da,dc)))
  (hl:l < w.heap.size) (hlF:¬ F l) (hfit:fr2 + npc (frm (⟨g1,ep,0,data⟩:Rc)).length ≤ n) (hfl:((frm (⟨g1,ep,0,data⟩:Rc)).length:Int) ≤ 1000000) (hn2:(n:Int) ≤ 1024) (hcl:c.length ≤ 100000000) (hnw:0 ≤ nw ∧ nw ≤ 100000000) (NX:Nat) (hNX:NX = fr2 + npc (frm (⟨g1,ep,0,data⟩:Rc)).length) :
  Calls Tryz.prog 116 #[.pointer (some ⟨l,0,none⟩),.slice ba data.length bc] w (CkPost F w l p n f c nw fr2 en2 NX ep ⟨g1,ep,0,data⟩):=by
 obtain ⟨l0,l1,l2,l3,l4,l5,_,_,_,_⟩:=h.facts
 have HW:=mkHid (wref_ok F w p n f c nw ba data.length bc hD (by omega))
 have HRD:=mkHid hrd
 have HDL:=mkHid hd
 have HAN:=mkHid han
 have HLG:=mkHid h
 have HD:=mkHid hD
 have hnx:(fr2:Int) + (npc (frm (⟨g1,ep,0,data⟩:Rc)).length:Int) = (NX:Int):=by omega
 have HM:=mkHid (And.intro hl (And.intro hlF (And.intro hfit (And.intro hfl (And.intro hn2 (And.intro hcl hnw))))))
 clear h hD hrd hd han hl hlF hfit hfl hn2 hcl hnw hNX
 go_enter Tryz.func116,Tryz.ntmps116
 go_wp2_with (go_at_call 65;refine HW.out.mono ?_;rintro e w2 ⟨rfl,hw2⟩;rw [hw2];clear hw2)
 have HB1:Hid (Below w.heap.size w w.drew):=mkHid (Below.refl _ w).drew
 refine wp_region_held_drew (S:=fun w'=>w'.cell? ⟨l,1,none⟩ = some (.int .i64 (fr:Int)) ∧ w'.cell? ⟨l,2,none⟩ = some (.int .i64 (en:Int)) ∧ w'.cell? ⟨l,3,none⟩ = some (.slice va ts.length vc) ∧ w'.cell? ⟨l,4,none⟩ = some (.int .i64 (nx:Int)) ∧ w'.cell? ⟨l,5,none⟩ = some (.int .i64 (ep:Int))) (by kernel_rfl) ⟨l1,l2,l3,l4,l5⟩ (fun hHeld=>?_)
 clear l0 l1 l2 l3 l4 l5
 generalize w.drew = w1 at *
 refine wtE 0 19 (.pointer (some ⟨l,0,none⟩)) rfl rfl hHeld ?_
 simp only [List.set_cons_zero,List.set_cons_succ]
 refine wtE 1 20 (.pointer (some ⟨l,0,none⟩)) rfl rfl hHeld ?_
 simp only [List.set_cons_zero,List.set_cons_succ]
 refine wtE 2 21 (.pointer (some ⟨l,1,none⟩)) rfl rfl hHeld ?_
 simp only [List.set_cons_zero,List.set_cons_succ]
 refine wtE 3 22 (.agg #[.int .i64 (fr:Int),.int .i64 (en:Int),.slice va ts.length vc,.int .i64 (nx:Int)]) rfl rfl hHeld ?_
 simp only [List.set_cons_zero,List.set_cons_succ]
 refine wtE 4 23 (.pointer (some ⟨l,0,none⟩)) rfl rfl hHeld ?_
 simp only [List.set_cons_zero,List.set_cons_succ]
 refine wtE 5 24 (.pointer (some ⟨l,0,none⟩)) rfl rfl hHeld ?_
 simp only [List.set_cons_zero,List.set_cons_succ]
 refine wtE 6 25 (.pointer (some ⟨l,5,none⟩)) rfl rfl hHeld ?_
 simp only [List.set_cons_zero,List.set_cons_succ]
 refine wtE 7 26 (.int .i64 (ep:Int)) rfl rfl hHeld ?_
 simp only [List.set_cons_zero,List.set_cons_succ]
 refine wtE 8 27 (.slice ba data.length bc) rfl rfl hHeld ?_
 simp only [List.set_cons_zero,List.set_cons_succ]
 refine wpAnyH_ready (rs:=[9,15]) (by kernel_rfl) (by simp) (AllReadyH.cons rfl (fun K hK=>?_) (AllReadyH.cons rfl (fun K hK=>?_) AllReadyH.nil))
 ·go_simp
  refine (clone_any w1 _ data (HRD.out.later HB1.out) (by have:=HDL.out;omega)).mono ?_
  rintro e w3 ⟨v3,rfl,ho3,b3⟩
  obtain ⟨da,dc,rfl⟩:=own_shape ho3
  have HO3:=mkHid ho3
  have HC3:=mkHid b3
  have HB3:=mkHid (HB1.out.trans (b3.mono HB1.out.size))
  refine hK.out _ _ ⟨cell_lat b3 hHeld.1,cell_lat b3 hHeld.2.1,cell_lat b3 hHeld.2.2.1,cell_lat b3 hHeld.2.2.2.1,cell_lat b3 hHeld.2.2.2.2⟩ (fun hHeld=>?_)
  clear hK K b3 ho3
  refine wpAnyH_ready (rs:=[10,15]) (by kernel_rfl) (by simp) (AllReadyH.cons rfl (fun K hK=>?_) (AllReadyH.cons rfl (fun K hK=>?_) AllReadyH.nil))
  ·go_simp
   refine (HAN.out w3 da dc HB3.out (Rd.of_owns HRD.out.1 HO3.out) (fun k e=>(HO3.out.lt k e).2)).mono ?_
   rintro e w4 ⟨v4,z4,F4,rfl,hR4,hF4,hz4,hzo4,hb4⟩
   obtain ⟨xa,xc,rfl⟩:=hR4.shape
   obtain ⟨za,zc,rfl⟩:∃ a c,z4 = .slice a (frm (⟨g1,ep,0,data⟩:Rc)).length c:=hz4.2.imp fun a h=>h.imp fun c h=>h.1
   simp only [List.length_singleton]
   rw [hnx]
   have HP4:=mkHid (And.intro hR4 (And.intro hF4 (And.intro hz4 hzo4)))
   have HC4:=mkHid hb4
   have HB4:=mkHid (HB3.out.trans (hb4.mono HB3.out.size))
   refine hK.out _ _ ⟨cell_lat hb4 hHeld.1,cell_lat hb4 hHeld.2.1,cell_lat hb4 hHeld.2.2.1,cell_lat hb4 hHeld.2.2.2.1,cell_lat hb4 hHeld.2.2.2.2⟩ (fun hHeld=>?_)
   clear hK K hR4 hF4 hz4 hzo4 hb4
   (try simp only [Act.put])
   refine wtE 11 18 (.tuple #[.agg #[.int .i64 (fr2:Int),.int .i64 (en2:Int),.slice xa 1 xc,.int .i64 (NX:Int)],.slice za (frm (⟨g1,ep,0,data⟩:Rc)).length zc,.nilIface]) rfl rfl hHeld ?_
   simp only [List.set_cons_zero,List.set_cons_succ]
   refine wtE 12 30 (.agg #[.int .i64 (fr2:Int),.int .i64 (en2:Int),.slice xa 1 xc,.int .i64 (NX:Int)]) rfl rfl hHeld ?_
   simp only [List.set_cons_zero,List.set_cons_succ]
   refine wtE 13 31 (.slice za (frm (⟨g1,ep,0,data⟩:Rc)).length zc) rfl rfl hHeld ?_
   simp only [List.set_cons_zero,List.set_cons_succ]
   refine wtE 14 32 (.nilIface) rfl rfl hHeld ?_
   simp only [List.set_cons_zero,List.set_cons_succ]
   refine wpAnyH_ready (rs:=[15]) (by kernel_rfl) (by simp) (AllReadyH.cons rfl (fun K hK=>?_) AllReadyH.nil)
   obtain ⟨w5,hw5⟩:∃ w5,w5 = w4.alloc oAZ:=⟨_,rfl⟩
   have hb5:Below w4.heap.size w4 w5:=by rw [hw5];exact (Below.refl _ _).alloc (Nat.le_refl _) _
   have HX5:Hid (w5.heap[w4.heap.size]? = some oAZ):=mkHid (by rw [hw5];exact heap_alloc_new w4 _)
   have HB5:=mkHid (HB4.out.trans (hb5.mono HB4.out.size))
   have HC5:=mkHid hb5
   obtain ⟨ab,hab⟩:∃ ab,ab = w4.heap.size:=⟨_,rfl⟩
   have HAB:=mkHid hab
   rw [← hab] at HX5
   go_simp
   rw [← hw5,← hab]
   refine hK.out _ _ ⟨cell_lat hb5 hHeld.1,cell_lat hb5 hHeld.2.1,cell_lat hb5 hHeld.2.2.1,cell_lat hb5 hHeld.2.2.2.1,cell_lat hb5 hHeld.2.2.2.2⟩ (fun hHeld=>?_)
   clear hK K hb5 hw5 hab
   (try simp only [Act.put])
   have HCK:Hid (CK w w5 ab _ (.slice xa 1 xc) (.slice za (frm (⟨g1,ep,0,data⟩:Rc)).length zc) ((⟨g1,ep,0,data⟩:Rc),da,dc)):=mkHid (by
    have hs1:=HB1.out.size
    have hq:∀ k,F4 k → w.heap.size ≤ k ∧ k ≠ ab:=fun k hk=>by
     have hl:=HP4.out.1.lt k hk
     have hab:=HAB.out
     rcases HP4.out.2.1 k hk with a | a
     ·have:=HO3.out.lt k a;have:=HC3.out.size;have:=HC4.out.size;omega
     ·have:=HC3.out.size;have:=HC4.out.size;omega
    have hz:∀ k,(.slice za (frm (⟨g1,ep,0,data⟩:Rc)).length zc:Value).ownBlock = some k → w.heap.size ≤ k ∧ k < w4.heap.size ∧ k ≠ ab:=fun k e=>by
     have h1:=HP4.out.2.2.2 k e
     have hab:=HAB.out
     have:=HC3.out.size;have:=HC4.out.size;omega
    exact ⟨HB5.out,HX5.out,by have:=HAB.out;have:=HB4.out.size;omega,HP4.out.1.below HC5.out,hq,HP4.out.2.2.1.later HC5.out,fun k e=>⟨(hz k e).1,Nat.lt_of_lt_of_le (hz k e).2.1 HC5.out.size,(hz k e).2.2⟩⟩)
   obtain ⟨c0,c1,c2,c3,fc0,fc1,fc2,fc3⟩:=azero_facts HCK.out.box
   have hm:=HM.out
   have hlab:¬ l = ab:=by have:=HCK.out.hab;omega
   refine wpAnyH_ready (rs:=[16]) (by kernel_rfl) (by simp) (AllReadyH.cons rfl (fun K hK=>?_) AllReadyH.nil)
   go_simp
   have HK7:=mkHid (kept_four (F:=fun k=>k = ab) (R:=ab) (Kept.refl _ w5) rfl (.int .i64 (fr2:Int)) (.int .i64 (en2:Int)) (.slice xa 1 xc) (.int .i64 (NX:Int)))
   have HX7:=mkHid (afour_leaves HCK.out.box (.int .i64 (fr2:Int)) (.int .i64 (en2:Int)) (.slice xa 1 xc) (.int .i64 (NX:Int)))
   refine hK.out _ _ ⟨HK7.out.cell hHeld.1 hlab,HK7.out.cell hHeld.2.1 hlab,HK7.out.cell hHeld.2.2.1 hlab,HK7.out.cell hHeld.2.2.2.1 hlab,HK7.out.cell hHeld.2.2.2.2 hlab⟩ (fun hHeld=>?_)
   clear hK K
   (try simp only [Act.put])
   refine wtE 17 7 (.slice za (frm (⟨g1,ep,0,data⟩:Rc)).length zc) rfl rfl hHeld ?_
   simp only [List.set_cons_zero,List.set_cons_succ]
   refine wtE 18 8 (.nilIface) rfl rfl hHeld ?_
   simp only [List.set_cons_zero,List.set_cons_succ]
   refine wpAnyH_done (by kernel_rfl) ?_ _
   clear hHeld c0 c1 c2 c3 fc0 fc1 fc2 fc3
   generalize ((((w5.setCell ⟨ab,0,none⟩ (.int .i64 (fr2:Int))).setCell ⟨ab,1,none⟩ (.int .i64 (en2:Int))).setCell ⟨ab,2,none⟩ (.slice xa 1 xc)).setCell ⟨ab,3,none⟩ (.int .i64 (NX:Int))) = w7 at *
   obtain ⟨x0,x1,x2,x3,_,_,_,_⟩:=four_facts HX7.out
   have HB7:Hid (Below w.heap.size w w7):=mkHid (HCK.out.bel.trans (HK7.out.below (fun k e=>by have:=HCK.out.hab;omega) HCK.out.bel.size))
   have HMV:=mkHid (moveTo_ok F w7 l p n f c nw fr en nx ep fr2 en2 NX _ xa 1 xc _ (frm (⟨g1,ep,0,data⟩:Rc)) (HD.out.below HB7.out) ((HB7.out.block l hm.1).trans HLG.out) hm.2.1 (HCK.out.rd.kept HK7.out (fun k e e2=>(HCK.out.zo k e).2.2 e2)) (fun k e hf=>by have h1:=HD.out.1 k hf;have h2:=(HCK.out.zo k e).1;omega) (fun k e=>Nat.lt_of_lt_of_le (HCK.out.zo k e).2.1 HK7.out.size) hm.2.2.1 hm.2.2.2.1 hm.2.2.2.2.1 hm.2.2.2.2.2.1 hm.2.2.2.2.2.2)
   clear hm hlab
   go_wp2_with (go_at_call 71;refine HMV.out.mono ?_;rintro e w8 ⟨rfl,F8,hD8,hL8,hF8,hk8⟩;have HE8:=mkHid (And.intro hD8 (And.intro hL8 (And.intro hF8 hk8)));clear hD8 hL8 hF8 hk8)
   go_ret
   have hs7:=HB7.out.size
   have hr7:=HCK.out.recs.kept HK7.out (fun k hk e=>(HCK.out.ge k hk).2 e)
   have hF8:∀ k,F8 k → F k ∨ w.heap.size ≤ k:=fun k hk=>by
    rcases HE8.out.2.2.1 k hk with a | a
    ·exact .inl a
    ·exact .inr (by omega)
   have hb7:Kept (fun k=>F k ∨ k = l) w w7:=⟨HB7.out.os,HB7.out.tape,HB7.out.output,HB7.out.size,fun k hk _=>HB7.out.block k hk⟩
   refine ⟨rfl,F8,_,_,da,dc,HE8.out.1,HE8.out.2.1,hr7.kept HE8.out.2.2.2 (fun k hk e=>?_),hF8,fun k hk=>⟨(HCK.out.ge k hk).1,fun hf=>?_⟩,hb7.trans HE8.out.2.2.2 (fun k e=>.inl e)⟩
   ·have h1:=(HCK.out.ge k hk).1
    rcases e with a | a
    ·have:=HD.out.1 k a;omega
    ·have:=HM.out.1;omega
   ·have h1:=(HCK.out.ge k hk).1
    have h2:=hr7.lt k hk
    rcases HE8.out.2.2.1 k hf with a | a
    ·have:=HD.out.1 k a;omega
    ·omega
  ·obtain ⟨w4,hw4⟩:∃ w4,w4 = w3.alloc oAZ:=⟨_,rfl⟩
   have hb4:Below w3.heap.size w3 w4:=by rw [hw4];exact (Below.refl _ _).alloc (Nat.le_refl _) _
   have HX4:Hid (w4.heap[w3.heap.size]? = some oAZ):=mkHid (by rw [hw4];exact heap_alloc_new w3 _)
   have HB4:=mkHid (HB3.out.trans (hb4.mono HB3.out.size))
   have HC4:=mkHid hb4
   obtain ⟨ab,hab⟩:∃ ab,ab = w3.heap.size:=⟨_,rfl⟩
   have HAB:=mkHid hab
   rw [← hab] at HX4
   go_simp
   rw [← hw4,← hab]
   refine hK.out _ _ ⟨cell_lat hb4 hHeld.1,cell_lat hb4 hHeld.2.1,cell_lat hb4 hHeld.2.2.1,cell_lat hb4 hHeld.2.2.2.1,cell_lat hb4 hHeld.2.2.2.2⟩ (fun hHeld=>?_)
   clear hK K hb4 hw4 hab
   (try simp only [Act.put])
   refine wpAnyH_ready (rs:=[10]) (by kernel_rfl) (by simp) (AllReadyH.cons rfl (fun K hK=>?_) AllReadyH.nil)
   go_simp
   refine (HAN.out w4 da dc HB4.out ((Rd.of_owns HRD.out.1 HO3.out).later HC4.out) (fun k e=>Nat.lt_of_lt_of_le (HO3.out.lt k e).2 HC4.out.size)).mono ?_
   rintro e w5 ⟨v5,z5,F5,rfl,hR5,hF5,hz5,hzo5,hb5⟩
   obtain ⟨xa,xc,rfl⟩:=hR5.shape
   obtain ⟨za,zc,rfl⟩:∃ a c,z5 = .slice a (frm (⟨g1,ep,0,data⟩:Rc)).length c:=hz5.2.imp fun a h=>h.imp fun c h=>h.1
   simp only [List.length_singleton]
   rw [hnx]
   have HP5:=mkHid (And.intro hR5 (And.intro hF5 (And.intro hz5 hzo5)))
   have HC5:=mkHid hb5
   have HB5:=mkHid (HB4.out.trans (hb5.mono HB4.out.size))
   refine hK.out _ _ ⟨cell_lat hb5 hHeld.1,cell_lat hb5 hHeld.2.1,cell_lat hb5 hHeld.2.2.1,cell_lat hb5 hHeld.2.2.2.1,cell_lat hb5 hHeld.2.2.2.2⟩ (fun hHeld=>?_)
   clear hK K hR5 hF5 hz5 hzo5 hb5
   (try simp only [Act.put])
   refine wtE 11 18 (.tuple #[.agg #[.int .i64 (fr2:Int),.int .i64 (en2:Int),.slice xa 1 xc,.int .i64 (NX:Int)],.slice za (frm (⟨g1,ep,0,data⟩:Rc)).length zc,.nilIface]) rfl rfl hHeld ?_
   simp only [List.set_cons_zero,List.set_cons_succ]
   refine wtE 12 30 (.agg #[.int .i64 (fr2:Int),.int .i64 (en2:Int),.slice xa 1 xc,.int .i64 (NX:Int)]) rfl rfl hHeld ?_
   simp only [List.set_cons_zero,List.set_cons_succ]
   refine wtE 13 31 (.slice za (frm (⟨g1,ep,0,data⟩:Rc)).length zc) rfl rfl hHeld ?_
   simp only [List.set_cons_zero,List.set_cons_succ]
   refine wtE 14 32 (.nilIface) rfl rfl hHeld ?_
   simp only [List.set_cons_zero,List.set_cons_succ]
   have HCK:Hid (CK w w5 ab _ (.slice xa 1 xc) (.slice za (frm (⟨g1,ep,0,data⟩:Rc)).length zc) ((⟨g1,ep,0,data⟩:Rc),da,dc)):=mkHid (by
    have hs1:=HB1.out.size
    have hq:∀ k,F5 k → w.heap.size ≤ k ∧ k ≠ ab:=fun k hk=>by
     have hl:=HP5.out.1.lt k hk
     have hab:=HAB.out
     rcases HP5.out.2.1 k hk with a | a
     ·have:=HO3.out.lt k a;have:=HC3.out.size;have:=wlt_of_heap HX4.out;have:=HC5.out.size;omega
     ·have:=HC3.out.size;have:=wlt_of_heap HX4.out;have:=HC5.out.size;omega
    have hz:∀ k,(.slice za (frm (⟨g1,ep,0,data⟩:Rc)).length zc:Value).ownBlock = some k → w.heap.size ≤ k ∧ k < w5.heap.size ∧ k ≠ ab:=fun k e=>by
     have h1:=HP5.out.2.2.2 k e
     have hab:=HAB.out
     have:=HC3.out.size;have:=wlt_of_heap HX4.out;have:=HC5.out.size;omega
    exact ⟨HB5.out,(HC5.out.block ab (wlt_of_heap HX4.out)).trans HX4.out,by have:=HAB.out;have:=HC3.out.size;omega,HP5.out.1,hq,HP5.out.2.2.1,hz⟩)
   obtain ⟨c0,c1,c2,c3,fc0,fc1,fc2,fc3⟩:=azero_facts HCK.out.box
   have hm:=HM.out
   have hlab:¬ l = ab:=by have:=HCK.out.hab;omega
   refine wpAnyH_ready (rs:=[16]) (by kernel_rfl) (by simp) (AllReadyH.cons rfl (fun K hK=>?_) AllReadyH.nil)
   go_simp
   have HK7:=mkHid (kept_four (F:=fun k=>k = ab) (R:=ab) (Kept.refl _ w5) rfl (.int .i64 (fr2:Int)) (.int .i64 (en2:Int)) (.slice xa 1 xc) (.int .i64 (NX:Int)))
   have HX7:=mkHid (afour_leaves HCK.out.box (.int .i64 (fr2:Int)) (.int .i64 (en2:Int)) (.slice xa 1 xc) (.int .i64 (NX:Int)))
   refine hK.out _ _ ⟨HK7.out.cell hHeld.1 hlab,HK7.out.cell hHeld.2.1 hlab,HK7.out.cell hHeld.2.2.1 hlab,HK7.out.cell hHeld.2.2.2.1 hlab,HK7.out.cell hHeld.2.2.2.2 hlab⟩ (fun hHeld=>?_)
   clear hK K
   (try simp only [Act.put])
   refine wtE 17 7 (.slice za (frm (⟨g1,ep,0,data⟩:Rc)).length zc) rfl rfl hHeld ?_
   simp only [List.set_cons_zero,List.set_cons_succ]
   refine wtE 18 8 (.nilIface) rfl rfl hHeld ?_
   simp only [List.set_cons_zero,List.set_cons_succ]
   refine wpAnyH_done (by kernel_rfl) ?_ _
   clear hHeld c0 c1 c2 c3 fc0 fc1 fc2 fc3
   generalize ((((w5.setCell ⟨ab,0,none⟩ (.int .i64 (fr2:Int))).setCell ⟨ab,1,none⟩ (.int .i64 (en2:Int))).setCell ⟨ab,2,none⟩ (.slice xa 1 xc)).setCell ⟨ab,3,none⟩ (.int .i64 (NX:Int))) = w7 at *
   obtain ⟨x0,x1,x2,x3,_,_,_,_⟩:=four_facts HX7.out
   have HB7:Hid (Below w.heap.size w w7):=mkHid (HCK.out.bel.trans (HK7.out.below (fun k e=>by have:=HCK.out.hab;omega) HCK.out.bel.size))
   have HMV:=mkHid (moveTo_ok F w7 l p n f c nw fr en nx ep fr2 en2 NX _ xa 1 xc _ (frm (⟨g1,ep,0,data⟩:Rc)) (HD.out.below HB7.out) ((HB7.out.block l hm.1).trans HLG.out) hm.2.1 (HCK.out.rd.kept HK7.out (fun k e e2=>(HCK.out.zo k e).2.2 e2)) (fun k e hf=>by have h1:=HD.out.1 k hf;have h2:=(HCK.out.zo k e).1;omega) (fun k e=>Nat.lt_of_lt_of_le (HCK.out.zo k e).2.1 HK7.out.size) hm.2.2.1 hm.2.2.2.1 hm.2.2.2.2.1 hm.2.2.2.2.2.1 hm.2.2.2.2.2.2)
   clear hm hlab
   go_wp2_with (go_at_call 71;refine HMV.out.mono ?_;rintro e w8 ⟨rfl,F8,hD8,hL8,hF8,hk8⟩;have HE8:=mkHid (And.intro hD8 (And.intro hL8 (And.intro hF8 hk8)));clear hD8 hL8 hF8 hk8)
   go_ret
   have hs7:=HB7.out.size
   have hr7:=HCK.out.recs.kept HK7.out (fun k hk e=>(HCK.out.ge k hk).2 e)
   have hF8:∀ k,F8 k → F k ∨ w.heap.size ≤ k:=fun k hk=>by
    rcases HE8.out.2.2.1 k hk with a | a
    ·exact .inl a
    ·exact .inr (by omega)
   have hb7:Kept (fun k=>F k ∨ k = l) w w7:=⟨HB7.out.os,HB7.out.tape,HB7.out.output,HB7.out.size,fun k hk _=>HB7.out.block k hk⟩
   refine ⟨rfl,F8,_,_,da,dc,HE8.out.1,HE8.out.2.1,hr7.kept HE8.out.2.2.2 (fun k hk e=>?_),hF8,fun k hk=>⟨(HCK.out.ge k hk).1,fun hf=>?_⟩,hb7.trans HE8.out.2.2.2 (fun k e=>.inl e)⟩
   ·have h1:=(HCK.out.ge k hk).1
    rcases e with a | a
    ·have:=HD.out.1 k a;omega
    ·have:=HM.out.1;omega
   ·have h1:=(HCK.out.ge k hk).1
    have h2:=hr7.lt k hk
    rcases HE8.out.2.2.1 k hf with a | a
    ·have:=HD.out.1 k a;omega
    ·omega
 ·obtain ⟨w3,hw3⟩:∃ w3,w3 = w1.alloc oAZ:=⟨_,rfl⟩
  have hb3:Below w1.heap.size w1 w3:=by rw [hw3];exact (Below.refl _ _).alloc (Nat.le_refl _) _
  have HX3:Hid (w3.heap[w1.heap.size]? = some oAZ):=mkHid (by rw [hw3];exact heap_alloc_new w1 _)
  have HB3:=mkHid (HB1.out.trans (hb3.mono HB1.out.size))
  have HC3:=mkHid hb3
  obtain ⟨ab,hab⟩:∃ ab,ab = w1.heap.size:=⟨_,rfl⟩
  have HAB:=mkHid hab
  rw [← hab] at HX3
  go_simp
  rw [← hw3,← hab]
  refine hK.out _ _ ⟨cell_lat hb3 hHeld.1,cell_lat hb3 hHeld.2.1,cell_lat hb3 hHeld.2.2.1,cell_lat hb3 hHeld.2.2.2.1,cell_lat hb3 hHeld.2.2.2.2⟩ (fun hHeld=>?_)
  clear hK K hb3 hw3 hab
  (try simp only [Act.put])
  refine wpAnyH_ready (rs:=[9]) (by kernel_rfl) (by simp) (AllReadyH.cons rfl (fun K hK=>?_) AllReadyH.nil)
  go_simp
  refine (clone_any w3 _ data (HRD.out.later HB3.out) (by have:=HDL.out;omega)).mono ?_
  rintro e w4 ⟨v4,rfl,ho4,b4⟩
  obtain ⟨da,dc,rfl⟩:=own_shape ho4
  have HO4:=mkHid ho4
  have HC4:=mkHid b4
  have HB4:=mkHid (HB3.out.trans (b4.mono HB3.out.size))
  refine hK.out _ _ ⟨cell_lat b4 hHeld.1,cell_lat b4 hHeld.2.1,cell_lat b4 hHeld.2.2.1,cell_lat b4 hHeld.2.2.2.1,cell_lat b4 hHeld.2.2.2.2⟩ (fun hHeld=>?_)
  clear hK K b4 ho4
  refine wpAnyH_ready (rs:=[10]) (by kernel_rfl) (by simp) (AllReadyH.cons rfl (fun K hK=>?_) AllReadyH.nil)
  go_simp
  refine (HAN.out w4 da dc HB4.out (Rd.of_owns HRD.out.1 HO4.out) (fun k e=>(HO4.out.lt k e).2)).mono ?_
  rintro e w5 ⟨v5,z5,F5,rfl,hR5,hF5,hz5,hzo5,hb5⟩
  obtain ⟨xa,xc,rfl⟩:=hR5.shape
  obtain ⟨za,zc,rfl⟩:∃ a c,z5 = .slice a (frm (⟨g1,ep,0,data⟩:Rc)).length c:=hz5.2.imp fun a h=>h.imp fun c h=>h.1
  simp only [List.length_singleton]
  rw [hnx]
  have HP5:=mkHid (And.intro hR5 (And.intro hF5 (And.intro hz5 hzo5)))
  have HC5:=mkHid hb5
  have HB5:=mkHid (HB4.out.trans (hb5.mono HB4.out.size))
  refine hK.out _ _ ⟨cell_lat hb5 hHeld.1,cell_lat hb5 hHeld.2.1,cell_lat hb5 hHeld.2.2.1,cell_lat hb5 hHeld.2.2.2.1,cell_lat hb5 hHeld.2.2.2.2⟩ (fun hHeld=>?_)
  clear hK K hR5 hF5 hz5 hzo5 hb5
  (try simp only [Act.put])
  refine wtE 11 18 (.tuple #[.agg #[.int .i64 (fr2:Int),.int .i64 (en2:Int),.slice xa 1 xc,.int .i64 (NX:Int)],.slice za (frm (⟨g1,ep,0,data⟩:Rc)).length zc,.nilIface]) rfl rfl hHeld ?_
  simp only [List.set_cons_zero,List.set_cons_succ]
  refine wtE 12 30 (.agg #[.int .i64 (fr2:Int),.int .i64 (en2:Int),.slice xa 1 xc,.int .i64 (NX:Int)]) rfl rfl hHeld ?_
  simp only [List.set_cons_zero,List.set_cons_succ]
  refine wtE 13 31 (.slice za (frm (⟨g1,ep,0,data⟩:Rc)).length zc) rfl rfl hHeld ?_
  simp only [List.set_cons_zero,List.set_cons_succ]
  refine wtE 14 32 (.nilIface) rfl rfl hHeld ?_
  simp only [List.set_cons_zero,List.set_cons_succ]
  have HCK:Hid (CK w w5 ab _ (.slice xa 1 xc) (.slice za (frm (⟨g1,ep,0,data⟩:Rc)).length zc) ((⟨g1,ep,0,data⟩:Rc),da,dc)):=mkHid (by
   have hs1:=HB1.out.size
   have hq:∀ k,F5 k → w.heap.size ≤ k ∧ k ≠ ab:=fun k hk=>by
    have hl:=HP5.out.1.lt k hk
    have hab:=HAB.out
    rcases HP5.out.2.1 k hk with a | a
    ·have:=HO4.out.lt k a;have:=wlt_of_heap HX3.out;have:=HC4.out.size;have:=HC5.out.size;omega
    ·have:=wlt_of_heap HX3.out;have:=HC4.out.size;have:=HC5.out.size;omega
   have hz:∀ k,(.slice za (frm (⟨g1,ep,0,data⟩:Rc)).length zc:Value).ownBlock = some k → w.heap.size ≤ k ∧ k < w5.heap.size ∧ k ≠ ab:=fun k e=>by
    have h1:=HP5.out.2.2.2 k e
    have hab:=HAB.out
    have:=wlt_of_heap HX3.out;have:=HC4.out.size;have:=HC5.out.size;omega
   exact ⟨HB5.out,(HC5.out.block ab (Nat.lt_of_lt_of_le (wlt_of_heap HX3.out) HC4.out.size)).trans ((HC4.out.block ab (wlt_of_heap HX3.out)).trans HX3.out),by have:=HAB.out;omega,HP5.out.1,hq,HP5.out.2.2.1,hz⟩)
  obtain ⟨c0,c1,c2,c3,fc0,fc1,fc2,fc3⟩:=azero_facts HCK.out.box
  have hm:=HM.out
  have hlab:¬ l = ab:=by have:=HCK.out.hab;omega
  refine wpAnyH_ready (rs:=[16]) (by kernel_rfl) (by simp) (AllReadyH.cons rfl (fun K hK=>?_) AllReadyH.nil)
  go_simp
  have HK7:=mkHid (kept_four (F:=fun k=>k = ab) (R:=ab) (Kept.refl _ w5) rfl (.int .i64 (fr2:Int)) (.int .i64 (en2:Int)) (.slice xa 1 xc) (.int .i64 (NX:Int)))
  have HX7:=mkHid (afour_leaves HCK.out.box (.int .i64 (fr2:Int)) (.int .i64 (en2:Int)) (.slice xa 1 xc) (.int .i64 (NX:Int)))
  refine hK.out _ _ ⟨HK7.out.cell hHeld.1 hlab,HK7.out.cell hHeld.2.1 hlab,HK7.out.cell hHeld.2.2.1 hlab,HK7.out.cell hHeld.2.2.2.1 hlab,HK7.out.cell hHeld.2.2.2.2 hlab⟩ (fun hHeld=>?_)
  clear hK K
  (try simp only [Act.put])
  refine wtE 17 7 (.slice za (frm (⟨g1,ep,0,data⟩:Rc)).length zc) rfl rfl hHeld ?_
  simp only [List.set_cons_zero,List.set_cons_succ]
  refine wtE 18 8 (.nilIface) rfl rfl hHeld ?_
  simp only [List.set_cons_zero,List.set_cons_succ]
  refine wpAnyH_done (by kernel_rfl) ?_ _
  clear hHeld c0 c1 c2 c3 fc0 fc1 fc2 fc3
  generalize ((((w5.setCell ⟨ab,0,none⟩ (.int .i64 (fr2:Int))).setCell ⟨ab,1,none⟩ (.int .i64 (en2:Int))).setCell ⟨ab,2,none⟩ (.slice xa 1 xc)).setCell ⟨ab,3,none⟩ (.int .i64 (NX:Int))) = w7 at *
  obtain ⟨x0,x1,x2,x3,_,_,_,_⟩:=four_facts HX7.out
  have HB7:Hid (Below w.heap.size w w7):=mkHid (HCK.out.bel.trans (HK7.out.below (fun k e=>by have:=HCK.out.hab;omega) HCK.out.bel.size))
  have HMV:=mkHid (moveTo_ok F w7 l p n f c nw fr en nx ep fr2 en2 NX _ xa 1 xc _ (frm (⟨g1,ep,0,data⟩:Rc)) (HD.out.below HB7.out) ((HB7.out.block l hm.1).trans HLG.out) hm.2.1 (HCK.out.rd.kept HK7.out (fun k e e2=>(HCK.out.zo k e).2.2 e2)) (fun k e hf=>by have h1:=HD.out.1 k hf;have h2:=(HCK.out.zo k e).1;omega) (fun k e=>Nat.lt_of_lt_of_le (HCK.out.zo k e).2.1 HK7.out.size) hm.2.2.1 hm.2.2.2.1 hm.2.2.2.2.1 hm.2.2.2.2.2.1 hm.2.2.2.2.2.2)
  clear hm hlab
  go_wp2_with (go_at_call 71;refine HMV.out.mono ?_;rintro e w8 ⟨rfl,F8,hD8,hL8,hF8,hk8⟩;have HE8:=mkHid (And.intro hD8 (And.intro hL8 (And.intro hF8 hk8)));clear hD8 hL8 hF8 hk8)
  go_ret
  have hs7:=HB7.out.size
  have hr7:=HCK.out.recs.kept HK7.out (fun k hk e=>(HCK.out.ge k hk).2 e)
  have hF8:∀ k,F8 k → F k ∨ w.heap.size ≤ k:=fun k hk=>by
   rcases HE8.out.2.2.1 k hk with a | a
   ·exact .inl a
   ·exact .inr (by omega)
  have hb7:Kept (fun k=>F k ∨ k = l) w w7:=⟨HB7.out.os,HB7.out.tape,HB7.out.output,HB7.out.size,fun k hk _=>HB7.out.block k hk⟩
  refine ⟨rfl,F8,_,_,da,dc,HE8.out.1,HE8.out.2.1,hr7.kept HE8.out.2.2.2 (fun k hk e=>?_),hF8,fun k hk=>⟨(HCK.out.ge k hk).1,fun hf=>?_⟩,hb7.trans HE8.out.2.2.2 (fun k e=>.inl e)⟩
  ·have h1:=(HCK.out.ge k hk).1
   rcases e with a | a
   ·have:=HD.out.1 k a;omega
   ·have:=HM.out.1;omega
  ·have h1:=(HCK.out.ge k hk).1
   have h2:=hr7.lt k hk
   rcases HE8.out.2.2.1 k hf with a | a
   ·have:=HD.out.1 k a;omega
   ·omega
theorem sizeR4 (W:World):(Go.sizeOf 167).run Tryz.prog W = .ok 4 W:=by
 obtain ⟨i0,hi,hz0,hz1,hz2⟩:=info_parts infoRec
 simp [Go.sizeOf,typeInfo,hi,hz1]
theorem elemR:Tryz.prog.underlying 149 = some (.slice (Tryz.prog.elem 149)) ∧ Tryz.prog.elem 149 = 167:=by
 simp [Program.elem,Tryz.underlying149]
theorem Recs.at {F:Nat → Prop} {w:World} {v:Value} {ts:List Rp} (h:Recs F w v ts) (hp:0 < ts.length):∃ g cap,v = .slice (some ⟨g,0,none⟩) ts.length cap ∧ ts.length ≤ cap ∧ ∀ i t,ts[i]? = some t → w.cell? ⟨g,i * 4,none⟩ = some (.int .i64 (t.1.gen:Int)) ∧ w.cell? ⟨g,i * 4 + 1,none⟩ = some (.int .i64 (t.1.epoch:Int)) ∧ w.cell? ⟨g,i * 4 + 2,none⟩ = some (.int .i64 (t.1.index:Int)) ∧ w.cell? ⟨g,i * 4 + 3,none⟩ = some (dv t):=by
 have ho:=h.own
 rcases ho.2 with ⟨_,h0⟩ | ⟨g,cap,cur,rfl,hr⟩
 ·omega
 ·have hc:=ho.cells (g:=g) rfl
  refine ⟨g,cap,rfl,?_,fun i t hx=>?_⟩
  ·have:=ho.1
   simp_all
  ·have e:∀ r u,r < 4 → (rcl t)[r]? = some u → w.cell? ⟨g,i * 4 + r,none⟩ = some u:=by
    intro r u hr hu
    have:=hc (i * 4 + r) u (by rw [wfl_get rcl 4 (fun _=>rfl) _ _ r t hx hr];exact hu)
    rwa [add_none,Nat.zero_add] at this
   exact ⟨e 0 _ (by omega) rfl,e 1 _ (by omega) rfl,e 2 _ (by omega) rfl,e 3 _ (by omega) rfl⟩
theorem recs_tail (g m cap:Nat) (hc:m + 1 ≤ cap):∃ a c,(∀ W,(Instr.slice 149 (.slice (some ⟨g,0,none⟩) (m + 1) cap) (some (.int .i64 1)) none none).run Tryz.prog W = .ok (.slice a m c) W) ∧ (0 < m → a = some ⟨g,4,none⟩):=by
 refine ⟨if cap = 1 then some ⟨g,0,none⟩ else some ⟨g,4,none⟩,cap - 1,fun W=>?_,fun hm=>if_neg (by omega)⟩
 rw [run_slice_l W 149 _ _ _ elemR.1 .i64 _ (by omega) (by omega),elemR.2,sizeR4]
 have e2:Go.sliced (some ⟨g,0,none⟩) 1 (m + 1) cap 4 = .slice (if cap = 1 then some ⟨g,0,none⟩ else some ⟨g,4,none⟩) m (cap - 1):=by
  unfold Go.sliced
  by_cases hp:cap = 1
  ·simp [hp]
  ·simp [hp,add_none]
 simp [Result.andThen,e2]
theorem lst_put {G:Nat → Prop} {base:Nat} {wr w1 w2:World} {lv lv' v1:Value} {vs:List Value} {ps:List (List Int)} {p:List Int} (hr:RdAll G w1 vs ps) (hG:∀ j,G j → j < wr.heap.size) (hd:∀ k,lv.ownBlock = some k → ¬ G k ∧ k < wr.heap.size)
  (r1:Rd w1 v1 p) (hb1:∀ k,v1.ownBlock = some k → wr.heap.size ≤ k ∧ k < w1.heap.size) (hsz:wr.heap.size ≤ w1.heap.size) (o:Obj) (ho2:w2.ownsRow base 74 1 lv' (ps.length + 1) (vs ++ [v1])) (hg:(w1.alloc o).grownBy w2 lv.ownBlock) (hat:lv'.ownBlock = lv.ownBlock ∨ lv'.ownBlock = some (w1.alloc o).heap.size) :
  Lst (fun j=>G j ∨ (wr.heap.size ≤ j ∧ j < w1.heap.size)) base w2 lv' (ps ++ [p]):=by
 have hk:Kept (fun k=>lv.ownBlock = some k) w1 w2:=(Kept.alloc _ w1 o).trans (Kept.grown hg (fun k hk=>hk)) (fun i hi=>.inl hi)
 have hn:∀ k,(G k ∨ (wr.heap.size ≤ k ∧ k < w1.heap.size)) → ¬ lv.ownBlock = some k:=by
  intro k h1 h2
  have:=hd k h2
  rcases h1 with h1 | h1
  ·exact this.1 h1
  ·omega
 refine ⟨vs ++ [v1],by rw [List.length_append];exact ho2,?_,?_⟩
 ·refine RdAll.kept ((hr.mono (fun k hk=>.inl hk)).append ⟨⟨r1,fun _ k hk=>.inr (hb1 k hk)⟩,trivial⟩) hk hn
 ·intro k hk' h1
  rcases hat with e | e
  ·exact hn k h1 (e ▸ hk')
  ·rw [e] at hk'
   simp at hk'
   rcases h1 with h1 | h1
   ·have:=hG k h1
    omega
   ·omega
set_option maxHeartbeats 6400000 in
theorem bt3 {W w w1:World} (h:Below W.heap.size W w) (hb:Below w.heap.size w w1):Below W.heap.size W w1:=h.trans (hb.mono h.size)
theorem ret4 {fn:Func} {a b c d:Tmp} (h:fn.results = #[.tmp a,.tmp b,.tmp c,.tmp d]) (tmps:Array Value) (P:Program) (w:World):(results fn tmps).run P w = .ok (.tuple #[tmps.getD a undef,tmps.getD b undef,tmps.getD c undef,tmps.getD d undef]) w:=by
 simp only [results,h]
 simp
def OpPost (F:Nat → Prop) (w:World) (p n:Nat) (f:Int → List Int) (c:List (Int × List Int)) (nw:Int) (fr en nx ep:Nat) (M:List Rp → Prop) (e:Ending) (w':World):Prop:=
 ∃ (l base:Nat) (F' F1 G:Nat → Prop) (v lv:Value) (sa:Option Addr) (ts:List Rp) (t0:Rp) (rest:List Rp),e = .returned (.tuple #[.pointer (some ⟨l,0,none⟩),.slice sa t0.1.data.length t0.1.data.length,lv,.nilIface]) ∧ ts = t0 :: rest ∧ M ts ∧ Dk F' w' p n (flushed f (c ++ [(((n - 2 + ep % 2:Nat):Int),cellS ep)])) [] (nw + 1) false ∧ Lg w' l p fr en v nx ep ∧ Recs F1 w' v ts ∧ Rd w' (.slice sa t0.1.data.length t0.1.data.length) t0.1.data ∧ Lst G base w' lv (rest.map (·.1.data)) ∧ (∀ k,F' k → F k ∨ w.heap.size ≤ k) ∧ (∀ k,F1 k → w.heap.size ≤ k ∧ ¬ F' k ∧ k ≠ l) ∧ w.heap.size ≤ l ∧ ¬ F' l ∧ Kept F w w'
set_option maxRecDepth 100000 in
set_option maxHeartbeats 51200000 in
theorem op_ok (F:Nat → Prop) (w:World) (p n fr en nx ep:Nat) (f:Int → List Int) (c:List (Int × List Int)) (nw:Int) (M:List Rp → Prop) (hD:Dk F w p n f c nw false) (hn4:4 ≤ n)
  (hnew:Calls Tryz.prog 66 #[.pointer (some ⟨p,0,none⟩)] w fun e w'=>∃ va vc ts FA,e = .returned (.agg #[.int .i64 (fr:Int),.int .i64 (en:Int),.slice va ts.length vc,.int .i64 (nx:Int)]) ∧ Recs FA w' (.slice va ts.length vc) ts ∧ Below w.heap.size w w' ∧ (∀ k,FA k → w.heap.size ≤ k) ∧ M ts)
  (hnep:∀ W va vc ts FA,Below w.heap.size w W → Recs FA W (.slice va ts.length vc) ts → M ts → Calls Tryz.prog 67 #[.pointer (some ⟨p,0,none⟩),.agg #[.int .i64 (fr:Int),.int .i64 (en:Int),.slice va ts.length vc,.int .i64 (nx:Int)]] W fun e w'=>e = .returned (.tuple #[.int .i64 (ep:Int),.nilIface]) ∧ Below W.heap.size W w')
  (hM:∀ ts,M ts → ts ≠ [] ∧ ts.length ≤ 1024) (hep:ep ≤ 1099511627776) (hn2:(n:Int) ≤ 1024) (hcl:c.length ≤ 10000000) (hnw:0 ≤ nw ∧ nw ≤ 10000000) :
  Calls Tryz.prog 45 #[.pointer (some ⟨p,0,none⟩)] w (OpPost F w p n f c nw fr en nx ep M):=by
 obtain ⟨i0,hi,hz0,hz1,hz2⟩:=info_parts Tryz.info74
 have HI:=mkHid (And.intro hi (And.intro hz0 (And.intro hz1 hz2)))
 have HSM:=mkHid (small_is F w p n f c nw false hD)
 rw [show decide ((n:Int) < 4) = false by simp;omega] at HSM
 have HLO:=mkHid (lost_is F w p n f c nw false hD)
 have HNE:=mkHid hnew
 have HNP:=mkHid hnep
 have HD:=mkHid hD
 have HMM:=mkHid hM
 have HM:=mkHid (And.intro hn4 (And.intro hep (And.intro hn2 (And.intro hcl hnw))))
 clear hD hn4 hnew hnep hM hep hn2 hcl hnw hi hz0 hz1 hz2
 go_enter Tryz.func45,Tryz.ntmps45
 go_wp2_with (first
  |(go_at_call 64;refine HSM.out.mono ?_;rintro e w2 ⟨rfl,hw2⟩;rw [hw2];clear hw2)
  |(go_at_call 79;refine HLO.out.mono ?_;rintro e w2 ⟨rfl,hw2⟩;rw [hw2];clear hw2)
  |(go_at_call 66;refine HNE.out.mono ?_;rintro e w3 ⟨va,vc,ts,FA,rfl,hR3,hb3,hf3,hM3⟩;obtain ⟨t0,rest,rfl⟩:=List.exists_cons_of_ne_nil (HMM.out ts hM3).1;obtain ⟨g,cap,he,hcap,hat⟩:=hR3.at (by simp);obtain ⟨rfl,-,rfl⟩:=(by simpa using he:va = some ⟨g,0,none⟩ ∧ True ∧ vc = cap);rw [List.length_cons] at hcap;obtain ⟨ta,tc,hsl,hta⟩:=recs_tail g rest.length vc hcap;have HR3:=mkHid (And.intro hR3 hf3);have HB3:=mkHid hb3;have HMT:=mkHid hM3;have HTA:=mkHid hta;have HAT:=mkHid hat;have hlen:(rest.length:Int) ≤ 1024:=(by have:=(HMM.out _ hM3).2;simp at this;omega);clear hR3 hf3 hb3 hM3 hta hat he hcap;simp only [List.length_cons])
  |(go_at_call 67;refine (HNP.out _ (some ⟨g,0,none⟩) vc (t0 :: rest) FA (HB3.out.alloc HB3.out.size _) (HR3.out.1.below ((Below.refl _ w3).alloc (Nat.le_refl _) _)) HMT.out).mono ?_;rintro e w4 ⟨rfl,hb4⟩;have HB4:=mkHid hb4;clear hb4)
  |(go_at_call 70;have hm:=HM.out;have hbw:Below w.heap.size w w4:=(HB3.out.alloc HB3.out.size _).trans (HB4.out.mono (by have:=HB3.out.size;simp;omega));refine (claim_ok F w4 p n ep f c nw (HD.out.below hbw) hm.1 hm.2.2.1 hm.2.1 (by have:=hm.2.2.2.1;omega) ⟨hm.2.2.2.2.1,by have:=hm.2.2.2.2.2;omega⟩).mono ?_;rintro e w5 ⟨rfl,F5,hD5,hF5,hk5⟩;have HE5:=mkHid (And.intro hD5 (And.intro hF5 hk5));have HBW:=mkHid hbw;have hb6:¬ F w3.heap.size:=(fun e=>by have:=HD.out.1 _ e;have:=HB3.out.size;omega);have HX5:Hid (w5.heap[w3.heap.size]? = some (oA (.int .i64 (fr:Int)) (.int .i64 (en:Int)) (.slice (some ⟨g,0,none⟩) (rest.length + 1) vc) (.int .i64 (nx:Int)))):=mkHid ((hk5.block _ (by have:=HB4.out.size;simp at this;omega) hb6).trans ((HB4.out.block _ (by simp)).trans (heap_alloc_new w3 _)));obtain ⟨x0,x1,x2,x3,_,_,_,_⟩:=four_facts HX5.out;clear hD5 hF5 hk5 hm hbw hb6))
 have HRW:Hid (Recs FA w5 (.slice (some ⟨g,0,none⟩) (rest.length + 1) vc) (t0 :: rest)):=mkHid (((HR3.out.1.below ((Below.refl _ w3).alloc (Nat.le_refl _) _)).below HB4.out).kept HE5.out.2.2 (fun k hk hf=>by have:=HD.out.1 k hf;have:=HR3.out.2 k hk;omega))
 have hgA:g < w5.heap.size:=HRW.out.lt g (HRW.out.row g rfl)
 have HA5:Hid (∀ i t,(t0 :: rest)[i]? = some t → w5.cell? ⟨g,i * 4,none⟩ = some (.int .i64 (t.1.gen:Int)) ∧ w5.cell? ⟨g,i * 4 + 1,none⟩ = some (.int .i64 (t.1.epoch:Int)) ∧ w5.cell? ⟨g,i * 4 + 2,none⟩ = some (.int .i64 (t.1.index:Int)) ∧ w5.cell? ⟨g,i * 4 + 3,none⟩ = some (dv t)):=mkHid (by
  obtain ⟨g',cap',he,_,hat⟩:=HRW.out.at (by simp)
  obtain ⟨rfl,-,-⟩:=(by simpa using he:g = g' ∧ True ∧ vc = cap')
  exact hat)
 clear HAT
 go_loopw [10,45] (fun ov iv wr=>∃ (j:Nat) (G:Nat → Prop),iv = .int .i64 (j:Int) ∧ j ≤ rest.length ∧ Lst G w5.heap.size wr ov ((rest.take j).map (·.1.data)) ∧ Hid (∀ k,G k → w5.heap.size ≤ k ∧ k < wr.heap.size) ∧ Hid (Below w5.heap.size w5 wr)) (fun _ iv _=>rest.length - (intOf iv).toNat)
 case atStart=>exact ⟨0,fun _=>False,rfl,Nat.zero_le _,Lst.nil _ _ _,mkHid (fun _ h=>h.elim),mkHid (Below.refl _ _)⟩
 case round=>
  obtain ⟨j,G,rfl,hj,hL,HG,HB⟩:=hrel
  by_cases hlt:j < rest.length
  ·obtain rfl:=HTA.out (by omega)
   obtain ⟨t,ht⟩:∃ t,rest[j]? = some t:=⟨rest[j],List.getElem?_eq_getElem hlt⟩
   obtain ⟨c0,c1,c2,c3⟩:=HA5.out (j + 1) t (by simpa using ht)
   rw [show (j + 1) * 4 = 4 + j * 4 by omega] at c0 c1 c2 c3
   have d0:=cell_lat HB.out c0
   have d1:=cell_lat HB.out c1
   have d2:=cell_lat HB.out c2
   have d3:=cell_lat HB.out c3
   have HRD:Hid (Rd wr (dv t) t.1.data):=mkHid ((HRW.out.rd t (List.mem_cons_of_mem _ (List.mem_of_getElem? ht))).later HB.out)
   have HOK:Hid (t.1.ok):=mkHid (HRW.out.ok t (List.mem_cons_of_mem _ (List.mem_of_getElem? ht)))
   have hji:(j:Int) < rest.length:=by omega
   have HTK:Hid ((rest.take (j + 1)).map (·.1.data) = (rest.take j).map (·.1.data) ++ [t.1.data]):=mkHid (by rw [List.take_add_one,ht];simp)
   obtain ⟨vs,ho,hra,hd⟩:=hL
   obtain ⟨la,lc,rfl⟩:=own_shape ho
   rw [List.length_map,List.length_take,Nat.min_eq_left hj] at ho hd ⊢
   obtain ⟨q,da,dc⟩:=t
   unfold dv at d3 HRD
   simp only at d0 d1 d2 d3 HRD HOK HTK
   clear c0 c1 c2 c3 ht
   have HV:=mkHid (And.intro ho (And.intro hra hd))
   clear ho hra hd
   obtain ⟨hi,hz0,hz1,hz2⟩:=HI.out
   go_wp2_with (first
    |(go_at_call 80;refine (handed_any _ _ q.data (HRD.out.later ((Below.refl _ wr).alloc (Nat.le_refl _) _)) (by have:=HOK.out.d;omega)).mono ?_;rintro e w7 ⟨ha,rfl,hr7,ho7,hb7⟩;have HR7:=mkHid hr7;have hbA:Below wr.heap.size wr w7:=(((Below.refl _ wr).alloc (Nat.le_refl _) _).trans (hb7.mono (by simp)));have HBA:=mkHid hbA;have HO7:Hid (∀ k,(Value.slice ha q.data.length q.data.length).ownBlock = some k → wr.heap.size ≤ k ∧ k < w7.heap.size):=mkHid (fun k e=>by have:=ho7 k e;simp at this;omega);have ho':=own_late HV.out.1 hbA;have HRA:=mkHid (HV.out.2.1.kept (kept_of_below hbA) (fun k hk hge=>by have:=HG.out k hk;omega));have HDD:Hid (∀ k,(Value.slice la j lc).ownBlock = some k → ¬ G k ∧ k < wr.heap.size):=mkHid (fun k hk=>⟨HV.out.2.2 k hk,(HV.out.1.lt k hk).2⟩);clear hr7 ho7 hb7 hbA)
    |(at_builtin;refine wpList_append_srcV _ rfl (.tmp 49) (.tmp 53) 76 76 rfl w5.heap.size 74 i0 Tryz.underlying76 hi (.slice none 0 0) 24 hz0 rfl hz1 hz2 _ _ _ rfl (ho'.alloc _) _ _ _ rfl (src_oneV w7 _ HR7.out.one) (by unfold maxLen;omega) (by omega) (by have:=HBA.out.size;have:=HB.out.size;simp;omega) ?_;intro v8 w8 ho8 hg8 hat8;have HL8:=mkHid (lst_put HRA.out (fun k hk=>(HG.out k hk).2) HDD.out HR7.out HO7.out HBA.out.size _ (by simpa [Nat.min_eq_left hj] using ho8) hg8 hat8);have HB8:=mkHid (((HB.out.trans (HBA.out.mono HB.out.size)).alloc (by have:=HBA.out.size;have:=HB.out.size;omega) _).grown hg8 (by have:=HBA.out.size;have:=HB.out.size;simp;omega) (fun k hk=>(ho'.lt k hk).1));have HS8:=mkHid hg8.size;clear hg8 hat8 ho8 ho'))
   go_roundw
   case rel=>exact ⟨j + 1,_,by go_num,by omega,by rw [HTK.out];exact HL8.out,mkHid (fun k hk=>by
    have h1:=HBA.out.size
    have h2:=HS8.out
    have h3:=HB.out.size
    simp at h2
    rcases hk with a | a
    ·have:=HG.out k a;omega
    ·omega),HB8⟩
   case measure=>simp [intOf];omega
  ·obtain rfl:j = rest.length:=by omega
   rw [List.take_length] at hL
   obtain ⟨la,lc,rfl⟩:∃ la lc,u10 = .slice la rest.length lc:=by
    obtain ⟨vs,ho,_⟩:=hL
    have:=own_shape ho
    rwa [List.length_map] at this
   have HLS:=mkHid hL
   clear hL
   obtain ⟨b6,hb6⟩:∃ b6,b6 = w3.heap.size:=⟨_,rfl⟩
   rw [← hb6] at HX5 ⊢
   clear hb6
   clear x0 x1 x2 x3
   have HRQ0:Hid (Rd w5 (dv t0) t0.1.data):=mkHid (HRW.out.rd t0 (by simp))
   have HOK:Hid (t0.1.ok):=mkHid (HRW.out.ok t0 (by simp))
   obtain ⟨z0,z1,z2,z3⟩:=HA5.out 0 t0 (by simp)
   obtain ⟨q,da,dc⟩:=t0
   unfold dv at z3 HRQ0
   simp only [Nat.zero_mul,Nat.zero_add] at z3 HRQ0 HOK
   have HB1:Hid (Below w5.heap.size w5 wr.drew):=mkHid HB.out.drew
   have HRQ:Hid (Rd wr.drew (.slice da q.data.length dc) q.data):=mkHid (HRQ0.out.later HB1.out)
   have HW1:Hid (Below wr.heap.size wr wr.drew):=mkHid (Below.refl _ wr).drew
   obtain ⟨x0,x1,x2,x3,_,_,_,_⟩:=four_facts HX5.out
   have y0:=cell_lat HB1.out x0
   have y1:=cell_lat HB1.out x1
   have y2:=cell_lat HB1.out x2
   have y3:=cell_lat HB1.out x3
   have y4:=cell_lat HB1.out z3
   clear x0 x1 x2 x3 z0 z1 z2 z3 HA5
   go_wp2
   refine wp_region_held_drew (S:=fun w'=>w'.cell? ⟨b6,0,none⟩ = some (.int .i64 (fr:Int)) ∧ w'.cell? ⟨b6,1,none⟩ = some (.int .i64 (en:Int)) ∧ w'.cell? ⟨b6,2,none⟩ = some (.slice (some ⟨g,0,none⟩) (rest.length + 1) vc) ∧ w'.cell? ⟨b6,3,none⟩ = some (.int .i64 (nx:Int)) ∧ w'.cell? ⟨g,3,none⟩ = some (.slice da q.data.length dc)) (by kernel_rfl) ⟨y0,y1,y2,y3,y4⟩ (fun hHeld=>?_)
   clear y0 y1 y2 y3 y4
   generalize wr.drew = wr1 at *
   refine wtE 0 56 (.pointer (some ⟨p,0,none⟩)) rfl rfl hHeld ?_
   simp only [List.set_cons_zero,List.set_cons_succ]
   refine wtE 1 57 (.agg #[.int .i64 (fr:Int),.int .i64 (en:Int),.slice (some ⟨g,0,none⟩) (rest.length + 1) vc,.int .i64 (nx:Int)]) rfl rfl hHeld ?_
   simp only [List.set_cons_zero,List.set_cons_succ]
   refine wtE 2 58 (.int .i64 (ep:Int)) rfl rfl hHeld ?_
   simp only [List.set_cons_zero,List.set_cons_succ]
   refine wtE 3 59 (.agg #[.pointer (some ⟨p,0,none⟩),.int .i64 (fr:Int),.int .i64 (en:Int),.slice (some ⟨g,0,none⟩) (rest.length + 1) vc,.int .i64 (nx:Int),.int .i64 (ep:Int)]) rfl rfl hHeld ?_
   simp only [List.set_cons_zero,List.set_cons_succ]
   refine wtE 5 61 (.pointer (some ⟨b6,2,none⟩)) rfl rfl hHeld ?_
   simp only [List.set_cons_zero,List.set_cons_succ]
   refine wtE 6 62 (.slice (some ⟨g,0,none⟩) (rest.length + 1) vc) rfl rfl hHeld ?_
   simp only [List.set_cons_zero,List.set_cons_succ]
   refine wtE 7 63 (.pointer (some ⟨g,0,none⟩)) rfl rfl hHeld ?_
   simp only [List.set_cons_zero,List.set_cons_succ]
   refine wtE 8 64 (.pointer (some ⟨g,3,none⟩)) rfl rfl hHeld ?_
   simp only [List.set_cons_zero,List.set_cons_succ]
   refine wtE 9 65 (.slice da q.data.length dc) rfl rfl hHeld ?_
   simp only [List.set_cons_zero,List.set_cons_succ]
   refine wtE 11 67 (.slice la rest.length lc) rfl rfl hHeld ?_
   simp only [List.set_cons_zero,List.set_cons_succ]
   refine wpAnyH_ready (rs:=[4,10]) (by kernel_rfl) (by simp) (AllReadyH.cons rfl (fun K hK=>?_) (AllReadyH.cons rfl (fun K hK=>?_) AllReadyH.nil))
   ·obtain ⟨w8,hw8⟩:∃ w8,w8 = wr1.alloc (.cells #[.pointer (some ⟨p,0,none⟩),.int .i64 (fr:Int),.int .i64 (en:Int),.slice (some ⟨g,0,none⟩) (rest.length + 1) vc,.int .i64 (nx:Int),.int .i64 (ep:Int)] 159):=⟨_,rfl⟩
    have hb8:Below wr1.heap.size wr1 w8:=by rw [hw8];exact (Below.refl _ _).alloc (Nat.le_refl _) _
    have HX8:Hid (w8.heap[wr1.heap.size]? = some (.cells #[.pointer (some ⟨p,0,none⟩),.int .i64 (fr:Int),.int .i64 (en:Int),.slice (some ⟨g,0,none⟩) (rest.length + 1) vc,.int .i64 (nx:Int),.int .i64 (ep:Int)] 159)):=mkHid (by rw [hw8];exact heap_alloc_new wr1 _)
    have HB8:=mkHid (HB1.out.trans (hb8.mono HB1.out.size))
    have HC8:=mkHid hb8
    obtain ⟨l,hl⟩:∃ l,l = wr1.heap.size:=⟨_,rfl⟩
    have HAB:=mkHid hl
    rw [← hl] at HX8
    go_simp
    rw [← hw8,← hl]
    refine hK.out _ _ ⟨cell_lat hb8 hHeld.1,cell_lat hb8 hHeld.2.1,cell_lat hb8 hHeld.2.2.1,cell_lat hb8 hHeld.2.2.2.1,cell_lat hb8 hHeld.2.2.2.2⟩ (fun hHeld=>?_)
    clear hK K hb8 hw8 hl
    (try simp only [Act.put])
    refine wpAnyH_ready (rs:=[10]) (by kernel_rfl) (by simp) (AllReadyH.cons rfl (fun K hK=>?_) AllReadyH.nil)
    go_simp
    refine (handed_any w8 _ q.data (HRQ.out.later HC8.out) (by have:=HOK.out.d;omega)).mono ?_
    rintro e w9 ⟨sa,rfl,hr9,ho9,hb9⟩
    have HR9:=mkHid (And.intro hr9 ho9)
    have HC9:=mkHid hb9
    have HB9:=mkHid (HB8.out.trans (hb9.mono HB8.out.size))
    refine hK.out _ _ ⟨cell_lat hb9 hHeld.1,cell_lat hb9 hHeld.2.1,cell_lat hb9 hHeld.2.2.1,cell_lat hb9 hHeld.2.2.2.1,cell_lat hb9 hHeld.2.2.2.2⟩ (fun hHeld=>?_)
    clear hK K hr9 ho9 hb9
    (try simp only [Act.put])
    refine wtE 12 2 (.pointer (some ⟨l,0,none⟩)) rfl rfl hHeld ?_
    simp only [List.set_cons_zero,List.set_cons_succ]
    refine wtE 13 3 (.slice sa q.data.length q.data.length) rfl rfl hHeld ?_
    simp only [List.set_cons_zero,List.set_cons_succ]
    refine wtE 14 4 (.slice la rest.length lc) rfl rfl hHeld ?_
    simp only [List.set_cons_zero,List.set_cons_succ]
    refine wtE 15 5 (.nilIface) rfl rfl hHeld ?_
    simp only [List.set_cons_zero,List.set_cons_succ]
    refine wpAnyH_done (by kernel_rfl) ?_ _
    clear hHeld
    go_wp2
    have hF5:∀ k,F5 k → F k ∨ w.heap.size ≤ k:=fun k hk=>by
     rcases HE5.out.2.1 k hk with a | a
     ·exact .inl a
     ·have:=HBW.out.size;exact .inr (by omega)
    have h5w:w.heap.size ≤ w5.heap.size:=Nat.le_trans HBW.out.size HE5.out.2.2.size
    have hwl:w5.heap.size ≤ l:=by have:=HAB.out;have:=HB1.out.size;omega
    have hk5:Kept F w w5:=(⟨HBW.out.os,HBW.out.tape,HBW.out.output,HBW.out.size,fun k hk _=>HBW.out.block k hk⟩:Kept F w w4).trans HE5.out.2.2 (fun k e=>.inl e)
    have hkf:Kept F w w9:=hk5.trans (kept_below F HB9.out) (fun k e=>.inl e)
    have hrf:=HRW.out.below HB9.out
    have hlst:Lst G w5.heap.size w9 (.slice la rest.length lc) (rest.map (·.1.data)):=HLS.out.kept (kept_of_below (bt3 (bt3 HW1.out HC8.out) HC9.out)) (fun k hk hge=>by have:=HG.out k hk;omega) (fun k hk hge=>by obtain ⟨vs,ho,_⟩:=HLS.out;have:=ho.lt k hk;omega)
    refine bodyPost_ret (ret4 Tryz.results45 _ _ _) rfl ⟨l,w5.heap.size,F5,FA,G,_,_,sa,_,(q,da,dc),rest,rfl,rfl,HMT.out,HE5.out.1.below HB9.out,(HC9.out.block l (wlt_of_heap HX8.out)).trans HX8.out,hrf,HR9.out.1,hlst,hF5,fun k hk=>⟨HR3.out.2 k hk,fun hf=>?_,?_⟩,by omega,fun hf=>by have:=HE5.out.1.1 l hf;omega,hkf⟩
    ·rcases HE5.out.2.1 k hf with a | a
     ·have:=HD.out.1 k a;have:=HR3.out.2 k hk;omega
     ·have h1:=HR3.out.1.lt k hk
      have h2:=HB4.out.size
      simp at h2
      omega
    ·have h1:=HRW.out.lt k hk
     omega
   ·go_simp
    refine (handed_any wr1 _ q.data HRQ.out (by have:=HOK.out.d;omega)).mono ?_
    rintro e w8 ⟨sa,rfl,hr8,ho8,hb8⟩
    have HR8:=mkHid (And.intro hr8 ho8)
    have HC8:=mkHid hb8
    have HB8:=mkHid (HB1.out.trans (hb8.mono HB1.out.size))
    refine hK.out _ _ ⟨cell_lat hb8 hHeld.1,cell_lat hb8 hHeld.2.1,cell_lat hb8 hHeld.2.2.1,cell_lat hb8 hHeld.2.2.2.1,cell_lat hb8 hHeld.2.2.2.2⟩ (fun hHeld=>?_)
    clear hK K hr8 ho8 hb8
    (try simp only [Act.put])
    refine wpAnyH_ready (rs:=[4]) (by kernel_rfl) (by simp) (AllReadyH.cons rfl (fun K hK=>?_) AllReadyH.nil)
    obtain ⟨w9,hw9⟩:∃ w9,w9 = w8.alloc (.cells #[.pointer (some ⟨p,0,none⟩),.int .i64 (fr:Int),.int .i64 (en:Int),.slice (some ⟨g,0,none⟩) (rest.length + 1) vc,.int .i64 (nx:Int),.int .i64 (ep:Int)] 159):=⟨_,rfl⟩
    have hb9:Below w8.heap.size w8 w9:=by rw [hw9];exact (Below.refl _ _).alloc (Nat.le_refl _) _
    have HX9:Hid (w9.heap[w8.heap.size]? = some (.cells #[.pointer (some ⟨p,0,none⟩),.int .i64 (fr:Int),.int .i64 (en:Int),.slice (some ⟨g,0,none⟩) (rest.length + 1) vc,.int .i64 (nx:Int),.int .i64 (ep:Int)] 159)):=mkHid (by rw [hw9];exact heap_alloc_new w8 _)
    have HB9:=mkHid (HB8.out.trans (hb9.mono HB8.out.size))
    have HC9:=mkHid hb9
    obtain ⟨l,hl⟩:∃ l,l = w8.heap.size:=⟨_,rfl⟩
    have HAB:=mkHid hl
    rw [← hl] at HX9
    go_simp
    rw [← hw9,← hl]
    refine hK.out _ _ ⟨cell_lat hb9 hHeld.1,cell_lat hb9 hHeld.2.1,cell_lat hb9 hHeld.2.2.1,cell_lat hb9 hHeld.2.2.2.1,cell_lat hb9 hHeld.2.2.2.2⟩ (fun hHeld=>?_)
    clear hK K hb9 hw9 hl
    (try simp only [Act.put])
    refine wtE 12 2 (.pointer (some ⟨l,0,none⟩)) rfl rfl hHeld ?_
    simp only [List.set_cons_zero,List.set_cons_succ]
    refine wtE 13 3 (.slice sa q.data.length q.data.length) rfl rfl hHeld ?_
    simp only [List.set_cons_zero,List.set_cons_succ]
    refine wtE 14 4 (.slice la rest.length lc) rfl rfl hHeld ?_
    simp only [List.set_cons_zero,List.set_cons_succ]
    refine wtE 15 5 (.nilIface) rfl rfl hHeld ?_
    simp only [List.set_cons_zero,List.set_cons_succ]
    refine wpAnyH_done (by kernel_rfl) ?_ _
    clear hHeld
    go_wp2
    have hF5:∀ k,F5 k → F k ∨ w.heap.size ≤ k:=fun k hk=>by
     rcases HE5.out.2.1 k hk with a | a
     ·exact .inl a
     ·have:=HBW.out.size;exact .inr (by omega)
    have h5w:w.heap.size ≤ w5.heap.size:=Nat.le_trans HBW.out.size HE5.out.2.2.size
    have hwl:w5.heap.size ≤ l:=by have:=HAB.out;have:=HB8.out.size;omega
    have hk5:Kept F w w5:=(⟨HBW.out.os,HBW.out.tape,HBW.out.output,HBW.out.size,fun k hk _=>HBW.out.block k hk⟩:Kept F w w4).trans HE5.out.2.2 (fun k e=>.inl e)
    have hkf:Kept F w w9:=hk5.trans (kept_below F HB9.out) (fun k e=>.inl e)
    have hrf:=HRW.out.below HB9.out
    have hlst:Lst G w5.heap.size w9 (.slice la rest.length lc) (rest.map (·.1.data)):=HLS.out.kept (kept_of_below (bt3 (bt3 HW1.out HC8.out) HC9.out)) (fun k hk hge=>by have:=HG.out k hk;omega) (fun k hk hge=>by obtain ⟨vs,ho,_⟩:=HLS.out;have:=ho.lt k hk;omega)
    refine bodyPost_ret (ret4 Tryz.results45 _ _ _) rfl ⟨l,w5.heap.size,F5,FA,G,_,_,sa,_,(q,da,dc),rest,rfl,rfl,HMT.out,HE5.out.1.below HB9.out,HX9.out,hrf,HR8.out.1.later HC9.out,hlst,hF5,fun k hk=>⟨HR3.out.2 k hk,fun hf=>?_,?_⟩,by omega,fun hf=>by have:=HE5.out.1.1 l hf;omega,hkf⟩
    ·rcases HE5.out.2.1 k hf with a | a
     ·have:=HD.out.1 k a;have:=HR3.out.2 k hk;omega
     ·have h1:=HR3.out.1.lt k hk
      have h2:=HB4.out.size
      simp at h2
      omega
    ·have h1:=HRW.out.lt k hk
     omega
end Go.Proofs.YtihdkgekickohaaGreatDoor
