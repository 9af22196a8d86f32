import Derived.Test.YtihdkgekickohaaGreatDoorWeX
namespace Go.Proofs.YtihdkgekickohaaGreatDoor
open Go.ChangeShapes Go.WideShapes Go.ChangeAt Go.RowKit
set_option maxRecDepth 100000
def FmPost (F:Nat → Prop) (w:World) (p n:Nat) (f:Int → List Int) (c:List (Int × List Int)) (nw:Int) (fr2 en2 NX ep:Nat) (r:Rc) (e:Ending) (w':World):Prop:=
 ∃ (l:Nat) (F' F1:Nat → Prop) (v':Value) (da:Option Addr) (dc:Nat),e = .returned (.tuple #[.pointer (some ⟨l,0,none⟩),.nilIface]) ∧ Dk F' w' p n (flushed (flushed f (c ++ [(((n - 2 + ep % 2:Nat):Int),cellS ep)])) ([] ++ writesOf (frm r) (fr2:Int) (npc (frm r).length))) [] (nw + 1 + (npc (frm r).length:Int)) false ∧ Lg w' l p fr2 en2 v' NX ep ∧ Recs F1 w' v' [(r,da,dc)] ∧ (∀ k,F' k → F k ∨ w.heap.size ≤ k) ∧ (∀ k,F1 k → w.heap.size ≤ k ∧ ¬ F' k ∧ k ≠ l) ∧ w.heap.size ≤ l ∧ ¬ F' l ∧ Kept F w w'
set_option maxRecDepth 100000 in
set_option maxHeartbeats 51200000 in
theorem fm_ok (F:Nat → Prop) (w:World) (p n fr en nx fr2 en2 g1 ep:Nat) (f:Int → List Int) (c:List (Int × List Int)) (nw:Int) (ba:Option Addr) (bc:Nat) (data:List Int) (M:List Rp → Prop) (hD:Dk F w p n f c nw false) (hn4:4 ≤ n) (hrd:Rd w (.slice ba data.length bc) data) (hd:data.length ≤ 32000)
  (hnew:Calls Tryz.prog 66 #[.pointer (some ⟨p,0,none⟩)] w fun e w'=>∃ va vc ts FA,e = .returned (.agg #[.int .i64 (fr:Int),.int .i64 (en:Int),.slice va ts.length vc,.int .i64 (nx:Int)]) ∧ Recs FA w' (.slice va ts.length vc) ts ∧ Below w.heap.size w w' ∧ M ts)
  (hnep:∀ W va vc ts FA,Below w.heap.size w W → Recs FA W (.slice va ts.length vc) ts → M ts → Calls Tryz.prog 67 #[.pointer (some ⟨p,0,none⟩),.agg #[.int .i64 (fr:Int),.int .i64 (en:Int),.slice va ts.length vc,.int .i64 (nx:Int)]] W fun e w'=>e = .returned (.tuple #[.int .i64 (ep:Int),.nilIface]) ∧ Below W.heap.size W w')
  (han:∀ W va vc ts FA da dc,Below w.heap.size w W → Recs FA W (.slice va ts.length vc) ts → M ts → Rd W (.slice da data.length dc) data → (∀ k,(Value.slice da data.length dc).ownBlock = some k → k < W.heap.size) → Calls Tryz.prog 68 #[.agg #[.int .i64 (fr:Int),.int .i64 (en:Int),.slice va ts.length vc,.int .i64 (nx:Int)],.int .i64 (ep:Int),.slice da data.length dc] W (AnewPost W fr2 en2 ((⟨g1,ep,0,data⟩:Rc),da,dc)))
  (hep:ep ≤ 1099511627776) (hfit:fr2 + npc (frm (⟨g1,ep,0,data⟩:Rc)).length ≤ n) (hfl:((frm (⟨g1,ep,0,data⟩:Rc)).length:Int) ≤ 1000000) (hn2:(n:Int) ≤ 1024) (hcl:c.length ≤ 10000000) (hnw:0 ≤ nw ∧ nw ≤ 10000000) (NX:Nat) (hNX:NX = fr2 + npc (frm (⟨g1,ep,0,data⟩:Rc)).length) :
  Calls Tryz.prog 39 #[.pointer (some ⟨p,0,none⟩),.slice ba data.length bc] w (FmPost F w p n f c nw fr2 en2 NX ep (⟨g1,ep,0,data⟩:Rc)):=by
 have HSM:=mkHid (small_is F w p n f c nw false hD)
 rw [show decide ((n:Int) < 4) = false by simp;omega] at HSM
 have HW:=mkHid (wref_ok F w p n f c nw ba data.length bc hD (by omega))
 have HNE:=mkHid hnew
 have HNP:=mkHid hnep
 have HAN:=mkHid han
 have HRD:=mkHid hrd
 have HDL:=mkHid hd
 have HD:=mkHid hD
 have hnx:(fr2:Int) + (npc (frm (⟨g1,ep,0,data⟩:Rc)).length:Int) = (NX:Int):=by omega
 have HM:=mkHid (And.intro hn4 (And.intro hep (And.intro hfit (And.intro hfl (And.intro hn2 (And.intro hcl hnw))))))
 clear hD hn4 hrd hd hnew hnep han hep hfit hfl hn2 hcl hnw hNX
 go_enter Tryz.func39,Tryz.ntmps39
 go_wp2_with (first | (go_at_call 64;refine HSM.out.mono ?_;rintro e w2 ⟨rfl,hw2⟩;rw [hw2];clear hw2) | (go_at_call 65;refine HW.out.mono ?_;rintro e w2 ⟨rfl,hw2⟩;rw [hw2];clear hw2) | (go_at_call 66;refine HNE.out.mono ?_;rintro e w3 ⟨va,vc,ts,FA,rfl,hR3,hb3,hM3⟩;have HR3:=mkHid hR3;have HB3:=mkHid hb3;have HMT:=mkHid hM3;clear hR3 hb3 hM3) | (go_at_call 67;refine (HNP.out _ va vc ts FA (HB3.out.alloc HB3.out.size _) (HR3.out.below ((Below.refl _ w3).alloc (Nat.le_refl _) _)) HMT.out).mono ?_;rintro e w4 ⟨rfl,hb4⟩;have HB4:=mkHid hb4;clear hb4))
 obtain ⟨b7,hb7⟩:∃ b7,b7 = w3.heap.size:=⟨_,rfl⟩
 have HB0:Hid (Below w.heap.size w w4.drew):=mkHid ((HB3.out.alloc HB3.out.size _).trans (HB4.out.mono (by have:=HB3.out.size;simp;omega))).drew
 have HX0:Hid (w4.drew.heap[b7]? = some (oA (.int .i64 (fr:Int)) (.int .i64 (en:Int)) (.slice va ts.length vc) (.int .i64 (nx:Int)))):=mkHid (by rw [hb7];exact (HB4.out.block _ (by simp)).trans (heap_alloc_new w3 _))
 have HB7:Hid (w.heap.size ≤ b7):=mkHid (by rw [hb7];exact HB3.out.size)
 have HR1:Hid (Recs FA w4.drew (.slice va ts.length vc) ts):=mkHid (((HR3.out.below ((Below.refl _ w3).alloc (Nat.le_refl _) _)).below HB4.out).below (Below.refl _ _).drew)
 rw [← hb7]
 clear hb7
 obtain ⟨a0,a1,a2,a3,_,_,_,_⟩:=four_facts HX0.out
 refine wp_region_held_drew (S:=fun w'=>w'.cell? ⟨b7,0,none⟩ = some (.int .i64 (fr:Int)) ∧ w'.cell? ⟨b7,1,none⟩ = some (.int .i64 (en:Int)) ∧ w'.cell? ⟨b7,2,none⟩ = some (.slice va ts.length vc) ∧ w'.cell? ⟨b7,3,none⟩ = some (.int .i64 (nx:Int))) (by kernel_rfl) ⟨a0,a1,a2,a3⟩ (fun hHeld=>?_)
 clear a0 a1 a2 a3
 have HB1:=HB0
 clear HB4
 generalize w4.drew = w1 at *
 refine wtE 0 36 (.agg #[.int .i64 (fr:Int),.int .i64 (en:Int),.slice va ts.length vc,.int .i64 (nx:Int)]) rfl rfl hHeld ?_
 simp only [List.set_cons_zero,List.set_cons_succ]
 refine wtE 1 37 (.int .i64 (ep:Int)) rfl rfl hHeld ?_
 simp only [List.set_cons_zero,List.set_cons_succ]
 refine wtE 2 38 (.slice ba data.length bc) rfl rfl hHeld ?_
 simp only [List.set_cons_zero,List.set_cons_succ]
 refine wpAnyH_ready (rs:=[3,9]) (by kernel_rfl) (by simp) (AllReadyH.cons rfl (fun K hK=>?_) (AllReadyH.cons rfl (fun K hK=>?_) AllReadyH.nil))
 ·go_simp
  refine (clone_any w1 _ data (HRD.out.later HB1.out) (by have:=HDL.out;omega)).mono ?_
  rintro e w3 ⟨v3,rfl,ho3,b3⟩
  obtain ⟨da,dc,rfl⟩:=own_shape ho3
  have HO3:=mkHid ho3
  have HC3:=mkHid b3
  have HB3:=mkHid (HB1.out.trans (b3.mono HB1.out.size))
  refine hK.out _ _ ⟨cell_lat b3 hHeld.1,cell_lat b3 hHeld.2.1,cell_lat b3 hHeld.2.2.1,cell_lat b3 hHeld.2.2.2⟩ (fun hHeld=>?_)
  clear hK K b3 ho3
  refine wpAnyH_ready (rs:=[4,9]) (by kernel_rfl) (by simp) (AllReadyH.cons rfl (fun K hK=>?_) (AllReadyH.cons rfl (fun K hK=>?_) AllReadyH.nil))
  ·go_simp
   refine (HAN.out w3 va vc ts FA da dc HB3.out (HR1.out.below HC3.out) HMT.out (Rd.of_owns HRD.out.1 HO3.out) (fun k e=>(HO3.out.lt k e).2)).mono ?_
   rintro e w4 ⟨v4,z4,F4,rfl,hR4,hF4,hz4,hzo4,hb4⟩
   obtain ⟨xa,xc,rfl⟩:=hR4.shape
   obtain ⟨za,zc,rfl⟩:∃ a c,z4 = .slice a (frm (⟨g1,ep,0,data⟩:Rc)).length c:=hz4.2.imp fun a h=>h.imp fun c h=>h.1
   simp only [List.length_singleton]
   rw [hnx]
   have HP4:=mkHid (And.intro hR4 (And.intro hF4 (And.intro hz4 hzo4)))
   have HC4:=mkHid hb4
   have HB4:=mkHid (HB3.out.trans (hb4.mono HB3.out.size))
   refine hK.out _ _ ⟨cell_lat hb4 hHeld.1,cell_lat hb4 hHeld.2.1,cell_lat hb4 hHeld.2.2.1,cell_lat hb4 hHeld.2.2.2⟩ (fun hHeld=>?_)
   clear hK K hR4 hF4 hz4 hzo4 hb4
   (try simp only [Act.put])
   refine wtE 5 35 (.tuple #[.agg #[.int .i64 (fr2:Int),.int .i64 (en2:Int),.slice xa 1 xc,.int .i64 (NX:Int)],.slice za (frm (⟨g1,ep,0,data⟩:Rc)).length zc,.nilIface]) rfl rfl hHeld ?_
   simp only [List.set_cons_zero,List.set_cons_succ]
   refine wtE 6 41 (.agg #[.int .i64 (fr2:Int),.int .i64 (en2:Int),.slice xa 1 xc,.int .i64 (NX:Int)]) rfl rfl hHeld ?_
   simp only [List.set_cons_zero,List.set_cons_succ]
   refine wtE 7 42 (.slice za (frm (⟨g1,ep,0,data⟩:Rc)).length zc) rfl rfl hHeld ?_
   simp only [List.set_cons_zero,List.set_cons_succ]
   refine wtE 8 43 (.nilIface) rfl rfl hHeld ?_
   simp only [List.set_cons_zero,List.set_cons_succ]
   refine wpAnyH_ready (rs:=[9]) (by kernel_rfl) (by simp) (AllReadyH.cons rfl (fun K hK=>?_) AllReadyH.nil)
   obtain ⟨w5,hw5⟩:∃ w5,w5 = w4.alloc oAZ:=⟨_,rfl⟩
   have hb5:Below w4.heap.size w4 w5:=by rw [hw5];exact (Below.refl _ _).alloc (Nat.le_refl _) _
   have HX5:Hid (w5.heap[w4.heap.size]? = some oAZ):=mkHid (by rw [hw5];exact heap_alloc_new w4 _)
   have HB5:=mkHid (HB4.out.trans (hb5.mono HB4.out.size))
   have HC5:=mkHid hb5
   obtain ⟨ab,hab⟩:∃ ab,ab = w4.heap.size:=⟨_,rfl⟩
   have HAB:=mkHid hab
   rw [← hab] at HX5
   go_simp
   rw [← hw5,← hab]
   refine hK.out _ _ ⟨cell_lat hb5 hHeld.1,cell_lat hb5 hHeld.2.1,cell_lat hb5 hHeld.2.2.1,cell_lat hb5 hHeld.2.2.2⟩ (fun hHeld=>?_)
   clear hK K hb5 hw5 hab
   (try simp only [Act.put])
   have HCK:Hid (CK w w5 ab _ (.slice xa 1 xc) (.slice za (frm (⟨g1,ep,0,data⟩:Rc)).length zc) ((⟨g1,ep,0,data⟩:Rc),da,dc)):=mkHid (by
    have hs1:=HB1.out.size
    have hq:∀ k,F4 k → w.heap.size ≤ k ∧ k ≠ ab:=fun k hk=>by
     have hl:=HP4.out.1.lt k hk
     have hab:=HAB.out
     rcases HP4.out.2.1 k hk with a | a
     ·have:=HO3.out.lt k a;have:=HC3.out.size;have:=HC4.out.size;omega
     ·have:=HC3.out.size;have:=HC4.out.size;omega
    have hz:∀ k,(.slice za (frm (⟨g1,ep,0,data⟩:Rc)).length zc:Value).ownBlock = some k → w.heap.size ≤ k ∧ k < w4.heap.size ∧ k ≠ ab:=fun k e=>by
     have h1:=HP4.out.2.2.2 k e
     have hab:=HAB.out
     have:=HC3.out.size;have:=HC4.out.size;omega
    exact ⟨HB5.out,HX5.out,by have:=HAB.out;have:=HB4.out.size;omega,HP4.out.1.below HC5.out,hq,HP4.out.2.2.1.later HC5.out,fun k e=>⟨(hz k e).1,Nat.lt_of_lt_of_le (hz k e).2.1 HC5.out.size,(hz k e).2.2⟩⟩)
   obtain ⟨c0,c1,c2,c3,fc0,fc1,fc2,fc3⟩:=azero_facts HCK.out.box
   have hbab:¬ b7 = ab:=by have:=wlt_of_heap HX0.out;have:=HAB.out;have:=HC3.out.size;have:=HC4.out.size;omega
   refine wpAnyH_ready (rs:=[10]) (by kernel_rfl) (by simp) (AllReadyH.cons rfl (fun K hK=>?_) AllReadyH.nil)
   go_simp
   have HK7:=mkHid (kept_four (F:=fun k=>k = ab) (R:=ab) (Kept.refl _ w5) rfl (.int .i64 (fr2:Int)) (.int .i64 (en2:Int)) (.slice xa 1 xc) (.int .i64 (NX:Int)))
   have HX7:=mkHid (afour_leaves HCK.out.box (.int .i64 (fr2:Int)) (.int .i64 (en2:Int)) (.slice xa 1 xc) (.int .i64 (NX:Int)))
   have HY7:=mkHid (And.intro (HK7.out.cell hHeld.1 hbab) (And.intro (HK7.out.cell hHeld.2.1 hbab) (And.intro (HK7.out.cell hHeld.2.2.1 hbab) (HK7.out.cell hHeld.2.2.2 hbab))))
   refine hK.out _ _ HY7.out (fun hHeld=>?_)
   clear hK K
   (try simp only [Act.put])
   refine wtE 11 11 (.slice za (frm (⟨g1,ep,0,data⟩:Rc)).length zc) rfl rfl hHeld ?_
   simp only [List.set_cons_zero,List.set_cons_succ]
   refine wtE 12 9 (.nilIface) rfl rfl hHeld ?_
   simp only [List.set_cons_zero,List.set_cons_succ]
   refine wpAnyH_done (by kernel_rfl) ?_ _
   clear hHeld c0 c1 c2 c3 fc0 fc1 fc2 fc3
   generalize ((((w5.setCell ⟨ab,0,none⟩ (.int .i64 (fr2:Int))).setCell ⟨ab,1,none⟩ (.int .i64 (en2:Int))).setCell ⟨ab,2,none⟩ (.slice xa 1 xc)).setCell ⟨ab,3,none⟩ (.int .i64 (NX:Int))) = w7 at *
   have HBW:Hid (Below w.heap.size w w7):=mkHid (HCK.out.bel.trans (HK7.out.below (fun k e=>by have:=HCK.out.hab;omega) HCK.out.bel.size))
   have hm:=HM.out
   have HCL:=mkHid (claim_ok F w7 p n ep f c nw (HD.out.below HBW.out) hm.1 hm.2.2.2.2.1 hm.2.1 (by have:=hm.2.2.2.2.2.1;omega) ⟨hm.2.2.2.2.2.2.1,by have:=hm.2.2.2.2.2.2.2;omega⟩)
   have HRZ:=mkHid (And.intro (HCK.out.recs.kept HK7.out (fun k hk e=>(HCK.out.ge k hk).2 e)) (HCK.out.rd.kept HK7.out (fun k e e2=>(HCK.out.zo k e).2.2 e2)))
   have hnF:Hid (∀ k,w.heap.size ≤ k → ¬ F k):=mkHid (fun k hk hf=>by have:=HD.out.1 k hf;omega)
   clear hm
   go_wp2_with (first
    |(go_at_call 70;refine HCL.out.mono ?_;rintro e w8 ⟨rfl,F8,hD8,hF8,hk8⟩;have HE8:=mkHid (And.intro hD8 (And.intro hF8 hk8));have nb:=hnF.out b7 HB7.out;have na:=hnF.out ab HCK.out.hab;have y0:=hk8.cell (a:=⟨b7,0,none⟩) HY7.out.1 nb;have y1:=hk8.cell (a:=⟨b7,1,none⟩) HY7.out.2.1 nb;have y2:=hk8.cell (a:=⟨b7,2,none⟩) HY7.out.2.2.1 nb;have y3:=hk8.cell (a:=⟨b7,3,none⟩) HY7.out.2.2.2 nb;have HX8:Hid (w8.heap[ab]? = some (oA (.int .i64 (fr2:Int)) (.int .i64 (en2:Int)) (.slice xa 1 xc) (.int .i64 (NX:Int)))):=mkHid ((hk8.block ab (wlt_of_heap HX7.out) na).trans HX7.out);have q0:∀ o,(w8.alloc o).cell? ⟨ab,0,none⟩ = some (.int .i64 (fr2:Int)):=(fun o=>cell_lat ((Below.refl _ w8).alloc (Nat.le_refl _) o) (four_facts HX8.out).1);have q1:∀ o,(w8.alloc o).cell? ⟨ab,1,none⟩ = some (.int .i64 (en2:Int)):=(fun o=>cell_lat ((Below.refl _ w8).alloc (Nat.le_refl _) o) (four_facts HX8.out).2.1);have q2:∀ o,(w8.alloc o).cell? ⟨ab,2,none⟩ = some (.slice xa 1 xc):=(fun o=>cell_lat ((Below.refl _ w8).alloc (Nat.le_refl _) o) (four_facts HX8.out).2.2.1);have q3:∀ o,(w8.alloc o).cell? ⟨ab,3,none⟩ = some (.int .i64 (NX:Int)):=(fun o=>cell_lat ((Below.refl _ w8).alloc (Nat.le_refl _) o) (four_facts HX8.out).2.2.2.1);clear hD8 hF8 hk8 nb na)
    |(go_at_call 71;have hm:=HM.out;have hs8:=HE8.out.2.2.size;have hlF8:¬ F8 w8.heap.size:=(fun e=>by have:=HE8.out.1.1 _ e;omega);refine (moveTo_ok F8 _ w8.heap.size p n _ [] (nw + 1) fr en nx ep fr2 en2 NX (.slice va ts.length vc) xa 1 xc (.slice za (frm (⟨g1,ep,0,data⟩:Rc)).length zc) (frm (⟨g1,ep,0,data⟩:Rc)) (HE8.out.1.below ((Below.refl _ w8).alloc (Nat.le_refl _) _)) (heap_alloc_new w8 _) hlF8 ((HRZ.out.2.kept HE8.out.2.2 (fun k e hf=>hnF.out k (HCK.out.zo k e).1 hf)).later ((Below.refl _ w8).alloc (Nat.le_refl _) _)) (fun k e hf=>by rcases HE8.out.2.1 k hf with a | a;exact hnF.out k (HCK.out.zo k e).1 a;(have h1:=(HCK.out.zo k e).2.1;have h2:=HK7.out.size;omega)) (fun k e=>by have h1:=(HCK.out.zo k e).2.1;have h2:=HK7.out.size;simp;omega) hm.2.2.1 hm.2.2.2.1 hm.2.2.2.2.1 (by simp) ⟨by have:=hm.2.2.2.2.2.2.1;omega,by have:=hm.2.2.2.2.2.2.2;omega⟩).mono ?_;rintro e w9 ⟨rfl,F9,hD9,hL9,hF9,hk9⟩;have HE9:=mkHid (And.intro hD9 (And.intro hL9 (And.intro hF9 hk9)));have HLF:=mkHid hlF8;clear hD9 hL9 hF9 hk9 hm hs8 hlF8 q0 q1 q2 q3))
   go_ret2
   have hs7:=HBW.out.size
   have hs8:=HE8.out.2.2.size
   have ba8:Below w8.heap.size w8 (w8.alloc (.cells #[.pointer (some ⟨p,0,none⟩),.int .i64 (fr:Int),.int .i64 (en:Int),.slice va ts.length vc,.int .i64 (nx:Int),.int .i64 (ep:Int)] 159)):=(Below.refl _ w8).alloc (Nat.le_refl _) _
   have hF8:∀ k,F8 k → F k ∨ w.heap.size ≤ k:=fun k hk=>by
    rcases HE8.out.2.1 k hk with a | a
    ·exact .inl a
    ·exact .inr (by omega)
   have hF9:∀ k,F9 k → F8 k ∨ w8.heap.size + 1 ≤ k:=fun k hk=>by
    rcases HE9.out.2.2.1 k hk with a | a
    ·exact .inl a
    ·exact .inr (by simpa using a)
   have hF9w:∀ k,F9 k → F k ∨ w.heap.size ≤ k:=fun k hk=>by
    rcases hF9 k hk with a | a
    ·exact hF8 k a
    ·exact .inr (by omega)
   have hr8:=HRZ.out.1.kept HE8.out.2.2 (fun k hk hf=>hnF.out k (HCK.out.ge k hk).1 hf)
   have hlt7:∀ k,_ → k < w7.heap.size:=HRZ.out.1.lt
   have hr9:=(hr8.below ba8).kept HE9.out.2.2.2 (fun k hk e=>by
    have h1:=hlt7 k hk
    rcases e with a | a
    ·rcases HE8.out.2.1 k a with b | b
     ·exact hnF.out k (HCK.out.ge k hk).1 b
     ·omega
    ·omega)
   have kW:Kept F w w7:=⟨HBW.out.os,HBW.out.tape,HBW.out.output,HBW.out.size,fun k hk _=>HBW.out.block k hk⟩
   have k8:Kept F w w8:=kW.trans HE8.out.2.2 (fun k e=>.inl e)
   have k8a:Kept F w (w8.alloc (.cells #[.pointer (some ⟨p,0,none⟩),.int .i64 (fr:Int),.int .i64 (en:Int),.slice va ts.length vc,.int .i64 (nx:Int),.int .i64 (ep:Int)] 159)):=k8.trans (kept_below F ba8) (fun k e=>.inl e)
   have k9:Kept F w w9:=k8a.trans HE9.out.2.2.2 (fun k e=>by
    rcases e with a | a
    ·exact hF8 k a
    ·exact .inr (by omega))
   refine ⟨w8.heap.size,F9,_,_,da,dc,rfl,HE9.out.1,HE9.out.2.1,hr9,hF9w,fun k hk=>⟨(HCK.out.ge k hk).1,fun hf=>?_,fun e=>?_⟩,by omega,fun hf=>?_,k9⟩
   ·have h1:=hlt7 k hk
    rcases hF9 k hf with a | a
    ·rcases HE8.out.2.1 k a with b | b
     ·exact hnF.out k (HCK.out.ge k hk).1 b
     ·omega
    ·omega
   ·have h1:=hlt7 k hk
    omega
   ·rcases hF9 _ hf with a | a
    ·exact HLF.out a
    ·omega
  ·obtain ⟨w4,hw4⟩:∃ w4,w4 = w3.alloc oAZ:=⟨_,rfl⟩
   have hb4:Below w3.heap.size w3 w4:=by rw [hw4];exact (Below.refl _ _).alloc (Nat.le_refl _) _
   have HX4:Hid (w4.heap[w3.heap.size]? = some oAZ):=mkHid (by rw [hw4];exact heap_alloc_new w3 _)
   have HB4:=mkHid (HB3.out.trans (hb4.mono HB3.out.size))
   have HC4:=mkHid hb4
   obtain ⟨ab,hab⟩:∃ ab,ab = w3.heap.size:=⟨_,rfl⟩
   have HAB:=mkHid hab
   rw [← hab] at HX4
   go_simp
   rw [← hw4,← hab]
   refine hK.out _ _ ⟨cell_lat hb4 hHeld.1,cell_lat hb4 hHeld.2.1,cell_lat hb4 hHeld.2.2.1,cell_lat hb4 hHeld.2.2.2⟩ (fun hHeld=>?_)
   clear hK K hb4 hw4 hab
   (try simp only [Act.put])
   refine wpAnyH_ready (rs:=[4]) (by kernel_rfl) (by simp) (AllReadyH.cons rfl (fun K hK=>?_) AllReadyH.nil)
   go_simp
   refine (HAN.out w4 va vc ts FA da dc HB4.out ((HR1.out.below HC3.out).below HC4.out) HMT.out ((Rd.of_owns HRD.out.1 HO3.out).later HC4.out) (fun k e=>Nat.lt_of_lt_of_le (HO3.out.lt k e).2 HC4.out.size)).mono ?_
   rintro e w5 ⟨v5,z5,F5,rfl,hR5,hF5,hz5,hzo5,hb5⟩
   obtain ⟨xa,xc,rfl⟩:=hR5.shape
   obtain ⟨za,zc,rfl⟩:∃ a c,z5 = .slice a (frm (⟨g1,ep,0,data⟩:Rc)).length c:=hz5.2.imp fun a h=>h.imp fun c h=>h.1
   simp only [List.length_singleton]
   rw [hnx]
   have HP5:=mkHid (And.intro hR5 (And.intro hF5 (And.intro hz5 hzo5)))
   have HC5:=mkHid hb5
   have HB5:=mkHid (HB4.out.trans (hb5.mono HB4.out.size))
   refine hK.out _ _ ⟨cell_lat hb5 hHeld.1,cell_lat hb5 hHeld.2.1,cell_lat hb5 hHeld.2.2.1,cell_lat hb5 hHeld.2.2.2⟩ (fun hHeld=>?_)
   clear hK K hR5 hF5 hz5 hzo5 hb5
   (try simp only [Act.put])
   refine wtE 5 35 (.tuple #[.agg #[.int .i64 (fr2:Int),.int .i64 (en2:Int),.slice xa 1 xc,.int .i64 (NX:Int)],.slice za (frm (⟨g1,ep,0,data⟩:Rc)).length zc,.nilIface]) rfl rfl hHeld ?_
   simp only [List.set_cons_zero,List.set_cons_succ]
   refine wtE 6 41 (.agg #[.int .i64 (fr2:Int),.int .i64 (en2:Int),.slice xa 1 xc,.int .i64 (NX:Int)]) rfl rfl hHeld ?_
   simp only [List.set_cons_zero,List.set_cons_succ]
   refine wtE 7 42 (.slice za (frm (⟨g1,ep,0,data⟩:Rc)).length zc) rfl rfl hHeld ?_
   simp only [List.set_cons_zero,List.set_cons_succ]
   refine wtE 8 43 (.nilIface) rfl rfl hHeld ?_
   simp only [List.set_cons_zero,List.set_cons_succ]
   have HCK:Hid (CK w w5 ab _ (.slice xa 1 xc) (.slice za (frm (⟨g1,ep,0,data⟩:Rc)).length zc) ((⟨g1,ep,0,data⟩:Rc),da,dc)):=mkHid (by
    have hs1:=HB1.out.size
    have hq:∀ k,F5 k → w.heap.size ≤ k ∧ k ≠ ab:=fun k hk=>by
     have hl:=HP5.out.1.lt k hk
     have hab:=HAB.out
     rcases HP5.out.2.1 k hk with a | a
     ·have:=HO3.out.lt k a;have:=HC3.out.size;have:=wlt_of_heap HX4.out;have:=HC5.out.size;omega
     ·have:=HC3.out.size;have:=wlt_of_heap HX4.out;have:=HC5.out.size;omega
    have hz:∀ k,(.slice za (frm (⟨g1,ep,0,data⟩:Rc)).length zc:Value).ownBlock = some k → w.heap.size ≤ k ∧ k < w5.heap.size ∧ k ≠ ab:=fun k e=>by
     have h1:=HP5.out.2.2.2 k e
     have hab:=HAB.out
     have:=HC3.out.size;have:=wlt_of_heap HX4.out;have:=HC5.out.size;omega
    exact ⟨HB5.out,(HC5.out.block ab (wlt_of_heap HX4.out)).trans HX4.out,by have:=HAB.out;have:=HC3.out.size;omega,HP5.out.1,hq,HP5.out.2.2.1,hz⟩)
   obtain ⟨c0,c1,c2,c3,fc0,fc1,fc2,fc3⟩:=azero_facts HCK.out.box
   have hbab:¬ b7 = ab:=by have:=wlt_of_heap HX0.out;have:=HAB.out;have:=HC3.out.size;omega
   refine wpAnyH_ready (rs:=[10]) (by kernel_rfl) (by simp) (AllReadyH.cons rfl (fun K hK=>?_) AllReadyH.nil)
   go_simp
   have HK7:=mkHid (kept_four (F:=fun k=>k = ab) (R:=ab) (Kept.refl _ w5) rfl (.int .i64 (fr2:Int)) (.int .i64 (en2:Int)) (.slice xa 1 xc) (.int .i64 (NX:Int)))
   have HX7:=mkHid (afour_leaves HCK.out.box (.int .i64 (fr2:Int)) (.int .i64 (en2:Int)) (.slice xa 1 xc) (.int .i64 (NX:Int)))
   have HY7:=mkHid (And.intro (HK7.out.cell hHeld.1 hbab) (And.intro (HK7.out.cell hHeld.2.1 hbab) (And.intro (HK7.out.cell hHeld.2.2.1 hbab) (HK7.out.cell hHeld.2.2.2 hbab))))
   refine hK.out _ _ HY7.out (fun hHeld=>?_)
   clear hK K
   (try simp only [Act.put])
   refine wtE 11 11 (.slice za (frm (⟨g1,ep,0,data⟩:Rc)).length zc) rfl rfl hHeld ?_
   simp only [List.set_cons_zero,List.set_cons_succ]
   refine wtE 12 9 (.nilIface) rfl rfl hHeld ?_
   simp only [List.set_cons_zero,List.set_cons_succ]
   refine wpAnyH_done (by kernel_rfl) ?_ _
   clear hHeld c0 c1 c2 c3 fc0 fc1 fc2 fc3
   generalize ((((w5.setCell ⟨ab,0,none⟩ (.int .i64 (fr2:Int))).setCell ⟨ab,1,none⟩ (.int .i64 (en2:Int))).setCell ⟨ab,2,none⟩ (.slice xa 1 xc)).setCell ⟨ab,3,none⟩ (.int .i64 (NX:Int))) = w7 at *
   have HBW:Hid (Below w.heap.size w w7):=mkHid (HCK.out.bel.trans (HK7.out.below (fun k e=>by have:=HCK.out.hab;omega) HCK.out.bel.size))
   have hm:=HM.out
   have HCL:=mkHid (claim_ok F w7 p n ep f c nw (HD.out.below HBW.out) hm.1 hm.2.2.2.2.1 hm.2.1 (by have:=hm.2.2.2.2.2.1;omega) ⟨hm.2.2.2.2.2.2.1,by have:=hm.2.2.2.2.2.2.2;omega⟩)
   have HRZ:=mkHid (And.intro (HCK.out.recs.kept HK7.out (fun k hk e=>(HCK.out.ge k hk).2 e)) (HCK.out.rd.kept HK7.out (fun k e e2=>(HCK.out.zo k e).2.2 e2)))
   have hnF:Hid (∀ k,w.heap.size ≤ k → ¬ F k):=mkHid (fun k hk hf=>by have:=HD.out.1 k hf;omega)
   clear hm
   go_wp2_with (first
    |(go_at_call 70;refine HCL.out.mono ?_;rintro e w8 ⟨rfl,F8,hD8,hF8,hk8⟩;have HE8:=mkHid (And.intro hD8 (And.intro hF8 hk8));have nb:=hnF.out b7 HB7.out;have na:=hnF.out ab HCK.out.hab;have y0:=hk8.cell (a:=⟨b7,0,none⟩) HY7.out.1 nb;have y1:=hk8.cell (a:=⟨b7,1,none⟩) HY7.out.2.1 nb;have y2:=hk8.cell (a:=⟨b7,2,none⟩) HY7.out.2.2.1 nb;have y3:=hk8.cell (a:=⟨b7,3,none⟩) HY7.out.2.2.2 nb;have HX8:Hid (w8.heap[ab]? = some (oA (.int .i64 (fr2:Int)) (.int .i64 (en2:Int)) (.slice xa 1 xc) (.int .i64 (NX:Int)))):=mkHid ((hk8.block ab (wlt_of_heap HX7.out) na).trans HX7.out);have q0:∀ o,(w8.alloc o).cell? ⟨ab,0,none⟩ = some (.int .i64 (fr2:Int)):=(fun o=>cell_lat ((Below.refl _ w8).alloc (Nat.le_refl _) o) (four_facts HX8.out).1);have q1:∀ o,(w8.alloc o).cell? ⟨ab,1,none⟩ = some (.int .i64 (en2:Int)):=(fun o=>cell_lat ((Below.refl _ w8).alloc (Nat.le_refl _) o) (four_facts HX8.out).2.1);have q2:∀ o,(w8.alloc o).cell? ⟨ab,2,none⟩ = some (.slice xa 1 xc):=(fun o=>cell_lat ((Below.refl _ w8).alloc (Nat.le_refl _) o) (four_facts HX8.out).2.2.1);have q3:∀ o,(w8.alloc o).cell? ⟨ab,3,none⟩ = some (.int .i64 (NX:Int)):=(fun o=>cell_lat ((Below.refl _ w8).alloc (Nat.le_refl _) o) (four_facts HX8.out).2.2.2.1);clear hD8 hF8 hk8 nb na)
    |(go_at_call 71;have hm:=HM.out;have hs8:=HE8.out.2.2.size;have hlF8:¬ F8 w8.heap.size:=(fun e=>by have:=HE8.out.1.1 _ e;omega);refine (moveTo_ok F8 _ w8.heap.size p n _ [] (nw + 1) fr en nx ep fr2 en2 NX (.slice va ts.length vc) xa 1 xc (.slice za (frm (⟨g1,ep,0,data⟩:Rc)).length zc) (frm (⟨g1,ep,0,data⟩:Rc)) (HE8.out.1.below ((Below.refl _ w8).alloc (Nat.le_refl _) _)) (heap_alloc_new w8 _) hlF8 ((HRZ.out.2.kept HE8.out.2.2 (fun k e hf=>hnF.out k (HCK.out.zo k e).1 hf)).later ((Below.refl _ w8).alloc (Nat.le_refl _) _)) (fun k e hf=>by rcases HE8.out.2.1 k hf with a | a;exact hnF.out k (HCK.out.zo k e).1 a;(have h1:=(HCK.out.zo k e).2.1;have h2:=HK7.out.size;omega)) (fun k e=>by have h1:=(HCK.out.zo k e).2.1;have h2:=HK7.out.size;simp;omega) hm.2.2.1 hm.2.2.2.1 hm.2.2.2.2.1 (by simp) ⟨by have:=hm.2.2.2.2.2.2.1;omega,by have:=hm.2.2.2.2.2.2.2;omega⟩).mono ?_;rintro e w9 ⟨rfl,F9,hD9,hL9,hF9,hk9⟩;have HE9:=mkHid (And.intro hD9 (And.intro hL9 (And.intro hF9 hk9)));have HLF:=mkHid hlF8;clear hD9 hL9 hF9 hk9 hm hs8 hlF8 q0 q1 q2 q3))
   go_ret2
   have hs7:=HBW.out.size
   have hs8:=HE8.out.2.2.size
   have ba8:Below w8.heap.size w8 (w8.alloc (.cells #[.pointer (some ⟨p,0,none⟩),.int .i64 (fr:Int),.int .i64 (en:Int),.slice va ts.length vc,.int .i64 (nx:Int),.int .i64 (ep:Int)] 159)):=(Below.refl _ w8).alloc (Nat.le_refl _) _
   have hF8:∀ k,F8 k → F k ∨ w.heap.size ≤ k:=fun k hk=>by
    rcases HE8.out.2.1 k hk with a | a
    ·exact .inl a
    ·exact .inr (by omega)
   have hF9:∀ k,F9 k → F8 k ∨ w8.heap.size + 1 ≤ k:=fun k hk=>by
    rcases HE9.out.2.2.1 k hk with a | a
    ·exact .inl a
    ·exact .inr (by simpa using a)
   have hF9w:∀ k,F9 k → F k ∨ w.heap.size ≤ k:=fun k hk=>by
    rcases hF9 k hk with a | a
    ·exact hF8 k a
    ·exact .inr (by omega)
   have hr8:=HRZ.out.1.kept HE8.out.2.2 (fun k hk hf=>hnF.out k (HCK.out.ge k hk).1 hf)
   have hlt7:∀ k,_ → k < w7.heap.size:=HRZ.out.1.lt
   have hr9:=(hr8.below ba8).kept HE9.out.2.2.2 (fun k hk e=>by
    have h1:=hlt7 k hk
    rcases e with a | a
    ·rcases HE8.out.2.1 k a with b | b
     ·exact hnF.out k (HCK.out.ge k hk).1 b
     ·omega
    ·omega)
   have kW:Kept F w w7:=⟨HBW.out.os,HBW.out.tape,HBW.out.output,HBW.out.size,fun k hk _=>HBW.out.block k hk⟩
   have k8:Kept F w w8:=kW.trans HE8.out.2.2 (fun k e=>.inl e)
   have k8a:Kept F w (w8.alloc (.cells #[.pointer (some ⟨p,0,none⟩),.int .i64 (fr:Int),.int .i64 (en:Int),.slice va ts.length vc,.int .i64 (nx:Int),.int .i64 (ep:Int)] 159)):=k8.trans (kept_below F ba8) (fun k e=>.inl e)
   have k9:Kept F w w9:=k8a.trans HE9.out.2.2.2 (fun k e=>by
    rcases e with a | a
    ·exact hF8 k a
    ·exact .inr (by omega))
   refine ⟨w8.heap.size,F9,_,_,da,dc,rfl,HE9.out.1,HE9.out.2.1,hr9,hF9w,fun k hk=>⟨(HCK.out.ge k hk).1,fun hf=>?_,fun e=>?_⟩,by omega,fun hf=>?_,k9⟩
   ·have h1:=hlt7 k hk
    rcases hF9 k hf with a | a
    ·rcases HE8.out.2.1 k a with b | b
     ·exact hnF.out k (HCK.out.ge k hk).1 b
     ·omega
    ·omega
   ·have h1:=hlt7 k hk
    omega
   ·rcases hF9 _ hf with a | a
    ·exact HLF.out a
    ·omega
 ·obtain ⟨w3,hw3⟩:∃ w3,w3 = w1.alloc oAZ:=⟨_,rfl⟩
  have hb3:Below w1.heap.size w1 w3:=by rw [hw3];exact (Below.refl _ _).alloc (Nat.le_refl _) _
  have HX3:Hid (w3.heap[w1.heap.size]? = some oAZ):=mkHid (by rw [hw3];exact heap_alloc_new w1 _)
  have HB3:=mkHid (HB1.out.trans (hb3.mono HB1.out.size))
  have HC3:=mkHid hb3
  obtain ⟨ab,hab⟩:∃ ab,ab = w1.heap.size:=⟨_,rfl⟩
  have HAB:=mkHid hab
  rw [← hab] at HX3
  go_simp
  rw [← hw3,← hab]
  refine hK.out _ _ ⟨cell_lat hb3 hHeld.1,cell_lat hb3 hHeld.2.1,cell_lat hb3 hHeld.2.2.1,cell_lat hb3 hHeld.2.2.2⟩ (fun hHeld=>?_)
  clear hK K hb3 hw3 hab
  (try simp only [Act.put])
  refine wpAnyH_ready (rs:=[3]) (by kernel_rfl) (by simp) (AllReadyH.cons rfl (fun K hK=>?_) AllReadyH.nil)
  go_simp
  refine (clone_any w3 _ data (HRD.out.later HB3.out) (by have:=HDL.out;omega)).mono ?_
  rintro e w4 ⟨v4,rfl,ho4,b4⟩
  obtain ⟨da,dc,rfl⟩:=own_shape ho4
  have HO4:=mkHid ho4
  have HC4:=mkHid b4
  have HB4:=mkHid (HB3.out.trans (b4.mono HB3.out.size))
  refine hK.out _ _ ⟨cell_lat b4 hHeld.1,cell_lat b4 hHeld.2.1,cell_lat b4 hHeld.2.2.1,cell_lat b4 hHeld.2.2.2⟩ (fun hHeld=>?_)
  clear hK K b4 ho4
  refine wpAnyH_ready (rs:=[4]) (by kernel_rfl) (by simp) (AllReadyH.cons rfl (fun K hK=>?_) AllReadyH.nil)
  go_simp
  refine (HAN.out w4 va vc ts FA da dc HB4.out ((HR1.out.below HC3.out).below HC4.out) HMT.out (Rd.of_owns HRD.out.1 HO4.out) (fun k e=>(HO4.out.lt k e).2)).mono ?_
  rintro e w5 ⟨v5,z5,F5,rfl,hR5,hF5,hz5,hzo5,hb5⟩
  obtain ⟨xa,xc,rfl⟩:=hR5.shape
  obtain ⟨za,zc,rfl⟩:∃ a c,z5 = .slice a (frm (⟨g1,ep,0,data⟩:Rc)).length c:=hz5.2.imp fun a h=>h.imp fun c h=>h.1
  simp only [List.length_singleton]
  rw [hnx]
  have HP5:=mkHid (And.intro hR5 (And.intro hF5 (And.intro hz5 hzo5)))
  have HC5:=mkHid hb5
  have HB5:=mkHid (HB4.out.trans (hb5.mono HB4.out.size))
  refine hK.out _ _ ⟨cell_lat hb5 hHeld.1,cell_lat hb5 hHeld.2.1,cell_lat hb5 hHeld.2.2.1,cell_lat hb5 hHeld.2.2.2⟩ (fun hHeld=>?_)
  clear hK K hR5 hF5 hz5 hzo5 hb5
  (try simp only [Act.put])
  refine wtE 5 35 (.tuple #[.agg #[.int .i64 (fr2:Int),.int .i64 (en2:Int),.slice xa 1 xc,.int .i64 (NX:Int)],.slice za (frm (⟨g1,ep,0,data⟩:Rc)).length zc,.nilIface]) rfl rfl hHeld ?_
  simp only [List.set_cons_zero,List.set_cons_succ]
  refine wtE 6 41 (.agg #[.int .i64 (fr2:Int),.int .i64 (en2:Int),.slice xa 1 xc,.int .i64 (NX:Int)]) rfl rfl hHeld ?_
  simp only [List.set_cons_zero,List.set_cons_succ]
  refine wtE 7 42 (.slice za (frm (⟨g1,ep,0,data⟩:Rc)).length zc) rfl rfl hHeld ?_
  simp only [List.set_cons_zero,List.set_cons_succ]
  refine wtE 8 43 (.nilIface) rfl rfl hHeld ?_
  simp only [List.set_cons_zero,List.set_cons_succ]
  have HCK:Hid (CK w w5 ab _ (.slice xa 1 xc) (.slice za (frm (⟨g1,ep,0,data⟩:Rc)).length zc) ((⟨g1,ep,0,data⟩:Rc),da,dc)):=mkHid (by
   have hs1:=HB1.out.size
   have hq:∀ k,F5 k → w.heap.size ≤ k ∧ k ≠ ab:=fun k hk=>by
    have hl:=HP5.out.1.lt k hk
    have hab:=HAB.out
    rcases HP5.out.2.1 k hk with a | a
    ·have:=HO4.out.lt k a;have:=wlt_of_heap HX3.out;have:=HC4.out.size;have:=HC5.out.size;omega
    ·have:=wlt_of_heap HX3.out;have:=HC4.out.size;have:=HC5.out.size;omega
   have hz:∀ k,(.slice za (frm (⟨g1,ep,0,data⟩:Rc)).length zc:Value).ownBlock = some k → w.heap.size ≤ k ∧ k < w5.heap.size ∧ k ≠ ab:=fun k e=>by
    have h1:=HP5.out.2.2.2 k e
    have hab:=HAB.out
    have:=wlt_of_heap HX3.out;have:=HC4.out.size;have:=HC5.out.size;omega
   exact ⟨HB5.out,(HC5.out.block ab (Nat.lt_of_lt_of_le (wlt_of_heap HX3.out) HC4.out.size)).trans ((HC4.out.block ab (wlt_of_heap HX3.out)).trans HX3.out),by have:=HAB.out;omega,HP5.out.1,hq,HP5.out.2.2.1,hz⟩)
  obtain ⟨c0,c1,c2,c3,fc0,fc1,fc2,fc3⟩:=azero_facts HCK.out.box
  have hbab:¬ b7 = ab:=by have:=wlt_of_heap HX0.out;have:=HAB.out;omega
  refine wpAnyH_ready (rs:=[10]) (by kernel_rfl) (by simp) (AllReadyH.cons rfl (fun K hK=>?_) AllReadyH.nil)
  go_simp
  have HK7:=mkHid (kept_four (F:=fun k=>k = ab) (R:=ab) (Kept.refl _ w5) rfl (.int .i64 (fr2:Int)) (.int .i64 (en2:Int)) (.slice xa 1 xc) (.int .i64 (NX:Int)))
  have HX7:=mkHid (afour_leaves HCK.out.box (.int .i64 (fr2:Int)) (.int .i64 (en2:Int)) (.slice xa 1 xc) (.int .i64 (NX:Int)))
  have HY7:=mkHid (And.intro (HK7.out.cell hHeld.1 hbab) (And.intro (HK7.out.cell hHeld.2.1 hbab) (And.intro (HK7.out.cell hHeld.2.2.1 hbab) (HK7.out.cell hHeld.2.2.2 hbab))))
  refine hK.out _ _ HY7.out (fun hHeld=>?_)
  clear hK K
  (try simp only [Act.put])
  refine wtE 11 11 (.slice za (frm (⟨g1,ep,0,data⟩:Rc)).length zc) rfl rfl hHeld ?_
  simp only [List.set_cons_zero,List.set_cons_succ]
  refine wtE 12 9 (.nilIface) rfl rfl hHeld ?_
  simp only [List.set_cons_zero,List.set_cons_succ]
  refine wpAnyH_done (by kernel_rfl) ?_ _
  clear hHeld c0 c1 c2 c3 fc0 fc1 fc2 fc3
  generalize ((((w5.setCell ⟨ab,0,none⟩ (.int .i64 (fr2:Int))).setCell ⟨ab,1,none⟩ (.int .i64 (en2:Int))).setCell ⟨ab,2,none⟩ (.slice xa 1 xc)).setCell ⟨ab,3,none⟩ (.int .i64 (NX:Int))) = w7 at *
  have HBW:Hid (Below w.heap.size w w7):=mkHid (HCK.out.bel.trans (HK7.out.below (fun k e=>by have:=HCK.out.hab;omega) HCK.out.bel.size))
  have hm:=HM.out
  have HCL:=mkHid (claim_ok F w7 p n ep f c nw (HD.out.below HBW.out) hm.1 hm.2.2.2.2.1 hm.2.1 (by have:=hm.2.2.2.2.2.1;omega) ⟨hm.2.2.2.2.2.2.1,by have:=hm.2.2.2.2.2.2.2;omega⟩)
  have HRZ:=mkHid (And.intro (HCK.out.recs.kept HK7.out (fun k hk e=>(HCK.out.ge k hk).2 e)) (HCK.out.rd.kept HK7.out (fun k e e2=>(HCK.out.zo k e).2.2 e2)))
  have hnF:Hid (∀ k,w.heap.size ≤ k → ¬ F k):=mkHid (fun k hk hf=>by have:=HD.out.1 k hf;omega)
  clear hm
  go_wp2_with (first
   |(go_at_call 70;refine HCL.out.mono ?_;rintro e w8 ⟨rfl,F8,hD8,hF8,hk8⟩;have HE8:=mkHid (And.intro hD8 (And.intro hF8 hk8));have nb:=hnF.out b7 HB7.out;have na:=hnF.out ab HCK.out.hab;have y0:=hk8.cell (a:=⟨b7,0,none⟩) HY7.out.1 nb;have y1:=hk8.cell (a:=⟨b7,1,none⟩) HY7.out.2.1 nb;have y2:=hk8.cell (a:=⟨b7,2,none⟩) HY7.out.2.2.1 nb;have y3:=hk8.cell (a:=⟨b7,3,none⟩) HY7.out.2.2.2 nb;have HX8:Hid (w8.heap[ab]? = some (oA (.int .i64 (fr2:Int)) (.int .i64 (en2:Int)) (.slice xa 1 xc) (.int .i64 (NX:Int)))):=mkHid ((hk8.block ab (wlt_of_heap HX7.out) na).trans HX7.out);have q0:∀ o,(w8.alloc o).cell? ⟨ab,0,none⟩ = some (.int .i64 (fr2:Int)):=(fun o=>cell_lat ((Below.refl _ w8).alloc (Nat.le_refl _) o) (four_facts HX8.out).1);have q1:∀ o,(w8.alloc o).cell? ⟨ab,1,none⟩ = some (.int .i64 (en2:Int)):=(fun o=>cell_lat ((Below.refl _ w8).alloc (Nat.le_refl _) o) (four_facts HX8.out).2.1);have q2:∀ o,(w8.alloc o).cell? ⟨ab,2,none⟩ = some (.slice xa 1 xc):=(fun o=>cell_lat ((Below.refl _ w8).alloc (Nat.le_refl _) o) (four_facts HX8.out).2.2.1);have q3:∀ o,(w8.alloc o).cell? ⟨ab,3,none⟩ = some (.int .i64 (NX:Int)):=(fun o=>cell_lat ((Below.refl _ w8).alloc (Nat.le_refl _) o) (four_facts HX8.out).2.2.2.1);clear hD8 hF8 hk8 nb na)
   |(go_at_call 71;have hm:=HM.out;have hs8:=HE8.out.2.2.size;have hlF8:¬ F8 w8.heap.size:=(fun e=>by have:=HE8.out.1.1 _ e;omega);refine (moveTo_ok F8 _ w8.heap.size p n _ [] (nw + 1) fr en nx ep fr2 en2 NX (.slice va ts.length vc) xa 1 xc (.slice za (frm (⟨g1,ep,0,data⟩:Rc)).length zc) (frm (⟨g1,ep,0,data⟩:Rc)) (HE8.out.1.below ((Below.refl _ w8).alloc (Nat.le_refl _) _)) (heap_alloc_new w8 _) hlF8 ((HRZ.out.2.kept HE8.out.2.2 (fun k e hf=>hnF.out k (HCK.out.zo k e).1 hf)).later ((Below.refl _ w8).alloc (Nat.le_refl _) _)) (fun k e hf=>by rcases HE8.out.2.1 k hf with a | a;exact hnF.out k (HCK.out.zo k e).1 a;(have h1:=(HCK.out.zo k e).2.1;have h2:=HK7.out.size;omega)) (fun k e=>by have h1:=(HCK.out.zo k e).2.1;have h2:=HK7.out.size;simp;omega) hm.2.2.1 hm.2.2.2.1 hm.2.2.2.2.1 (by simp) ⟨by have:=hm.2.2.2.2.2.2.1;omega,by have:=hm.2.2.2.2.2.2.2;omega⟩).mono ?_;rintro e w9 ⟨rfl,F9,hD9,hL9,hF9,hk9⟩;have HE9:=mkHid (And.intro hD9 (And.intro hL9 (And.intro hF9 hk9)));have HLF:=mkHid hlF8;clear hD9 hL9 hF9 hk9 hm hs8 hlF8 q0 q1 q2 q3))
  go_ret2
  have hs7:=HBW.out.size
  have hs8:=HE8.out.2.2.size
  have ba8:Below w8.heap.size w8 (w8.alloc (.cells #[.pointer (some ⟨p,0,none⟩),.int .i64 (fr:Int),.int .i64 (en:Int),.slice va ts.length vc,.int .i64 (nx:Int),.int .i64 (ep:Int)] 159)):=(Below.refl _ w8).alloc (Nat.le_refl _) _
  have hF8:∀ k,F8 k → F k ∨ w.heap.size ≤ k:=fun k hk=>by
   rcases HE8.out.2.1 k hk with a | a
   ·exact .inl a
   ·exact .inr (by omega)
  have hF9:∀ k,F9 k → F8 k ∨ w8.heap.size + 1 ≤ k:=fun k hk=>by
   rcases HE9.out.2.2.1 k hk with a | a
   ·exact .inl a
   ·exact .inr (by simpa using a)
  have hF9w:∀ k,F9 k → F k ∨ w.heap.size ≤ k:=fun k hk=>by
   rcases hF9 k hk with a | a
   ·exact hF8 k a
   ·exact .inr (by omega)
  have hr8:=HRZ.out.1.kept HE8.out.2.2 (fun k hk hf=>hnF.out k (HCK.out.ge k hk).1 hf)
  have hlt7:∀ k,_ → k < w7.heap.size:=HRZ.out.1.lt
  have hr9:=(hr8.below ba8).kept HE9.out.2.2.2 (fun k hk e=>by
   have h1:=hlt7 k hk
   rcases e with a | a
   ·rcases HE8.out.2.1 k a with b | b
    ·exact hnF.out k (HCK.out.ge k hk).1 b
    ·omega
   ·omega)
  have kW:Kept F w w7:=⟨HBW.out.os,HBW.out.tape,HBW.out.output,HBW.out.size,fun k hk _=>HBW.out.block k hk⟩
  have k8:Kept F w w8:=kW.trans HE8.out.2.2 (fun k e=>.inl e)
  have k8a:Kept F w (w8.alloc (.cells #[.pointer (some ⟨p,0,none⟩),.int .i64 (fr:Int),.int .i64 (en:Int),.slice va ts.length vc,.int .i64 (nx:Int),.int .i64 (ep:Int)] 159)):=k8.trans (kept_below F ba8) (fun k e=>.inl e)
  have k9:Kept F w w9:=k8a.trans HE9.out.2.2.2 (fun k e=>by
   rcases e with a | a
   ·exact hF8 k a
   ·exact .inr (by omega))
  refine ⟨w8.heap.size,F9,_,_,da,dc,rfl,HE9.out.1,HE9.out.2.1,hr9,hF9w,fun k hk=>⟨(HCK.out.ge k hk).1,fun hf=>?_,fun e=>?_⟩,by omega,fun hf=>?_,k9⟩
  ·have h1:=hlt7 k hk
   rcases hF9 k hf with a | a
   ·rcases HE8.out.2.1 k a with b | b
    ·exact hnF.out k (HCK.out.ge k hk).1 b
    ·omega
   ·omega
  ·have h1:=hlt7 k hk
   omega
  ·rcases hF9 _ hf with a | a
   ·exact HLF.out a
   ·omega
end Go.Proofs.YtihdkgekickohaaGreatDoor
