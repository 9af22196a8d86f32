import Derived.Test.YtihdkgekickohaaGreatDoorWeX
namespace Go.Proofs.YtihdkgekickohaaGreatDoor
open Go.ChangeShapes Go.WideShapes Go.ChangeAt Go.RowKit
set_option maxRecDepth 100000
set_option maxRecDepth 100000 in
set_option maxHeartbeats 51200000 in
theorem ap_full (F:Nat → Prop) (w:World) (l p n fr en nx gn gx X1 ep:Nat) (va:Option Addr) (vc:Nat) (ts:List Rp) (f:Int → List Int) (c:List (Int × List Int)) (nw:Int) (ba:Option Addr) (bc:Nat) (data:List Int) (ef:Addr) (h:Lg w l p fr en (.slice va ts.length vc) nx ep) (hD:Dk F w p n f c nw false) (hrd:Rd w (.slice ba data.length bc) data) (hd:data.length ≤ 32000)
  (hla:Calls Tryz.prog 105 #[.agg #[.int .i64 (fr:Int),.int .i64 (en:Int),.slice va ts.length vc,.int .i64 (nx:Int)]] w fun e w'=>(∃ (ge:Int) (gd:Option Addr) (gl gc:Nat),e = .returned (.agg #[.int .i64 (gn:Int),.int .i64 ge,.int .i64 (gx:Int),.slice gd gl gc])) ∧ Below w.heap.size w w') (hx1:X1 = gx + 1) (hgx:(gx:Int) ≤ 1099511627776)
  (hwi:∀ W da dc,Below w.heap.size w W → Rd W (.slice da data.length dc) data → (∀ k,(Value.slice da data.length dc).ownBlock = some k → w.heap.size ≤ k ∧ k < W.heap.size) → Calls Tryz.prog 108 #[.agg #[.int .i64 (fr:Int),.int .i64 (en:Int),.slice va ts.length vc,.int .i64 (nx:Int)],.agg #[.int .i64 (gn:Int),.int .i64 (ep:Int),.int .i64 (X1:Int),.slice da data.length dc]] W fun e w'=>e = .returned (.tuple #[.agg #[.int .i64 0,.int .i64 0,.slice none 0 0,.int .i64 0],.slice none 0 0,.iface 284 (.pointer (some ef))]) ∧ Below W.heap.size W w') :
  Calls Tryz.prog 114 #[.pointer (some ⟨l,0,none⟩),.slice ba data.length bc] w fun e w'=>e = .returned (.iface 284 (.pointer (some ef))) ∧ Below w.heap.size w w':=by
 obtain ⟨l0,l1,l2,l3,l4,l5,_,_,_,_⟩:=h.facts
 have HW:=mkHid (wref_ok F w p n f c nw ba data.length bc hD (by omega))
 have HRD:=mkHid hrd
 have HDL:=mkHid hd
 have HWI:=mkHid hwi
 have HLL:Hid (l < w.heap.size):=mkHid (wlt_of_heap h)
 have HLA:=mkHid hla
 have hx2:IntKind.i64.wrap ((gx:Int) + 1) = (X1:Int):=by rw [IntKind.wrap_i64];omega
 clear hla hx1 hgx
 clear h hD hrd hd hwi
 go_enter Tryz.func114,Tryz.ntmps114
 go_wp2_with (first | (go_at_call 65;refine HW.out.mono ?_;rintro e w2 ⟨rfl,hw2⟩;rw [hw2];clear hw2) | (go_at_call 105;refine HLA.out.mono ?_;rintro e w3 ⟨⟨ge,gd,gl,gc,rfl⟩,b3⟩;have HB3:=mkHid b3;clear b3))
 obtain ⟨bl,hbl⟩:∃ bl,bl = w3.heap.size:=⟨_,rfl⟩
 obtain ⟨W0,hW0⟩:∃ W0,W0 = w3.alloc (.cells #[.int .i64 (gn:Int),.int .i64 ge,.int .i64 (gx:Int),.slice gd gl gc] 167):=⟨_,rfl⟩
 have HB1:Hid (Below w.heap.size w W0.drew):=mkHid (by rw [hW0];exact (HB3.out.alloc HB3.out.size _).drew)
 have HX1:Hid (W0.drew.heap[bl]? = some (.cells #[.int .i64 (gn:Int),.int .i64 ge,.int .i64 (gx:Int),.slice gd gl gc] 167 (0,0))):=mkHid (by rw [hW0,hbl];exact heap_alloc_new w3 _)
 rw [← hW0,← hbl]
 clear hW0 hbl
 refine wp_region_held_drew (S:=fun w'=>w'.cell? ⟨l,1,none⟩ = some (.int .i64 (fr:Int)) ∧ w'.cell? ⟨l,2,none⟩ = some (.int .i64 (en:Int)) ∧ w'.cell? ⟨l,3,none⟩ = some (.slice va ts.length vc) ∧ w'.cell? ⟨l,4,none⟩ = some (.int .i64 (nx:Int)) ∧ w'.cell? ⟨l,5,none⟩ = some (.int .i64 (ep:Int)) ∧ w'.cell? ⟨bl,0,none⟩ = some (.int .i64 (gn:Int)) ∧ w'.cell? ⟨bl,2,none⟩ = some (.int .i64 (gx:Int))) (by kernel_rfl) ⟨cell_lat HB1.out l1,cell_lat HB1.out l2,cell_lat HB1.out l3,cell_lat HB1.out l4,cell_lat HB1.out l5,cell_of_block (i:=0) HX1.out rfl,cell_of_block (i:=2) HX1.out rfl⟩ (fun hHeld=>?_)
 clear l0 l1 l2 l3 l4 l5
 generalize W0.drew = w1 at *
 refine wtE 0 26 (.pointer (some ⟨l,0,none⟩)) rfl rfl hHeld ?_
 simp only [List.set_cons_zero,List.set_cons_succ]
 refine wtE 1 27 (.pointer (some ⟨l,0,none⟩)) rfl rfl hHeld ?_
 simp only [List.set_cons_zero,List.set_cons_succ]
 refine wtE 2 28 (.pointer (some ⟨l,1,none⟩)) rfl rfl hHeld ?_
 simp only [List.set_cons_zero,List.set_cons_succ]
 refine wtE 3 29 (.agg #[.int .i64 (fr:Int),.int .i64 (en:Int),.slice va ts.length vc,.int .i64 (nx:Int)]) rfl rfl hHeld ?_
 simp only [List.set_cons_zero,List.set_cons_succ]
 refine wtE 4 30 (.pointer (some ⟨bl,0,none⟩)) rfl rfl hHeld ?_
 simp only [List.set_cons_zero,List.set_cons_succ]
 refine wtE 5 31 (.int .i64 (gn:Int)) rfl rfl hHeld ?_
 simp only [List.set_cons_zero,List.set_cons_succ]
 refine wtE 6 32 (.pointer (some ⟨l,0,none⟩)) rfl rfl hHeld ?_
 simp only [List.set_cons_zero,List.set_cons_succ]
 refine wtE 7 33 (.pointer (some ⟨l,0,none⟩)) rfl rfl hHeld ?_
 simp only [List.set_cons_zero,List.set_cons_succ]
 refine wtE 8 34 (.pointer (some ⟨l,5,none⟩)) rfl rfl hHeld ?_
 simp only [List.set_cons_zero,List.set_cons_succ]
 refine wtE 9 35 (.int .i64 (ep:Int)) rfl rfl hHeld ?_
 simp only [List.set_cons_zero,List.set_cons_succ]
 refine wtE 10 36 (.pointer (some ⟨bl,2,none⟩)) rfl rfl hHeld ?_
 simp only [List.set_cons_zero,List.set_cons_succ]
 refine wtE 11 37 (.int .i64 (gx:Int)) rfl rfl hHeld ?_
 simp only [List.set_cons_zero,List.set_cons_succ]
 refine wtE 12 38 (.int .i64 (X1:Int)) rfl rfl hHeld ?_
 simp only [List.set_cons_zero,List.set_cons_succ]
 refine wtE 13 39 (.slice ba data.length bc) rfl rfl hHeld ?_
 simp only [List.set_cons_zero,List.set_cons_succ]
 refine wpAnyH_ready (rs:=[14,21]) (by kernel_rfl) (by simp) (AllReadyH.cons rfl (fun K hK=>?_) (AllReadyH.cons rfl (fun K hK=>?_) AllReadyH.nil))
 ·go_simp
  refine (clone_any w1 _ data (HRD.out.later HB1.out) (by have:=HDL.out;omega)).mono ?_
  rintro e w3 ⟨v3,rfl,ho3,b3⟩
  obtain ⟨da,dc,rfl⟩:=own_shape ho3
  have HO3:=mkHid ho3
  have HC3:=mkHid b3
  have HB3:=mkHid (HB1.out.trans (b3.mono HB1.out.size))
  refine hK.out _ _ ⟨cell_lat b3 hHeld.1,cell_lat b3 hHeld.2.1,cell_lat b3 hHeld.2.2.1,cell_lat b3 hHeld.2.2.2.1,cell_lat b3 hHeld.2.2.2.2.1,cell_lat b3 hHeld.2.2.2.2.2.1,cell_lat b3 hHeld.2.2.2.2.2.2⟩ (fun hHeld=>?_)
  clear hK K b3 ho3
  refine wtE 15 41 (.agg #[.int .i64 (gn:Int),.int .i64 (ep:Int),.int .i64 (X1:Int),.slice da data.length dc]) rfl rfl hHeld ?_
  simp only [List.set_cons_zero,List.set_cons_succ]
  refine wpAnyH_ready (rs:=[16,21]) (by kernel_rfl) (by simp) (AllReadyH.cons rfl (fun K hK=>?_) (AllReadyH.cons rfl (fun K hK=>?_) AllReadyH.nil))
  ·go_simp
   refine (HWI.out w3 da dc HB3.out (Rd.of_owns HRD.out.1 HO3.out) (fun k e=>⟨by have:=(HO3.out.lt k e).1;have:=HB1.out.size;omega,(HO3.out.lt k e).2⟩)).mono ?_
   rintro e w4 ⟨rfl,hb4⟩
   have HC4:=mkHid hb4
   have HB4:=mkHid (HB3.out.trans (hb4.mono HB3.out.size))
   refine hK.out _ _ ⟨cell_lat hb4 hHeld.1,cell_lat hb4 hHeld.2.1,cell_lat hb4 hHeld.2.2.1,cell_lat hb4 hHeld.2.2.2.1,cell_lat hb4 hHeld.2.2.2.2.1,cell_lat hb4 hHeld.2.2.2.2.2.1,cell_lat hb4 hHeld.2.2.2.2.2.2⟩ (fun hHeld=>?_)
   clear hK K hb4
   (try simp only [Act.put])
   refine wtE 17 25 (.tuple #[.agg #[.int .i64 0,.int .i64 0,.slice none 0 0,.int .i64 0],.slice none 0 0,.iface 284 (.pointer (some ef))]) rfl rfl hHeld ?_
   simp only [List.set_cons_zero,List.set_cons_succ]
   refine wtE 18 43 (.agg #[.int .i64 0,.int .i64 0,.slice none 0 0,.int .i64 0]) rfl rfl hHeld ?_
   simp only [List.set_cons_zero,List.set_cons_succ]
   refine wtE 19 44 (.slice none 0 0) rfl rfl hHeld ?_
   simp only [List.set_cons_zero,List.set_cons_succ]
   refine wtE 20 45 (.iface 284 (.pointer (some ef))) rfl rfl hHeld ?_
   simp only [List.set_cons_zero,List.set_cons_succ]
   refine wpAnyH_ready (rs:=[21]) (by kernel_rfl) (by simp) (AllReadyH.cons rfl (fun K hK=>?_) AllReadyH.nil)
   obtain ⟨w5,hw5⟩:∃ w5,w5 = w4.alloc oAZ:=⟨_,rfl⟩
   have hb5:Below w4.heap.size w4 w5:=by rw [hw5];exact (Below.refl _ _).alloc (Nat.le_refl _) _
   have HX5:Hid (w5.heap[w4.heap.size]? = some oAZ):=mkHid (by rw [hw5];exact heap_alloc_new w4 _)
   have HB5:=mkHid (HB4.out.trans (hb5.mono HB4.out.size))
   have HC5:=mkHid hb5
   obtain ⟨ab,hab⟩:∃ ab,ab = w4.heap.size:=⟨_,rfl⟩
   have HAB:=mkHid hab
   rw [← hab] at HX5
   go_simp
   rw [← hw5,← hab]
   refine hK.out _ _ ⟨cell_lat hb5 hHeld.1,cell_lat hb5 hHeld.2.1,cell_lat hb5 hHeld.2.2.1,cell_lat hb5 hHeld.2.2.2.1,cell_lat hb5 hHeld.2.2.2.2.1,cell_lat hb5 hHeld.2.2.2.2.2.1,cell_lat hb5 hHeld.2.2.2.2.2.2⟩ (fun hHeld=>?_)
   clear hK K hb5 hw5 hab
   (try simp only [Act.put])
   have HBX:Hid (w5.heap[ab]? = some oAZ ∧ w.heap.size ≤ ab):=mkHid ⟨HX5.out,by have:=HAB.out;have:=HB4.out.size;omega⟩
   obtain ⟨c0,c1,c2,c3,fc0,fc1,fc2,fc3⟩:=azero_facts HBX.out.1
   have hlab:¬ l = ab:=by have:=HBX.out.2;have:=HLL.out;omega
   have hbab:¬ bl = ab:=by have:=wlt_of_heap HX1.out;have:=HAB.out;have:=HC3.out.size;have:=HC4.out.size;omega
   refine wpAnyH_ready (rs:=[22]) (by kernel_rfl) (by simp) (AllReadyH.cons rfl (fun K hK=>?_) AllReadyH.nil)
   go_simp
   have HK7:=mkHid (kept_four (F:=fun k=>k = ab) (R:=ab) (Kept.refl _ w5) rfl (.int .i64 0) (.int .i64 0) (.slice none 0 0) (.int .i64 0))
   refine hK.out _ _ ⟨HK7.out.cell hHeld.1 hlab,HK7.out.cell hHeld.2.1 hlab,HK7.out.cell hHeld.2.2.1 hlab,HK7.out.cell hHeld.2.2.2.1 hlab,HK7.out.cell hHeld.2.2.2.2.1 hlab,HK7.out.cell hHeld.2.2.2.2.2.1 hbab,HK7.out.cell hHeld.2.2.2.2.2.2 hbab⟩ (fun hHeld=>?_)
   clear hK K
   (try simp only [Act.put])
   refine wtE 23 8 (.slice none 0 0) rfl rfl hHeld ?_
   simp only [List.set_cons_zero,List.set_cons_succ]
   refine wtE 24 9 (.iface 284 (.pointer (some ef))) rfl rfl hHeld ?_
   simp only [List.set_cons_zero,List.set_cons_succ]
   refine wpAnyH_done (by kernel_rfl) ?_ _
   clear hHeld c0 c1 c2 c3 fc0 fc1 fc2 fc3
   generalize ((((w5.setCell ⟨ab,0,none⟩ (.int .i64 0)).setCell ⟨ab,1,none⟩ (.int .i64 0)).setCell ⟨ab,2,none⟩ (.slice none 0 0)).setCell ⟨ab,3,none⟩ (.int .i64 0)) = w7 at *
   go_wp2
   go_ret
   exact ⟨rfl,HB5.out.trans (HK7.out.below (fun k e=>by have:=HBX.out.2;omega) HB5.out.size)⟩
  ·obtain ⟨w4,hw4⟩:∃ w4,w4 = w3.alloc oAZ:=⟨_,rfl⟩
   have hb4:Below w3.heap.size w3 w4:=by rw [hw4];exact (Below.refl _ _).alloc (Nat.le_refl _) _
   have HX4:Hid (w4.heap[w3.heap.size]? = some oAZ):=mkHid (by rw [hw4];exact heap_alloc_new w3 _)
   have HB4:=mkHid (HB3.out.trans (hb4.mono HB3.out.size))
   have HC4:=mkHid hb4
   obtain ⟨ab,hab⟩:∃ ab,ab = w3.heap.size:=⟨_,rfl⟩
   have HAB:=mkHid hab
   rw [← hab] at HX4
   go_simp
   rw [← hw4,← hab]
   refine hK.out _ _ ⟨cell_lat hb4 hHeld.1,cell_lat hb4 hHeld.2.1,cell_lat hb4 hHeld.2.2.1,cell_lat hb4 hHeld.2.2.2.1,cell_lat hb4 hHeld.2.2.2.2.1,cell_lat hb4 hHeld.2.2.2.2.2.1,cell_lat hb4 hHeld.2.2.2.2.2.2⟩ (fun hHeld=>?_)
   clear hK K hb4 hw4 hab
   (try simp only [Act.put])
   refine wpAnyH_ready (rs:=[16]) (by kernel_rfl) (by simp) (AllReadyH.cons rfl (fun K hK=>?_) AllReadyH.nil)
   go_simp
   refine (HWI.out w4 da dc HB4.out ((Rd.of_owns HRD.out.1 HO3.out).later HC4.out) (fun k e=>⟨by have:=(HO3.out.lt k e).1;have:=HB1.out.size;omega,Nat.lt_of_lt_of_le (HO3.out.lt k e).2 HC4.out.size⟩)).mono ?_
   rintro e w5 ⟨rfl,hb5⟩
   have HC5:=mkHid hb5
   have HB5:=mkHid (HB4.out.trans (hb5.mono HB4.out.size))
   refine hK.out _ _ ⟨cell_lat hb5 hHeld.1,cell_lat hb5 hHeld.2.1,cell_lat hb5 hHeld.2.2.1,cell_lat hb5 hHeld.2.2.2.1,cell_lat hb5 hHeld.2.2.2.2.1,cell_lat hb5 hHeld.2.2.2.2.2.1,cell_lat hb5 hHeld.2.2.2.2.2.2⟩ (fun hHeld=>?_)
   clear hK K hb5
   (try simp only [Act.put])
   refine wtE 17 25 (.tuple #[.agg #[.int .i64 0,.int .i64 0,.slice none 0 0,.int .i64 0],.slice none 0 0,.iface 284 (.pointer (some ef))]) rfl rfl hHeld ?_
   simp only [List.set_cons_zero,List.set_cons_succ]
   refine wtE 18 43 (.agg #[.int .i64 0,.int .i64 0,.slice none 0 0,.int .i64 0]) rfl rfl hHeld ?_
   simp only [List.set_cons_zero,List.set_cons_succ]
   refine wtE 19 44 (.slice none 0 0) rfl rfl hHeld ?_
   simp only [List.set_cons_zero,List.set_cons_succ]
   refine wtE 20 45 (.iface 284 (.pointer (some ef))) rfl rfl hHeld ?_
   simp only [List.set_cons_zero,List.set_cons_succ]
   have HBX:Hid (w5.heap[ab]? = some oAZ ∧ w.heap.size ≤ ab):=mkHid ⟨(HC5.out.block ab (wlt_of_heap HX4.out)).trans HX4.out,by have:=HAB.out;have:=HB3.out.size;omega⟩
   obtain ⟨c0,c1,c2,c3,fc0,fc1,fc2,fc3⟩:=azero_facts HBX.out.1
   have hlab:¬ l = ab:=by have:=HBX.out.2;have:=HLL.out;omega
   have hbab:¬ bl = ab:=by have:=wlt_of_heap HX1.out;have:=HAB.out;have:=HC3.out.size;omega
   refine wpAnyH_ready (rs:=[22]) (by kernel_rfl) (by simp) (AllReadyH.cons rfl (fun K hK=>?_) AllReadyH.nil)
   go_simp
   have HK7:=mkHid (kept_four (F:=fun k=>k = ab) (R:=ab) (Kept.refl _ w5) rfl (.int .i64 0) (.int .i64 0) (.slice none 0 0) (.int .i64 0))
   refine hK.out _ _ ⟨HK7.out.cell hHeld.1 hlab,HK7.out.cell hHeld.2.1 hlab,HK7.out.cell hHeld.2.2.1 hlab,HK7.out.cell hHeld.2.2.2.1 hlab,HK7.out.cell hHeld.2.2.2.2.1 hlab,HK7.out.cell hHeld.2.2.2.2.2.1 hbab,HK7.out.cell hHeld.2.2.2.2.2.2 hbab⟩ (fun hHeld=>?_)
   clear hK K
   (try simp only [Act.put])
   refine wtE 23 8 (.slice none 0 0) rfl rfl hHeld ?_
   simp only [List.set_cons_zero,List.set_cons_succ]
   refine wtE 24 9 (.iface 284 (.pointer (some ef))) rfl rfl hHeld ?_
   simp only [List.set_cons_zero,List.set_cons_succ]
   refine wpAnyH_done (by kernel_rfl) ?_ _
   clear hHeld c0 c1 c2 c3 fc0 fc1 fc2 fc3
   generalize ((((w5.setCell ⟨ab,0,none⟩ (.int .i64 0)).setCell ⟨ab,1,none⟩ (.int .i64 0)).setCell ⟨ab,2,none⟩ (.slice none 0 0)).setCell ⟨ab,3,none⟩ (.int .i64 0)) = w7 at *
   go_wp2
   go_ret
   exact ⟨rfl,HB5.out.trans (HK7.out.below (fun k e=>by have:=HBX.out.2;omega) HB5.out.size)⟩
 ·obtain ⟨w3,hw3⟩:∃ w3,w3 = w1.alloc oAZ:=⟨_,rfl⟩
  have hb3:Below w1.heap.size w1 w3:=by rw [hw3];exact (Below.refl _ _).alloc (Nat.le_refl _) _
  have HX3:Hid (w3.heap[w1.heap.size]? = some oAZ):=mkHid (by rw [hw3];exact heap_alloc_new w1 _)
  have HB3:=mkHid (HB1.out.trans (hb3.mono HB1.out.size))
  have HC3:=mkHid hb3
  obtain ⟨ab,hab⟩:∃ ab,ab = w1.heap.size:=⟨_,rfl⟩
  have HAB:=mkHid hab
  rw [← hab] at HX3
  go_simp
  rw [← hw3,← hab]
  refine hK.out _ _ ⟨cell_lat hb3 hHeld.1,cell_lat hb3 hHeld.2.1,cell_lat hb3 hHeld.2.2.1,cell_lat hb3 hHeld.2.2.2.1,cell_lat hb3 hHeld.2.2.2.2.1,cell_lat hb3 hHeld.2.2.2.2.2.1,cell_lat hb3 hHeld.2.2.2.2.2.2⟩ (fun hHeld=>?_)
  clear hK K hb3 hw3 hab
  (try simp only [Act.put])
  refine wpAnyH_ready (rs:=[14]) (by kernel_rfl) (by simp) (AllReadyH.cons rfl (fun K hK=>?_) AllReadyH.nil)
  go_simp
  refine (clone_any w3 _ data (HRD.out.later HB3.out) (by have:=HDL.out;omega)).mono ?_
  rintro e w4 ⟨v4,rfl,ho4,b4⟩
  obtain ⟨da,dc,rfl⟩:=own_shape ho4
  have HO4:=mkHid ho4
  have HC4:=mkHid b4
  have HB4:=mkHid (HB3.out.trans (b4.mono HB3.out.size))
  refine hK.out _ _ ⟨cell_lat b4 hHeld.1,cell_lat b4 hHeld.2.1,cell_lat b4 hHeld.2.2.1,cell_lat b4 hHeld.2.2.2.1,cell_lat b4 hHeld.2.2.2.2.1,cell_lat b4 hHeld.2.2.2.2.2.1,cell_lat b4 hHeld.2.2.2.2.2.2⟩ (fun hHeld=>?_)
  clear hK K b4 ho4
  refine wtE 15 41 (.agg #[.int .i64 (gn:Int),.int .i64 (ep:Int),.int .i64 (X1:Int),.slice da data.length dc]) rfl rfl hHeld ?_
  simp only [List.set_cons_zero,List.set_cons_succ]
  refine wpAnyH_ready (rs:=[16]) (by kernel_rfl) (by simp) (AllReadyH.cons rfl (fun K hK=>?_) AllReadyH.nil)
  go_simp
  refine (HWI.out w4 da dc HB4.out (Rd.of_owns HRD.out.1 HO4.out) (fun k e=>⟨by have:=(HO4.out.lt k e).1;have:=HB3.out.size;omega,(HO4.out.lt k e).2⟩)).mono ?_
  rintro e w5 ⟨rfl,hb5⟩
  have HC5:=mkHid hb5
  have HB5:=mkHid (HB4.out.trans (hb5.mono HB4.out.size))
  refine hK.out _ _ ⟨cell_lat hb5 hHeld.1,cell_lat hb5 hHeld.2.1,cell_lat hb5 hHeld.2.2.1,cell_lat hb5 hHeld.2.2.2.1,cell_lat hb5 hHeld.2.2.2.2.1,cell_lat hb5 hHeld.2.2.2.2.2.1,cell_lat hb5 hHeld.2.2.2.2.2.2⟩ (fun hHeld=>?_)
  clear hK K hb5
  (try simp only [Act.put])
  refine wtE 17 25 (.tuple #[.agg #[.int .i64 0,.int .i64 0,.slice none 0 0,.int .i64 0],.slice none 0 0,.iface 284 (.pointer (some ef))]) rfl rfl hHeld ?_
  simp only [List.set_cons_zero,List.set_cons_succ]
  refine wtE 18 43 (.agg #[.int .i64 0,.int .i64 0,.slice none 0 0,.int .i64 0]) rfl rfl hHeld ?_
  simp only [List.set_cons_zero,List.set_cons_succ]
  refine wtE 19 44 (.slice none 0 0) rfl rfl hHeld ?_
  simp only [List.set_cons_zero,List.set_cons_succ]
  refine wtE 20 45 (.iface 284 (.pointer (some ef))) rfl rfl hHeld ?_
  simp only [List.set_cons_zero,List.set_cons_succ]
  have HBX:Hid (w5.heap[ab]? = some oAZ ∧ w.heap.size ≤ ab):=mkHid ⟨(HC5.out.block ab (Nat.lt_of_lt_of_le (wlt_of_heap HX3.out) HC4.out.size)).trans ((HC4.out.block ab (wlt_of_heap HX3.out)).trans HX3.out),by have:=HAB.out;have:=HB1.out.size;omega⟩
  obtain ⟨c0,c1,c2,c3,fc0,fc1,fc2,fc3⟩:=azero_facts HBX.out.1
  have hlab:¬ l = ab:=by have:=HBX.out.2;have:=HLL.out;omega
  have hbab:¬ bl = ab:=by have:=wlt_of_heap HX1.out;have:=HAB.out;omega
  refine wpAnyH_ready (rs:=[22]) (by kernel_rfl) (by simp) (AllReadyH.cons rfl (fun K hK=>?_) AllReadyH.nil)
  go_simp
  have HK7:=mkHid (kept_four (F:=fun k=>k = ab) (R:=ab) (Kept.refl _ w5) rfl (.int .i64 0) (.int .i64 0) (.slice none 0 0) (.int .i64 0))
  refine hK.out _ _ ⟨HK7.out.cell hHeld.1 hlab,HK7.out.cell hHeld.2.1 hlab,HK7.out.cell hHeld.2.2.1 hlab,HK7.out.cell hHeld.2.2.2.1 hlab,HK7.out.cell hHeld.2.2.2.2.1 hlab,HK7.out.cell hHeld.2.2.2.2.2.1 hbab,HK7.out.cell hHeld.2.2.2.2.2.2 hbab⟩ (fun hHeld=>?_)
  clear hK K
  (try simp only [Act.put])
  refine wtE 23 8 (.slice none 0 0) rfl rfl hHeld ?_
  simp only [List.set_cons_zero,List.set_cons_succ]
  refine wtE 24 9 (.iface 284 (.pointer (some ef))) rfl rfl hHeld ?_
  simp only [List.set_cons_zero,List.set_cons_succ]
  refine wpAnyH_done (by kernel_rfl) ?_ _
  clear hHeld c0 c1 c2 c3 fc0 fc1 fc2 fc3
  generalize ((((w5.setCell ⟨ab,0,none⟩ (.int .i64 0)).setCell ⟨ab,1,none⟩ (.int .i64 0)).setCell ⟨ab,2,none⟩ (.slice none 0 0)).setCell ⟨ab,3,none⟩ (.int .i64 0)) = w7 at *
  go_wp2
  go_ret
  exact ⟨rfl,HB5.out.trans (HK7.out.below (fun k e=>by have:=HBX.out.2;omega) HB5.out.size)⟩
set_option maxRecDepth 100000 in
set_option maxHeartbeats 51200000 in
theorem ck_full (F:Nat → Prop) (w:World) (l p n fr en nx ep:Nat) (va:Option Addr) (vc:Nat) (ts:List Rp) (f:Int → List Int) (c:List (Int × List Int)) (nw:Int) (ba:Option Addr) (bc:Nat) (data:List Int) (ef:Addr) (h:Lg w l p fr en (.slice va ts.length vc) nx ep) (hD:Dk F w p n f c nw false) (hrd:Rd w (.slice ba data.length bc) data) (hd:data.length ≤ 32000)
  (hwi:∀ W da dc,Below w.heap.size w W → Rd W (.slice da data.length dc) data → (∀ k,(Value.slice da data.length dc).ownBlock = some k → w.heap.size ≤ k ∧ k < W.heap.size) → Calls Tryz.prog 68 #[.agg #[.int .i64 (fr:Int),.int .i64 (en:Int),.slice va ts.length vc,.int .i64 (nx:Int)],.int .i64 (ep:Int),.slice da data.length dc] W fun e w'=>e = .returned (.tuple #[.agg #[.int .i64 0,.int .i64 0,.slice none 0 0,.int .i64 0],.slice none 0 0,.iface 284 (.pointer (some ef))]) ∧ Below W.heap.size W w') :
  Calls Tryz.prog 116 #[.pointer (some ⟨l,0,none⟩),.slice ba data.length bc] w fun e w'=>e = .returned (.iface 284 (.pointer (some ef))) ∧ Below w.heap.size w w':=by
 obtain ⟨l0,l1,l2,l3,l4,l5,_,_,_,_⟩:=h.facts
 have HW:=mkHid (wref_ok F w p n f c nw ba data.length bc hD (by omega))
 have HRD:=mkHid hrd
 have HDL:=mkHid hd
 have HWI:=mkHid hwi
 have HLL:Hid (l < w.heap.size):=mkHid (wlt_of_heap h)
 clear h hD hrd hd hwi
 go_enter Tryz.func116,Tryz.ntmps116
 go_wp2_with (go_at_call 65;refine HW.out.mono ?_;rintro e w2 ⟨rfl,hw2⟩;rw [hw2];clear hw2)
 have HB1:Hid (Below w.heap.size w w.drew):=mkHid (Below.refl _ w).drew
 refine wp_region_held_drew (S:=fun w'=>w'.cell? ⟨l,1,none⟩ = some (.int .i64 (fr:Int)) ∧ w'.cell? ⟨l,2,none⟩ = some (.int .i64 (en:Int)) ∧ w'.cell? ⟨l,3,none⟩ = some (.slice va ts.length vc) ∧ w'.cell? ⟨l,4,none⟩ = some (.int .i64 (nx:Int)) ∧ w'.cell? ⟨l,5,none⟩ = some (.int .i64 (ep:Int))) (by kernel_rfl) ⟨l1,l2,l3,l4,l5⟩ (fun hHeld=>?_)
 clear l0 l1 l2 l3 l4 l5
 generalize w.drew = w1 at *
 refine wtE 0 19 (.pointer (some ⟨l,0,none⟩)) rfl rfl hHeld ?_
 simp only [List.set_cons_zero,List.set_cons_succ]
 refine wtE 1 20 (.pointer (some ⟨l,0,none⟩)) rfl rfl hHeld ?_
 simp only [List.set_cons_zero,List.set_cons_succ]
 refine wtE 2 21 (.pointer (some ⟨l,1,none⟩)) rfl rfl hHeld ?_
 simp only [List.set_cons_zero,List.set_cons_succ]
 refine wtE 3 22 (.agg #[.int .i64 (fr:Int),.int .i64 (en:Int),.slice va ts.length vc,.int .i64 (nx:Int)]) rfl rfl hHeld ?_
 simp only [List.set_cons_zero,List.set_cons_succ]
 refine wtE 4 23 (.pointer (some ⟨l,0,none⟩)) rfl rfl hHeld ?_
 simp only [List.set_cons_zero,List.set_cons_succ]
 refine wtE 5 24 (.pointer (some ⟨l,0,none⟩)) rfl rfl hHeld ?_
 simp only [List.set_cons_zero,List.set_cons_succ]
 refine wtE 6 25 (.pointer (some ⟨l,5,none⟩)) rfl rfl hHeld ?_
 simp only [List.set_cons_zero,List.set_cons_succ]
 refine wtE 7 26 (.int .i64 (ep:Int)) rfl rfl hHeld ?_
 simp only [List.set_cons_zero,List.set_cons_succ]
 refine wtE 8 27 (.slice ba data.length bc) rfl rfl hHeld ?_
 simp only [List.set_cons_zero,List.set_cons_succ]
 refine wpAnyH_ready (rs:=[9,15]) (by kernel_rfl) (by simp) (AllReadyH.cons rfl (fun K hK=>?_) (AllReadyH.cons rfl (fun K hK=>?_) AllReadyH.nil))
 ·go_simp
  refine (clone_any w1 _ data (HRD.out.later HB1.out) (by have:=HDL.out;omega)).mono ?_
  rintro e w3 ⟨v3,rfl,ho3,b3⟩
  obtain ⟨da,dc,rfl⟩:=own_shape ho3
  have HO3:=mkHid ho3
  have HC3:=mkHid b3
  have HB3:=mkHid (HB1.out.trans (b3.mono HB1.out.size))
  refine hK.out _ _ ⟨cell_lat b3 hHeld.1,cell_lat b3 hHeld.2.1,cell_lat b3 hHeld.2.2.1,cell_lat b3 hHeld.2.2.2.1,cell_lat b3 hHeld.2.2.2.2⟩ (fun hHeld=>?_)
  clear hK K b3 ho3
  refine wpAnyH_ready (rs:=[10,15]) (by kernel_rfl) (by simp) (AllReadyH.cons rfl (fun K hK=>?_) (AllReadyH.cons rfl (fun K hK=>?_) AllReadyH.nil))
  ·go_simp
   refine (HWI.out w3 da dc HB3.out (Rd.of_owns HRD.out.1 HO3.out) (fun k e=>⟨by have:=(HO3.out.lt k e).1;have:=HB1.out.size;omega,(HO3.out.lt k e).2⟩)).mono ?_
   rintro e w4 ⟨rfl,hb4⟩
   have HC4:=mkHid hb4
   have HB4:=mkHid (HB3.out.trans (hb4.mono HB3.out.size))
   refine hK.out _ _ ⟨cell_lat hb4 hHeld.1,cell_lat hb4 hHeld.2.1,cell_lat hb4 hHeld.2.2.1,cell_lat hb4 hHeld.2.2.2.1,cell_lat hb4 hHeld.2.2.2.2⟩ (fun hHeld=>?_)
   clear hK K hb4
   (try simp only [Act.put])
   refine wtE 11 18 (.tuple #[.agg #[.int .i64 0,.int .i64 0,.slice none 0 0,.int .i64 0],.slice none 0 0,.iface 284 (.pointer (some ef))]) rfl rfl hHeld ?_
   simp only [List.set_cons_zero,List.set_cons_succ]
   refine wtE 12 30 (.agg #[.int .i64 0,.int .i64 0,.slice none 0 0,.int .i64 0]) rfl rfl hHeld ?_
   simp only [List.set_cons_zero,List.set_cons_succ]
   refine wtE 13 31 (.slice none 0 0) rfl rfl hHeld ?_
   simp only [List.set_cons_zero,List.set_cons_succ]
   refine wtE 14 32 (.iface 284 (.pointer (some ef))) rfl rfl hHeld ?_
   simp only [List.set_cons_zero,List.set_cons_succ]
   refine wpAnyH_ready (rs:=[15]) (by kernel_rfl) (by simp) (AllReadyH.cons rfl (fun K hK=>?_) AllReadyH.nil)
   obtain ⟨w5,hw5⟩:∃ w5,w5 = w4.alloc oAZ:=⟨_,rfl⟩
   have hb5:Below w4.heap.size w4 w5:=by rw [hw5];exact (Below.refl _ _).alloc (Nat.le_refl _) _
   have HX5:Hid (w5.heap[w4.heap.size]? = some oAZ):=mkHid (by rw [hw5];exact heap_alloc_new w4 _)
   have HB5:=mkHid (HB4.out.trans (hb5.mono HB4.out.size))
   have HC5:=mkHid hb5
   obtain ⟨ab,hab⟩:∃ ab,ab = w4.heap.size:=⟨_,rfl⟩
   have HAB:=mkHid hab
   rw [← hab] at HX5
   go_simp
   rw [← hw5,← hab]
   refine hK.out _ _ ⟨cell_lat hb5 hHeld.1,cell_lat hb5 hHeld.2.1,cell_lat hb5 hHeld.2.2.1,cell_lat hb5 hHeld.2.2.2.1,cell_lat hb5 hHeld.2.2.2.2⟩ (fun hHeld=>?_)
   clear hK K hb5 hw5 hab
   (try simp only [Act.put])
   have HBX:Hid (w5.heap[ab]? = some oAZ ∧ w.heap.size ≤ ab):=mkHid ⟨HX5.out,by have:=HAB.out;have:=HB4.out.size;omega⟩
   obtain ⟨c0,c1,c2,c3,fc0,fc1,fc2,fc3⟩:=azero_facts HBX.out.1
   have hlab:¬ l = ab:=by have:=HBX.out.2;have:=HLL.out;omega
   refine wpAnyH_ready (rs:=[16]) (by kernel_rfl) (by simp) (AllReadyH.cons rfl (fun K hK=>?_) AllReadyH.nil)
   go_simp
   have HK7:=mkHid (kept_four (F:=fun k=>k = ab) (R:=ab) (Kept.refl _ w5) rfl (.int .i64 0) (.int .i64 0) (.slice none 0 0) (.int .i64 0))
   refine hK.out _ _ ⟨HK7.out.cell hHeld.1 hlab,HK7.out.cell hHeld.2.1 hlab,HK7.out.cell hHeld.2.2.1 hlab,HK7.out.cell hHeld.2.2.2.1 hlab,HK7.out.cell hHeld.2.2.2.2 hlab⟩ (fun hHeld=>?_)
   clear hK K
   (try simp only [Act.put])
   refine wtE 17 7 (.slice none 0 0) rfl rfl hHeld ?_
   simp only [List.set_cons_zero,List.set_cons_succ]
   refine wtE 18 8 (.iface 284 (.pointer (some ef))) rfl rfl hHeld ?_
   simp only [List.set_cons_zero,List.set_cons_succ]
   refine wpAnyH_done (by kernel_rfl) ?_ _
   clear hHeld c0 c1 c2 c3 fc0 fc1 fc2 fc3
   generalize ((((w5.setCell ⟨ab,0,none⟩ (.int .i64 0)).setCell ⟨ab,1,none⟩ (.int .i64 0)).setCell ⟨ab,2,none⟩ (.slice none 0 0)).setCell ⟨ab,3,none⟩ (.int .i64 0)) = w7 at *
   go_wp2
   go_ret
   exact ⟨rfl,HB5.out.trans (HK7.out.below (fun k e=>by have:=HBX.out.2;omega) HB5.out.size)⟩
  ·obtain ⟨w4,hw4⟩:∃ w4,w4 = w3.alloc oAZ:=⟨_,rfl⟩
   have hb4:Below w3.heap.size w3 w4:=by rw [hw4];exact (Below.refl _ _).alloc (Nat.le_refl _) _
   have HX4:Hid (w4.heap[w3.heap.size]? = some oAZ):=mkHid (by rw [hw4];exact heap_alloc_new w3 _)
   have HB4:=mkHid (HB3.out.trans (hb4.mono HB3.out.size))
   have HC4:=mkHid hb4
   obtain ⟨ab,hab⟩:∃ ab,ab = w3.heap.size:=⟨_,rfl⟩
   have HAB:=mkHid hab
   rw [← hab] at HX4
   go_simp
   rw [← hw4,← hab]
   refine hK.out _ _ ⟨cell_lat hb4 hHeld.1,cell_lat hb4 hHeld.2.1,cell_lat hb4 hHeld.2.2.1,cell_lat hb4 hHeld.2.2.2.1,cell_lat hb4 hHeld.2.2.2.2⟩ (fun hHeld=>?_)
   clear hK K hb4 hw4 hab
   (try simp only [Act.put])
   refine wpAnyH_ready (rs:=[10]) (by kernel_rfl) (by simp) (AllReadyH.cons rfl (fun K hK=>?_) AllReadyH.nil)
   go_simp
   refine (HWI.out w4 da dc HB4.out ((Rd.of_owns HRD.out.1 HO3.out).later HC4.out) (fun k e=>⟨by have:=(HO3.out.lt k e).1;have:=HB1.out.size;omega,Nat.lt_of_lt_of_le (HO3.out.lt k e).2 HC4.out.size⟩)).mono ?_
   rintro e w5 ⟨rfl,hb5⟩
   have HC5:=mkHid hb5
   have HB5:=mkHid (HB4.out.trans (hb5.mono HB4.out.size))
   refine hK.out _ _ ⟨cell_lat hb5 hHeld.1,cell_lat hb5 hHeld.2.1,cell_lat hb5 hHeld.2.2.1,cell_lat hb5 hHeld.2.2.2.1,cell_lat hb5 hHeld.2.2.2.2⟩ (fun hHeld=>?_)
   clear hK K hb5
   (try simp only [Act.put])
   refine wtE 11 18 (.tuple #[.agg #[.int .i64 0,.int .i64 0,.slice none 0 0,.int .i64 0],.slice none 0 0,.iface 284 (.pointer (some ef))]) rfl rfl hHeld ?_
   simp only [List.set_cons_zero,List.set_cons_succ]
   refine wtE 12 30 (.agg #[.int .i64 0,.int .i64 0,.slice none 0 0,.int .i64 0]) rfl rfl hHeld ?_
   simp only [List.set_cons_zero,List.set_cons_succ]
   refine wtE 13 31 (.slice none 0 0) rfl rfl hHeld ?_
   simp only [List.set_cons_zero,List.set_cons_succ]
   refine wtE 14 32 (.iface 284 (.pointer (some ef))) rfl rfl hHeld ?_
   simp only [List.set_cons_zero,List.set_cons_succ]
   have HBX:Hid (w5.heap[ab]? = some oAZ ∧ w.heap.size ≤ ab):=mkHid ⟨(HC5.out.block ab (wlt_of_heap HX4.out)).trans HX4.out,by have:=HAB.out;have:=HB3.out.size;omega⟩
   obtain ⟨c0,c1,c2,c3,fc0,fc1,fc2,fc3⟩:=azero_facts HBX.out.1
   have hlab:¬ l = ab:=by have:=HBX.out.2;have:=HLL.out;omega
   refine wpAnyH_ready (rs:=[16]) (by kernel_rfl) (by simp) (AllReadyH.cons rfl (fun K hK=>?_) AllReadyH.nil)
   go_simp
   have HK7:=mkHid (kept_four (F:=fun k=>k = ab) (R:=ab) (Kept.refl _ w5) rfl (.int .i64 0) (.int .i64 0) (.slice none 0 0) (.int .i64 0))
   refine hK.out _ _ ⟨HK7.out.cell hHeld.1 hlab,HK7.out.cell hHeld.2.1 hlab,HK7.out.cell hHeld.2.2.1 hlab,HK7.out.cell hHeld.2.2.2.1 hlab,HK7.out.cell hHeld.2.2.2.2 hlab⟩ (fun hHeld=>?_)
   clear hK K
   (try simp only [Act.put])
   refine wtE 17 7 (.slice none 0 0) rfl rfl hHeld ?_
   simp only [List.set_cons_zero,List.set_cons_succ]
   refine wtE 18 8 (.iface 284 (.pointer (some ef))) rfl rfl hHeld ?_
   simp only [List.set_cons_zero,List.set_cons_succ]
   refine wpAnyH_done (by kernel_rfl) ?_ _
   clear hHeld c0 c1 c2 c3 fc0 fc1 fc2 fc3
   generalize ((((w5.setCell ⟨ab,0,none⟩ (.int .i64 0)).setCell ⟨ab,1,none⟩ (.int .i64 0)).setCell ⟨ab,2,none⟩ (.slice none 0 0)).setCell ⟨ab,3,none⟩ (.int .i64 0)) = w7 at *
   go_wp2
   go_ret
   exact ⟨rfl,HB5.out.trans (HK7.out.below (fun k e=>by have:=HBX.out.2;omega) HB5.out.size)⟩
 ·obtain ⟨w3,hw3⟩:∃ w3,w3 = w1.alloc oAZ:=⟨_,rfl⟩
  have hb3:Below w1.heap.size w1 w3:=by rw [hw3];exact (Below.refl _ _).alloc (Nat.le_refl _) _
  have HX3:Hid (w3.heap[w1.heap.size]? = some oAZ):=mkHid (by rw [hw3];exact heap_alloc_new w1 _)
  have HB3:=mkHid (HB1.out.trans (hb3.mono HB1.out.size))
  have HC3:=mkHid hb3
  obtain ⟨ab,hab⟩:∃ ab,ab = w1.heap.size:=⟨_,rfl⟩
  have HAB:=mkHid hab
  rw [← hab] at HX3
  go_simp
  rw [← hw3,← hab]
  refine hK.out _ _ ⟨cell_lat hb3 hHeld.1,cell_lat hb3 hHeld.2.1,cell_lat hb3 hHeld.2.2.1,cell_lat hb3 hHeld.2.2.2.1,cell_lat hb3 hHeld.2.2.2.2⟩ (fun hHeld=>?_)
  clear hK K hb3 hw3 hab
  (try simp only [Act.put])
  refine wpAnyH_ready (rs:=[9]) (by kernel_rfl) (by simp) (AllReadyH.cons rfl (fun K hK=>?_) AllReadyH.nil)
  go_simp
  refine (clone_any w3 _ data (HRD.out.later HB3.out) (by have:=HDL.out;omega)).mono ?_
  rintro e w4 ⟨v4,rfl,ho4,b4⟩
  obtain ⟨da,dc,rfl⟩:=own_shape ho4
  have HO4:=mkHid ho4
  have HC4:=mkHid b4
  have HB4:=mkHid (HB3.out.trans (b4.mono HB3.out.size))
  refine hK.out _ _ ⟨cell_lat b4 hHeld.1,cell_lat b4 hHeld.2.1,cell_lat b4 hHeld.2.2.1,cell_lat b4 hHeld.2.2.2.1,cell_lat b4 hHeld.2.2.2.2⟩ (fun hHeld=>?_)
  clear hK K b4 ho4
  refine wpAnyH_ready (rs:=[10]) (by kernel_rfl) (by simp) (AllReadyH.cons rfl (fun K hK=>?_) AllReadyH.nil)
  go_simp
  refine (HWI.out w4 da dc HB4.out (Rd.of_owns HRD.out.1 HO4.out) (fun k e=>⟨by have:=(HO4.out.lt k e).1;have:=HB3.out.size;omega,(HO4.out.lt k e).2⟩)).mono ?_
  rintro e w5 ⟨rfl,hb5⟩
  have HC5:=mkHid hb5
  have HB5:=mkHid (HB4.out.trans (hb5.mono HB4.out.size))
  refine hK.out _ _ ⟨cell_lat hb5 hHeld.1,cell_lat hb5 hHeld.2.1,cell_lat hb5 hHeld.2.2.1,cell_lat hb5 hHeld.2.2.2.1,cell_lat hb5 hHeld.2.2.2.2⟩ (fun hHeld=>?_)
  clear hK K hb5
  (try simp only [Act.put])
  refine wtE 11 18 (.tuple #[.agg #[.int .i64 0,.int .i64 0,.slice none 0 0,.int .i64 0],.slice none 0 0,.iface 284 (.pointer (some ef))]) rfl rfl hHeld ?_
  simp only [List.set_cons_zero,List.set_cons_succ]
  refine wtE 12 30 (.agg #[.int .i64 0,.int .i64 0,.slice none 0 0,.int .i64 0]) rfl rfl hHeld ?_
  simp only [List.set_cons_zero,List.set_cons_succ]
  refine wtE 13 31 (.slice none 0 0) rfl rfl hHeld ?_
  simp only [List.set_cons_zero,List.set_cons_succ]
  refine wtE 14 32 (.iface 284 (.pointer (some ef))) rfl rfl hHeld ?_
  simp only [List.set_cons_zero,List.set_cons_succ]
  have HBX:Hid (w5.heap[ab]? = some oAZ ∧ w.heap.size ≤ ab):=mkHid ⟨(HC5.out.block ab (Nat.lt_of_lt_of_le (wlt_of_heap HX3.out) HC4.out.size)).trans ((HC4.out.block ab (wlt_of_heap HX3.out)).trans HX3.out),by have:=HAB.out;have:=HB1.out.size;omega⟩
  obtain ⟨c0,c1,c2,c3,fc0,fc1,fc2,fc3⟩:=azero_facts HBX.out.1
  have hlab:¬ l = ab:=by have:=HBX.out.2;have:=HLL.out;omega
  refine wpAnyH_ready (rs:=[16]) (by kernel_rfl) (by simp) (AllReadyH.cons rfl (fun K hK=>?_) AllReadyH.nil)
  go_simp
  have HK7:=mkHid (kept_four (F:=fun k=>k = ab) (R:=ab) (Kept.refl _ w5) rfl (.int .i64 0) (.int .i64 0) (.slice none 0 0) (.int .i64 0))
  refine hK.out _ _ ⟨HK7.out.cell hHeld.1 hlab,HK7.out.cell hHeld.2.1 hlab,HK7.out.cell hHeld.2.2.1 hlab,HK7.out.cell hHeld.2.2.2.1 hlab,HK7.out.cell hHeld.2.2.2.2 hlab⟩ (fun hHeld=>?_)
  clear hK K
  (try simp only [Act.put])
  refine wtE 17 7 (.slice none 0 0) rfl rfl hHeld ?_
  simp only [List.set_cons_zero,List.set_cons_succ]
  refine wtE 18 8 (.iface 284 (.pointer (some ef))) rfl rfl hHeld ?_
  simp only [List.set_cons_zero,List.set_cons_succ]
  refine wpAnyH_done (by kernel_rfl) ?_ _
  clear hHeld c0 c1 c2 c3 fc0 fc1 fc2 fc3
  generalize ((((w5.setCell ⟨ab,0,none⟩ (.int .i64 0)).setCell ⟨ab,1,none⟩ (.int .i64 0)).setCell ⟨ab,2,none⟩ (.slice none 0 0)).setCell ⟨ab,3,none⟩ (.int .i64 0)) = w7 at *
  go_wp2
  go_ret
  exact ⟨rfl,HB5.out.trans (HK7.out.below (fun k e=>by have:=HBX.out.2;omega) HB5.out.size)⟩
end Go.Proofs.YtihdkgekickohaaGreatDoor
