import Derived.Test.YtihdkgekickohaaGreatDoorVdX
import Derived.Test.YtihdkgekickohaaGreatDoorTiX
import Derived.Deep.RegionHeld3
import Derived.Test.YtihdkgekickohaaGreatDoorLaid
import Derived.Test.YtihdkgekickohaaGreatDoorRd
import Derived.WalkKit
import Derived.LaidEql
import Derived.Stop.Asserts
namespace Go.Proofs.YtihdkgekickohaaGreatDoor
open Go.ChangeShapes Go.WideShapes Go.ChangeAt Go.RowKit
set_option maxRecDepth 100000
attribute [local go_sem] World.cell?_alloc_some frozen_alloc_some
theorem yields_slice {P:Program} {oi:Oper} {a:Act} {t:TypeId} {x:Operand} {lo hi mx:Option Operand} {v:Value} (hop:oi.op = .slice t x lo hi mx) (hu:P.underlying t = some (.slice (P.elem t))) (h:∀ W,(Instr.slice t (a.eval x) (lo.map a.eval) (hi.map a.eval) (mx.map a.eval)).run P W = .ok v W) (w:World):Sem.run P (execOp a.eval oi) w = .ok (.value v) w:=by
 unfold execOp
 simp only [hop]
 simp [run_sliceAt_slice w t _ _ _ _ hu,h w]
theorem sizeEn (W:World):(Go.sizeOf 69).run Tryz.prog W = .ok 10 W:=by
 obtain ⟨i0,hi,hz0,hz1,hz2⟩:=info_parts info_entry
 simp [Go.sizeOf,typeInfo,hi,hz1]
theorem elemEn:Tryz.prog.underlying 40 = some (.slice (Tryz.prog.elem 40)) ∧ Tryz.prog.elem 40 = 69:=by
 simp [Program.elem,Tryz.underlying40]
theorem Ens.slicedM {w:World} {a:Option Addr} {cap f t m:Nat} {ps:List Ep} (h:Ens w (.slice a ps.length cap) ps) (h1:f ≤ t) (h2:t ≤ ps.length) (hm:t ≤ m):Ens w (Go.sliced a f t m 10) ((ps.drop f).take (t - f)):=by
 obtain ⟨a',cap',e,hl,hr,hw⟩:=h
 simp at e
 obtain ⟨rfl,rfl⟩:=e
 have hlen:((ps.drop f).take (t - f)).length = t - f:=by rw [List.length_take,List.length_drop];omega
 refine ⟨_,m - f,by unfold Go.sliced;rw [hlen],by rw [hlen];omega,fun hp=>?_,fun x hx=>hw x (List.mem_of_mem_drop (List.mem_of_mem_take hx))⟩
 rw [hlen] at hp
 obtain ⟨b,off,rfl,hcell⟩:=hr (by omega)
 refine ⟨b,off + f * 10,?_,fun i x hi=>?_⟩
 ·rw [if_neg (by omega)]
  simp [add_none]
 ·have hi2:i < t - f:=by have:=(List.getElem?_eq_some_iff.mp hi).1;omega
  rw [List.getElem?_take_of_lt hi2,List.getElem?_drop] at hi
  have:=hcell (f + i) x hi
  rwa [show off + (f + i) * 10 = off + f * 10 + i * 10 by omega] at this
theorem Ens.headE {w:World} {a:Option Addr} {cap:Nat} {ps:List Ep} (h:Ens w (.slice a ps.length cap) ps) (hc:ps.length ≤ cap) (t:Nat) (h2:t ≤ ps.length) (_hx:(ps.length:Int) ≤ 100000) :
  ∃ v',(∀ W,(Instr.slice 40 (.slice a ps.length cap) none (some (.int .i64 (t:Int))) none).run Tryz.prog W = .ok v' W) ∧ Ens w v' (ps.take t):=by
 refine ⟨Go.sliced a 0 t cap 10,fun W=>?_,?_⟩
 ·rw [run_slice_h W 40 _ _ _ elemEn.1 .i64 _ (by omega) (by omega),elemEn.2,sizeEn]
  simp [Result.andThen]
 ·simpa using h.slicedM (f:=0) (Nat.zero_le _) h2 (show t ≤ cap by omega)
theorem Ens.tailE {w:World} {a:Option Addr} {cap:Nat} {ps:List Ep} (h:Ens w (.slice a ps.length cap) ps) (hc:ps.length ≤ cap) (f:Nat) (h2:f ≤ ps.length) (_hx:(ps.length:Int) ≤ 9223372036854775807) :
  ∃ v',(∀ W,(Instr.slice 40 (.slice a ps.length cap) (some (.int .i64 (f:Int))) none none).run Tryz.prog W = .ok v' W) ∧ Ens w v' (ps.drop f):=by
 refine ⟨Go.sliced a f ps.length cap 10,fun W=>?_,?_⟩
 ·rw [run_slice_l W 40 _ _ _ elemEn.1 .i64 _ (by omega) (by omega),elemEn.2,sizeEn]
  simp [Result.andThen]
 ·have:=h.slicedM (f:=f) (t:=ps.length) (m:=cap) h2 (Nat.le_refl _) hc
  rwa [List.take_of_length_le (by rw [List.length_drop];omega)] at this
theorem ens_own {w:World} {base:Nat} {a:Option Addr} {c:Nat} {ps:List Ep} (h:w.ownsRow base 69 10 (.slice a ps.length c) ps.length (ps.flatMap c10)) (hl:ps.length ≤ 100000) (ht:∀ t ∈ ps,EnW w t):Ens w (.slice a ps.length c) ps:=by
 obtain ⟨a',cap,e,he⟩:=ens_of_owns (by omega) h ht
 rw [e];exact he
theorem three_at (w:World) (o1 o2 o3:Obj):(((w.alloc o1).alloc o2).alloc o3).heap[w.heap.size + 1 + 1]? = some o3:=by
 have:=heap_alloc_new ((w.alloc o1).alloc o2) o3
 simpa using this
set_option maxHeartbeats 6400000 in
theorem behind_pr (w:World) (s:Vs) (a:Option Addr) (n c:Nat) (b1 b2 st:Int) (rv:Value) :
  Calls Tryz.prog 73 #[vS s (.slice a n c),vR 1 b1 b2 st rv] w fun r w'=>r = .returned (.tuple #[vS (s.does (.pr (b1,b2))) (.slice a n c),.nilIface]) ∧ Below w.heap.size w w':=by
 obtain ⟨⟨p1,p2⟩,⟨a1,a2⟩,c',l⟩:=s
 simp only [vS,vR,Vs.does]
 go_enter Tryz.func73,Tryz.ntmps73
 go_wp2
 exact bodyPost_ret (six_leaves rfl (three_at w _ _ _) _ rfl) rfl ⟨rfl,ba (ba (ba (Below.refl _ _) _) _) _⟩
set_option maxHeartbeats 6400000 in
theorem behind_cl (w:World) (s:Vs) (a:Option Addr) (n c:Nat) (b1 b2 st:Int) (rv:Value) :
  Calls Tryz.prog 73 #[vS s (.slice a n c),vR 3 b1 b2 st rv] w fun r w'=>r = .returned (.tuple #[vS (s.does (.cl b1)) (.slice a n c),.nilIface]) ∧ Below w.heap.size w w':=by
 obtain ⟨⟨p1,p2⟩,⟨a1,a2⟩,c',l⟩:=s
 obtain ⟨m,hm⟩:∃ m,m = max c' b1:=⟨_,rfl⟩
 simp only [vS,vR,Vs.does]
 rw [← hm]
 have HM:=mkHid hm
 clear hm
 by_cases hlt:c' < b1
 ·obtain rfl:m = b1:=by rw [HM.out];omega
  go_enter Tryz.func73,Tryz.ntmps73
  go_wp2
  exact bodyPost_ret (six_leaves rfl (three_at w _ _ _) _ rfl) rfl ⟨rfl,ba (ba (ba (Below.refl _ _) _) _) _⟩
 ·obtain rfl:m = c':=by rw [HM.out];omega
  go_enter Tryz.func73,Tryz.ntmps73
  go_wp2
  exact bodyPost_ret (six_leaves rfl (three_at w _ _ _) _ rfl) rfl ⟨rfl,ba (ba (ba (Below.refl _ _) _) _) _⟩
set_option maxHeartbeats 6400000 in
theorem behind_ac (w:World) (s:Vs) (lv rv:Value) (ps qs:List Ep) (b1 b2:Int) (k:Nat) (hl:Ens w lv ps) (hr:Ens w rv qs) (hls:fs1 ps = s.l) (hk:k ≤ ps.length) (hkl:k + qs.length ≤ 64) (hc:∀ a n c,lv = .slice a n c → ps.length ≤ c) (hp:ps.length ≤ 64) (hsm:∀ t ∈ ps.take k ++ qs,small t) :
  Calls Tryz.prog 73 #[vS s lv,vR 2 b1 b2 k rv] w fun r w'=>∃ a c ts,r = .returned (.tuple #[vS (s.does (.ac (b1,b2) k (fs1 qs))) (.slice a ts.length c),.nilIface]) ∧ fs1 ts = (s.does (.ac (b1,b2) k (fs1 qs))).l ∧ Led w.heap.size w' (.slice a ts.length c) ts ∧ Below w.heap.size w w':=by
 obtain ⟨la,lc,rfl⟩:∃ a cap,lv = .slice a ps.length cap:=by obtain ⟨a,cap,e,_⟩:=hl;exact ⟨a,cap,e⟩
 obtain ⟨ra,rc,rfl⟩:∃ a cap,rv = .slice a qs.length cap:=by obtain ⟨a,cap,e,_⟩:=hr;exact ⟨a,cap,e⟩
 obtain ⟨hv,hsl,hEh⟩:=hl.headE (hc _ _ _ rfl) k hk (by omega)
 obtain ⟨ha,hcp,rfl⟩:∃ a c,hv = .slice a k c:=by
  obtain ⟨a,c,e,_⟩:=hEh
  exact ⟨a,c,by rw [e,List.length_take,Nat.min_eq_left hk]⟩
 have HR:=mkHid hr
 have HEH:=mkHid hEh
 have HSL:=mkHid hsl
 have hk1:(k:Int) ≤ (ps.length:Int):=by omega
 have hk2:(k:Int) + (qs.length:Int) ≤ 64:=by omega
 have hk3:(ps.length:Int) ≤ 64:=by omega
 obtain ⟨⟨p1,p2⟩,⟨a1,a2⟩,c',l⟩:=s
 simp only [vS,vR,Vs.does]
 obtain ⟨L,hL⟩:∃ L,L = ps.take k ++ qs:=⟨_,rfl⟩
 have HLL:=mkHid hL
 have HSM:=mkHid hsm
 have HLS:=mkHid hls
 clear hr hEh hsl hl hc hL hsm hls
 go_enter Tryz.func73,Tryz.ntmps73
 go_wp2
 go_region
 go_wp2
 rename_i hguard
 clear hguard
 have HX:Hid (((((w.alloc (oS ⟨(b1,b2),(b1,b2),c',l⟩ (.slice la ps.length lc))).alloc (oRc 2 b1 b2 k (.slice ra qs.length rc))).alloc oZ6).drew).heap[w.heap.size]? = some (oS ⟨(b1,b2),(b1,b2),c',l⟩ (.slice la ps.length lc)) ∧ ((((w.alloc (oS ⟨(b1,b2),(b1,b2),c',l⟩ (.slice la ps.length lc))).alloc (oRc 2 b1 b2 k (.slice ra qs.length rc))).alloc oZ6).drew).heap[w.heap.size + 1]? = some (oRc 2 b1 b2 k (.slice ra qs.length rc)) ∧ ((((w.alloc (oS ⟨(b1,b2),(b1,b2),c',l⟩ (.slice la ps.length lc))).alloc (oRc 2 b1 b2 k (.slice ra qs.length rc))).alloc oZ6).drew).heap[w.heap.size + 1 + 1]? = some oZ6 ∧ Below w.heap.size w ((((w.alloc (oS ⟨(b1,b2),(b1,b2),c',l⟩ (.slice la ps.length lc))).alloc (oRc 2 b1 b2 k (.slice ra qs.length rc))).alloc oZ6).drew) ∧ w.heap.size + 3 = ((((w.alloc (oS ⟨(b1,b2),(b1,b2),c',l⟩ (.slice la ps.length lc))).alloc (oRc 2 b1 b2 k (.slice ra qs.length rc))).alloc oZ6).drew).heap.size):=mkHid (by
  refine ⟨?_,?_,three_at w _ _ _,(ba (ba (ba (Below.refl _ w) _) _) _).drew,by simp⟩
  ·show (((w.alloc _).alloc _).alloc _).heap[w.heap.size]? = _
   rw [heap_alloc_old _ _ (by simp;omega),heap_alloc_old _ _ (by simp)];exact heap_alloc_new w _
  ·show (((w.alloc _).alloc _).alloc _).heap[w.heap.size + 1]? = _
   rw [heap_alloc_old _ _ (by simp)];exact two_of_two w _ _)
 generalize ((((w.alloc (oS ⟨(b1,b2),(b1,b2),c',l⟩ (.slice la ps.length lc))).alloc (oRc 2 b1 b2 k (.slice ra qs.length rc))).alloc oZ6).drew) = W3 at HX ⊢
 obtain ⟨x0,x1,x2,x3,x4,x5⟩:=st_cells HX.out.1
 obtain ⟨y0,y1,y2,y3,y4⟩:=rc_cells HX.out.2.1
 clear x0 x1 x2 x3 x4 y0 y1 y2
 have hT:W3.drew.cell? ⟨w.heap.size,5,none⟩ = some (.slice la ps.length lc) ∧ W3.drew.cell? ⟨w.heap.size + 1,3,none⟩ = some (.int .i64 (k:Int)) ∧ W3.drew.cell? ⟨w.heap.size + 1,4,none⟩ = some (.slice ra qs.length rc):=⟨x5,y3,y4⟩
 refine wp_region_till (fun w'=>w'.cell? ⟨w.heap.size,5,none⟩ = some (.slice la ps.length lc) ∧ w'.cell? ⟨w.heap.size + 1,3,none⟩ = some (.int .i64 (k:Int)) ∧ w'.cell? ⟨w.heap.size + 1,4,none⟩ = some (.slice ra qs.length rc)) 11 (by kernel_rfl) ?_
 refine frE 0 38 (.pointer (some ⟨w.heap.size,5,none⟩)) rfl rfl (fun _=>hT) ?_
 (try simp only [List.set_cons_zero,List.set_cons_succ])
 refine fiE 1 39 (.slice la ps.length lc) rfl rfl hT ?_
 (try simp only [List.set_cons_zero,List.set_cons_succ])
 refine frE 2 40 (.pointer (some ⟨w.heap.size + 1,3,none⟩)) rfl rfl (fun _=>hT) ?_
 (try simp only [List.set_cons_zero,List.set_cons_succ])
 refine fiE 3 41 (.int .i64 (k:Int)) rfl rfl hT ?_
 (try simp only [List.set_cons_zero,List.set_cons_succ])
 refine freeD 4 42 (.slice ha k hcp) rfl rfl (by kernel_rfl) (by kernel_rfl) (by kernel_rfl) (by decide) (fun _ _ _ h=>h) (fun _=>hT) (Or.inl ⟨by kernel_rfl,by intro w _;exact yields_slice (t:=40) rfl elemEn.1 (by simpa [Act.eval] using HSL.out) w⟩) ?_
 (try simp only [List.set_cons_zero,List.set_cons_succ])
 refine frE 5 43 (.pointer (some ⟨w.heap.size + 1,4,none⟩)) rfl rfl (fun _=>hT) ?_
 (try simp only [List.set_cons_zero,List.set_cons_succ])
 refine fiE 6 44 (.slice ra qs.length rc) rfl rfl hT ?_
 (try simp only [List.set_cons_zero,List.set_cons_succ])
 refine wpT_ready (rs:=[7]) (by kernel_rfl) (by simp) (AllT.cons rfl (fun K hK=>?_) AllT.nil)
 go_simp
 have HB4:Hid (Below W3.heap.size W3 ((W3.alloc (.cells #[.slice ha k hcp,.slice ra qs.length rc] 40)).drew)):=mkHid (ba (Below.refl _ _) _).drew
 have HZ:Hid (((W3.alloc (.cells #[.slice ha k hcp,.slice ra qs.length rc] 40)).drew).cell? ⟨W3.heap.size,0,none⟩ = some (.slice ha k hcp) ∧ ((W3.alloc (.cells #[.slice ha k hcp,.slice ra qs.length rc] 40)).drew).cell? ⟨W3.heap.size,1,none⟩ = some (.slice ra qs.length rc)):=mkHid ⟨cell_of_block (heap_alloc_new W3 _) rfl,cell_of_block (heap_alloc_new W3 _) rfl⟩
 have x5':=kc x5 HB4.out
 have y3':=kc y3 HB4.out
 have y4':=kc y4 HB4.out
 clear x5 y3 y4 hT
 refine hK.out _ _ (fun _=>⟨x5',y3',y4'⟩) ?_
 clear hK K
 (try simp only [Act.put])
 refine wpT_ready (rs:=[8]) (by kernel_rfl) (by simp) (AllT.cons rfl (fun K hK=>?_) AllT.nil)
 go_simp
 have HCC:=concatE _ _ (.slice ha k hcp) (.slice ra qs.length rc) (ps.take k) qs HZ.out.1 HZ.out.2 (HEH.out.below (bt HX.out.2.2.2.1 HB4.out)) (HR.out.below (bt HX.out.2.2.2.1 HB4.out)) (by rw [List.length_take];omega)
 rw [← HLL.out] at HCC
 refine HCC.mono ?_
 clear HCC
 rintro e w5 ⟨a5,c5,rfl,ho5,b5⟩
 have HB5:=mkHid (bt HB4.out b5)
 have HE5:Hid (Ens w5 (.slice a5 L.length c5) L ∧ L.length ≤ 64):=mkHid ⟨ens_own ho5 (by rw [HLL.out,List.length_append,List.length_take];omega) (fun t ht=>by
  rw [HLL.out] at ht
  have hb:=bt (bt HX.out.2.2.2.1 HB4.out) b5
  rcases List.mem_append.mp ht with m | m
  ·obtain ⟨_,_,_,_,_,hw⟩:=HEH.out.below hb;exact hw t m
  ·obtain ⟨_,_,_,_,_,hw⟩:=HR.out.below hb;exact hw t m),by rw [HLL.out,List.length_append,List.length_take];omega⟩
 have x5'':=kc x5' b5
 have y3a:=kc y3' b5
 have y4a:=kc y4' b5
 clear ho5 b5 x5' y3' y4'
 refine hK.out _ _ (fun _=>⟨x5'',y3a,y4a⟩) ?_
 clear hK K
 (try simp only [Act.put])
 refine wpT_ready (rs:=[9]) (by kernel_rfl) (by simp) (AllT.cons rfl (fun K hK=>?_) AllT.nil)
 go_simp
 refine (cloneV _ _ L HE5.out.1 (by have:=HE5.out.2;omega) (fun t ht=>HSM.out t (by rw [← HLL.out];exact ht))).mono ?_
 rintro e w6 ⟨a6,c6,ts,rfl,l6,f6,b6⟩
 have HB6:=mkHid (bt HB5.out b6)
 have HL6:=mkHid (And.intro l6 f6)
 have HBX:Hid (Below w.heap.size w w6):=mkHid (bt HX.out.2.2.2.1 HB6.out)
 have hs6:=HB6.out.block w.heap.size (by have:=HX.out.2.2.2.2;omega)
 have hz6:=HB6.out.block (w.heap.size + 1 + 1) (by have:=HX.out.2.2.2.2;omega)
 have HS6:Hid (w6.heap[w.heap.size]? = some (oS ⟨(b1,b2),(b1,b2),c',l⟩ (.slice la ps.length lc)) ∧ w6.heap[w.heap.size + 1 + 1]? = some oZ6):=mkHid ⟨hs6.trans HX.out.1,hz6.trans HX.out.2.2.1⟩
 obtain ⟨u0,u1,u2,u3,u4,x6⟩:=st_cells HS6.out.1
 have v6:w6.frozen? ⟨w.heap.size,5,none⟩ = false:=frozen_of_block HS6.out.1
 have y3b:=kc y3a b6
 have y4b:=kc y4a b6
 have HW5:Hid (w.heap.size + 3 ≤ w5.heap.size):=mkHid (by have:=HB5.out.size;have:=HX.out.2.2.2.2;omega)
 clear hs6 hz6 l6 f6 b6 x5'' y3a y4a
 refine hK.out _ _ (fun _=>⟨x6,y3b,y4b⟩) ?_
 clear hK K
 (try simp only [Act.put])
 refine freeD 10 48 (.pointer (some ⟨w.heap.size,5,none⟩)) rfl rfl (by kernel_rfl) (by kernel_rfl) (by kernel_rfl) (by decide) (fun _ _ _ h=>h) (fun _=>⟨x6,y3b,y4b⟩) (Or.inl ⟨by kernel_rfl,by intro w _;go_simp⟩) ?_
 (try simp only [List.set_cons_zero,List.set_cons_succ])
 refine wpT_ready (rs:=[11]) (by kernel_rfl) (by simp) (AllT.cons rfl (fun K hK=>?_) AllT.nil)
 go_simp
 refine hK.out _ _ (bool_no (by kernel_rfl)) ?_
 clear hK K
 refine wpT_done (by kernel_rfl) ?_ _
 have hb7:=heap_set (i:=5) (v:=.slice a6 ts.length c6) HS6.out.1
 have hk7:Kept (fun j=>j = w.heap.size) w6 (w6.setCell ⟨w.heap.size,5,none⟩ (.slice a6 ts.length c6)):=Kept.setCell (F:=fun j=>j = w.heap.size) w6 (p:=⟨w.heap.size,5,none⟩) rfl _
 have hz7:(w6.setCell ⟨w.heap.size,5,none⟩ (.slice a6 ts.length c6)).heap[w.heap.size + 1 + 1]? = some oZ6:=(hk7.block _ (lt_of_heap HS6.out.2) (by omega)).trans HS6.out.2
 have H7:=mkHid (And.intro (show (w6.setCell ⟨w.heap.size,5,none⟩ (.slice a6 ts.length c6)).heap[w.heap.size]? = some (oS ⟨(b1,b2),(b1,b2),c',l⟩ (.slice a6 ts.length c6)) from hb7) (And.intro hz7 hk7))
 clear hb7 hk7 hz7 u0 u1 u2 u3 u4 x6 v6 y3b y4b
 generalize w6.setCell ⟨w.heap.size,5,none⟩ (.slice a6 ts.length c6) = W7 at H7 ⊢
 obtain ⟨u0,u1,u2,u3,u4,u5⟩:=st_cells H7.out.1
 go_wp2_with (refine wpList_store_box rfl 96 (.tmp 4) (.tmp 58) rfl (w.heap.size + 1 + 1) #[.int .i64 b1,.int .i64 b2,.int .i64 b1,.int .i64 b2,.int .i64 c',.slice a6 ts.length c6] rfl rfl 96 _ H7.out.2.1 size6 rfl (one6 _ _ _ _ _ _ _ _) ?_;intro w9 h9 k9)
 have hs5:=HW5.out
 have hs6:=HL6.out.1
 refine bodyPost_ret (six_leaves rfl h9 _ rfl) rfl ⟨a6,c6,ts,rfl,?_,((hs6.kept H7.out.2.2 (fun j e=>.inl (by omega))).kept k9 (fun j e=>.inl (by omega))).up (by omega),(HBX.out.trans (H7.out.2.2.below (fun j e=>by omega) HBX.out.size)).trans (k9.below (fun j e=>by omega) (by have:=H7.out.2.2.size;have:=HBX.out.size;omega))⟩
 rw [HL6.out.2,HLL.out,fs1,List.map_append,List.map_take,show ps.map (·.1) = l from HLS.out]
end Go.Proofs.YtihdkgekickohaaGreatDoor
namespace Go.Proofs.YtihdkgekickohaaGreatDoor
open Go.ChangeShapes Go.WideShapes Go.ChangeAt Go.RowKit Go.Extern.Stop Go.Stop Go.Extern
set_option maxRecDepth 100000
theorem isTypeOf (v:Value) (w:World):(Extern.ReflectliteType.typeOf #[.iface 284 v]).run Tryz.prog w = .ok (.iface 260 (.agg #[.pointer (some ⟨16,284,none⟩)])) w:=by kernel_rfl
theorem isComparable (w : World) : ((Extern.ReflectliteType.method fun t => do Extern.Rtype.noPackHeld "Comparable" t; (fun a => Value.bool a.comparable) <$> typeInfo t) #[.agg #[.pointer (some ⟨16, 284, none⟩)]]).run Tryz.prog w = .ok (.bool true) w := by kernel_rfl
theorem isMethodComparable (v : Value) (w : World) : (Go.method 420 260 v "Comparable").run Tryz.prog w = .ok (205, v) w := by kernel_rfl
theorem isComp:(Tryz.prog.info? 284).map (·.comparable) = some true:=by kernel_rfl
theorem isSize:(Tryz.prog.info? 308).map (·.size) = some 1:=by kernel_rfl
theorem noIsE (v:Value) (xT:TypeId) (w:World):(Instr.typeAssert (.iface 284 v) xT 262 true).run Tryz.prog w = .ok (.tuple #[.nilIface,.bool false]) w:=run_typeAssert_lacksB Tryz.underlying262 (by kernel_rfl) (by kernel_rfl) v xT w
theorem noUnwrapE (v:Value) (xT:TypeId) (w:World):(Instr.typeAssert (.iface 284 v) xT 265 true).run Tryz.prog w = .ok (.tuple #[.nilIface,.bool false]) w:=run_typeAssert_lacksB Tryz.underlying265 (by kernel_rfl) (by kernel_rfl) v xT w
theorem noUnwrapsE (v:Value) (xT:TypeId) (w:World):(Instr.typeAssert (.iface 284 v) xT 266 true).run Tryz.prog w = .ok (.tuple #[.nilIface,.bool false]) w:=run_typeAssert_lacksB Tryz.underlying266 (by kernel_rfl) (by kernel_rfl) v xT w
theorem is_same (a:Addr) (w:World) :
  Calls Tryz.prog 115 #[.iface 284 (.pointer (some a)),.iface 284 (.pointer (some a))] w fun e w'=>e = .returned (.bool true) ∧ w' = w:=by
 obtain ⟨i,hi,hcmp⟩:=Option.map_eq_some_iff.1 isComp
 obtain ⟨j,hj,hjs⟩:=Option.map_eq_some_iff.1 isSize
 have h8:=@run_callFunc_extern Tryz.prog 147 _ Extern.ReflectliteType.typeOf Tryz.func147 (by kernel_rfl) (by kernel_rfl) (by kernel_rfl) (by kernel_rfl)
 have h32 := @run_callFunc_extern Tryz.prog 205 _ (Extern.ReflectliteType.method fun t => do Extern.Rtype.noPackHeld "Comparable" t; pure (.bool (← typeInfo t).comparable)) Tryz.func205 (by kernel_rfl) (by kernel_rfl) (by kernel_rfl) (by kernel_rfl)
 have tT:=isTypeOf
 have cT:=isComparable
 have mR:=isMethodComparable
 have heq:=run_eql_iface_ptr_same (P:=Tryz.prog) w a Tryz.underlying26 Tryz.underlying284 hi hcmp hj
 go_enter Tryz.func115,Tryz.ntmps115
 go_wp2
 refine wp_loop_rounds 1 ?_
 rw [rounds_succ]
 go_wp2
 go_ret
 exact ⟨rfl,rfl⟩
theorem is_nil (b:Addr) (w:World) :
  Calls Tryz.prog 115 #[.nilIface,.iface 284 (.pointer (some b))] w fun e w'=>e = .returned (.bool false) ∧ w' = w:=by
 have hn:=run_eql_iface_nil_left (P:=Tryz.prog) w 284 (.pointer (some b)) Tryz.underlying26
 go_enter Tryz.func115,Tryz.ntmps115
 go_wp2
 go_ret
 exact ⟨rfl,rfl⟩
theorem is_other (a b:Addr) (ca cb:Array Value) (ta tb:TypeId) (w:World) (hne:a ≠ b) (ha:w.heap[a.block]? = some (.cells ca ta (0,0))) (hb:w.heap[b.block]? = some (.cells cb tb (0,0))) :
  Calls Tryz.prog 115 #[.iface 284 (.pointer (some a)),.iface 284 (.pointer (some b))] w fun e w'=>e = .returned (.bool false) ∧ w' = w:=by
 obtain ⟨i,hi,hcmp⟩:=Option.map_eq_some_iff.1 isComp
 obtain ⟨j,hj,hjs⟩:=Option.map_eq_some_iff.1 isSize
 have h8:=@run_callFunc_extern Tryz.prog 147 _ Extern.ReflectliteType.typeOf Tryz.func147 (by kernel_rfl) (by kernel_rfl) (by kernel_rfl) (by kernel_rfl)
 have h32 := @run_callFunc_extern Tryz.prog 205 _ (Extern.ReflectliteType.method fun t => do Extern.Rtype.noPackHeld "Comparable" t; pure (.bool (← typeInfo t).comparable)) Tryz.func205 (by kernel_rfl) (by kernel_rfl) (by kernel_rfl) (by kernel_rfl)
 have tT:=isTypeOf
 have cT:=isComparable
 have mR:=isMethodComparable
 have nE:=noIsE
 have uE:=noUnwrapE
 have vE:=noUnwrapsE
 have heq:=run_eql_iface_ptr_other (P:=Tryz.prog) w Tryz.underlying26 Tryz.underlying284 hi hcmp hj (by rw [hjs];decide) hne ha hb
 go_enter Tryz.func115,Tryz.ntmps115
 go_wp2
 refine wp_loop_rounds 1 ?_
 rw [rounds_succ]
 go_wp2
 go_ret
 exact ⟨rfl,rfl⟩
end Go.Proofs.YtihdkgekickohaaGreatDoor
