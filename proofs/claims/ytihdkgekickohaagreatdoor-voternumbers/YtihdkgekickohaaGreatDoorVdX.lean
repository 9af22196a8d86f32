import Derived.Test.YtihdkgekickohaaGreatDoorVcX
import Derived.Test.YtihdkgekickohaaGreatDoorOclone
import Derived.Lib.AppendZerosOnto
namespace Go.Proofs.YtihdkgekickohaaGreatDoor
open Go.ChangeShapes Go.WideShapes Go.ChangeAt Go.RowKit
set_option maxRecDepth 100000
attribute [local go_sem] World.cell?_alloc_some frozen_alloc_some
theorem eql_nilE (w:World) (a:Option Addr) (n c n' c':Nat):(binOp .eql 40 (.slice a n c) (.slice none n' c')).run Tryz.prog w = .ok (.bool a.isNone) w:=
 Lib.run_eql_slice_nil w _ _ a n c n' c' Tryz.underlying40
theorem ens_nil {w:World} {n c:Nat} {ps:List Ep} (h:Ens w (.slice none n c) ps):ps = []:=by
 obtain ⟨a',c',e,_,hr,_⟩:=h
 by_cases hp:0 < ps.length
 ·obtain ⟨b,o,e2,_⟩:=hr hp
  simp only [Value.slice.injEq] at e
  rw [e2] at e
  simp at e
 ·exact List.length_eq_zero_iff.mp (by omega)
theorem cloneR (w:World) (v:Value) (ps:List Ep) (h:Ens w v ps) (hs:ps.length * 96 ≤ 140737488355328):Calls Tryz.prog 83 #[v] w fun r w'=>∃ a2 c2,r = .returned (.slice a2 ps.length c2) ∧ w'.ownsRow w.heap.size 69 10 (.slice a2 ps.length c2) ps.length (ps.flatMap c10) ∧ Below w.heap.size w w':=by
 obtain ⟨ie,hi,hz0,hz1,hz2⟩:=info_parts info_entry
 obtain ⟨zth,hzth⟩:∃ z:Value,z = .agg #[.int .i64 0,.int .i64 0,.int .i64 0,.int .i64 0,.int .i64 0,.int .i64 0,.int .i64 0,.int .i64 0,.slice none 0 0,.int .i64 0]:=⟨_,rfl⟩
 rw [← hzth] at hz0
 have HZ:Hid (zth.cells.size = 10):=mkHid (by rw [hzth];rfl)
 have hie:=mkHid (And.intro hi (And.intro hz0 (And.intro hz1 hz2)))
 clear hzth hi hz0 hz1 hz2
 have HS:=mkHid hs
 obtain ⟨a,cap,rfl⟩:∃ a cap,v = .slice a ps.length cap:=by obtain ⟨a,cap,e,_⟩:=h;exact ⟨a,cap,e⟩
 cases a with
 |none=>
  obtain rfl:=ens_nil h
  have hq:=eql_nilE w none 0 cap 0 0
  clear h hs
  go_enter Tryz.func83,Tryz.ntmps83
  go_wp2
  go_ret
  exact ⟨none,0,rfl,World.ownsRow_nil _ _ _ _,Below.refl _ _⟩
 |some ad=>
  have hq:=eql_nilE w (some ad) ps.length cap 0 0
  have HSRC:=mkHid ((h.below (ba (Below.refl _ w) (.cells #[] 69))).src)
  have HM:Hid ((w.alloc (.cells #[] 69)).ownsRow w.heap.size 69 10 (.slice (some ⟨w.heap.size,0,none⟩) 0 0) 0 []):=mkHid (World.ownsRow_made (base:=w.heap.size) (e:=69) (size:=10) w #[] 0 (Nat.le_refl _) (by unfold maxLen;omega) rfl)
  clear h hs
  go_enter Tryz.func83,Tryz.ntmps83
  go_wp2_with (at_builtin;refine wpList_append_src10 _ rfl (.tmp 5) (.tmp 6) 40 40 rfl w.heap.size 69 ie Tryz.underlying40 hie.out.1 zth 96 hie.out.2.1 HZ.out hie.out.2.2.1 hie.out.2.2.2 _ 0 [] rfl HM.out _ ps.length (ps.flatMap c10) rfl HSRC.out (by have:=HS.out;unfold maxLen;omega) (by have:=HS.out;omega) (by simp) ?_;intro v2 w2 ho2 hg2 _;rw [Nat.zero_add,List.nil_append] at ho2;obtain ⟨a2,c2,rfl⟩:=own_shape ho2;have HO2:=mkHid (And.intro ho2 ((ba (Below.refl _ w) _).grown hg2 (by simp) (fun k hk=>(HM.out.lt k hk).1)));clear ho2 hg2)
  go_ret
  exact ⟨a2,c2,rfl,HO2.out.1,HO2.out.2⟩
theorem ownN_below {w w':World} {b n0:Nat} {e:TypeId} {v:Value} {n:Nat} {xs:List Value} (h:w.ownsRow b e n0 v n xs) (hb:Below w.heap.size w w'):w'.ownsRow b e n0 v n xs:=
 ownN_kept h (kept_of_below hb) (fun k e hge=>by have:=(h.lt k e).2;omega)
theorem set8 (A B:List Value) (c0 c1 c2 c3 c4 c5 c6 c7 c8 c9 v:Value) (o:Nat) (ho:A.length = o) :
  (A ++ ([c0,c1,c2,c3,c4,c5,c6,c7,c8,c9] ++ B)).set (o + 8) v = A ++ ([c0,c1,c2,c3,c4,c5,c6,c7,v,c9] ++ B):=by
 subst ho
 simp [List.set_append_right]
structure CL (w wr:World) (lv:Value) (ps qs:List Ep) (j:Nat):Prop where
 fs:fs1 qs = (fs1 ps).take j
 own:wr.ownsRow w.heap.size 69 10 lv ps.length ((qs ++ ps.drop j).flatMap c10)
 tk:∀ t ∈ qs,wr.ownsRow w.heap.size 137 4 (tv t) t.1.ts.length (t.1.ts.flatMap c4)
 ne:∀ t ∈ qs,∀ k,(tv t).ownBlock = some k → lv.ownBlock ≠ some k
 bel:Below w.heap.size w wr
theorem own_ten {base g n cap j:Nat} {w:World} {qs rest:List Ep} {z:Ep} (ho:w.ownsRow base 69 10 (.slice (some ⟨g,0,none⟩) n cap) n ((qs ++ z :: rest).flatMap c10)) (hj:qs.length = j) :
  (w.cell? ⟨g,j * 10,none⟩ = some (.int .i64 z.1.cl) ∧ w.frozen? ⟨g,j * 10,none⟩ = false) ∧ (w.cell? ⟨g,j * 10 + 1,none⟩ = some (.int .i64 z.1.nu) ∧ w.frozen? ⟨g,j * 10 + 1,none⟩ = false) ∧ (w.cell? ⟨g,j * 10 + 2,none⟩ = some (.int .i64 z.1.ki) ∧ w.frozen? ⟨g,j * 10 + 2,none⟩ = false) ∧ (w.cell? ⟨g,j * 10 + 3,none⟩ = some (.int .i64 z.1.id) ∧ w.frozen? ⟨g,j * 10 + 3,none⟩ = false) ∧ (w.cell? ⟨g,j * 10 + 4,none⟩ = some (.int .i64 z.1.sk) ∧ w.frozen? ⟨g,j * 10 + 4,none⟩ = false) ∧ (w.cell? ⟨g,j * 10 + 5,none⟩ = some (.int .i64 z.1.sq) ∧ w.frozen? ⟨g,j * 10 + 5,none⟩ = false) ∧ (w.cell? ⟨g,j * 10 + 6,none⟩ = some (.int .i64 z.1.st) ∧ w.frozen? ⟨g,j * 10 + 6,none⟩ = false) ∧ (w.cell? ⟨g,j * 10 + 7,none⟩ = some (.int .i64 z.1.po) ∧ w.frozen? ⟨g,j * 10 + 7,none⟩ = false) ∧ (w.cell? ⟨g,j * 10 + 8,none⟩ = some (tv z) ∧ w.frozen? ⟨g,j * 10 + 8,none⟩ = false) ∧ (w.cell? ⟨g,j * 10 + 9,none⟩ = some (.int .i64 z.1.tm) ∧ w.frozen? ⟨g,j * 10 + 9,none⟩ = false):=by
 have hz:(qs ++ z :: rest)[j]? = some z:=by rw [← hj];simp
 have q:∀ r u,r < 10 → (c10 z)[r]? = some u → w.cell? ⟨g,j * 10 + r,none⟩ = some u ∧ w.frozen? ⟨g,j * 10 + r,none⟩ = false:=fun r u hr hu=>own_cell ho ((fl_get c10 10 c10_len _ j r z hz hr).trans hu)
 exact ⟨q 0 _ (by omega) rfl,q 1 _ (by omega) rfl,q 2 _ (by omega) rfl,q 3 _ (by omega) rfl,q 4 _ (by omega) rfl,q 5 _ (by omega) rfl,q 6 _ (by omega) rfl,q 7 _ (by omega) rfl,q 8 _ (by omega) rfl,q 9 _ (by omega) rfl⟩
theorem CL.len {w wr:World} {lv:Value} {ps qs:List Ep} {j:Nat} (h:CL w wr lv ps qs j) (hj:j ≤ ps.length):qs.length = j:=by
 have:=congrArg List.length h.fs
 simp [fs1] at this
 omega
theorem CL.step {w wr w2:World} {g n c j:Nat} {ps qs:List Ep} {e:En} {ta a2:Option Addr} {tc c2:Nat} (h:CL w wr (.slice (some ⟨g,0,none⟩) n c) ps qs j) (hj:j < ps.length) (hx:ps[j]? = some (e,ta,tc)) (hb:Below wr.heap.size wr w2) (ho:w2.ownsRow wr.heap.size 137 4 (.slice a2 e.ts.length c2) e.ts.length (e.ts.flatMap c4)) :
  CL w (w2.setCell ⟨g,j * 10 + 8,none⟩ (.slice a2 e.ts.length c2)) (.slice (some ⟨g,0,none⟩) n c) ps (qs ++ [(e,a2,c2)]) (j + 1):=by
 have hq:=h.len (by omega)
 obtain ⟨hf,ho1,htk,hne,hbel⟩:=h
 obtain rfl:n = ps.length:=by obtain ⟨_,_,e1,_⟩:=own_sh ho1;simp only [Value.slice.injEq] at e1;exact e1.2.1
 have hg:=ho1.lt g rfl
 have hs:=hb.size
 have hk:Kept (fun k=>k = g) w2 (w2.setCell ⟨g,j * 10 + 8,none⟩ (.slice a2 e.ts.length c2)):=Kept.setCell (F:=fun k=>k = g) w2 (p:=⟨g,j * 10 + 8,none⟩) rfl _
 have hd:ps.drop j = (e,ta,tc) :: ps.drop (j + 1):=by
  rw [List.drop_eq_getElem_cons hj,(List.getElem?_eq_some_iff.mp hx).2]
 refine ⟨?_,?_,fun t ht=>?_,fun t ht k e1=>?_,hbel.trans ((hb.mono hbel.size).trans (hk.below (fun k e=>by omega) (Nat.le_trans hbel.size hs)))⟩
 ·rw [fs1,List.map_append,← fs1,hf,List.take_add_one,List.getElem?_map,hx];rfl
 ·have h1:=own_put (ownN_below ho1 hb) (j * 10 + 8) (.slice a2 e.ts.length c2)
  rw [hd,List.flatMap_append,List.flatMap_cons] at h1
  rw [List.append_assoc,List.flatMap_append,List.singleton_append,List.flatMap_cons]
  have h2:=set8 (qs.flatMap c10) ((ps.drop (j + 1)).flatMap c10) (.int .i64 e.cl) (.int .i64 e.nu) (.int .i64 e.ki) (.int .i64 e.id) (.int .i64 e.sk) (.int .i64 e.sq) (.int .i64 e.st) (.int .i64 e.po) (tv (e,ta,tc)) (.int .i64 e.tm) (.slice a2 e.ts.length c2) (j * 10) (by rw [fl_len c10 10 c10_len,hq])
  rw [show c10 (e,ta,tc) = [.int .i64 e.cl,.int .i64 e.nu,.int .i64 e.ki,.int .i64 e.id,.int .i64 e.sk,.int .i64 e.sq,.int .i64 e.st,.int .i64 e.po,tv (e,ta,tc),.int .i64 e.tm] from rfl,h2] at h1
  exact h1
 ·rcases List.mem_append.mp ht with m | m
  ·exact ownN_kept (own4_below (htk t m) hb) hk (fun k e1 e2=>hne t m k e1 (by rw [e2];rfl))
  ·simp at m;subst m
   exact own_up4 (ownN_kept ho hk (fun k e1 e2=>by have:=(ho.lt k e1).1;omega)) hbel.size
 ·rcases List.mem_append.mp ht with m | m
  ·exact hne t m k e1
  ·simp at m;subst m
   intro e2
   have h5:=(ho.lt k e1).1
   have e3:g = k:=by simpa [Value.ownBlock] using e2
   have h6:=hg.2
   omega
set_option maxHeartbeats 12800000 in
theorem cloneV (w:World) (v:Value) (ps:List Ep) (h:Ens w v ps) (hl:ps.length * 96 ≤ 140737488355328) (hs:∀ t ∈ ps,small t):Calls Tryz.prog 47 #[v] w fun r w'=>∃ a c qs,r = .returned (.slice a qs.length c) ∧ Led w.heap.size w' (.slice a qs.length c) qs ∧ fs1 qs = fs1 ps ∧ Below w.heap.size w w':=by
 have HE:=mkHid h
 have HS:=mkHid hs
 have HL:=mkHid hl
 have hpl:(ps.length:Int) ≤ 140737488355328:=by omega
 obtain ⟨a0,cap0,rfl⟩:∃ a cap,v = .slice a ps.length cap:=by obtain ⟨a,cap,e,_⟩:=h;exact ⟨a,cap,e⟩
 clear h hs hl
 go_enter Tryz.func47,Tryz.ntmps47
 go_wp2_with (go_at_call 83;(with_reducible refine (cloneR w _ ps HE.out HL.out).mono ?_);rintro r w1 ⟨a1,c1,rfl,ho1,hb1⟩;have HC1:Hid (CL w w1 (.slice a1 ps.length c1) ps [] 0):=mkHid ⟨by simp [fs1],by simpa using ho1,by simp,by simp,hb1⟩;clear ho1 hb1)
 go_loopw [10] (fun iv wr=>∃ (j:Nat) (qs:List Ep),iv = .int .i64 (j:Int) ∧ j ≤ ps.length ∧ Hid (CL w wr (.slice a1 ps.length c1) ps qs j)) (fun iv _=>ps.length - (intOf iv).toNat)
 case atStart=>exact ⟨0,[],rfl,Nat.zero_le _,HC1⟩
 case round=>
  clear HC1
  obtain ⟨j,qs,rfl,hj,HI⟩:=hrel
  by_cases hlt:j < ps.length
  ·obtain ⟨b,off,⟨e,ta,tc⟩,hab,hxj,hat,hew⟩:=HE.out.at HI.out.bel j hlt
   clear hab hat
   have hji:(j:Int) < ps.length:=by omega
   obtain ⟨g,rfl⟩:∃ g,a1 = some ⟨g,0,none⟩:=by
    have:=HI.out.own
    rcases this.2 with ⟨_,e0⟩ | ⟨g,cap,cur,e1,_⟩
    ·omega
    ·simp only [Value.slice.injEq] at e1;exact ⟨g,e1.1⟩
   have hd:ps.drop j = (e,ta,tc) :: ps.drop (j + 1):=by
    rw [List.drop_eq_getElem_cons hlt,(List.getElem?_eq_some_iff.mp hxj).2]
   have ho:=HI.out.own
   rw [hd] at ho
   obtain ⟨⟨d0,_⟩,⟨d1,_⟩,⟨d2,_⟩,⟨d3,_⟩,⟨d4,_⟩,⟨d5,_⟩,⟨d6,_⟩,⟨d7,_⟩,⟨d8,_⟩,⟨d9,_⟩⟩:=own_ten ho (HI.out.len hj)
   simp only [tv] at d0 d1 d2 d3 d4 d5 d6 d7 d8 d9
   have HO:=mkHid ho
   have HXJ:=mkHid hxj
   have HSM:=mkHid (HS.out _ (List.mem_of_getElem? hxj))
   have HEW:=mkHid (Tks.below hew (ba (Below.refl _ wr) (oE e (.slice ta e.ts.length tc))))
   clear hd ho hxj hew
   go_wp2_with (go_at_call 84;have HN:=cloneT_any _ ta tc e.ts HEW.out HSM.out;(with_reducible refine HN.mono ?_);clear HN;rintro r w2 ⟨a2,c2,rfl,ho2,hb2⟩;have HB2:=mkHid (bt (ba (Below.refl _ wr) (oE e (.slice ta e.ts.length tc))) hb2);have HO2:Hid (w2.ownsRow wr.heap.size 137 4 (.slice a2 e.ts.length c2) e.ts.length (e.ts.flatMap c4)):=mkHid (own_up4 ho2 (by simp));obtain ⟨_,_,_,_,_,_,_,_,⟨z8,y8⟩,_⟩:=own_ten (ownN_below HO.out HB2.out) (HI.out.len hj);clear ho2 hb2)
   go_roundw
   case rel=>exact ⟨j + 1,qs ++ [(e,a2,c2)],by go_num,by omega,mkHid (HI.out.step hlt HXJ.out HB2.out HO2.out)⟩
   case measure=>simp [intOf];omega
  ·obtain rfl:j = ps.length:=by omega
   have hq:=HI.out.len (Nat.le_refl _)
   have hcl:=HI.out
   have hown:=hcl.own
   rw [List.drop_of_length_le (Nat.le_refl _),List.append_nil,← hq] at hown
   have HF:Hid (Led w.heap.size wr (.slice a1 qs.length c1) qs ∧ fs1 qs = fs1 ps ∧ Below w.heap.size w wr):=mkHid ⟨⟨by simpa [hq] using hown,hcl.tk,by rw [hq];exact hcl.ne⟩,by rw [hcl.fs,List.take_of_length_le (by simp [fs1])],hcl.bel⟩
   have HQ:=mkHid hq
   clear hq hcl hown
   go_wp2
   go_ret
   exact ⟨a1,c1,qs,by rw [HQ.out];rfl,HF.out⟩
set_option maxHeartbeats 3200000 in
theorem growE (n:Nat) (w:World) (h0:(1:Int) ≤ n) (h1:(n:Int) ≤ 1000000) :
  Calls Tryz.prog 146 #[.slice none 0 0,.int .i64 n] w fun e w'=>∃ v',e = .returned v' ∧ w'.ownsRow w.heap.size 69 10 v' 0 [] ∧ Below w.heap.size w w':=by
 obtain ⟨i0,hi,hz0,hz1,hz2⟩:=info_parts info_entry
 obtain ⟨zth,hzth⟩:∃ z:Value,z = .agg #[.int .i64 0,.int .i64 0,.int .i64 0,.int .i64 0,.int .i64 0,.int .i64 0,.int .i64 0,.int .i64 0,.slice none 0 0,.int .i64 0]:=⟨_,rfl⟩
 rw [← hzth] at hz0
 have hZ:zth.cells.size = 10:=by rw [hzth];rfl
 clear hzth
 have hrz:∀ ty,(Builtin.append_ #[40,3] ty #[.slice none 0 0,.int .i64 n]).run Tryz.prog w =
   .ok (.slice (some ⟨w.heap.size,0,none⟩) n (grownCap w n 0 69)) (w.drew.alloc (.cells (#[] ++ Builtin.zeroCells zth.cells n ++ Builtin.zeroCells zth.cells (grownCap w n 0 69 - n)) 69)):=fun ty=>by
  have h:=Lib.run_append_grow_zeros w 40 3 ty 69 i0 zth .i64 .i64 Tryz.underlying40 Tryz.underlying3 hi hz0 none 0 0 [] (run_firstCells_none w.drew i0.size 0 0 0) n (by omega) (by omega) (by omega) (by omega) (by rw [hz2];omega) (by rw [hz2];exact growslice_fits (by omega) (by omega))
  simpa using h
 have hGn:n ≤ grownCap w n 0 69:=grownCap_ge w _ _ _
 have hGm:grownCap w n 0 69 ≤ maxLen:=grownCap_le_maxLen w n 0 _ (by unfold maxLen;omega)
 obtain ⟨G,hG⟩:∃ G,G = grownCap w n 0 69:=⟨_,rfl⟩
 rw [← hG] at hrz hGn hGm
 obtain ⟨X,hX⟩:∃ X,X = #[] ++ Builtin.zeroCells zth.cells n ++ Builtin.zeroCells zth.cells (G - n):=⟨_,rfl⟩
 rw [← hX] at hrz
 have hXs:X.size = G * 10:=by
  rw [hX]
  simp only [Array.size_append,size_zeroCells,hZ]
  simp
  omega
 clear hX
 have HQ:Hid ((w.drew.alloc (.cells X 69)).ownsRow w.heap.size 69 10 (.slice (some ⟨w.heap.size,0,none⟩) 0 G) 0 [] ∧
   Below w.heap.size w (w.drew.alloc (.cells X 69))):=by
  refine ⟨⟨rfl,.inr ⟨w.heap.size,G,_,rfl,Nat.le_refl _,heap_alloc_new w.drew _,by omega,hGm,?_,by simp⟩⟩,(Below.refl _ _).drew.alloc (Nat.le_refl _) _⟩
  omega
 have hG63:(G:Int) ≤ 9223372036854775807:=by unfold maxLen at hGm;omega
 clear hG hGm hi hz0 hz1 hz2 hZ hXs
 go_enter Tryz.func146,Tryz.ntmps146
 go_wp2_with (at_builtin;refine Lib.wpList_append_run _ rfl _ _ _ _ rfl _ _ rfl rfl _ _ (hrz _) ?_)
 all_goals go_ret
 all_goals exact ⟨_,rfl,HQ.out⟩
theorem growE0 (w:World):Calls Tryz.prog 146 #[.slice none 0 0,.int .i64 0] w fun e w'=>e = .returned (.slice none 0 0) ∧ w' = w:=by
 go_enter Tryz.func146,Tryz.ntmps146
 go_wp2
 go_ret
 exact ⟨rfl,rfl⟩
theorem growEn (n:Nat) (w:World) (h1:(n:Int) ≤ 1000000) :
  Calls Tryz.prog 146 #[.slice none 0 0,.int .i64 n] w fun e w'=>∃ v',e = .returned v' ∧ w'.ownsRow w.heap.size 69 10 v' 0 [] ∧ Below w.heap.size w w':=by
 by_cases h0:n = 0
 ·subst h0
  refine (growE0 w).mono ?_
  rintro e w' ⟨rfl,rfl⟩
  exact ⟨_,rfl,World.ownsRow_nil _ _ _ _,Below.refl _ _⟩
 ·exact growE n w (by omega) h1
set_option maxHeartbeats 6400000 in
theorem concatE (w:World) (q:Nat) (va vb:Value) (ps qs:List Ep) (c0:w.cell? ⟨q,0,none⟩ = some va) (c1:w.cell? ⟨q,1,none⟩ = some vb) (ha:Ens w va ps) (hb:Ens w vb qs) (h1:ps.length + qs.length ≤ 100000) :
  Calls Tryz.prog 113 #[.slice (some ⟨q,0,none⟩) 2 2] w fun e w'=>∃ a c,e = .returned (.slice a (ps ++ qs).length c) ∧ w'.ownsRow w.heap.size 69 10 (.slice a (ps ++ qs).length c) (ps ++ qs).length ((ps ++ qs).flatMap c10) ∧ Below w.heap.size w w':=by
 obtain ⟨ie,hi,hz0,hz1,hz2⟩:=info_parts info_entry
 obtain ⟨zth,hzth⟩:∃ z:Value,z = .agg #[.int .i64 0,.int .i64 0,.int .i64 0,.int .i64 0,.int .i64 0,.int .i64 0,.int .i64 0,.int .i64 0,.slice none 0 0,.int .i64 0]:=⟨_,rfl⟩
 rw [← hzth] at hz0
 have HZ:Hid (zth.cells.size = 10):=mkHid (by rw [hzth];rfl)
 have hie:=mkHid (And.intro hi (And.intro hz0 (And.intro hz1 hz2)))
 clear hzth hi hz0 hz1 hz2
 obtain ⟨aa,ca,eva⟩:∃ a c,va = .slice a ps.length c:=by obtain ⟨a,cap,e,_⟩:=ha;exact ⟨a,cap,e⟩
 obtain ⟨ab,cb,evb⟩:∃ a c,vb = .slice a qs.length c:=by obtain ⟨a,cap,e,_⟩:=hb;exact ⟨a,cap,e⟩
 subst eva evb
 have HA:=mkHid ha
 have HB:=mkHid hb
 have HL:=mkHid h1
 have hq0:=World.block_lt_of_cell? w _ c0
 have HC:=mkHid (And.intro c0 (And.intro c1 hq0))
 have hp1:(ps.length:Int) ≤ 100000:=by omega
 have hp2:(qs.length:Int) ≤ 100000:=by omega
 clear ha hb h1 hq0
 go_enter Tryz.func113,Tryz.ntmps113
 go_wp2
 go_loop [3,11] (fun sv iv=>(iv = .int .i64 0 ∧ sv = .int .i64 0) ∨ (iv = .int .i64 1 ∧ sv = .int .i64 ps.length) ∨ (iv = .int .i64 2 ∧ sv = .int .i64 (ps.length + qs.length))) (fun _ iv=>2 - (intOf iv).toNat)
 case atStart=>exact .inl ⟨rfl,rfl⟩
 case round=>
  rcases hrel with ⟨rfl,rfl⟩ | ⟨rfl,rfl⟩ | ⟨rfl,rfl⟩
  ·go_wp2
   go_round
   case rel=>exact .inr (.inl ⟨rfl,by simp⟩)
   case measure=>simp [intOf]
  ·go_wp2
   go_round
   case rel=>exact .inr (.inr ⟨rfl,rfl⟩)
   case measure=>simp [intOf]
  ·have hN:((ps.length:Int) + qs.length) = ((ps.length + qs.length:Nat):Int):=by omega
   rw [hN]
   have hn2:((ps.length + qs.length:Nat):Int) ≤ 1000000:=by omega
   clear hN c0 c1
   go_wp2_with (go_at_call 146;refine (growEn (ps.length + qs.length) _ hn2).mono ?_;rintro e w1 ⟨v1,rfl,ho1,hb1⟩;have HO1:=mkHid (And.intro ho1 hb1);clear ho1 hb1)
   go_loopw [6,27] (fun sv iv wr=>∃ zs:List Ep,((iv = .int .i64 0 ∧ zs = []) ∨ (iv = .int .i64 1 ∧ zs = ps) ∨ (iv = .int .i64 2 ∧ zs = ps ++ qs)) ∧ Hid (wr.ownsRow w.heap.size 69 10 sv zs.length (zs.flatMap c10) ∧ Below w.heap.size w wr)) (fun _ iv _=>2 - (intOf iv).toNat)
   case atStart=>exact ⟨[],.inl ⟨rfl,rfl⟩,HO1⟩
   case round=>
    clear HO1
    obtain ⟨zs,hz,HI⟩:=hrel
    have hbs:=HI.out.2.size
    have ha':=mkHid ((HA.out.below HI.out.2).src)
    have hb':=mkHid ((HB.out.below HI.out.2).src)
    have d0:wr.cell? ⟨q,0,none⟩ = some (.slice aa ps.length ca):=kc HC.out.1 HI.out.2
    have d1:wr.cell? ⟨q,1,none⟩ = some (.slice ab qs.length cb):=kc HC.out.2.1 HI.out.2
    rcases hz with ⟨rfl,rfl⟩ | ⟨rfl,rfl⟩ | ⟨rfl,rfl⟩
    ·go_wp2_with (at_builtin;refine wpList_append_src10 _ rfl (.tmp 31) (.tmp 32) 40 40 rfl w.heap.size 69 ie Tryz.underlying40 hie.out.1 zth 96 hie.out.2.1 HZ.out hie.out.2.2.1 hie.out.2.2.2 _ _ _ rfl HI.out.1 _ _ _ rfl ha'.out (by have:=HL.out;simp;unfold maxLen;omega) (by have:=HL.out;simp;omega) hbs ?_;intro v' w2 hown hgrow _;have HQ:Hid (w2.ownsRow w.heap.size 69 10 v' ps.length (ps.flatMap c10) ∧ Below w.heap.size w w2):=mkHid ⟨by simpa using hown,HI.out.2.grown hgrow hbs (fun k hk=>(HI.out.1.lt k hk).1)⟩;clear hown hgrow)
     go_roundw
     case rel=>exact ⟨ps,.inr (.inl ⟨rfl,rfl⟩),HQ⟩
     case measure=>simp [intOf]
    ·go_wp2_with (at_builtin;refine wpList_append_src10 _ rfl (.tmp 31) (.tmp 32) 40 40 rfl w.heap.size 69 ie Tryz.underlying40 hie.out.1 zth 96 hie.out.2.1 HZ.out hie.out.2.2.1 hie.out.2.2.2 _ _ _ rfl HI.out.1 _ _ _ rfl hb'.out (by have:=HL.out;unfold maxLen;omega) (by have:=HL.out;omega) hbs ?_;intro v' w2 hown hgrow _;have HQ:Hid (w2.ownsRow w.heap.size 69 10 v' (zs ++ qs).length ((zs ++ qs).flatMap c10) ∧ Below w.heap.size w w2):=mkHid ⟨by rw [List.length_append,List.flatMap_append];exact hown,HI.out.2.grown hgrow hbs (fun k hk=>(HI.out.1.lt k hk).1)⟩;clear hown hgrow)
     go_roundw
     case rel=>exact ⟨zs ++ qs,.inr (.inr ⟨rfl,rfl⟩),HQ⟩
     case measure=>simp [intOf]
    ·have ho:=HI.out.1
     obtain ⟨L,hL⟩:∃ L,L = ps ++ qs:=⟨_,rfl⟩
     rw [← hL] at HI ho ⊢
     obtain ⟨a2,c2,e2⟩:=own_shape ho
     subst e2
     clear ho
     go_wp2
     go_ret
     exact ⟨a2,c2,by rw [← hL];rfl,by rw [← hL];exact HI.out⟩
def sameB (a b:En):Bool:=decide (hnum a = hnum b ∧ a.ts = b.ts)
theorem sameB_iff {a b:En}:sameB a b = true ↔ a = b:=by unfold sameB;rw [decide_eq_true_iff];exact en_eq.symm
theorem same_is (w:World) (t u:Ep) (ht:EnW w t) (hu:EnW w u):Calls Tryz.prog 78 #[vP t,vP u] w fun r w'=>r = .returned (.bool (sameB t.1 u.1)) ∧ Below w.heap.size w w':=by
 obtain ⟨b,hb,hc⟩:=same_any w t u ht hu
 obtain rfl:b = sameB t.1 u.1:=by
  rw [Bool.eq_iff_iff,hb,sameB_iff]
 exact hc
set_option maxHeartbeats 12800000 in
theorem sameFirst_any (w:World) (v u:Value) (ps qs:List Ep) (hv:Ens w v ps) (hu:Ens w u qs):Calls Tryz.prog 43 #[v,u] w fun r w'=>r = .returned (.int .i64 (firsts (fs1 ps) (fs1 qs):Nat)) ∧ Below w.heap.size w w':=by
 have hv':=hv
 have hu':=hu
 obtain ⟨a0,cap0,rfl,hl0,_⟩:=hv'
 obtain ⟨a1,cap1,rfl,hl1,_⟩:=hu'
 have HV:=mkHid hv
 have HU:=mkHid hu
 clear hv hu
 go_enter Tryz.func43,Tryz.ntmps43
 go_wp2
 go_loopw [5] (fun iv wr=>∃ j:Nat,iv = .int .i64 (j:Int) ∧ Hid (j ≤ ps.length ∧ j ≤ qs.length ∧ (fs1 ps).take j = (fs1 qs).take j) ∧ Hid (Below w.heap.size w wr)) (fun iv _=>ps.length - (intOf iv).toNat)
 case atStart=>exact ⟨0,rfl,mkHid ⟨Nat.zero_le _,Nat.zero_le _,by simp⟩,mkHid (Below.refl _ _)⟩
 case round=>
  obtain ⟨j,rfl,HJ,HB⟩:=hrel
  by_cases hlt:j < ps.length ∧ j < qs.length
  ·obtain ⟨hlt1,hlt2⟩:=hlt
   obtain ⟨b0,o0,t,rfl,hx,hat,hew⟩:=HV.out.at HB.out j hlt1
   obtain ⟨b1,o1,s,rfl,hy,hbt,hfw⟩:=HU.out.at HB.out j hlt2
   have hji:(j:Int) < ps.length:=by omega
   have hji2:(j:Int) < qs.length:=by omega
   have hjm:(j:Int) < min (ps.length:Int) (qs.length:Int):=by omega
   obtain ⟨e,ta,tc⟩:=t
   obtain ⟨f,ua,uc⟩:=s
   have HSM:=mkHid (fun W (hW:Below w.heap.size w W)=>same_is W (e,ta,tc) (f,ua,uc) (by obtain ⟨_,_,t',_,hx',_,hw'⟩:=HV.out.at hW j hlt1;rw [hx] at hx';cases hx';exact hw') (by obtain ⟨_,_,t',_,hx',_,hw'⟩:=HU.out.at hW j hlt2;rw [hy] at hx';cases hx';exact hw'))
   have HXY:=mkHid (And.intro hx hy)
   obtain ⟨sb,hsb⟩:∃ sb,sb = sameB e f:=⟨_,rfl⟩
   simp only [vP,vN,tv] at HSM
   rw [← hsb] at HSM
   have HSB:=mkHid hsb
   obtain ⟨p0,p1,p2,p3,p4,p5,p6,p7,p8,p9⟩:=hat.ten
   obtain ⟨q0,q1,q2,q3,q4,q5,q6,q7,q8,q9⟩:=hbt.ten
   simp only [tv] at p0 p1 p2 p3 p4 p5 p6 p7 p8 p9 q0 q1 q2 q3 q4 q5 q6 q7 q8 q9
   clear hx hy hat hbt hew hfw hsb
   go_wp2
   refine wp_region_held_drew (S:=fun w'=>w'.cell? ⟨b0,o0 + j * 10,none⟩ = some (.int .i64 e.cl) ∧ w'.cell? ⟨b0,o0 + j * 10 + 1,none⟩ = some (.int .i64 e.nu) ∧ w'.cell? ⟨b0,o0 + j * 10 + 2,none⟩ = some (.int .i64 e.ki) ∧ w'.cell? ⟨b0,o0 + j * 10 + 3,none⟩ = some (.int .i64 e.id) ∧ w'.cell? ⟨b0,o0 + j * 10 + 4,none⟩ = some (.int .i64 e.sk) ∧ w'.cell? ⟨b0,o0 + j * 10 + 5,none⟩ = some (.int .i64 e.sq) ∧ w'.cell? ⟨b0,o0 + j * 10 + 6,none⟩ = some (.int .i64 e.st) ∧ w'.cell? ⟨b0,o0 + j * 10 + 7,none⟩ = some (.int .i64 e.po) ∧ w'.cell? ⟨b0,o0 + j * 10 + 8,none⟩ = some (.slice ta e.ts.length tc) ∧ w'.cell? ⟨b0,o0 + j * 10 + 9,none⟩ = some (.int .i64 e.tm) ∧ w'.cell? ⟨b1,o1 + j * 10,none⟩ = some (.int .i64 f.cl) ∧ w'.cell? ⟨b1,o1 + j * 10 + 1,none⟩ = some (.int .i64 f.nu) ∧ w'.cell? ⟨b1,o1 + j * 10 + 2,none⟩ = some (.int .i64 f.ki) ∧ w'.cell? ⟨b1,o1 + j * 10 + 3,none⟩ = some (.int .i64 f.id) ∧ w'.cell? ⟨b1,o1 + j * 10 + 4,none⟩ = some (.int .i64 f.sk) ∧ w'.cell? ⟨b1,o1 + j * 10 + 5,none⟩ = some (.int .i64 f.sq) ∧ w'.cell? ⟨b1,o1 + j * 10 + 6,none⟩ = some (.int .i64 f.st) ∧ w'.cell? ⟨b1,o1 + j * 10 + 7,none⟩ = some (.int .i64 f.po) ∧ w'.cell? ⟨b1,o1 + j * 10 + 8,none⟩ = some (.slice ua f.ts.length uc) ∧ w'.cell? ⟨b1,o1 + j * 10 + 9,none⟩ = some (.int .i64 f.tm)) (by kernel_rfl) ⟨p0,p1,p2,p3,p4,p5,p6,p7,p8,p9,q0,q1,q2,q3,q4,q5,q6,q7,q8,q9⟩ (fun hHeld=>?_)
   refine tkE 0 6 (.int .i64 (j:Int)) rfl rfl hHeld ?_
   simp only [List.set_cons_zero,List.set_cons_succ]
   refine tkE 1 7 (.slice (some ⟨b0,o0,none⟩) ps.length cap0) rfl rfl hHeld ?_
   simp only [List.set_cons_zero,List.set_cons_succ]
   refine tkE 2 8 (.int .i64 (ps.length:Int)) rfl rfl hHeld ?_
   simp only [List.set_cons_zero,List.set_cons_succ]
   refine tkE 3 9 (.slice (some ⟨b1,o1,none⟩) qs.length cap1) rfl rfl hHeld ?_
   simp only [List.set_cons_zero,List.set_cons_succ]
   refine tkE 4 10 (.int .i64 (qs.length:Int)) rfl rfl hHeld ?_
   simp only [List.set_cons_zero,List.set_cons_succ]
   refine takeD 5 11 (.int .i64 (min (ps.length:Int) (qs.length:Int))) rfl rfl (by kernel_rfl) (by kernel_rfl) (by kernel_rfl) (fun _ _ _ h=>h) (Or.inl ⟨by kernel_rfl,by intro w hSw;(try dsimp only at hSw);go_simp;split <;> omega⟩) hHeld ?_
   simp only [List.set_cons_zero,List.set_cons_succ]
   refine tkE 6 12 (.bool true) rfl rfl hHeld ?_
   simp only [List.set_cons_zero,List.set_cons_succ]
   refine tkE 7 13 (.bool true) rfl rfl hHeld ?_
   simp only [List.set_cons_zero,List.set_cons_succ]
   refine tkE 8 14 (.slice (some ⟨b0,o0,none⟩) ps.length cap0) rfl rfl hHeld ?_
   simp only [List.set_cons_zero,List.set_cons_succ]
   refine tkE 9 15 (.int .i64 (j:Int)) rfl rfl hHeld ?_
   simp only [List.set_cons_zero,List.set_cons_succ]
   refine tkE 10 16 (.pointer (some ⟨b0,o0 + j * 10,none⟩)) rfl rfl hHeld ?_
   simp only [List.set_cons_zero,List.set_cons_succ]
   refine tkE 11 17 (.agg #[.int .i64 e.cl,.int .i64 e.nu,.int .i64 e.ki,.int .i64 e.id,.int .i64 e.sk,.int .i64 e.sq,.int .i64 e.st,.int .i64 e.po,.slice ta e.ts.length tc,.int .i64 e.tm]) rfl rfl hHeld ?_
   simp only [List.set_cons_zero,List.set_cons_succ]
   refine tkE 12 18 (.slice (some ⟨b1,o1,none⟩) qs.length cap1) rfl rfl hHeld ?_
   simp only [List.set_cons_zero,List.set_cons_succ]
   refine tkE 13 19 (.int .i64 (j:Int)) rfl rfl hHeld ?_
   simp only [List.set_cons_zero,List.set_cons_succ]
   refine tkE 14 20 (.pointer (some ⟨b1,o1 + j * 10,none⟩)) rfl rfl hHeld ?_
   simp only [List.set_cons_zero,List.set_cons_succ]
   refine tkE 15 21 (.agg #[.int .i64 f.cl,.int .i64 f.nu,.int .i64 f.ki,.int .i64 f.id,.int .i64 f.sk,.int .i64 f.sq,.int .i64 f.st,.int .i64 f.po,.slice ua f.ts.length uc,.int .i64 f.tm]) rfl rfl hHeld ?_
   simp only [List.set_cons_zero,List.set_cons_succ]
   refine wpAnyH_ready (rs:=[16]) (by kernel_rfl) (by simp) (AllReadyH.cons rfl (fun K hK=>?_) AllReadyH.nil)
   go_simp
   refine (HSM.out _ (HB.out.drew)).mono ?_
   rintro e w3 ⟨rfl,bw3⟩
   have fw3_0:w3.cell? ⟨b0,o0 + j * 10,none⟩ = some (.int .i64 e.cl):=kc (show wr.drew.cell? _ = _ from p0) bw3
   have fw3_1:w3.cell? ⟨b0,o0 + j * 10 + 1,none⟩ = some (.int .i64 e.nu):=kc (show wr.drew.cell? _ = _ from p1) bw3
   have fw3_2:w3.cell? ⟨b0,o0 + j * 10 + 2,none⟩ = some (.int .i64 e.ki):=kc (show wr.drew.cell? _ = _ from p2) bw3
   have fw3_3:w3.cell? ⟨b0,o0 + j * 10 + 3,none⟩ = some (.int .i64 e.id):=kc (show wr.drew.cell? _ = _ from p3) bw3
   have fw3_4:w3.cell? ⟨b0,o0 + j * 10 + 4,none⟩ = some (.int .i64 e.sk):=kc (show wr.drew.cell? _ = _ from p4) bw3
   have fw3_5:w3.cell? ⟨b0,o0 + j * 10 + 5,none⟩ = some (.int .i64 e.sq):=kc (show wr.drew.cell? _ = _ from p5) bw3
   have fw3_6:w3.cell? ⟨b0,o0 + j * 10 + 6,none⟩ = some (.int .i64 e.st):=kc (show wr.drew.cell? _ = _ from p6) bw3
   have fw3_7:w3.cell? ⟨b0,o0 + j * 10 + 7,none⟩ = some (.int .i64 e.po):=kc (show wr.drew.cell? _ = _ from p7) bw3
   have fw3_8:w3.cell? ⟨b0,o0 + j * 10 + 8,none⟩ = some (.slice ta e.ts.length tc):=kc (show wr.drew.cell? _ = _ from p8) bw3
   have fw3_9:w3.cell? ⟨b0,o0 + j * 10 + 9,none⟩ = some (.int .i64 e.tm):=kc (show wr.drew.cell? _ = _ from p9) bw3
   have fw3_10:w3.cell? ⟨b1,o1 + j * 10,none⟩ = some (.int .i64 f.cl):=kc (show wr.drew.cell? _ = _ from q0) bw3
   have fw3_11:w3.cell? ⟨b1,o1 + j * 10 + 1,none⟩ = some (.int .i64 f.nu):=kc (show wr.drew.cell? _ = _ from q1) bw3
   have fw3_12:w3.cell? ⟨b1,o1 + j * 10 + 2,none⟩ = some (.int .i64 f.ki):=kc (show wr.drew.cell? _ = _ from q2) bw3
   have fw3_13:w3.cell? ⟨b1,o1 + j * 10 + 3,none⟩ = some (.int .i64 f.id):=kc (show wr.drew.cell? _ = _ from q3) bw3
   have fw3_14:w3.cell? ⟨b1,o1 + j * 10 + 4,none⟩ = some (.int .i64 f.sk):=kc (show wr.drew.cell? _ = _ from q4) bw3
   have fw3_15:w3.cell? ⟨b1,o1 + j * 10 + 5,none⟩ = some (.int .i64 f.sq):=kc (show wr.drew.cell? _ = _ from q5) bw3
   have fw3_16:w3.cell? ⟨b1,o1 + j * 10 + 6,none⟩ = some (.int .i64 f.st):=kc (show wr.drew.cell? _ = _ from q6) bw3
   have fw3_17:w3.cell? ⟨b1,o1 + j * 10 + 7,none⟩ = some (.int .i64 f.po):=kc (show wr.drew.cell? _ = _ from q7) bw3
   have fw3_18:w3.cell? ⟨b1,o1 + j * 10 + 8,none⟩ = some (.slice ua f.ts.length uc):=kc (show wr.drew.cell? _ = _ from q8) bw3
   have fw3_19:w3.cell? ⟨b1,o1 + j * 10 + 9,none⟩ = some (.int .i64 f.tm):=kc (show wr.drew.cell? _ = _ from q9) bw3
   have HB3:=mkHid (bt HB.out.drew bw3)
   clear bw3 hHeld
   refine hK.out _ _ ⟨fw3_0,fw3_1,fw3_2,fw3_3,fw3_4,fw3_5,fw3_6,fw3_7,fw3_8,fw3_9,fw3_10,fw3_11,fw3_12,fw3_13,fw3_14,fw3_15,fw3_16,fw3_17,fw3_18,fw3_19⟩ (fun hHeld=>?_)
   clear hK K
   refine tkE 17 23 (.bool sb) rfl rfl hHeld ?_
   simp only [List.set_cons_zero,List.set_cons_succ]
   refine wpAnyH_done (by kernel_rfl) ?_ _
   have HJ2:=mkHid (And.intro hlt1 hlt2)
   cases sb
   ·go_wp2
    go_ret
    refine ⟨?_,HB3.out⟩
    have hk:firsts (fs1 ps) (fs1 qs) = j:=firsts_at HJ.out.2.2 (by simp [fs1];exact HJ.out.1) (by simp [fs1];exact HJ.out.2.1) (fun a b ha hb e1=>by
     have h1:=fs1_at HXY.out.1
     have h2:=fs1_at HXY.out.2
     rw [show (ps.map (·.1))[j]? = (fs1 ps)[j]? from rfl,ha] at h1
     rw [show (qs.map (·.1))[j]? = (fs1 qs)[j]? from rfl,hb] at h2
     cases h1;cases h2
     have h3:=sameB_iff.mpr e1
     rw [← HSB.out] at h3
     simp at h3)
    rw [hk];rfl
   ·go_wp2
    go_roundw
    case rel=>
     refine ⟨j + 1,by go_num,mkHid ⟨by have:=HJ2.out.1;omega,by have:=HJ2.out.2;omega,?_⟩,HB3⟩
     rw [List.take_add_one,List.take_add_one,HJ.out.2.2,show (fs1 ps)[j]? = some e from fs1_at HXY.out.1,show (fs1 qs)[j]? = some f from fs1_at HXY.out.2,sameB_iff.mp HSB.out.symm]
    case measure=>have:=HJ2.out.1;simp [intOf];omega
  ·have hjm:¬ (j:Int) < min (ps.length:Int) (qs.length:Int):=by omega
   have HNJ:=mkHid hlt
   clear hlt
   go_wp2
   refine wp_region_held_drew (S:=fun _=>True) (by kernel_rfl) trivial (fun hHeld=>?_)
   refine tkE 0 6 (.int .i64 (j:Int)) rfl rfl hHeld ?_
   simp only [List.set_cons_zero,List.set_cons_succ]
   refine tkE 1 7 (.slice a0 ps.length cap0) rfl rfl hHeld ?_
   simp only [List.set_cons_zero,List.set_cons_succ]
   refine tkE 2 8 (.int .i64 (ps.length:Int)) rfl rfl hHeld ?_
   simp only [List.set_cons_zero,List.set_cons_succ]
   refine tkE 3 9 (.slice a1 qs.length cap1) rfl rfl hHeld ?_
   simp only [List.set_cons_zero,List.set_cons_succ]
   refine tkE 4 10 (.int .i64 (qs.length:Int)) rfl rfl hHeld ?_
   simp only [List.set_cons_zero,List.set_cons_succ]
   refine takeD 5 11 (.int .i64 (min (ps.length:Int) (qs.length:Int))) rfl rfl (by kernel_rfl) (by kernel_rfl) (by kernel_rfl) (fun _ _ _ h=>h) (Or.inl ⟨by kernel_rfl,by intro w hSw;(try dsimp only at hSw);go_simp;split <;> omega⟩) hHeld ?_
   simp only [List.set_cons_zero,List.set_cons_succ]
   refine tkE 6 12 (.bool false) rfl rfl hHeld ?_
   simp only [List.set_cons_zero,List.set_cons_succ]
   refine tkE 7 13 (.bool false) rfl rfl hHeld ?_
   simp only [List.set_cons_zero,List.set_cons_succ]
   refine takeD 8 14 (undef) rfl rfl (by kernel_rfl) (by kernel_rfl) (by kernel_rfl) (fun _ _ _ h=>h) (Or.inr ⟨by kernel_rfl,rfl⟩) hHeld ?_
   simp only [List.set_cons_zero,List.set_cons_succ]
   refine takeD 9 15 (undef) rfl rfl (by kernel_rfl) (by kernel_rfl) (by kernel_rfl) (fun _ _ _ h=>h) (Or.inr ⟨by kernel_rfl,rfl⟩) hHeld ?_
   simp only [List.set_cons_zero,List.set_cons_succ]
   refine takeD 10 16 (undef) rfl rfl (by kernel_rfl) (by kernel_rfl) (by kernel_rfl) (fun _ _ _ h=>h) (Or.inr ⟨by kernel_rfl,rfl⟩) hHeld ?_
   simp only [List.set_cons_zero,List.set_cons_succ]
   refine takeD 11 17 (undef) rfl rfl (by kernel_rfl) (by kernel_rfl) (by kernel_rfl) (fun _ _ _ h=>h) (Or.inr ⟨by kernel_rfl,rfl⟩) hHeld ?_
   simp only [List.set_cons_zero,List.set_cons_succ]
   refine takeD 12 18 (undef) rfl rfl (by kernel_rfl) (by kernel_rfl) (by kernel_rfl) (fun _ _ _ h=>h) (Or.inr ⟨by kernel_rfl,rfl⟩) hHeld ?_
   simp only [List.set_cons_zero,List.set_cons_succ]
   refine takeD 13 19 (undef) rfl rfl (by kernel_rfl) (by kernel_rfl) (by kernel_rfl) (fun _ _ _ h=>h) (Or.inr ⟨by kernel_rfl,rfl⟩) hHeld ?_
   simp only [List.set_cons_zero,List.set_cons_succ]
   refine takeD 14 20 (undef) rfl rfl (by kernel_rfl) (by kernel_rfl) (by kernel_rfl) (fun _ _ _ h=>h) (Or.inr ⟨by kernel_rfl,rfl⟩) hHeld ?_
   simp only [List.set_cons_zero,List.set_cons_succ]
   refine takeD 15 21 (undef) rfl rfl (by kernel_rfl) (by kernel_rfl) (by kernel_rfl) (fun _ _ _ h=>h) (Or.inr ⟨by kernel_rfl,rfl⟩) hHeld ?_
   simp only [List.set_cons_zero,List.set_cons_succ]
   refine takeD 16 22 (undef) rfl rfl (by kernel_rfl) (by kernel_rfl) (by kernel_rfl) (fun _ _ _ h=>h) (Or.inr ⟨by kernel_rfl,rfl⟩) hHeld ?_
   simp only [List.set_cons_zero,List.set_cons_succ]
   refine tkE 17 23 (.bool false) rfl rfl hHeld ?_
   simp only [List.set_cons_zero,List.set_cons_succ]
   refine wpAnyH_done (by kernel_rfl) ?_ _
   go_wp2
   go_ret
   refine ⟨?_,HB.out.drew⟩
   have hk:firsts (fs1 ps) (fs1 qs) = j:=firsts_at HJ.out.2.2 (by simp [fs1];exact HJ.out.1) (by simp [fs1];exact HJ.out.2.1) (fun a b ha hb e1=>by
    have h1:=(List.getElem?_eq_some_iff.mp ha).1
    have h2:=(List.getElem?_eq_some_iff.mp hb).1
    simp [fs1] at h1 h2
    exact HNJ.out ⟨h1,h2⟩)
   rw [hk];rfl
end Go.Proofs.YtihdkgekickohaaGreatDoor
