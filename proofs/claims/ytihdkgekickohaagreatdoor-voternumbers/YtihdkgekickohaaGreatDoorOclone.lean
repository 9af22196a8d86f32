import Derived.Test.YtihdkgekickohaaGreatDoorOplace
import Derived.Test.YtihdkgekickohaaGreatDoorOwrite
namespace Go.Proofs.YtihdkgekickohaaGreatDoor
open Go.ChangeShapes Go.WideShapes Go.ChangeAt Go.RowKit
set_option maxRecDepth 100000
attribute [local go_sem] World.cell?_alloc_some frozen_alloc_some
theorem eql_nilT (w:World) (a:Option Addr) (n c n' c':Nat):(binOp .eql 65 (.slice a n c) (.slice none n' c')).run Tryz.prog w = .ok (.bool a.isNone) w:=
 Lib.run_eql_slice_nil w _ _ a n c n' c' Tryz.underlying65
theorem cloneT_any (w:World) (a:Option Addr) (cap:Nat) (ts:List Tk) (h:Tks w (.slice a ts.length cap) ts) (hs:ts.length * 32 ≤ 140737488355328):Calls Tryz.prog 84 #[.slice a ts.length cap] w fun r w'=>∃ a2 c2,r = .returned (.slice a2 ts.length c2) ∧ w'.ownsRow w.heap.size 137 4 (.slice a2 ts.length c2) ts.length (ts.flatMap c4) ∧ Below w.heap.size w w':=by
 obtain ⟨ie,hi,hz0,hz1,hz2⟩:=info_parts info_task
 obtain ⟨zth,hzth⟩:∃ z:Value,z = .agg #[.int .i64 0,.int .i64 0,.int .i64 0,.int .i64 0]:=⟨_,rfl⟩
 rw [← hzth] at hz0
 have HZ:Hid (zth.cells.size = 4):=mkHid (by rw [hzth];rfl)
 have hie:=mkHid (And.intro hi (And.intro hz0 (And.intro hz1 hz2)))
 clear hzth hi hz0 hz1 hz2
 have HS:=mkHid hs
 cases a with
 |none=>
  have h0:ts = []:=by
   obtain ⟨a',c',e,_,hr⟩:=h
   by_cases hp:0 < ts.length
   ·obtain ⟨b,o,e2,_⟩:=hr hp
    simp only [Value.slice.injEq] at e
    rw [e2] at e
    simp at e
   ·exact List.length_eq_zero_iff.mp (by omega)
  subst h0
  have hq:=eql_nilT w none 0 cap 0 0
  clear h hs
  go_enter Tryz.func84,Tryz.ntmps84
  go_wp2
  go_ret
  exact ⟨none,0,rfl,World.ownsRow_nil _ _ _ _,Below.refl _ _⟩
 |some ad=>
  have hq:=eql_nilT w (some ad) ts.length cap 0 0
  have HSRC:=mkHid ((h.below (ba (Below.refl _ w) (.cells #[] 137))).src)
  have HM:Hid ((w.alloc (.cells #[] 137)).ownsRow w.heap.size 137 4 (.slice (some ⟨w.heap.size,0,none⟩) 0 0) 0 []):=mkHid (World.ownsRow_made (base:=w.heap.size) (e:=137) (size:=4) w #[] 0 (Nat.le_refl _) (by unfold maxLen;omega) rfl)
  clear h hs
  go_enter Tryz.func84,Tryz.ntmps84
  go_wp2_with (at_builtin;refine wpList_append_src4 _ rfl (.tmp 5) (.tmp 6) 65 65 rfl w.heap.size 137 ie Tryz.underlying65 hie.out.1 zth 32 hie.out.2.1 HZ.out hie.out.2.2.1 hie.out.2.2.2 _ 0 [] rfl HM.out _ ts.length (ts.flatMap c4) rfl HSRC.out (by have:=HS.out;unfold maxLen;omega) (by have:=HS.out;omega) (by simp) ?_;intro v2 w2 ho2 hg2 _;rw [Nat.zero_add,List.nil_append] at ho2;obtain ⟨a2,c2,rfl⟩:=own_shape ho2;have HO2:=mkHid (And.intro ho2 ((ba (Below.refl _ w) _).grown hg2 (by simp) (fun k hk=>(HM.out.lt k hk).1)));clear ho2 hg2)
  go_ret
  exact ⟨a2,c2,rfl,HO2.out.1,HO2.out.2⟩
theorem own_put {w:World} {base:Nat} {e:TypeId} {size g n cap:Nat} {xs:List Value} (h:w.ownsRow base e size (.slice (some ⟨g,0,none⟩) n cap) n xs) (k:Nat) (u:Value):(w.setCell ⟨g,k,none⟩ u).ownsRow base e size (.slice (some ⟨g,0,none⟩) n cap) n (xs.set k u):=by
 refine ⟨by rw [List.length_set];exact h.1,?_⟩
 rcases h.2 with ⟨e,_⟩ | ⟨g',cap',cur,e1,hb,hg,h1,h2,h3,h4⟩
 ·simp at e
 ·simp only [Value.slice.injEq,Option.some.injEq,Addr.mk.injEq] at e1
  obtain ⟨⟨rfl,_⟩,_,rfl⟩:=e1
  refine .inr ⟨g,cap,cur.set! k u,rfl,hb,heap_set hg,h1,h2,by simpa using h3,?_⟩
  rw [← h4]
  simp [List.take_set]
theorem own_cell {w:World} {base:Nat} {e:TypeId} {size g n cap:Nat} {xs:List Value} (h:w.ownsRow base e size (.slice (some ⟨g,0,none⟩) n cap) n xs) {k:Nat} {u:Value} (hk:xs[k]? = some u):w.cell? ⟨g,k,none⟩ = some u ∧ w.frozen? ⟨g,k,none⟩ = false:=by
 rcases h.2 with ⟨e,_⟩ | ⟨g',cap',cur,e1,hb,hg,h1,h2,h3,h4⟩
 ·simp at e
 ·simp only [Value.slice.injEq,Option.some.injEq,Addr.mk.injEq] at e1
  obtain ⟨⟨rfl,_⟩,_,rfl⟩:=e1
  refine ⟨cell_of_block hg ?_,frozen_of_block hg⟩
  rw [← h4,List.getElem?_take] at hk
  split at hk
  ·simpa using hk
  ·cases hk
abbrev setAt (w:World) (g o:Nat) (v0 v1 v2 v3 v4 v5 v6 v7 v8 v9:Value):World:=(((((((((w.setCell ⟨g,o,none⟩ v0).setCell ⟨g,o + 1,none⟩ v1).setCell ⟨g,o + 2,none⟩ v2).setCell ⟨g,o + 3,none⟩ v3).setCell ⟨g,o + 4,none⟩ v4).setCell ⟨g,o + 5,none⟩ v5).setCell ⟨g,o + 6,none⟩ v6).setCell ⟨g,o + 7,none⟩ v7).setCell ⟨g,o + 8,none⟩ v8).setCell ⟨g,o + 9,none⟩ v9
theorem setAt_kept {F:Nat → Prop} {w w':World} (h:Kept F w w') {g:Nat} (hb:F g ∨ w.heap.size ≤ g) (o:Nat) (v0 v1 v2 v3 v4 v5 v6 v7 v8 v9:Value):Kept F w (setAt w' g o v0 v1 v2 v3 v4 v5 v6 v7 v8 v9):=
 kset (kset (kset (kset (kset (kset (kset (kset (kset (kset h hb o v0) hb (o + 1) v1) hb (o + 2) v2) hb (o + 3) v3) hb (o + 4) v4) hb (o + 5) v5) hb (o + 6) v6) hb (o + 7) v7) hb (o + 8) v8) hb (o + 9) v9
theorem ten_sets (A B:List Value) (c0 c1 c2 c3 c4 c5 c6 c7 c8 c9 v0 v1 v2 v3 v4 v5 v6 v7 v8 v9:Value) (o:Nat) (ho:A.length = o) :
  ((((((((((A ++ ([c0,c1,c2,c3,c4,c5,c6,c7,c8,c9] ++ B)).set o v0).set (o + 1) v1).set (o + 2) v2).set (o + 3) v3).set (o + 4) v4).set (o + 5) v5).set (o + 6) v6).set (o + 7) v7).set (o + 8) v8).set (o + 9) v9 = A ++ ([v0,v1,v2,v3,v4,v5,v6,v7,v8,v9] ++ B):=by
 subst ho
 simp [List.set_append_right]
theorem c10_len (t:Ep):(c10 t).length = 10:=rfl
theorem Led.store {base g n cap:Nat} {w:World} {qs rest:List Ep} {z t:Ep} (h:Led base w (.slice (some ⟨g,0,none⟩) n cap) (qs ++ z :: rest)) (hn:n = (qs ++ z :: rest).length) (ht:w.ownsRow base 137 4 (tv t) t.1.ts.length (t.1.ts.flatMap c4)) (hne:∀ k,(tv t).ownBlock = some k → k ≠ g) :
  Led base (setAt w g (qs.length * 10) (.int .i64 t.1.cl) (.int .i64 t.1.nu) (.int .i64 t.1.ki) (.int .i64 t.1.id) (.int .i64 t.1.sk) (.int .i64 t.1.sq) (.int .i64 t.1.st) (.int .i64 t.1.po) (tv t) (.int .i64 t.1.tm)) (.slice (some ⟨g,0,none⟩) n cap) (qs ++ t :: rest):=by
 have hl:(qs ++ z :: rest).length = (qs ++ t :: rest).length:=by simp
 have hlt:qs.length < n:=by rw [hn];simp
 have ho:=h.own
 rw [← hn] at ho
 have hq:(qs.flatMap c10).length = qs.length * 10:=fl_len c10 10 c10_len qs
 have hk:=setAt_kept (F:=fun k=>k = g) (Kept.refl _ w) (g:=g) (.inl rfl) (qs.length * 10) (.int .i64 t.1.cl) (.int .i64 t.1.nu) (.int .i64 t.1.ki) (.int .i64 t.1.id) (.int .i64 t.1.sk) (.int .i64 t.1.sq) (.int .i64 t.1.st) (.int .i64 t.1.po) (tv t) (.int .i64 t.1.tm)
 have hne2:∀ u ∈ qs ++ t :: rest,∀ k,(tv u).ownBlock = some k → k ≠ g:=by
  intro u hu k e
  rcases List.mem_append.mp hu with m | m
  ·exact fun e2=>h.ne u (List.mem_append_left _ m) k e (by rw [e2];rfl)
  ·rcases List.mem_cons.mp m with rfl | m
   ·exact hne k e
   ·exact fun e2=>h.ne u (List.mem_append_right _ (List.mem_cons_of_mem _ m)) k e (by rw [e2];rfl)
 refine ⟨?_,fun u hu=>ownN_kept ?_ hk (fun k e=>hne2 u hu k e),fun u hu k e e2=>hne2 u hu k e (by simpa [Value.ownBlock] using e2.symm)⟩
 ·rw [← hl,← hn]
  have hx:=own_put (own_put (own_put (own_put (own_put (own_put (own_put (own_put (own_put (own_put ho (qs.length * 10) (.int .i64 t.1.cl)) (qs.length * 10 + 1) (.int .i64 t.1.nu)) (qs.length * 10 + 2) (.int .i64 t.1.ki)) (qs.length * 10 + 3) (.int .i64 t.1.id)) (qs.length * 10 + 4) (.int .i64 t.1.sk)) (qs.length * 10 + 5) (.int .i64 t.1.sq)) (qs.length * 10 + 6) (.int .i64 t.1.st)) (qs.length * 10 + 7) (.int .i64 t.1.po)) (qs.length * 10 + 8) (tv t)) (qs.length * 10 + 9) (.int .i64 t.1.tm)
  rw [List.flatMap_append,List.flatMap_cons] at hx
  rw [List.flatMap_append,List.flatMap_cons]
  have:=ten_sets (qs.flatMap c10) (rest.flatMap c10) (.int .i64 z.1.cl) (.int .i64 z.1.nu) (.int .i64 z.1.ki) (.int .i64 z.1.id) (.int .i64 z.1.sk) (.int .i64 z.1.sq) (.int .i64 z.1.st) (.int .i64 z.1.po) (tv z) (.int .i64 z.1.tm) (.int .i64 t.1.cl) (.int .i64 t.1.nu) (.int .i64 t.1.ki) (.int .i64 t.1.id) (.int .i64 t.1.sk) (.int .i64 t.1.sq) (.int .i64 t.1.st) (.int .i64 t.1.po) (tv t) (.int .i64 t.1.tm) (qs.length * 10) hq
  rw [show c10 z = [.int .i64 z.1.cl,.int .i64 z.1.nu,.int .i64 z.1.ki,.int .i64 z.1.id,.int .i64 z.1.sk,.int .i64 z.1.sq,.int .i64 z.1.st,.int .i64 z.1.po,tv z,.int .i64 z.1.tm] from rfl,this] at hx
  exact hx
 ·rcases List.mem_append.mp hu with m | m
  ·exact h.tk u (List.mem_append_left _ m)
  ·rcases List.mem_cons.mp m with rfl | m
   ·exact ht
   ·exact h.tk u (List.mem_append_right _ (List.mem_cons_of_mem _ m))
end Go.Proofs.YtihdkgekickohaaGreatDoor
