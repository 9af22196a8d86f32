import Derived.Test.YtihdkgekickohaaGreatDoorWbX
import Derived.BigQuiet
import Derived.Deep.RegionHeld3
import Derived.Laws.Cover1
namespace Go.Proofs.YtihdkgekickohaaGreatDoor
open Go.ChangeShapes Go.WideShapes Go.ChangeAt Go.RowKit
set_option maxRecDepth 100000
def lgen (rs:List Rc):Nat:=(rs.getLast?.map Rc.gen).getD 0
def lep (rs:List Rc):Nat:=(rs.getLast?.map Rc.epoch).getD 0
def lix (rs:List Rc):Nat:=(rs.getLast?.map Rc.index).getD 0
theorem last_any {F:Nat → Prop} (w:World) (x y z v:Value) (ts:List Rp) (h:Recs F w v ts) (hl:(ts.length:Int) ≤ 1000000000000) :
  Calls Tryz.prog 105 #[.agg #[x,y,v,z]] w fun e w'=>(∃ da dn dc,e = .returned (.agg #[.int .i64 (lgen (ts.map (·.1)):Int),.int .i64 (lep (ts.map (·.1)):Int),.int .i64 (lix (ts.map (·.1)):Int),.slice da dn dc])) ∧ Below w.heap.size w w':=by
 rcases List.eq_nil_or_concat ts with rfl | ⟨ts,t,rfl⟩
 ·obtain ⟨a,c,rfl⟩:=h.shape
  refine (last_nil w x y z a c).mono ?_
  rintro e w' ⟨rfl,hb⟩
  exact ⟨⟨_,_,_,rfl⟩,hb⟩
 ·rw [List.concat_eq_append] at *
  obtain ⟨g,cap,rfl,h0,h1,h2,h3⟩:=h.last
  refine (last_some w x y z t.1.gen t.1.epoch t.1.index _ _ _ g 0 ts.length cap (by simp at hl;omega) h0 h1 h2 h3).mono ?_
  rintro e w' ⟨rfl,hb⟩
  exact ⟨⟨t.2.1,t.1.data.length,t.2.2,by simp [lgen,lep,lix]⟩,hb⟩
noncomputable def newA (g:Int → List Int) (s:Nat):Bool × (List Rc × Int):=
 if 0 < (areaGo g (s + 1) [] 0 s).1.length ∧ lgen (areaGo g (s + 1) [] (s:Int) s).1 ≤ lgen (areaGo g (s + 1) [] 0 s).1 then (false,areaGo g (s + 1) [] 0 s) else (true,areaGo g (s + 1) [] (s:Int) s)
structure NW (w U:World) (s b1 b2:Nat) (v1 v2:Value) (ts1 ts2:List Rp) (F1 F2:Nat → Prop) (n1 n2:Nat):Prop where
 one:U.heap[b1]? = some (.cells #[.int .i64 0,.int .i64 (s:Int),v1,.int .i64 (n1:Int)] 151 (0,0))
 two:U.heap[b2]? = some (.cells #[.int .i64 (s:Int),.int .i64 ((s:Int) + (s:Int)),v2,.int .i64 (n2:Int)] 151 (0,0))
 res:U.heap[w.heap.size]? = some (.cells #[.int .i64 0,.int .i64 0,.slice none 0 0,.int .i64 0] 151 (0,0))
 r1:Recs F1 U v1 ts1
 r2:Recs F2 U v2 ts2
 f1:∀ k,F1 k → w.heap.size + 1 ≤ k
 f2:∀ k,F2 k → w.heap.size + 1 ≤ k
 l1:ts1.length ≤ s
 l2:ts2.length ≤ s
 m1:n1 ≤ s
 m2:s ≤ n2 ∧ n2 ≤ s + s
 bel:Below w.heap.size w U
theorem NW.below {w U U':World} {s b1 b2:Nat} {v1 v2:Value} {ts1 ts2:List Rp} {F1 F2:Nat → Prop} {n1 n2:Nat} (h:NW w U s b1 b2 v1 v2 ts1 ts2 F1 F2 n1 n2) (hb:Below U.heap.size U U'):NW w U' s b1 b2 v1 v2 ts1 ts2 F1 F2 n1 n2:=
 ⟨by rw [hb.block _ (wlt_of_heap h.one)];exact h.one,by rw [hb.block _ (wlt_of_heap h.two)];exact h.two,by rw [hb.block _ (wlt_of_heap h.res)];exact h.res,h.r1.below hb,h.r2.below hb,h.f1,h.f2,h.l1,h.l2,h.m1,h.m2,h.bel.trans (hb.mono h.bel.size)⟩
def NewPost (w:World) (s:Nat) (o:Bool × (List Rc × Int)) (e:Ending) (w':World):Prop:=
 ∃ fr:Nat,fr = (if o.1 = true then s else 0) ∧ AreaPost w fr s o.2 e w'
theorem NW.first {w U:World} {s b1 b2:Nat} {v1 v2:Value} {ts1 ts2:List Rp} {F1 F2:Nat → Prop} {n1 n2:Nat} (h:NW w U s b1 b2 v1 v2 ts1 ts2 F1 F2 n1 n2) (u0 u1 u2 u3:Value):NewPost w s (false,(ts1.map (·.1),(n1:Int))) (.returned (.agg #[.int .i64 0,.int .i64 (s:Int),v1,.int .i64 (n1:Int)])) ((((U.setCell ⟨w.heap.size,0,none⟩ u0).setCell ⟨w.heap.size,1,none⟩ u1).setCell ⟨w.heap.size,2,none⟩ u2).setCell ⟨w.heap.size,3,none⟩ u3):=by
 have hm:=h.m1
 exact ⟨0,rfl,v1,ts1,n1,F1,by simp,rfl,h.r1.kept (kept_four (F:=fun i=>i = w.heap.size) (Kept.refl _ U) rfl u0 u1 u2 u3) (fun i hi e=>by have:=h.f1 i hi;omega),fun i hi=>by have:=h.f1 i hi;omega,below_four h.bel (Nat.le_refl _) _ _ _ _,Nat.zero_le _,by omega,h.l1⟩
theorem NW.second {w U:World} {s b1 b2:Nat} {v1 v2:Value} {ts1 ts2:List Rp} {F1 F2:Nat → Prop} {n1 n2:Nat} (h:NW w U s b1 b2 v1 v2 ts1 ts2 F1 F2 n1 n2) (u0 u1 u2 u3:Value):NewPost w s (true,(ts2.map (·.1),(n2:Int))) (.returned (.agg #[.int .i64 (s:Int),.int .i64 ((s:Int) + (s:Int)),v2,.int .i64 (n2:Int)])) ((((U.setCell ⟨w.heap.size,0,none⟩ u0).setCell ⟨w.heap.size,1,none⟩ u1).setCell ⟨w.heap.size,2,none⟩ u2).setCell ⟨w.heap.size,3,none⟩ u3):=by
 have hm:=h.m2
 exact ⟨s,rfl,v2,ts2,n2,F2,rfl,rfl,h.r2.kept (kept_four (F:=fun i=>i = w.heap.size) (Kept.refl _ U) rfl u0 u1 u2 u3) (fun i hi e=>by have:=h.f2 i hi;omega),fun i hi=>by have:=h.f2 i hi;omega,below_four h.bel (Nat.le_refl _) _ _ _ _,hm.1,hm.2,h.l2⟩
theorem wtakeD {P:Program} {md:Region.Mode} {ops:Array Oper} {Q:Exit → Act → World → Prop} {S:World → Prop} {fuel:Nat} {listed:Array Bool} {l:List Value} {df:List Deferred} {w:World} {oi:Oper} (i d:Nat) (v:Value) (hi:ops[i]? = some oi) (hd:oi.dst = some d)
  (hs:Region.noSelect ops = true) (hf:Region.free md ops listed i = true) (hr:(Region.ready md ops listed).contains i = true)
  (hQ:∀ c a w,Q (.panic c) (a.put oi.dst v) w → Q (.panic c) a w) (hy:YieldsIf P ops S oi v ⟨l.toArray,df⟩) (hS:S w)
  (h:wpAnyH P md ops Q S fuel (listed.setIfInBounds i true) ⟨(l.set d v).toArray,df⟩ w):wpAnyH P md ops Q S (fuel + 1) listed ⟨l.toArray,df⟩ w:=by
 refine wpAnyH_take hi hs hf hr hQ hy hS ?_
 rw [hd]
 simpa [Act.put] using h
theorem wtE {P:Program} {md:Region.Mode} {ops:Array Oper} {Q:Exit → Act → World → Prop} {S:World → Prop} {fuel:Nat} {listed:Array Bool} {l:List Value} {df:List Deferred} {w:World} {oi:Oper} (i d:Nat) (v:Value) (hi:ops[i]? = some oi) (hd:oi.dst = some d) (hS:S w)
  (h:wpAnyH P md ops Q S fuel (listed.setIfInBounds i true) ⟨(l.set d v).toArray,df⟩ w) (hs:Region.noSelect ops = true:=by kernel_rfl) (hf:Region.free md ops listed i = true:=by kernel_rfl) (hr:(Region.ready md ops listed).contains i = true:=by kernel_rfl)
  (hQ:∀ c a w,Q (.panic c) (a.put oi.dst v) w → Q (.panic c) a w:=by exact fun _ _ _ h=>h) (hy:YieldsIf P ops S oi v ⟨l.toArray,df⟩:=by exact Or.inl ⟨by kernel_rfl,by intro w hSw;(try dsimp only at hSw);go_simp⟩):wpAnyH P md ops Q S (fuel + 1) listed ⟨l.toArray,df⟩ w:=wtakeD i d v hi hd hs hf hr hQ hy hS h
theorem field_gen (a b c:Int) (d:Option Addr) (n m:Nat) (w:World):(Instr.field 167 (.agg #[.int .i64 a,.int .i64 b,.int .i64 c,.slice d n m]) 0).run Tryz.prog w = .ok (.int .i64 a) w:=by kernel_rfl
theorem three_new (w5:World) (o1 o2:Obj):((w5.alloc o1).alloc o2).heap[w5.heap.size]? = some o1 ∧ ((w5.alloc o1).alloc o2).heap[w5.heap.size + 1]? = some o2 ∧ Below w5.heap.size w5 ((w5.alloc o1).alloc o2):=by
 refine ⟨?_,?_,((Below.refl _ w5).alloc (Nat.le_refl _) _).alloc (by simp) _⟩
 ·rw [heap_alloc_old _ _ (by simp)];exact heap_alloc_new w5 o1
 ·have:=heap_alloc_new (w5.alloc o1) o2
  rw [show (w5.alloc o1).heap.size = w5.heap.size + 1 by simp] at this
  exact this
set_option maxHeartbeats 12800000 in
theorem newest_any (F:Nat → Prop) (w:World) (p n s:Nat) (f:Int → List Int) (c:List (Int × List Int)) (nw:Int) (t1 t2 t3:TypeId) (d1 d2 d3:Value) (h:Dk F w p n f c nw false) (hn4:4 ≤ n) (hn2:(n:Int) ≤ 1024) (hs:s = (n - 2) / 2) (hcl:c.length ≤ 1000000000000)
  (h1:w.cell? ⟨5,0,none⟩ = some (.iface t1 d1)) (h2:w.cell? ⟨8,0,none⟩ = some (.iface t2 d2)) (h3:w.cell? ⟨4,0,none⟩ = some (.iface t3 d3)) :
  Calls Tryz.prog 66 #[.pointer (some ⟨p,0,none⟩)] w (NewPost w s (newA (seenOf f c) s)):=by
 have hq1:((n:Int) - 2).tdiv 2 = (s:Int):=by rw [Int.tdiv_eq_ediv_of_nonneg (by omega),hs];omega
 have hq2:((n:Int) - 2) / 2 = (s:Int):=by rw [hs];omega
 have hq3:IntKind.i64.wrap ((n:Int) - 2) = (n:Int) - 2:=by rw [IntKind.wrap_i64];omega
 have hsn:s + s ≤ n:=by omega
 have hs2:(s:Int) ≤ 1024:=by omega
 have HA:Hid (∀ (W:World) (fr:Nat),Below w.heap.size w W → fr + s ≤ n → Calls Tryz.prog 104 #[.agg #[.int .i64 (fr:Int),.int .i64 ((fr:Int) + (s:Int)),.slice none 0 0,.int .i64 (fr:Int)],.pointer (some ⟨p,0,none⟩)] W (AreaPost W fr s (areaGo (seenOf f c) (s + 1) [] (fr:Int) s))):=mkHid (fun W fr hb hf=>
  aread_any F W p n f c nw fr s t1 t2 t3 d1 d2 d3 (h.below hb) hf hn2 hcl ((hb.cell (World.block_lt_of_cell? w _ h1)).trans h1) ((hb.cell (World.block_lt_of_cell? w _ h2)).trans h2) ((hb.cell (World.block_lt_of_cell? w _ h3)).trans h3))
 have HD:=mkHid h
 generalize seenOf f c = g at *
 have HS:=mkHid hs
 clear h h1 h2 h3 hs
 have HA0:Hid (∀ (W:World),Below w.heap.size w W → Calls Tryz.prog 104 #[.agg #[.int .i64 0,.int .i64 (s:Int),.slice none 0 0,.int .i64 0],.pointer (some ⟨p,0,none⟩)] W (AreaPost W 0 s (areaGo g (s + 1) [] 0 s))):=mkHid (fun W hb=>by
  have:=HA.out W 0 hb (by omega)
  simpa using this)
 obtain ⟨W1,hW1⟩:∃ W1,W1 = w.alloc (.cells #[.int .i64 0,.int .i64 0,.slice none 0 0,.int .i64 0] 151):=⟨_,rfl⟩
 have hb1:Below w.heap.size w W1:=by rw [hW1];exact (Below.refl _ w).alloc (Nat.le_refl _) _
 have hr1:W1.heap[w.heap.size]? = some (.cells #[.int .i64 0,.int .i64 0,.slice none 0 0,.int .i64 0] 151 (0,0)):=by rw [hW1];exact heap_alloc_new w _
 have H1:=mkHid (And.intro hb1 hr1)
 clear hb1 hr1
 have M1:True:=trivial
 have M2:True:=trivial
 go_enter Tryz.func66,Tryz.ntmps66
 go_wp2_with (first
  |(go_at_call 102;rw [← hW1];refine (sectors_is F W1 p n f c nw false (HD.out.below H1.out.1)).mono ?_;rintro e w2 ⟨rfl,hw2⟩;rw [hw2];clear hw2 hW1)
  |(go_at_call 103;clear M1;refine (empty_is W1 0 s (by omega) (by omega)).mono ?_;rintro e w2 ⟨rfl,hb2⟩;have HB2:=mkHid (H1.out.1.trans (hb2.mono H1.out.1.size));have HR2:=mkHid ((hb2.block _ (wlt_of_heap H1.out.2)).trans H1.out.2);clear hb2)
  |(go_at_call 104;clear M2;refine (HA0.out w2 HB2.out).mono ?_;rintro e w3 ⟨v1,ts1,n1,F1,rfl,ho1,hr1,hf1,hb3,hl1,hm1,hk1⟩;obtain ⟨a1,c1,rfl⟩:=hr1.shape;have HB3:=mkHid (HB2.out.trans (hb3.mono HB2.out.size));have HR3:=mkHid ((hb3.block _ (wlt_of_heap HR2.out)).trans HR2.out);have HO1:=mkHid ho1;have HQ1:=mkHid (And.intro hr1 (And.intro (fun k hk=>Nat.lt_of_lt_of_le (wlt_of_heap HR2.out) (hf1 k hk)) (And.intro hm1 hk1)));clear ho1 hr1 hf1 hb3 hl1 hm1 hk1)
  |(go_at_call 103;refine (empty_is w3 s s (by omega) (by omega)).mono ?_;rintro e w4 ⟨rfl,hb4⟩;have HB4:=mkHid (HB3.out.trans (hb4.mono HB3.out.size));have HR4:=mkHid ((hb4.block _ (wlt_of_heap HR3.out)).trans HR3.out);have HQ1':=mkHid (HQ1.out.1.below hb4);clear hb4)
  |(go_at_call 104;refine (HA.out w4 s HB4.out hsn).mono ?_;rintro e w5 ⟨v2,ts2,n2,F2,rfl,ho2,hr2,hf2,hb5,hl2,hm2,hk2⟩;obtain ⟨a2,c2,rfl⟩:=hr2.shape;have HB5:=mkHid (HB4.out.trans (hb5.mono HB4.out.size));have HR5:=mkHid ((hb5.block _ (wlt_of_heap HR4.out)).trans HR4.out);have HO2:=mkHid ho2;have HQ2:=mkHid (And.intro hr2 (And.intro (fun k hk=>Nat.lt_of_lt_of_le (wlt_of_heap HR4.out) (hf2 k hk)) (And.intro hm2 (And.intro hk2 hl2))));have HQ1'':=mkHid (HQ1'.out.below hb5);clear ho2 hr2 hf2 hb5 hl2 hm2 hk2 HQ1'))
 obtain ⟨U,hU⟩:∃ U,U = (w5.alloc (.cells #[.int .i64 0,.int .i64 (s:Int),.slice a1 ts1.length c1,.int .i64 (n1:Int)] 151)).alloc (.cells #[.int .i64 (s:Int),.int .i64 ((s:Int) + (s:Int)),.slice a2 ts2.length c2,.int .i64 (n2:Int)] 151):=⟨_,rfl⟩
 have HN:Hid (NW w U s w5.heap.size (w5.heap.size + 1) (.slice a1 ts1.length c1) (.slice a2 ts2.length c2) ts1 ts2 F1 F2 n1 n2):=mkHid (by
  rw [hU]
  obtain ⟨h1,h2,h3⟩:=three_new w5 (.cells #[.int .i64 0,.int .i64 (s:Int),.slice a1 ts1.length c1,.int .i64 (n1:Int)] 151) (.cells #[.int .i64 (s:Int),.int .i64 ((s:Int) + (s:Int)),.slice a2 ts2.length c2,.int .i64 (n2:Int)] 151)
  obtain ⟨r2,f2,m2,k2,l2⟩:=HQ2.out
  obtain ⟨_,f1,m1,k1⟩:=HQ1.out
  exact ⟨h1,h2,(h3.block _ (wlt_of_heap HR5.out)).trans HR5.out,HQ1''.out.below h3,r2.below h3,f1,f2,k1,k2,by omega,⟨l2,m2⟩,HB5.out.trans (h3.mono HB5.out.size)⟩)
 have HT:Hid (ts1.length ≤ s ∧ ts2.length ≤ s):=mkHid ⟨HN.out.l1,HN.out.l2⟩
 rw [← hU]
 clear hU HQ1 HQ2 HQ1'' HB2 HB3 HB4 HB5 HR2 HR3 HR4 HR5 HA HA0 H1
 obtain ⟨q0,q1,q2,q3,_,_,_,_⟩:=four_facts HN.out.one
 obtain ⟨z0,z1,z2,z3,_,_,_,_⟩:=four_facts HN.out.two
 rcases Nat.eq_zero_or_pos ts1.length with hz | hp
 ·have hg0:decide ((0:Int) < (ts1.length:Int)) = false:=decide_eq_false (by omega)
  have HW:Hid (newA g s = (true,(ts2.map (·.1),(n2:Int)))):=mkHid (by unfold newA;rw [HO1.out,HO2.out,if_neg (by simp;omega)])
  obtain ⟨x0,x1,x2,x3,y0,y1,y2,y3⟩:=four_facts HN.out.res
  go_quiet (fail)
  all_goals go_wp2
  have HND:=mkHid (HN.out.below ((drewN_kept (fun _=>False) U nq).below (fun _ h=>h.elim) (Nat.le_refl _)))
  exact bodyPost_ret (area_leaves rfl (afour_leaves HND.out.res _ _ _ _) _ rfl) rfl (by rw [HW.out];exact HND.out.second _ _ _ _)
 ·by_cases hle:lgen (ts2.map (·.1)) ≤ lgen (ts1.map (·.1))
  ·have HW:Hid (newA g s = (false,(ts1.map (·.1),(n1:Int)))):=mkHid (by unfold newA;rw [HO1.out,HO2.out,if_pos (by simp;omega)])
   refine wp_region_held_drew (S:=fun w'=>w'.cell? ⟨w5.heap.size,0,none⟩ = some (.int .i64 0) ∧ w'.cell? ⟨w5.heap.size,1,none⟩ = some (.int .i64 (s:Int)) ∧ w'.cell? ⟨w5.heap.size,2,none⟩ = some (.slice a1 ts1.length c1) ∧ w'.cell? ⟨w5.heap.size,3,none⟩ = some (.int .i64 (n1:Int)) ∧ w'.cell? ⟨w5.heap.size + 1,0,none⟩ = some (.int .i64 (s:Int)) ∧ w'.cell? ⟨w5.heap.size + 1,1,none⟩ = some (.int .i64 ((s:Int) + (s:Int))) ∧ w'.cell? ⟨w5.heap.size + 1,2,none⟩ = some (.slice a2 ts2.length c2) ∧ w'.cell? ⟨w5.heap.size + 1,3,none⟩ = some (.int .i64 (n2:Int))) (by kernel_rfl) ⟨q0,q1,q2,q3,z0,z1,z2,z3⟩ (fun hHeld=>?_)
   refine wtE 0 19 (.pointer (some ⟨w5.heap.size,2,none⟩)) rfl rfl hHeld ?_
   simp only [List.set_cons_zero,List.set_cons_succ]
   refine wtE 1 20 (.slice a1 ts1.length c1) rfl rfl hHeld ?_
   simp only [List.set_cons_zero,List.set_cons_succ]
   refine wtE 2 21 (.int .i64 (ts1.length:Int)) rfl rfl hHeld ?_
   simp only [List.set_cons_zero,List.set_cons_succ]
   refine wtakeD 3 22 (.bool true) rfl rfl (by kernel_rfl) (by kernel_rfl) (by kernel_rfl) (fun _ _ _ h=>h) (Or.inl ⟨by kernel_rfl,by intro w hSw;(try dsimp only at hSw);go_simp;(try simp);(try omega)⟩) hHeld ?_
   simp only [List.set_cons_zero,List.set_cons_succ]
   refine wtE 4 23 (.bool true) rfl rfl hHeld ?_
   simp only [List.set_cons_zero,List.set_cons_succ]
   refine wtE 5 24 (.agg #[.int .i64 0,.int .i64 (s:Int),.slice a1 ts1.length c1,.int .i64 (n1:Int)]) rfl rfl hHeld ?_
   simp only [List.set_cons_zero,List.set_cons_succ]
   refine wtE 8 27 (.agg #[.int .i64 (s:Int),.int .i64 ((s:Int) + (s:Int)),.slice a2 ts2.length c2,.int .i64 (n2:Int)]) rfl rfl hHeld ?_
   simp only [List.set_cons_zero,List.set_cons_succ]
   have HND:=mkHid (HN.out.below ((Kept.drew (fun _=>False) U).below (fun _ h=>h.elim) (Nat.le_refl _)))
   refine wpAnyH_ready (rs:=[6]) (by kernel_rfl) (by simp) (AllReadyH.cons rfl (fun K hK=>?_) AllReadyH.nil)
   go_simp
   refine (last_any U.drew _ _ _ _ ts1 HND.out.r1 (by have:=HT.out;omega)).mono ?_
   rintro e w6 ⟨⟨d6a,d6n,d6c,rfl⟩,hb6⟩
   have HN6:=mkHid (HND.out.below hb6)
   clear hb6 hHeld q0 q1 q2 q3 z0 z1 z2 z3
   obtain ⟨q0,q1,q2,q3,_,_,_,_⟩:=four_facts HN6.out.one
   obtain ⟨z0,z1,z2,z3,_,_,_,_⟩:=four_facts HN6.out.two
   refine hK.out _ _ ⟨q0,q1,q2,q3,z0,z1,z2,z3⟩ (fun hHeld=>?_)
   clear hK K
   refine wtakeD 7 26 (.int .i64 (lgen (ts1.map (·.1)):Int)) rfl rfl (by kernel_rfl) (by kernel_rfl) (by kernel_rfl) (fun _ _ _ h=>h) (Or.inl ⟨by kernel_rfl,by intro w hSw;(try dsimp only at hSw);go_simp;simp [field_gen]⟩) hHeld ?_
   simp only [List.set_cons_zero,List.set_cons_succ]
   refine wpAnyH_ready (rs:=[9]) (by kernel_rfl) (by simp) (AllReadyH.cons rfl (fun K hK=>?_) AllReadyH.nil)
   go_simp
   refine (last_any w6 _ _ _ _ ts2 HN6.out.r2 (by have:=HT.out;omega)).mono ?_
   rintro e w7 ⟨⟨d7a,d7n,d7c,rfl⟩,hb6⟩
   have HN7:=mkHid (HN6.out.below hb6)
   clear hb6 hHeld q0 q1 q2 q3 z0 z1 z2 z3
   obtain ⟨q0,q1,q2,q3,_,_,_,_⟩:=four_facts HN7.out.one
   obtain ⟨z0,z1,z2,z3,_,_,_,_⟩:=four_facts HN7.out.two
   refine hK.out _ _ ⟨q0,q1,q2,q3,z0,z1,z2,z3⟩ (fun hHeld=>?_)
   clear hK K
   refine wtakeD 10 29 (.int .i64 (lgen (ts2.map (·.1)):Int)) rfl rfl (by kernel_rfl) (by kernel_rfl) (by kernel_rfl) (fun _ _ _ h=>h) (Or.inl ⟨by kernel_rfl,by intro w hSw;(try dsimp only at hSw);go_simp;simp [field_gen]⟩) hHeld ?_
   simp only [List.set_cons_zero,List.set_cons_succ]
   refine wtakeD 11 30 (.bool true) rfl rfl (by kernel_rfl) (by kernel_rfl) (by kernel_rfl) (fun _ _ _ h=>h) (Or.inl ⟨by kernel_rfl,by intro w hSw;(try dsimp only at hSw);go_simp;(try simp);(try omega)⟩) hHeld ?_
   simp only [List.set_cons_zero,List.set_cons_succ]
   refine wtE 12 31 (.bool true) rfl rfl hHeld ?_
   simp only [List.set_cons_zero,List.set_cons_succ]
   refine wpAnyH_done (by kernel_rfl) ?_ _
   obtain ⟨x0,x1,x2,x3,y0,y1,y2,y3⟩:=four_facts HN7.out.res
   go_wp2
   exact bodyPost_ret (area_leaves rfl (afour_leaves HN7.out.res _ _ _ _) _ rfl) rfl (by rw [HW.out];exact HN7.out.first _ _ _ _)
  ·have HW:Hid (newA g s = (true,(ts2.map (·.1),(n2:Int)))):=mkHid (by unfold newA;rw [HO1.out,HO2.out,if_neg (by simp;omega)])
   refine wp_region_held_drew (S:=fun w'=>w'.cell? ⟨w5.heap.size,0,none⟩ = some (.int .i64 0) ∧ w'.cell? ⟨w5.heap.size,1,none⟩ = some (.int .i64 (s:Int)) ∧ w'.cell? ⟨w5.heap.size,2,none⟩ = some (.slice a1 ts1.length c1) ∧ w'.cell? ⟨w5.heap.size,3,none⟩ = some (.int .i64 (n1:Int)) ∧ w'.cell? ⟨w5.heap.size + 1,0,none⟩ = some (.int .i64 (s:Int)) ∧ w'.cell? ⟨w5.heap.size + 1,1,none⟩ = some (.int .i64 ((s:Int) + (s:Int))) ∧ w'.cell? ⟨w5.heap.size + 1,2,none⟩ = some (.slice a2 ts2.length c2) ∧ w'.cell? ⟨w5.heap.size + 1,3,none⟩ = some (.int .i64 (n2:Int))) (by kernel_rfl) ⟨q0,q1,q2,q3,z0,z1,z2,z3⟩ (fun hHeld=>?_)
   refine wtE 0 19 (.pointer (some ⟨w5.heap.size,2,none⟩)) rfl rfl hHeld ?_
   simp only [List.set_cons_zero,List.set_cons_succ]
   refine wtE 1 20 (.slice a1 ts1.length c1) rfl rfl hHeld ?_
   simp only [List.set_cons_zero,List.set_cons_succ]
   refine wtE 2 21 (.int .i64 (ts1.length:Int)) rfl rfl hHeld ?_
   simp only [List.set_cons_zero,List.set_cons_succ]
   refine wtakeD 3 22 (.bool true) rfl rfl (by kernel_rfl) (by kernel_rfl) (by kernel_rfl) (fun _ _ _ h=>h) (Or.inl ⟨by kernel_rfl,by intro w hSw;(try dsimp only at hSw);go_simp;(try simp);(try omega)⟩) hHeld ?_
   simp only [List.set_cons_zero,List.set_cons_succ]
   refine wtE 4 23 (.bool true) rfl rfl hHeld ?_
   simp only [List.set_cons_zero,List.set_cons_succ]
   refine wtE 5 24 (.agg #[.int .i64 0,.int .i64 (s:Int),.slice a1 ts1.length c1,.int .i64 (n1:Int)]) rfl rfl hHeld ?_
   simp only [List.set_cons_zero,List.set_cons_succ]
   refine wtE 8 27 (.agg #[.int .i64 (s:Int),.int .i64 ((s:Int) + (s:Int)),.slice a2 ts2.length c2,.int .i64 (n2:Int)]) rfl rfl hHeld ?_
   simp only [List.set_cons_zero,List.set_cons_succ]
   have HND:=mkHid (HN.out.below ((Kept.drew (fun _=>False) U).below (fun _ h=>h.elim) (Nat.le_refl _)))
   refine wpAnyH_ready (rs:=[6]) (by kernel_rfl) (by simp) (AllReadyH.cons rfl (fun K hK=>?_) AllReadyH.nil)
   go_simp
   refine (last_any U.drew _ _ _ _ ts1 HND.out.r1 (by have:=HT.out;omega)).mono ?_
   rintro e w6 ⟨⟨d6a,d6n,d6c,rfl⟩,hb6⟩
   have HN6:=mkHid (HND.out.below hb6)
   clear hb6 hHeld q0 q1 q2 q3 z0 z1 z2 z3
   obtain ⟨q0,q1,q2,q3,_,_,_,_⟩:=four_facts HN6.out.one
   obtain ⟨z0,z1,z2,z3,_,_,_,_⟩:=four_facts HN6.out.two
   refine hK.out _ _ ⟨q0,q1,q2,q3,z0,z1,z2,z3⟩ (fun hHeld=>?_)
   clear hK K
   refine wtakeD 7 26 (.int .i64 (lgen (ts1.map (·.1)):Int)) rfl rfl (by kernel_rfl) (by kernel_rfl) (by kernel_rfl) (fun _ _ _ h=>h) (Or.inl ⟨by kernel_rfl,by intro w hSw;(try dsimp only at hSw);go_simp;simp [field_gen]⟩) hHeld ?_
   simp only [List.set_cons_zero,List.set_cons_succ]
   refine wpAnyH_ready (rs:=[9]) (by kernel_rfl) (by simp) (AllReadyH.cons rfl (fun K hK=>?_) AllReadyH.nil)
   go_simp
   refine (last_any w6 _ _ _ _ ts2 HN6.out.r2 (by have:=HT.out;omega)).mono ?_
   rintro e w7 ⟨⟨d7a,d7n,d7c,rfl⟩,hb6⟩
   have HN7:=mkHid (HN6.out.below hb6)
   clear hb6 hHeld q0 q1 q2 q3 z0 z1 z2 z3
   obtain ⟨q0,q1,q2,q3,_,_,_,_⟩:=four_facts HN7.out.one
   obtain ⟨z0,z1,z2,z3,_,_,_,_⟩:=four_facts HN7.out.two
   refine hK.out _ _ ⟨q0,q1,q2,q3,z0,z1,z2,z3⟩ (fun hHeld=>?_)
   clear hK K
   refine wtakeD 10 29 (.int .i64 (lgen (ts2.map (·.1)):Int)) rfl rfl (by kernel_rfl) (by kernel_rfl) (by kernel_rfl) (fun _ _ _ h=>h) (Or.inl ⟨by kernel_rfl,by intro w hSw;(try dsimp only at hSw);go_simp;simp [field_gen]⟩) hHeld ?_
   simp only [List.set_cons_zero,List.set_cons_succ]
   refine wtakeD 11 30 (.bool false) rfl rfl (by kernel_rfl) (by kernel_rfl) (by kernel_rfl) (fun _ _ _ h=>h) (Or.inl ⟨by kernel_rfl,by intro w hSw;(try dsimp only at hSw);go_simp;(try simp);(try omega)⟩) hHeld ?_
   simp only [List.set_cons_zero,List.set_cons_succ]
   refine wtE 12 31 (.bool false) rfl rfl hHeld ?_
   simp only [List.set_cons_zero,List.set_cons_succ]
   refine wpAnyH_done (by kernel_rfl) ?_ _
   obtain ⟨x0,x1,x2,x3,y0,y1,y2,y3⟩:=four_facts HN7.out.res
   go_wp2
   exact bodyPost_ret (area_leaves rfl (afour_leaves HN7.out.res _ _ _ _) _ rfl) rfl (by rw [HW.out];exact HN7.out.second _ _ _ _)
theorem field_ep (a b c:Int) (d:Option Addr) (n m:Nat) (w:World):(Instr.field 167 (.agg #[.int .i64 a,.int .i64 b,.int .i64 c,.slice d n m]) 1).run Tryz.prog w = .ok (.int .i64 b) w:=by kernel_rfl
theorem cellN_le (s:List Int):cellN s ≤ 1099511627776:=by
 unfold cellN
 split
 ·rename_i h
  exact h.2.choose_spec.2
 ·omega
theorem Recs.lep_le {F:Nat → Prop} {w:World} {v:Value} {ts:List Rp} (h:Recs F w v ts):lep (ts.map (·.1)) ≤ 1099511627776:=by
 rcases List.eq_nil_or_concat ts with rfl | ⟨ts,t,rfl⟩
 ·simp [lep]
 ·rw [List.concat_eq_append] at *
  simpa [lep] using (h.ok t (by simp)).e
noncomputable def topEp (g:Int → List Int) (n:Int) (rs:List Rc):Nat:=max (max (cellN (g (n - 2))) (cellN (g (n - 1)))) (lep rs)
set_option maxHeartbeats 12800000 in
theorem nextEpoch_any (F F1:Nat → Prop) (w:World) (p n:Nat) (f:Int → List Int) (c:List (Int × List Int)) (nw:Int) (x y z v ef:Value) (ts:List Rp) (t1 t2 t3:TypeId) (d1 d2 d3:Value) (h:Dk F w p n f c nw false) (hn4:4 ≤ n) (hn2:(n:Int) ≤ 1024) (hcl:c.length ≤ 1000000000000)
  (hr:Recs F1 w v ts) (hts:ts.length ≤ 1024) (h1:w.cell? ⟨5,0,none⟩ = some (.iface t1 d1)) (h2:w.cell? ⟨8,0,none⟩ = some (.iface t2 d2)) (h3:w.cell? ⟨4,0,none⟩ = some (.iface t3 d3)) (he:w.cell? ⟨2,0,none⟩ = some ef) :
  Calls Tryz.prog 67 #[.pointer (some ⟨p,0,none⟩),.agg #[x,y,v,z]] w fun e w'=>e = .returned (if topEp (seenOf f c) n (ts.map (·.1)) + 1 ≤ 1099511627776 then .tuple #[.int .i64 (1 + (topEp (seenOf f c) n (ts.map (·.1)):Int)),.nilIface] else .tuple #[.int .i64 0,ef]) ∧ Below w.heap.size w w':=by
 obtain ⟨va,vc,rfl⟩:=hr.shape
 obtain ⟨M,hM⟩:∃ M,M = topEp (seenOf f c) n (ts.map (·.1)):=⟨_,rfl⟩
 have hMb:M ≤ 1099511627776:=by
  have a1:=cellN_le (seenOf f c ((n:Int) - 2))
  have a2:=cellN_le (seenOf f c ((n:Int) - 1))
  have a3:=hr.lep_le
  rw [hM];unfold topEp;omega
 rw [← hM]
 unfold topEp at hM
 obtain ⟨ov,hov⟩:∃ ov:Value,ov = if M + 1 ≤ 1099511627776 then .tuple #[.int .i64 (1 + (M:Int)),.nilIface] else .tuple #[.int .i64 0,ef]:=⟨_,rfl⟩
 rw [← hov]
 have HOV:=mkHid hov
 clear hov
 obtain ⟨W,hW⟩:∃ W,W = w.alloc (.cells #[x,y,.slice va ts.length vc,z] 151):=⟨_,rfl⟩
 have hb1:Below w.heap.size w W:=by rw [hW];exact (Below.refl _ w).alloc (Nat.le_refl _) _
 have hx1:W.heap[w.heap.size]? = some (.cells #[x,y,.slice va ts.length vc,z] 151 (0,0)):=by rw [hW];exact heap_alloc_new w _
 have HX:Hid (∀ W',Below W.heap.size W W' → W'.heap[w.heap.size]? = some (.cells #[x,y,.slice va ts.length vc,z] 151 (0,0))):=mkHid (fun W' hb=>by rw [hb.block _ (wlt_of_heap hx1)];exact hx1)
 have cellA:∀ (W':World) (i:Int),Below W.heap.size W W' → 0 ≤ i → i < (n:Int) → Calls Tryz.prog 106 #[.pointer (some ⟨p,0,none⟩),.int .i64 i] W' fun e w'=>e = .returned (.int .i64 (cellN (seenOf f c i):Int)) ∧ Below W'.heap.size W' w':=fun W' i hb h0 hi=>by
  have hb':=hb1.trans (hb.mono hb1.size)
  exact cell_any F W' p n f c nw i t1 t2 t3 d1 d2 d3 (h.below hb') hcl h0 hi ((hb'.cell (World.block_lt_of_cell? w _ h1)).trans h1) ((hb'.cell (World.block_lt_of_cell? w _ h2)).trans h2) ((hb'.cell (World.block_lt_of_cell? w _ h3)).trans h3)
 have HC1:=mkHid (fun (W':World) (hb:Below W.heap.size W W')=>cellA W' ((n:Int) - 2) hb (by omega) (by omega))
 have HC2:=mkHid (fun (W':World) (hb:Below W.heap.size W W')=>cellA W' ((n:Int) - 1) hb (by omega) (by omega))
 have HSC:=mkHid (sectors_is F W p n f c nw false (h.below hb1))
 have HR:=mkHid (hr.below hb1)
 have HT:=mkHid hts
 have HB:=mkHid hb1
 have HEF:=mkHid he
 have hn8:IntKind.i64.wrap ((n:Int) - 2) = (n:Int) - 2:=by rw [IntKind.wrap_i64];omega
 have hn9:IntKind.i64.wrap ((n:Int) - 1) = (n:Int) - 1:=by rw [IntKind.wrap_i64];omega
 have hw1:IntKind.i64.wrap (1 + (M:Int)) = 1 + (M:Int):=by rw [IntKind.wrap_i64];omega
 obtain ⟨q0,q1,q2,q3,_,_,_,_⟩:=four_facts hx1
 generalize cellN (seenOf f c ((n:Int) - 2)) = A at *
 generalize cellN (seenOf f c ((n:Int) - 1)) = B at *
 have HM:=mkHid hM
 clear h h1 h2 h3 he hr hx1 hb1 cellA hM
 go_enter Tryz.func67,Tryz.ntmps67
 go_wp2_with (go_at_call 102;rw [← hW];refine HSC.out.mono ?_;rintro e w1 ⟨rfl,hw1'⟩;rw [hw1'];clear hw1' hW)
 refine wp_region_held_drew (S:=fun w'=>w'.cell? ⟨w.heap.size,0,none⟩ = some (x) ∧ w'.cell? ⟨w.heap.size,1,none⟩ = some (y) ∧ w'.cell? ⟨w.heap.size,2,none⟩ = some (.slice va ts.length vc) ∧ w'.cell? ⟨w.heap.size,3,none⟩ = some (z)) (by kernel_rfl) ⟨q0,q1,q2,q3⟩ (fun hHeld=>?_)
 refine wtE 0 10 (.pointer (some ⟨p,0,none⟩)) rfl rfl hHeld ?_
 simp only [List.set_cons_zero,List.set_cons_succ]
 refine wtE 1 11 (.int .i64 (n:Int)) rfl rfl hHeld ?_
 simp only [List.set_cons_zero,List.set_cons_succ]
 refine wtE 2 12 (.int .i64 ((n:Int) - 2)) rfl rfl hHeld ?_
 simp only [List.set_cons_zero,List.set_cons_succ]
 refine wtE 4 14 (.pointer (some ⟨p,0,none⟩)) rfl rfl hHeld ?_
 simp only [List.set_cons_zero,List.set_cons_succ]
 refine wtE 5 15 (.int .i64 (n:Int)) rfl rfl hHeld ?_
 simp only [List.set_cons_zero,List.set_cons_succ]
 refine wtE 6 16 (.int .i64 ((n:Int) - 1)) rfl rfl hHeld ?_
 simp only [List.set_cons_zero,List.set_cons_succ]
 refine wtE 8 18 (.agg #[x,y,.slice va ts.length vc,z]) rfl rfl hHeld ?_
 simp only [List.set_cons_zero,List.set_cons_succ]
 have HB1:=mkHid ((Kept.drew (fun _=>False) W).below (B:=W.heap.size) (fun _ h=>h.elim) (Nat.le_refl _))
 refine wpAnyH_ready (rs:=[3]) (by kernel_rfl) (by simp) (AllReadyH.cons rfl (fun K hK=>?_) AllReadyH.nil)
 go_simp
 refine (HC1.out W.drew HB1.out).mono ?_
 rintro e w2 ⟨rfl,hb6⟩
 have HB2:=mkHid (HB1.out.trans (hb6.mono HB1.out.size))
 clear hb6 hHeld q0 q1 q2 q3
 obtain ⟨q0,q1,q2,q3,_,_,_,_⟩:=four_facts (HX.out w2 HB2.out)
 refine hK.out _ _ ⟨q0,q1,q2,q3⟩ (fun hHeld=>?_)
 clear hK K
 refine wpAnyH_ready (rs:=[7]) (by kernel_rfl) (by simp) (AllReadyH.cons rfl (fun K hK=>?_) AllReadyH.nil)
 go_simp
 refine (HC2.out w2 HB2.out).mono ?_
 rintro e w3 ⟨rfl,hb6⟩
 have HB3:=mkHid (HB2.out.trans (hb6.mono HB2.out.size))
 clear hb6 hHeld q0 q1 q2 q3
 obtain ⟨q0,q1,q2,q3,_,_,_,_⟩:=four_facts (HX.out w3 HB3.out)
 refine hK.out _ _ ⟨q0,q1,q2,q3⟩ (fun hHeld=>?_)
 clear hK K
 refine wpAnyH_ready (rs:=[9]) (by kernel_rfl) (by simp) (AllReadyH.cons rfl (fun K hK=>?_) AllReadyH.nil)
 go_simp
 refine (last_any w3 _ _ _ _ ts (HR.out.below HB3.out) (by have:=HT.out;omega)).mono ?_
 rintro e w4 ⟨⟨da,dn,dc,rfl⟩,hb6⟩
 have HB4:=mkHid (HB3.out.trans (hb6.mono HB3.out.size))
 clear hb6 hHeld q0 q1 q2 q3
 obtain ⟨q0,q1,q2,q3,_,_,_,_⟩:=four_facts (HX.out w4 HB4.out)
 refine hK.out _ _ ⟨q0,q1,q2,q3⟩ (fun hHeld=>?_)
 clear hK K
 refine wtakeD 10 20 (.int .i64 (lep (ts.map (·.1)):Int)) rfl rfl (by kernel_rfl) (by kernel_rfl) (by kernel_rfl) (fun _ _ _ h=>h) (Or.inl ⟨by kernel_rfl,by intro w hSw;(try dsimp only at hSw);go_simp;simp [field_ep]⟩) hHeld ?_
 simp only [List.set_cons_zero,List.set_cons_succ]
 refine wtakeD 11 21 (.int .i64 (M:Int)) rfl rfl (by kernel_rfl) (by kernel_rfl) (by kernel_rfl) (fun _ _ _ h=>h) (Or.inl ⟨by kernel_rfl,by intro w hSw;(try dsimp only at hSw);go_simp;(have hM:=HM.out;repeat (first | omega | split))⟩) hHeld ?_
 simp only [List.set_cons_zero,List.set_cons_succ]
 refine wtE 12 22 (.int .i64 (1 + (M:Int))) rfl rfl hHeld ?_
 simp only [List.set_cons_zero,List.set_cons_succ]
 refine wtE 13 7 (.int .i64 (1 + (M:Int))) rfl rfl hHeld ?_
 simp only [List.set_cons_zero,List.set_cons_succ]
 refine wpAnyH_done (by kernel_rfl) ?_ _
 have HE4:=mkHid ((HB.out.trans (HB4.out.mono HB.out.size)))
 have e4:w4.cell? ⟨2,0,none⟩ = some ef:=(HE4.out.cell (World.block_lt_of_cell? w _ HEF.out)).trans HEF.out
 by_cases hle:M + 1 ≤ 1099511627776
 ·have hgt:¬ (1099511627776:Int) < 1 + (M:Int):=by omega
  go_wp2
  go_ret2
  exact ⟨by rw [HOV.out,if_pos hle];rfl,HE4.out⟩
 ·have hgt:(1099511627776:Int) < 1 + (M:Int):=by omega
  go_wp2
  go_region
  all_goals go_wp2
  all_goals go_ret2
  all_goals first | exact ⟨by rw [HOV.out,if_neg hle];rfl,HE4.out⟩ | exact ⟨by rw [HOV.out,if_neg hle];rfl,HE4.out.drew⟩
end Go.Proofs.YtihdkgekickohaaGreatDoor
