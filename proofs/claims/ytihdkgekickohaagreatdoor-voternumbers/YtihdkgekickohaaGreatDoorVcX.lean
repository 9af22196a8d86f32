import Derived.Test.YtihdkgekickohaaGreatDoorVbX
namespace Go.Proofs.YtihdkgekickohaaGreatDoor
open Go.ChangeShapes Go.WideShapes Go.ChangeAt Go.RowKit
set_option maxRecDepth 100000
attribute [local go_sem] World.cell?_alloc_some frozen_alloc_some
theorem size5r:(Tryz.prog.info? 107).map (·.size) = some 5:=by kernel_rfl
theorem one5 (x0 x1 x2 x3:Int) (a:Option Addr) (n c:Nat):(#[Value.int .i64 x0,.int .i64 x1,.int .i64 x2,.int .i64 x3,.slice a n c]:Array Value).all (·.oneCell') = true:=by simp [Value.oneCell']
theorem five_leaves {W:World} {R:Nat} {p u:Tmp} {fn:Func} {c0 c1 c2 c3 c4:Value} (hf:fn.results = #[.cell p 107,.tmp u]) (hR:W.heap[R]? = some (.cells #[c0,c1,c2,c3,c4] 107 (0,0))) (tmps:Array Value) (h2:tmps.getD p undef = .pointer (some ⟨R,0,none⟩)):(results fn tmps).run Tryz.prog W = .ok (.tuple #[.agg #[c0,c1,c2,c3,c4],tmps.getD u undef]) W:=by
 have hl:=run_loadVar_row (P:=Tryz.prog) W R 107 107 #[c0,c1,c2,c3,c4] (0,0) _ hR Tryz.underlying107 rfl size5r
 rw [results_cell_tmp hf,h2]
 simp [asAddr,Result.andThen,hl]
theorem drop_more {bs a r:List Int} {i:Nat} (h:bs.drop i = a ++ r):bs.drop (i + a.length) = r:=by
 rw [← List.drop_drop,h,List.drop_left]
abbrev oZ5:Obj:=.cells #[.int .i64 0,.int .i64 0,.int .i64 0,.int .i64 0,.slice none 0 0] 107
structure RB (F:Nat → Prop) (w wr:World) (p:Nat) (bs:List Int) (i:Nat) (x0 x1 x2 x3:Int) (lv:Value):Prop where
 rr:Rr F wr p bs i
 box:wr.heap[w.heap.size + 1]? = some (oRc x0 x1 x2 x3 lv)
 res:wr.heap[w.heap.size]? = some oZ5
 kp:Kept F w wr
 lt:∀ k,F k → k < w.heap.size
theorem RB.num {F:Nat → Prop} {w wr w':World} {p:Nat} {bs:List Int} {i i':Nat} {x0 x1 x2 x3:Int} {lv:Value} (h:RB F w wr p bs i x0 x1 x2 x3 lv) (hk:Kept F wr w') (hr:Rr F w' p bs i'):RB F w w' p bs i' x0 x1 x2 x3 lv:=
 ⟨hr,(hk.block _ (lt_of_heap h.box) (fun f=>by have:=h.lt _ f;omega)).trans h.box,(hk.block _ (lt_of_heap h.res) (fun f=>by have:=h.lt _ f;omega)).trans h.res,h.kp.trans hk (fun _ f=>.inl f),h.lt⟩
theorem RB.setx {F:Nat → Prop} {w wr:World} {p:Nat} {bs:List Int} {i j:Nat} {x0 x1 x2 x3 y0 y1 y2 y3:Int} {lv lw v:Value} {A:Addr} (h:RB F w wr p bs i x0 x1 x2 x3 lv) (hA:A = ⟨w.heap.size + 1,j,none⟩) (hc:(#[Value.int .i64 x0,.int .i64 x1,.int .i64 x2,.int .i64 x3,lv]:Array Value).set! j v = #[.int .i64 y0,.int .i64 y1,.int .i64 y2,.int .i64 y3,lw]):RB F w (wr.setCell A v) p bs i y0 y1 y2 y3 lw:=by
 subst hA
 have hk:Kept (fun k=>k = w.heap.size + 1) wr (wr.setCell ⟨w.heap.size + 1,j,none⟩ v):=Kept.setCell (F:=fun k=>k = w.heap.size + 1) wr (p:=⟨w.heap.size + 1,j,none⟩) rfl _
 exact ⟨h.rr.kept hk (fun k f e=>by have:=h.lt k f;omega),by rw [heap_set h.box,hc],(hk.block _ (lt_of_heap h.res) (by omega)).trans h.res,h.kp.trans hk (fun k e=>.inr (by omega)),h.lt⟩
theorem RB.set0 {F:Nat → Prop} {w wr:World} {p:Nat} {bs:List Int} {i:Nat} {x0 x1 x2 x3:Int} {lv:Value} (h:RB F w wr p bs i x0 x1 x2 x3 lv) (v:Int):RB F w (wr.setCell ⟨w.heap.size + 1,0,none⟩ (.int .i64 v)) p bs i v x1 x2 x3 lv:=h.setx rfl rfl
theorem RB.set1 {F:Nat → Prop} {w wr:World} {p:Nat} {bs:List Int} {i:Nat} {x0 x1 x2 x3:Int} {lv:Value} (h:RB F w wr p bs i x0 x1 x2 x3 lv) (v:Int):RB F w (wr.setCell ⟨w.heap.size + 1,1,none⟩ (.int .i64 v)) p bs i x0 v x2 x3 lv:=h.setx rfl rfl
theorem RB.set2 {F:Nat → Prop} {w wr:World} {p:Nat} {bs:List Int} {i:Nat} {x0 x1 x2 x3:Int} {lv:Value} (h:RB F w wr p bs i x0 x1 x2 x3 lv) (v:Int):RB F w (wr.setCell ⟨w.heap.size + 1,2,none⟩ (.int .i64 v)) p bs i x0 x1 v x3 lv:=h.setx rfl rfl
theorem RB.set3 {F:Nat → Prop} {w wr:World} {p:Nat} {bs:List Int} {i:Nat} {x0 x1 x2 x3:Int} {lv:Value} (h:RB F w wr p bs i x0 x1 x2 x3 lv) (v:Int):RB F w (wr.setCell ⟨w.heap.size + 1,3,none⟩ (.int .i64 v)) p bs i x0 x1 x2 v lv:=h.setx rfl rfl
theorem RB.set4 {F:Nat → Prop} {w wr:World} {p:Nat} {bs:List Int} {i:Nat} {x0 x1 x2 x3:Int} {lv:Value} (h:RB F w wr p bs i x0 x1 x2 x3 lv) (v:Value):RB F w (wr.setCell ⟨w.heap.size + 1,4,none⟩ v) p bs i x0 x1 x2 x3 v:=h.setx rfl rfl
theorem RB.fin {F:Nat → Prop} {w wr w9:World} {p:Nat} {bs:List Int} {i:Nat} {x0 x1 x2 x3:Int} {lv:Value} (h:RB F w wr p bs i x0 x1 x2 x3 lv) (hk:Kept (fun k=>k = w.heap.size) wr w9):Rr F w9 p bs i ∧ Kept F w w9:=
 ⟨h.rr.kept hk (fun k f e=>by have:=h.lt k f;omega),h.kp.trans hk (fun k e=>.inr (by omega))⟩
theorem RB.start {F:Nat → Prop} {w:World} {p:Nat} {bs:List Int} {i:Nat} (h:Rr F w p bs i):RB F w ((w.alloc oZ5).alloc oZ5) p bs i 0 0 0 0 (.slice none 0 0):=
 ⟨h.below (ba (ba (Below.refl _ w) _) _),two_of_two w _ _,by rw [heap_alloc_old _ _ (by simp)];exact heap_alloc_new w _,keptB F (ba (ba (Below.refl _ w) _) _),h.1⟩
theorem RB.cells {F:Nat → Prop} {w wr:World} {p:Nat} {bs:List Int} {i:Nat} {x0 x1 x2 x3:Int} {lv:Value} (h:RB F w wr p bs i x0 x1 x2 x3 lv):(wr.cell? ⟨w.heap.size + 1,0,none⟩ = some (.int .i64 x0) ∧ wr.cell? ⟨w.heap.size + 1,1,none⟩ = some (.int .i64 x1) ∧ wr.cell? ⟨w.heap.size + 1,2,none⟩ = some (.int .i64 x2) ∧ wr.cell? ⟨w.heap.size + 1,3,none⟩ = some (.int .i64 x3) ∧ wr.cell? ⟨w.heap.size + 1,4,none⟩ = some lv) ∧ wr.frozen? ⟨w.heap.size + 1,0,none⟩ = false ∧ wr.frozen? ⟨w.heap.size + 1,1,none⟩ = false ∧ wr.frozen? ⟨w.heap.size + 1,2,none⟩ = false ∧ wr.frozen? ⟨w.heap.size + 1,3,none⟩ = false ∧ wr.frozen? ⟨w.heap.size + 1,4,none⟩ = false:=
 ⟨rc_cells h.box,frozen_of_block h.box,frozen_of_block h.box,frozen_of_block h.box,frozen_of_block h.box,frozen_of_block h.box⟩
set_option maxHeartbeats 6400000 in
theorem getRecord_pr (F:Nat → Prop) (w:World) (p:Nat) (bs:List Int) (eb es:Addr) (h:Rr F w p bs 0) (hl:(bs.length:Int) ≤ 140737488355328) (b0:Nat) (hb0:∀ k,F k → b0 ≤ k) (hg:4 < b0 ∧ 15 < b0) (he:w.cell? ⟨4,0,none⟩ = some (vErr eb)) (hes:w.cell? ⟨15,0,none⟩ = some (vErr es)) (b1 b2:Int) (hbs:bs = encL [1,b1,b2]) (hb:balF (b1,b2)) :
  Calls Tryz.prog 126 #[.pointer (some ⟨p,0,none⟩)] w fun r w'=>r = .returned (.tuple #[vR 1 b1 b2 0 (.slice none 0 0),.nilIface]) ∧ Rr F w' p bs bs.length ∧ Kept F w w':=by
 obtain ⟨⟨h1,h2⟩,h3,h4⟩:=hb
 dsimp only at h1 h2 h3 h4
 have HR:=mkHid h
 have HE:=mkHid (And.intro he hes)
 have HG0:=mkHid (And.intro hb0 hg)
 have HD0:Hid (bs.drop 0 = enc (1:Int).toNat ++ (enc b1.toNat ++ (enc b2.toNat ++ []))):=mkHid (by rw [hbs];simp [encL])
 have HBS:=mkHid hbs
 clear h he hes hb0 hg hbs
 go_enter Tryz.func126,Tryz.ntmps126
 go_wp2_with (first
  |(go_at_call 139;have hB:=RB.start HR.out;have HN:=rnumI F _ p bs _ 3 (vErr eb) 1 _ hB.rr hl (hB.kp.cell HE.out.1 (fun f=>by have:=HG0.out.1 _ f;have:=HG0.out.2;simp only at *;omega)) HD0.out ⟨by omega,by omega⟩ (by omega);(with_reducible refine HN.mono ?_);clear HN;rintro r w1 ⟨rfl,hr,k⟩;have HB1:=mkHid (hB.num k hr);clear hB hr k;have HD1:=mkHid (drop_more HD0.out);obtain ⟨⟨q0,q1,q2,q3,q4⟩,y0,y1,y2,y3,y4⟩:=HB1.out.cells)
  |(go_at_call 139;have hB:=HB1.out.set0 1;have HN:=rnumI F _ p bs _ 1099511627776 (vErr eb) b1 _ hB.rr hl (hB.kp.cell HE.out.1 (fun f=>by have:=HG0.out.1 _ f;have:=HG0.out.2;simp only at *;omega)) HD1.out ⟨by omega,by omega⟩ (by omega);(with_reducible refine HN.mono ?_);clear HN;rintro r w2 ⟨rfl,hr,k⟩;have HB2:=mkHid (hB.num k hr);clear hB hr k;have HD2:=mkHid (drop_more HD1.out);obtain ⟨⟨q0,q1,q2,q3,q4⟩,y0,y1,y2,y3,y4⟩:=HB2.out.cells)
  |(go_at_call 139;have hB:=HB2.out.set1 b1;have HN:=rnumI F _ p bs _ 1099511627776 (vErr eb) b2 _ hB.rr hl (hB.kp.cell HE.out.1 (fun f=>by have:=HG0.out.1 _ f;have:=HG0.out.2;simp only at *;omega)) HD2.out ⟨by omega,by omega⟩ (by omega);(with_reducible refine HN.mono ?_);clear HN;rintro r w3 ⟨rfl,hr,k⟩;have HB3:=mkHid (hB.num k hr);clear hB hr k;have HD3:=mkHid (drop_more HD2.out);obtain ⟨⟨q0,q1,q2,q3,q4⟩,y0,y1,y2,y3,y4⟩:=HB3.out.cells)
  |(have hB:=HB3.out.set2 b2;refine wpList_store_box rfl 107 (.tmp 2) (.tmp 46) rfl w.heap.size #[.int .i64 1,.int .i64 b1,.int .i64 b2,.int .i64 0,.slice none 0 0] rfl rfl 107 _ hB.res size5r rfl (one5 _ _ _ _ _ _ _) ?_;clear hB;intro w9 h9 k9))
 refine bodyPost_ret (five_leaves rfl h9 _ rfl) rfl ⟨rfl,?_⟩
 obtain ⟨g1,g2⟩:=(HB3.out.set2 b2).fin k9
 have e:bs.length = 0 + (enc (1:Int).toNat).length + (enc b1.toNat).length + (enc b2.toNat).length:=by rw [HBS.out];simp [encL];omega
 exact ⟨by rw [e];exact g1,g2⟩
set_option maxHeartbeats 6400000 in
theorem getRecord_cl (F:Nat → Prop) (w:World) (p:Nat) (bs:List Int) (eb es:Addr) (h:Rr F w p bs 0) (hl:(bs.length:Int) ≤ 140737488355328) (b0:Nat) (hb0:∀ k,F k → b0 ≤ k) (hg:4 < b0 ∧ 15 < b0) (he:w.cell? ⟨4,0,none⟩ = some (vErr eb)) (hes:w.cell? ⟨15,0,none⟩ = some (vErr es)) (b1:Int) (hbs:bs = encL [3,b1]) (hb:1 ≤ b1 ∧ b1 ≤ 1099511627776) :
  Calls Tryz.prog 126 #[.pointer (some ⟨p,0,none⟩)] w fun r w'=>r = .returned (.tuple #[vR 3 b1 0 0 (.slice none 0 0),.nilIface]) ∧ Rr F w' p bs bs.length ∧ Kept F w w':=by
 obtain ⟨h1,h2⟩:=hb
 have HR:=mkHid h
 have HE:=mkHid (And.intro he hes)
 have HG0:=mkHid (And.intro hb0 hg)
 have HD0:Hid (bs.drop 0 = enc (3:Int).toNat ++ (enc b1.toNat ++ [])):=mkHid (by rw [hbs];simp [encL])
 have HBS:=mkHid hbs
 clear h he hes hb0 hg hbs
 go_enter Tryz.func126,Tryz.ntmps126
 go_wp2_with (first
  |(go_at_call 139;have hB:=RB.start HR.out;have HN:=rnumI F _ p bs _ 3 (vErr eb) 3 _ hB.rr hl (hB.kp.cell HE.out.1 (fun f=>by have:=HG0.out.1 _ f;have:=HG0.out.2;simp only at *;omega)) HD0.out ⟨by omega,by omega⟩ (by omega);(with_reducible refine HN.mono ?_);clear HN;rintro r w1 ⟨rfl,hr,k⟩;have HB1:=mkHid (hB.num k hr);clear hB hr k;have HD1:=mkHid (drop_more HD0.out);obtain ⟨⟨q0,q1,q2,q3,q4⟩,y0,y1,y2,y3,y4⟩:=HB1.out.cells)
  |(go_at_call 139;have hB:=HB1.out.set0 3;have HN:=rnumI F _ p bs _ 1099511627776 (vErr eb) b1 _ hB.rr hl (hB.kp.cell HE.out.1 (fun f=>by have:=HG0.out.1 _ f;have:=HG0.out.2;simp only at *;omega)) HD1.out ⟨by omega,by omega⟩ (by omega);(with_reducible refine HN.mono ?_);clear HN;rintro r w2 ⟨rfl,hr,k⟩;have HB2:=mkHid (hB.num k hr);clear hB hr k;have HD2:=mkHid (drop_more HD1.out);obtain ⟨⟨q0,q1,q2,q3,q4⟩,y0,y1,y2,y3,y4⟩:=HB2.out.cells)
  |(have hB:=HB2.out.set1 b1;refine wpList_store_box rfl 107 (.tmp 2) (.tmp 30) rfl w.heap.size #[.int .i64 3,.int .i64 b1,.int .i64 0,.int .i64 0,.slice none 0 0] rfl rfl 107 _ hB.res size5r rfl (one5 _ _ _ _ _ _ _) ?_;clear hB;intro w9 h9 k9))
 refine bodyPost_ret (five_leaves rfl h9 _ rfl) rfl ⟨rfl,?_⟩
 obtain ⟨g1,g2⟩:=(HB2.out.set1 b1).fin k9
 have e:bs.length = 0 + (enc (3:Int).toNat).length + (enc b1.toNat).length:=by rw [HBS.out];simp [encL]
 exact ⟨by rw [e];exact g1,g2⟩
set_option maxHeartbeats 6400000 in
theorem getRecord_ac (F:Nat → Prop) (w:World) (p:Nat) (bs:List Int) (eb es:Addr) (h:Rr F w p bs 0) (hl:(bs.length:Int) ≤ 140737488355328) (b0:Nat) (hb0:∀ k,F k → b0 ≤ k) (hg:4 < b0 ∧ 15 < b0) (he:w.cell? ⟨4,0,none⟩ = some (vErr eb)) (hes:w.cell? ⟨15,0,none⟩ = some (vErr es)) (b1 b2:Int) (k:Nat) (l:List En) (hbs:bs = encL [2,b1,b2,(k:Int)] ++ (enc (bytesL l).length ++ bytesL l)) (hb:balF (b1,b2)) (hk:(k:Int) ≤ 64) (hf:ledF l) :
  Calls Tryz.prog 126 #[.pointer (some ⟨p,0,none⟩)] w fun r w'=>∃ a c qs,r = .returned (.tuple #[vR 2 b1 b2 k (.slice a qs.length c),.nilIface]) ∧ fs1 qs = l ∧ Led w.heap.size w' (.slice a qs.length c) qs ∧ Rr F w' p bs bs.length ∧ Kept F w w':=by
 obtain ⟨⟨h1,h2⟩,h3,h4⟩:=hb
 dsimp only at h1 h2 h3 h4
 have HLF:=mkHid hf
 clear hf
 have HR:=mkHid h
 have HE:=mkHid (And.intro he hes)
 have HG0:=mkHid (And.intro hb0 hg)
 have HD0:Hid (bs.drop 0 = enc (2:Int).toNat ++ (enc b1.toNat ++ (enc b2.toNat ++ (enc (k:Int).toNat ++ (enc (bytesL l).length ++ bytesL l))))):=mkHid (by rw [hbs];simp [encL,List.append_assoc])
 have HBS:=mkHid hbs
 clear h he hes hb0 hg hbs
 go_enter Tryz.func126,Tryz.ntmps126
 go_wp2_with (first
  |(go_at_call 139;have hB:=RB.start HR.out;have HN:=rnumI F _ p bs _ 3 (vErr eb) 2 _ hB.rr hl (hB.kp.cell HE.out.1 (fun f=>by have:=HG0.out.1 _ f;have:=HG0.out.2;simp only at *;omega)) HD0.out ⟨by omega,by omega⟩ (by omega);(with_reducible refine HN.mono ?_);clear HN;rintro r w1 ⟨rfl,hr,k⟩;have HB1:=mkHid (hB.num k hr);clear hB hr k;have HD1:=mkHid (drop_more HD0.out);obtain ⟨⟨q0,q1,q2,q3,q4⟩,y0,y1,y2,y3,y4⟩:=HB1.out.cells)
  |(go_at_call 139;have hB:=HB1.out.set0 2;have HN:=rnumI F _ p bs _ 1099511627776 (vErr eb) b1 _ hB.rr hl (hB.kp.cell HE.out.1 (fun f=>by have:=HG0.out.1 _ f;have:=HG0.out.2;simp only at *;omega)) HD1.out ⟨by omega,by omega⟩ (by omega);(with_reducible refine HN.mono ?_);clear HN;rintro r w2 ⟨rfl,hr,k⟩;have HB2:=mkHid (hB.num k hr);clear hB hr k;have HD2:=mkHid (drop_more HD1.out);obtain ⟨⟨q0,q1,q2,q3,q4⟩,y0,y1,y2,y3,y4⟩:=HB2.out.cells)
  |(go_at_call 139;have hB:=HB2.out.set1 b1;have HN:=rnumI F _ p bs _ 1099511627776 (vErr eb) b2 _ hB.rr hl (hB.kp.cell HE.out.1 (fun f=>by have:=HG0.out.1 _ f;have:=HG0.out.2;simp only at *;omega)) HD2.out ⟨by omega,by omega⟩ (by omega);(with_reducible refine HN.mono ?_);clear HN;rintro r w3 ⟨rfl,hr,k⟩;have HB3:=mkHid (hB.num k hr);clear hB hr k;have HD3:=mkHid (drop_more HD2.out);obtain ⟨⟨q0,q1,q2,q3,q4⟩,y0,y1,y2,y3,y4⟩:=HB3.out.cells)
  |(go_at_call 139;have hB:=HB3.out.set2 b2;have HN:=rnumI F _ p bs _ 64 (vErr eb) (k:Int) _ hB.rr hl (hB.kp.cell HE.out.1 (fun f=>by have:=HG0.out.1 _ f;have:=HG0.out.2;simp only at *;omega)) HD3.out ⟨by omega,by omega⟩ (by omega);(with_reducible refine HN.mono ?_);clear HN;rintro r w4 ⟨rfl,hr,k⟩;have HB4:=mkHid (hB.num k hr);clear hB hr k;have HD4:=mkHid (drop_more HD3.out);obtain ⟨⟨q0,q1,q2,q3,q4⟩,y0,y1,y2,y3,y4⟩:=HB4.out.cells)
  |(go_at_call 152;have hB:=HB4.out.set3 (k:Int);have HN:=getLedger_ok F _ p bs _ l eb es hB.rr hl HD4.out HLF.out b0 HG0.out.1 HG0.out.2 (hB.kp.cell HE.out.1 (fun f=>by have:=HG0.out.1 _ f;have:=HG0.out.2;simp only at *;omega)) (hB.kp.cell HE.out.2 (fun f=>by have:=HG0.out.1 _ f;have:=HG0.out.2;simp only at *;omega));(with_reducible refine HN.mono ?_);clear HN;rintro r w5 ⟨a5,c5,qs,rfl,e5,l5,r5,k5⟩;have HB5:=mkHid (hB.num k5 r5);have HL5:=mkHid (And.intro e5 (And.intro l5 (And.intro (hB.kp.size) (lt_of_heap hB.box))));clear hB e5 l5 r5 k5;obtain ⟨⟨q0,q1,q2,q3,q4⟩,y0,y1,y2,y3,y4⟩:=HB5.out.cells)
  |(have hB:=HB5.out.set4 (.slice a5 qs.length c5);refine wpList_store_box rfl 107 (.tmp 2) (.tmp 64) rfl w.heap.size #[.int .i64 2,.int .i64 b1,.int .i64 b2,.int .i64 (k:Int),.slice a5 qs.length c5] rfl rfl 107 _ hB.res size5r rfl (one5 _ _ _ _ _ _ _) ?_;clear hB;intro w9 h9 k9))
 have hB:=HB5.out.set4 (.slice a5 qs.length c5)
 obtain ⟨g1,g2⟩:=hB.fin k9
 obtain ⟨e5,l5,s5,s6⟩:=HL5.out
 have kx:Kept (fun k=>k = w.heap.size + 1) w5 (w5.setCell ⟨w.heap.size + 1,4,none⟩ (.slice a5 qs.length c5)):=Kept.setCell (F:=fun k=>k = w.heap.size + 1) w5 (p:=⟨w.heap.size + 1,4,none⟩) rfl _
 refine bodyPost_ret (five_leaves rfl h9 _ rfl) rfl ⟨a5,c5,qs,rfl,e5,((l5.kept kx (fun k e=>.inl (by omega))).kept k9 (fun k e=>.inl (by omega))).up s5,g1,g2⟩
structure RO5 (F:Nat → Prop) (w w1 w2:World) (p:Nat) (bs:List Int):Prop where
 b1:Below (w.alloc oZ5).heap.size (w.alloc oZ5) w1
 ge:∀ k,F k → (w.alloc oZ5).heap.size ≤ k
 kp:Kept F w1 w2
 rr:Rr F w2 p bs bs.length
theorem RO5.bel {F:Nat → Prop} {w w1 w2:World} {p:Nat} {bs:List Int} (h:RO5 F w w1 w2 p bs):Below (w.alloc oZ5).heap.size (w.alloc oZ5) w2:=h.b1.trans (h.kp.below h.ge h.b1.size)
theorem RO5.fin {F:Nat → Prop} {w w1 w2 w3 w9:World} {p:Nat} {bs:List Int} (h:RO5 F w w1 w2 p bs) (hb:Below w2.heap.size w2 w3) (hk:Kept (fun k=>k = w.heap.size) w3 w9):Below w.heap.size w w9 ∧ w.heap.size + 1 ≤ w1.heap.size:=by
 have hs:=h.b1.size
 simp at hs
 have hb3:Below w.heap.size w w3:=bt (bt (ba (Below.refl _ w) oZ5) h.bel) hb
 exact ⟨hb3.trans (hk.below (fun k e=>by omega) hb3.size),hs⟩
theorem RO5.res {F:Nat → Prop} {w w1 w2 w3:World} {p:Nat} {bs:List Int} (h:RO5 F w w1 w2 p bs) (hb:Below w2.heap.size w2 w3):w3.heap[w.heap.size]? = some oZ5:=by
 have hs:=h.bel.size
 simp at hs
 rw [hb.block _ (by omega)]
 exact box_late h.bel
set_option maxHeartbeats 6400000 in
theorem recordOf_pr (w:World) (v:Value) (eb es:Addr) (b1 b2:Int) (h:Rd w v (bytesR (.pr (b1,b2)))) (hb:balF (b1,b2)) (he:w.cell? ⟨4,0,none⟩ = some (vErr eb)) (hes:w.cell? ⟨15,0,none⟩ = some (vErr es)) :
  Calls Tryz.prog 82 #[v] w fun r w'=>r = .returned (.tuple #[vR 1 b1 b2 0 (.slice none 0 0),.nilIface]) ∧ Below w.heap.size w w':=by
 have hl0:((bytesR (.pr (b1,b2))).length:Int) ≤ 140737488355328:=by have:=bytesR_len (r:=.pr (b1,b2)) hb;omega
 have hg1:=World.block_lt_of_cell? w _ he
 have hg2:=World.block_lt_of_cell? w _ hes
 simp only at hg1 hg2
 have HG:=mkHid (And.intro (show 4 < (w.alloc oZ5).heap.size by simp;omega) (show 15 < (w.alloc oZ5).heap.size by simp;omega))
 have HE:=mkHid (And.intro (kl he oZ5) (kl hes oZ5))
 have HV:=mkHid (h.later (ba (Below.refl _ w) oZ5))
 obtain ⟨bs,hbs⟩:∃ bs,bs = bytesR (.pr (b1,b2)):=⟨_,rfl⟩
 rw [← hbs] at HV hl0
 have HBS:=mkHid hbs
 have HL:=fun W=>mkHid (isLegal_any W (b1,b2))
 rw [show balB (b1,b2) = true from balB_iff.mpr hb] at HL
 have HOK:=mkHid hb
 clear h he hes hg1 hg2 hbs hb
 go_enter Tryz.func82,Tryz.ntmps82
 go_wp2_with (first
  |(go_at_call 122;have HN:=newReader_any _ v _ HV.out hl0;(with_reducible refine HN.mono ?_);clear HN;rintro r w1 ⟨p,F,rfl,hr1,hF1,b1⟩;have HR1:=mkHid hr1;have HF1:=mkHid hF1;have HB1:=mkHid b1;clear hr1 hF1 b1)
  |(go_at_call 126;have HN:=getRecord_pr F w1 p bs eb es HR1.out hl0 _ HF1.out HG.out (kc HE.out.1 HB1.out) (kc HE.out.2 HB1.out) b1 b2 HBS.out HOK.out;(with_reducible refine HN.mono ?_);clear HN;rintro r w2 ⟨rfl,r2,k2⟩;have HSO:Hid (RO5 F w w1 w2 p bs):=mkHid ⟨HB1.out,HF1.out,k2,r2⟩;clear r2 k2)
  |(go_at_call 124;have HN:=end_nil F _ p _ _ (HSO.out.rr.below (ba (Below.refl _ w2) (oRc 1 b1 b2 0 (.slice none 0 0)))) hl0 rfl;(with_reducible refine HN.mono ?_);clear HN;rintro r w3 ⟨rfl,nq,hw3⟩;have HB3:Hid (Below (w2.alloc (oRc 1 b1 b2 0 (.slice none 0 0))).heap.size (w2.alloc (oRc 1 b1 b2 0 (.slice none 0 0))) w3):=mkHid (by rw [hw3];exact drb (Below.refl _ _) nq);clear hw3;obtain ⟨q0,q1,q2,q3,q4⟩:=rc_cells (box_late HB3.out))
  |(go_at_call 72;(with_reducible refine (HL w3).out.mono ?_);rintro r w4 ⟨rfl,b4⟩;have HB4:=mkHid (bt HB3.out b4);clear b4 q0 q1 q2 q3 q4;obtain ⟨q0,q1,q2,q3,q4⟩:=rc_cells (box_late HB4.out))
  |(refine wpList_store_box rfl 107 (.tmp 2) (.tmp 34) rfl w.heap.size #[.int .i64 1,.int .i64 b1,.int .i64 b2,.int .i64 0,.slice none 0 0] rfl rfl 107 _ (HSO.out.res (bt (ba (Below.refl _ w2) _) HB4.out)) size5r rfl (one5 _ _ _ _ _ _ _) ?_;intro w9 h9 k9))
 have hfin:=HSO.out.fin (bt (ba (Below.refl _ w2) (oRc 1 b1 b2 0 (.slice none 0 0))) HB4.out) k9
 exact bodyPost_ret (five_leaves rfl h9 _ rfl) rfl ⟨rfl,hfin.1⟩
set_option maxHeartbeats 6400000 in
theorem recordOf_cl (w:World) (v:Value) (eb es:Addr) (b1:Int) (h:Rd w v (bytesR (.cl b1))) (hb:1 ≤ b1 ∧ b1 ≤ 1099511627776) (he:w.cell? ⟨4,0,none⟩ = some (vErr eb)) (hes:w.cell? ⟨15,0,none⟩ = some (vErr es)) :
  Calls Tryz.prog 82 #[v] w fun r w'=>r = .returned (.tuple #[vR 3 b1 0 0 (.slice none 0 0),.nilIface]) ∧ Below w.heap.size w w':=by
 have hl0:((bytesR (.cl b1)).length:Int) ≤ 140737488355328:=by have:=bytesR_len (r:=.cl b1) hb;omega
 have hg1:=World.block_lt_of_cell? w _ he
 have hg2:=World.block_lt_of_cell? w _ hes
 simp only at hg1 hg2
 have HG:=mkHid (And.intro (show 4 < (w.alloc oZ5).heap.size by simp;omega) (show 15 < (w.alloc oZ5).heap.size by simp;omega))
 have HE:=mkHid (And.intro (kl he oZ5) (kl hes oZ5))
 have HV:=mkHid (h.later (ba (Below.refl _ w) oZ5))
 obtain ⟨bs,hbs⟩:∃ bs,bs = bytesR (.cl b1):=⟨_,rfl⟩
 rw [← hbs] at HV hl0
 have HBS:=mkHid hbs
 have HL:=fun W=>mkHid (isLegal_any W (b1,0))
 rw [show balB (b1,0) = true from balB_iff.mpr ⟨hb,by unfold nodeF;omega⟩] at HL
 have HOK:=mkHid hb
 clear h he hes hg1 hg2 hbs hb
 go_enter Tryz.func82,Tryz.ntmps82
 go_wp2_with (first
  |(go_at_call 122;have HN:=newReader_any _ v _ HV.out hl0;(with_reducible refine HN.mono ?_);clear HN;rintro r w1 ⟨p,F,rfl,hr1,hF1,b1⟩;have HR1:=mkHid hr1;have HF1:=mkHid hF1;have HB1:=mkHid b1;clear hr1 hF1 b1)
  |(go_at_call 126;have HN:=getRecord_cl F w1 p bs eb es HR1.out hl0 _ HF1.out HG.out (kc HE.out.1 HB1.out) (kc HE.out.2 HB1.out) b1 HBS.out HOK.out;(with_reducible refine HN.mono ?_);clear HN;rintro r w2 ⟨rfl,r2,k2⟩;have HSO:Hid (RO5 F w w1 w2 p bs):=mkHid ⟨HB1.out,HF1.out,k2,r2⟩;clear r2 k2)
  |(go_at_call 124;have HN:=end_nil F _ p _ _ (HSO.out.rr.below (ba (Below.refl _ w2) (oRc 3 b1 0 0 (.slice none 0 0)))) hl0 rfl;(with_reducible refine HN.mono ?_);clear HN;rintro r w3 ⟨rfl,nq,hw3⟩;have HB3:Hid (Below (w2.alloc (oRc 3 b1 0 0 (.slice none 0 0))).heap.size (w2.alloc (oRc 3 b1 0 0 (.slice none 0 0))) w3):=mkHid (by rw [hw3];exact drb (Below.refl _ _) nq);clear hw3;obtain ⟨q0,q1,q2,q3,q4⟩:=rc_cells (box_late HB3.out))
  |(go_at_call 72;(with_reducible refine (HL w3).out.mono ?_);rintro r w4 ⟨rfl,b4⟩;have HB4:=mkHid (bt HB3.out b4);clear b4 q0 q1 q2 q3 q4;obtain ⟨q0,q1,q2,q3,q4⟩:=rc_cells (box_late HB4.out))
  |(refine wpList_store_box rfl 107 (.tmp 2) (.tmp 34) rfl w.heap.size #[.int .i64 3,.int .i64 b1,.int .i64 0,.int .i64 0,.slice none 0 0] rfl rfl 107 _ (HSO.out.res (bt (ba (Below.refl _ w2) _) HB4.out)) size5r rfl (one5 _ _ _ _ _ _ _) ?_;intro w9 h9 k9))
 have hfin:=HSO.out.fin (bt (ba (Below.refl _ w2) (oRc 3 b1 0 0 (.slice none 0 0))) HB4.out) k9
 exact bodyPost_ret (five_leaves rfl h9 _ rfl) rfl ⟨rfl,hfin.1⟩
set_option maxHeartbeats 6400000 in
theorem recordOf_ac (w:World) (v:Value) (eb es:Addr) (b1 b2:Int) (k:Nat) (l:List En) (h:Rd w v (bytesR (.ac (b1,b2) k l))) (hb:Vr.ok (.ac (b1,b2) k l)) (he:w.cell? ⟨4,0,none⟩ = some (vErr eb)) (hes:w.cell? ⟨15,0,none⟩ = some (vErr es)) :
  Calls Tryz.prog 82 #[v] w fun r w'=>∃ a c qs,r = .returned (.tuple #[vR 2 b1 b2 k (.slice a qs.length c),.nilIface]) ∧ fs1 qs = l ∧ Led w.heap.size w' (.slice a qs.length c) qs ∧ Below w.heap.size w w':=by
 have hl0:((bytesR (.ac (b1,b2) k l)).length:Int) ≤ 140737488355328:=by have:=bytesR_len (r:=.ac (b1,b2) k l) hb;omega
 have hg1:=World.block_lt_of_cell? w _ he
 have hg2:=World.block_lt_of_cell? w _ hes
 simp only at hg1 hg2
 have HG:=mkHid (And.intro (show 4 < (w.alloc oZ5).heap.size by simp;omega) (show 15 < (w.alloc oZ5).heap.size by simp;omega))
 have HE:=mkHid (And.intro (kl he oZ5) (kl hes oZ5))
 have HV:=mkHid (h.later (ba (Below.refl _ w) oZ5))
 obtain ⟨bs,hbs⟩:∃ bs,bs = bytesR (.ac (b1,b2) k l):=⟨_,rfl⟩
 rw [← hbs] at HV hl0
 have HBS:=mkHid hbs
 have HL:=fun W=>mkHid (isLegal_any W (b1,b2))
 rw [show balB (b1,b2) = true from balB_iff.mpr hb.1] at HL
 have HOK:=mkHid hb
 clear h he hes hg1 hg2 hbs hb
 go_enter Tryz.func82,Tryz.ntmps82
 go_wp2_with (first
  |(go_at_call 122;have HN:=newReader_any _ v _ HV.out hl0;(with_reducible refine HN.mono ?_);clear HN;rintro r w1 ⟨p,F,rfl,hr1,hF1,b1⟩;have HR1:=mkHid hr1;have HF1:=mkHid hF1;have HB1:=mkHid b1;clear hr1 hF1 b1)
  |(go_at_call 126;have HN:=getRecord_ac F w1 p bs eb es HR1.out hl0 _ HF1.out HG.out (kc HE.out.1 HB1.out) (kc HE.out.2 HB1.out) b1 b2 k l HBS.out HOK.out.1 HOK.out.2.1 HOK.out.2.2;(with_reducible refine HN.mono ?_);clear HN;rintro r w2 ⟨a,c,qs,rfl,e2,l2,r2,k2⟩;have HSO:Hid (RO5 F w w1 w2 p bs):=mkHid ⟨HB1.out,HF1.out,k2,r2⟩;have HQ:=mkHid (And.intro e2 l2);simp only [vR];clear e2 l2;clear r2 k2)
  |(go_at_call 124;have HN:=end_nil F _ p _ _ (HSO.out.rr.below (ba (Below.refl _ w2) (oRc 2 b1 b2 k (.slice a qs.length c)))) hl0 rfl;(with_reducible refine HN.mono ?_);clear HN;rintro r w3 ⟨rfl,nq,hw3⟩;have HB3:Hid (Below (w2.alloc (oRc 2 b1 b2 k (.slice a qs.length c))).heap.size (w2.alloc (oRc 2 b1 b2 k (.slice a qs.length c))) w3):=mkHid (by rw [hw3];exact drb (Below.refl _ _) nq);clear hw3;obtain ⟨q0,q1,q2,q3,q4⟩:=rc_cells (box_late HB3.out))
  |(go_at_call 72;(with_reducible refine (HL w3).out.mono ?_);rintro r w4 ⟨rfl,b4⟩;have HB4:=mkHid (bt HB3.out b4);clear b4 q0 q1 q2 q3 q4;obtain ⟨q0,q1,q2,q3,q4⟩:=rc_cells (box_late HB4.out))
  |(refine wpList_store_box rfl 107 (.tmp 2) (.tmp 34) rfl w.heap.size #[.int .i64 2,.int .i64 b1,.int .i64 b2,.int .i64 (k:Int),.slice a qs.length c] rfl rfl 107 _ (HSO.out.res (bt (ba (Below.refl _ w2) _) HB4.out)) size5r rfl (one5 _ _ _ _ _ _ _) ?_;intro w9 h9 k9))
 have hfin:=HSO.out.fin (bt (ba (Below.refl _ w2) (oRc 2 b1 b2 k (.slice a qs.length c))) HB4.out) k9
 exact bodyPost_ret (five_leaves rfl h9 _ rfl) rfl ⟨a,c,qs,rfl,HQ.out.1,((HQ.out.2.below (bt (ba (Below.refl _ w2) _) HB4.out)).kept k9 (fun k e=>.inl (by omega))).up (by omega),hfin.1⟩
end Go.Proofs.YtihdkgekickohaaGreatDoor
