import Derived.Test.YtihdkgekickohaaGreatDoorOtask
import Derived.Test.YtihdkgekickohaaGreatDoorBaseD
import Derived.RegionTactic
import Derived.BigRegion
import Derived.ChangeAlike
import Derived.Test.YtihdkgekickohaaGreatDoorLaid
namespace Go.Proofs.YtihdkgekickohaaGreatDoor
open Go.ChangeShapes Go.WideShapes Go.ChangeAt Go.RowKit
set_option maxRecDepth 100000
attribute [local go_sem] World.cell?_alloc_some frozen_alloc_some
theorem outOf_any (w:World) (n:Int):∃ b:Bool,(b = true ↔ ¬ amt n) ∧ Calls Tryz.prog 170 #[.int .i64 n] w fun e w'=>e = .returned (.bool b) ∧ w' = w:=by
 unfold amt
 by_cases h0:n < 0
 ·refine ⟨true,by simp;omega,?_⟩
  go_enter Tryz.func170,Tryz.ntmps170
  go_wp2
  go_ret
  exact ⟨rfl,rfl⟩
 ·by_cases h1:1099511627776 < n
  ·refine ⟨true,by simp;omega,?_⟩
   have h0':0 ≤ n:=by omega
   go_enter Tryz.func170,Tryz.ntmps170
   go_wp2
   go_ret
   exact ⟨rfl,rfl⟩
  ·refine ⟨false,by simp;omega,?_⟩
   have h0':0 ≤ n:=by omega
   have h1':n ≤ 1099511627776:=by omega
   go_enter Tryz.func170,Tryz.ntmps170
   go_wp2
   go_ret
   exact ⟨rfl,rfl⟩
def Row (w:World) (b off:Nat) (xs:List Int):Prop:=∀ i x,xs[i]? = some x → w.cell? ⟨b,off + i,none⟩ = some (.int .i64 x)
abbrev outFn:Value:=.func (.func 170) #[] #[]
set_option maxHeartbeats 1600000 in
theorem idxOut (w:World) (b off c:Nat) (xs:List Int) (hl:(xs.length:Int) ≤ 9223372036854775807) (h:Row w b off xs):∃ k:Int,(0 ≤ k ↔ ∃ x ∈ xs,¬ amt x) ∧
  Calls Tryz.prog 177 #[.slice (some ⟨b,off,none⟩) xs.length c,outFn] w fun e w'=>e = .returned (.int .i64 k) ∧ w' = w:=by
 have HR:=mkHid h
 clear h
 obtain ⟨k,hk⟩:∃ k:Int,(k = -1 ∧ ∀ x ∈ xs,amt x) ∨ (∃ j:Nat,k = j ∧ j < xs.length ∧ (∃ x,xs[j]? = some x ∧ ¬ amt x) ∧ ∀ i x,i < j → xs[i]? = some x → amt x):=by
  clear HR hl
  induction xs with
  |nil=>exact ⟨-1,.inl ⟨rfl,by simp⟩⟩
  |cons y l ih=>
   by_cases hy:amt y
   ·obtain ⟨k,⟨rfl,h⟩ | ⟨j,rfl,hj,⟨x,hx,hn⟩,ha⟩⟩:=ih
    ·exact ⟨-1,.inl ⟨rfl,fun x hx=>by rcases List.mem_cons.mp hx with rfl | hm;exact hy;exact h x hm⟩⟩
    ·refine ⟨((j + 1:Nat):Int),.inr ⟨j + 1,rfl,by simp;omega,⟨x,by simpa using hx,hn⟩,fun i z hi hz=>?_⟩⟩
     cases i with
     |zero=>simp at hz;rw [← hz];exact hy
     |succ i=>exact ha i z (by omega) (by simpa using hz)
   ·exact ⟨((0:Nat):Int),.inr ⟨0,rfl,by simp,⟨y,rfl,hy⟩,fun i z hi=>by omega⟩⟩
 refine ⟨k,?_,?_⟩
 ·rcases hk with ⟨rfl,h⟩ | ⟨j,rfl,hj,⟨x,hx,hn⟩,ha⟩
  ·constructor
   ·intro h;omega
   ·rintro ⟨x,hx,hn⟩;exact absurd (h x hx) hn
  ·exact ⟨fun _=>⟨x,List.mem_of_getElem? hx,hn⟩,fun _=>by omega⟩
 have HK:=mkHid hk
 clear hk
 go_enter Tryz.func177,Tryz.ntmps177
 go_wp2
 go_loopw [5,8] (fun _ iv wr=>∃ j:Nat,iv = .int .i64 (j:Int) ∧ j ≤ xs.length ∧ wr = w ∧ Hid (∀ i x,i < j → xs[i]? = some x → amt x)) (fun _ iv _=>xs.length - (intOf iv).toNat)
 case atStart=>exact ⟨0,rfl,Nat.zero_le _,rfl,mkHid (fun i x hi=>by omega)⟩
 case round=>
  obtain ⟨j,rfl,hj,rfl,HO⟩:=hrel
  by_cases hlt:j < xs.length
  ·obtain ⟨y,hy⟩:∃ x,xs[j]? = some x:=⟨_,List.getElem?_eq_getElem hlt⟩
   have hcell:=HR.out j y hy
   have hji:(j:Int) < xs.length:=by omega
   obtain ⟨bb,hbb,hcall⟩:=outOf_any wr y
   have HY:=mkHid (And.intro hy hbb)
   clear hy hbb
   cases bb with
   |true=>
    go_wp2_with (go_at_call 170;refine hcall.mono ?_;rintro e w' ⟨rfl,rfl⟩)
    go_ret
    refine ⟨?_,rfl⟩
    obtain ⟨hy,hbb⟩:=HY.out
    have hn:=hbb.mp (by first | rfl | trivial)
    rcases HK.out with ⟨_,h⟩ | ⟨j',rfl,hj',⟨x,hx,hn'⟩,ha⟩
    ·exact absurd (h y (List.mem_of_getElem? hy)) hn
    ·have:j' = j:=by
      rcases Nat.lt_trichotomy j' j with h1 | h1 | h1
      ·exact absurd (HO.out j' x h1 hx) hn'
      ·exact h1
      ·exact absurd (ha j y h1 hy) hn
     subst this
     rfl
   |false=>
    go_wp2_with (go_at_call 170;refine hcall.mono ?_;rintro e w' ⟨rfl,rfl⟩)
    go_roundw
    case rel=>
     refine ⟨j + 1,by go_num,by omega,by first | rfl | trivial,mkHid (fun i x hi hx=>?_)⟩
     by_cases e:i = j
     ·subst e
      obtain ⟨hy,hbb⟩:=HY.out
      rw [hy] at hx
      simp at hx
      rw [← hx]
      exact Classical.byContradiction fun hn=>by have:=hbb.mpr hn;simp at this
     ·exact HO.out i x (by omega) hx
    case measure=>simp [intOf];omega
  ·obtain rfl:j = xs.length:=by omega
   go_wp2
   go_ret
   refine ⟨?_,rfl⟩
   rcases HK.out with ⟨rfl,h⟩ | ⟨j',rfl,hj',⟨x,hx,hn'⟩,ha⟩
   ·rfl
   ·exact absurd (HO.out j' x hj' hx) hn'
theorem contOut (w:World) (b off c:Nat) (xs:List Int) (hl:(xs.length:Int) ≤ 9223372036854775807) (h:Row w b off xs):∃ k:Bool,(k = true ↔ ∃ x ∈ xs,¬ amt x) ∧
  Calls Tryz.prog 169 #[.slice (some ⟨b,off,none⟩) xs.length c,outFn] w fun e w'=>e = .returned (.bool k) ∧ w' = w:=by
 obtain ⟨k,hk,hc⟩:=idxOut w b off c xs hl h
 by_cases h0:0 ≤ k
 ·refine ⟨true,by simp only [true_iff];exact hk.mp h0,?_⟩
  clear h hk
  go_enter Tryz.func169,Tryz.ntmps169
  go_wp2_with (go_at_call 177;refine hc.mono ?_;rintro e w' ⟨rfl,rfl⟩)
  go_ret
  exact ⟨rfl,rfl⟩
 ·refine ⟨false,by simp only [Bool.false_eq_true,false_iff];exact fun h=>h0 (hk.mpr h),?_⟩
  have h1:k < 0:=by omega
  clear h hk h0
  go_enter Tryz.func169,Tryz.ntmps169
  go_wp2_with (go_at_call 177;refine hc.mono ?_;rintro e w' ⟨rfl,rfl⟩)
  go_ret
  exact ⟨by show Ending.returned (.bool (decide (0 ≤ k))) = _;rw [decide_eq_false (by omega)],rfl⟩
theorem contOut_yes (w:World) (b off c:Nat) (xs:List Int) (hl:(xs.length:Int) ≤ 9223372036854775807) (h:Row w b off xs) (hx:∃ x ∈ xs,¬ amt x) :
  Calls Tryz.prog 169 #[.slice (some ⟨b,off,none⟩) xs.length c,outFn] w fun e w'=>e = .returned (.bool true) ∧ w' = w:=by
 obtain ⟨k,hk,hc⟩:=contOut w b off c xs hl h
 rw [hk.mpr hx] at hc
 exact hc
theorem contOut_no (w:World) (b off c:Nat) (xs:List Int) (hl:(xs.length:Int) ≤ 9223372036854775807) (h:Row w b off xs) (hx:∀ x ∈ xs,amt x) :
  Calls Tryz.prog 169 #[.slice (some ⟨b,off,none⟩) xs.length c,outFn] w fun e w'=>e = .returned (.bool false) ∧ w' = w:=by
 obtain ⟨k,hk,hc⟩:=contOut w b off c xs hl h
 cases k with
 |false=>exact hc
 |true=>obtain ⟨x,hm,hn⟩:=hk.mp rfl;exact absurd (hx x hm) hn
theorem results_cell1 {fn:Func} {p:Tmp} {ty:TypeId} (h:fn.results = #[.cell p ty]) (tmps:Array Value) (P:Program) (w:World) :
  (results fn tmps).run P w = ((asAddr (tmps.getD p undef)).run P w).andThen fun a w₁=>(loadVar ty a).run P w₁:=by
 simp only [results,h]
 simp [Sem.run_bind,Result.andThen]
theorem arr_leaves {W:World} {R:Nat} {p:Tmp} {fn:Func} {ty:TypeId} {cs:Array Value} (hf:fn.results = #[.cell p ty]) (hl:(loadVar ty ⟨R,0,none⟩).run Tryz.prog W = .ok (.agg cs) W) (tmps:Array Value) (h2:tmps.getD p undef = .pointer (some ⟨R,0,none⟩)):(results fn tmps).run Tryz.prog W = .ok (.agg cs) W:=by
 rw [results_cell1 hf,h2]
 simp [asAddr,Result.andThen,hl]
theorem size9:(Tryz.prog.info? 200).map (·.size) = some 9:=by kernel_rfl
theorem size4:(Tryz.prog.info? 203).map (·.size) = some 4:=by kernel_rfl
theorem two_of_two (w:World) (o1 o2:Obj):((w.alloc o1).alloc o2).heap[w.heap.size + 1]? = some o2:=by
 have:=heap_alloc_new (w.alloc o1) o2
 rw [show (w.alloc o1).heap.size = w.heap.size + 1 by simp] at this
 exact this
theorem two_of_four (w:World) (o1 o2 o3 o4:Obj):((((w.alloc o1).alloc o2).alloc o3).alloc o4).drew.heap[w.heap.size + 1]? = some o2:=by
 show ((((w.alloc o1).alloc o2).alloc o3).alloc o4).heap[w.heap.size + 1]? = some o2
 rw [heap_alloc_old _ _ (by simp),heap_alloc_old _ _ (by simp)]
 exact two_of_two w o1 o2
abbrev a9 (e:En):Array Value:=#[.int .i64 e.cl,.int .i64 e.nu,.int .i64 e.ki,.int .i64 e.tm,.int .i64 e.id,.int .i64 e.sk,.int .i64 e.sq,.int .i64 e.st,.int .i64 e.po]
abbrev v9 (e:En):Value:=.agg (a9 e)
set_option maxHeartbeats 1600000 in
theorem headOf_any (w:World) (e:En) (a:Option Addr) (n c:Nat):Calls Tryz.prog 118 #[vN e (.slice a n c)] w fun r w'=>r = .returned (v9 e) ∧ Below w.heap.size w w':=by
 obtain ⟨cl,nu,ki,id,sk,sq,st,po,ts,tm⟩:=e
 simp only [vN,v9,a9]
 go_enter Tryz.func118,Tryz.ntmps118
 go_wp2
 go_region
 all_goals
  go_wp2
  refine bodyPost_ret (arr_leaves (p:=2) rfl (run_loadVar_row _ _ _ 200 _ _ _ (two_of_four w _ _ _ _) Tryz.underlying200 rfl ?_) _ rfl) rfl ⟨rfl,(ba (ba (ba (ba (Below.refl _ _) _) _) _) _).drew⟩
  exact size9
theorem partsOf_any (w:World) (t:Tk):Calls Tryz.prog 120 #[vT t] w fun r w'=>r = .returned (vT t) ∧ Below w.heap.size w w':=by
 obtain ⟨c,p,d,s⟩:=t
 simp only [vT]
 go_enter Tryz.func120,Tryz.ntmps120
 go_wp2
 refine bodyPost_ret (arr_leaves (p:=2) rfl (run_loadVar_row _ _ _ 203 _ _ _ (two_of_two w _ _) Tryz.underlying203 rfl ?_) _ rfl) rfl ⟨rfl,ba (ba (Below.refl _ _) _) _⟩
 exact size4
theorem row_new (w:World) (xs:List Int) (ty:TypeId) (cs:Array Value) (h:cs = (xs.map (Value.int .i64)).toArray):Row (w.alloc (.cells cs ty)) w.heap.size 0 xs:=by
 intro i x hx
 refine cell_of_block (heap_alloc_new w (.cells cs ty)) ?_
 rw [h,Nat.zero_add]
 simp [hx]
theorem ent8 (w:World) (e:En) (tv:Value):(w.alloc (.cells #[.int .i64 e.cl,.int .i64 e.nu,.int .i64 e.ki,.int .i64 e.id,.int .i64 e.sk,.int .i64 e.sq,.int .i64 e.st,.int .i64 e.po,tv,.int .i64 e.tm] 69)).cell? ⟨w.heap.size,8,none⟩ = some tv:=cell_of_block (heap_alloc_new w _) rfl
def rangeF (e:En):Prop:=e.ts.length ≤ 8 ∧ (∀ n ∈ hnum e,amt n) ∧ ∀ t ∈ e.ts,okT t
theorem okT_all {t:Tk}:okT t ↔ ∀ x ∈ tnum t,amt x:=by simp [okT,tnum]
theorem okT_bad {t:Tk} (h:¬ okT t):∃ x ∈ tnum t,¬ amt x:=Classical.byContradiction fun hn=>h (okT_all.mpr fun x hx=>Classical.byContradiction fun hx'=>hn ⟨x,hx,hx'⟩)
set_option maxHeartbeats 3200000 in
theorem inRange_yes (w:World) (t:Ep) (h:EnW w t) (hr:rangeF t.1):Calls Tryz.prog 149 #[vP t] w fun r w'=>r = .returned (.bool true) ∧ Below w.heap.size w w':=by
 obtain ⟨e,a,cap⟩:=t
 have HS:=mkHid h
 have HX:=mkHid hr.2
 have hn:¬ (8:Int) < (e.ts.length:Int):=by have:=hr.1;simp only at this;omega
 have HH:=mkHid (contOut_no · · 0 9 (hnum e) (by simp [hnum]) · hr.2.1)
 clear h hr
 simp only [vP,vN,tv] at ⊢
 go_enter Tryz.func149,Tryz.ntmps149
 go_wp2_with (first | (go_at_call 118;refine (headOf_any _ e a e.ts.length cap).mono ?_;rintro r w1 ⟨rfl,b1⟩;simp only [v9,a9];have q8:=kc (ent8 w e (.slice a e.ts.length cap)) b1;have HB1:=mkHid (bt (ba (Below.refl _ w) _) b1);clear b1) | (go_at_call 169;refine (HH.out _ _ (row_new w1 (hnum e) 200 (a9 e) rfl)).mono ?_;rintro r w2 ⟨rfl,rfl⟩;simp only [a9];have HB2:=mkHid (ba HB1.out (.cells (a9 e) 200))))
 clear q8
 go_loopw [20] (fun iv wr=>∃ j:Nat,iv = .int .i64 (j:Int) ∧ j ≤ e.ts.length ∧ Hid (Below w.heap.size w wr)) (fun iv _=>e.ts.length - (intOf iv).toNat)
 case atStart=>exact ⟨0,rfl,Nat.zero_le _,HB2⟩
 case round=>
  obtain ⟨j,rfl,hj,HB⟩:=hrel
  by_cases hlt:j < e.ts.length
  ·obtain ⟨b,off,c,p,d,s,rfl,hxj,c0,c1,c2,c3⟩:=Tks.at HS.out HB.out j hlt
   have hji:(j:Int) < e.ts.length:=by omega
   have HK:=mkHid (contOut_no · · 0 4 (tnum (c,p,d,s)) (by simp [tnum]) · (okT_all.mp (HX.out.2 _ (List.mem_of_getElem? hxj))))
   clear hxj
   go_wp2_with (first | (go_at_call 120;refine (partsOf_any _ (c,p,d,s)).mono ?_;rintro r w1 ⟨rfl,b1⟩;have HB3:=mkHid (bt (ba HB.out _) b1);clear b1) | (go_at_call 169;refine (HK.out _ _ (row_new w1 (tnum (c,p,d,s)) 203 #[.int .i64 c,.int .i64 p,.int .i64 d,.int .i64 s] rfl)).mono ?_;rintro r w2 ⟨rfl,rfl⟩;have HB4:=mkHid (ba HB3.out (.cells #[.int .i64 c,.int .i64 p,.int .i64 d,.int .i64 s] 203))))
   go_roundw
   case rel=>exact ⟨j + 1,by go_num,by omega,HB4⟩
   case measure=>simp [intOf];omega
  ·obtain rfl:j = e.ts.length:=by omega
   go_wp2
   go_ret
   exact ⟨rfl,HB.out⟩
set_option maxHeartbeats 3200000 in
theorem inRange_no (w:World) (t:Ep) (h:EnW w t) (hr:¬ rangeF t.1):Calls Tryz.prog 149 #[vP t] w fun r w'=>r = .returned (.bool false) ∧ Below w.heap.size w w':=by
 obtain ⟨e,a,cap⟩:=t
 have HS:=mkHid h
 have HX:=mkHid hr
 clear h hr
 simp only [vP,vN,tv] at ⊢
 by_cases hn:(8:Int) < (e.ts.length:Int)
 ·go_enter Tryz.func149,Tryz.ntmps149
  go_wp2
  go_ret
  exact ⟨rfl,ba (Below.refl _ _) _⟩
 ·by_cases hh:∃ x ∈ hnum e,¬ amt x
  ·have HH:=mkHid (contOut_yes · · 0 9 (hnum e) (by simp [hnum]) · hh)
   clear hh
   go_enter Tryz.func149,Tryz.ntmps149
   go_wp2_with (first | (go_at_call 118;refine (headOf_any _ e a e.ts.length cap).mono ?_;rintro r w1 ⟨rfl,b1⟩;simp only [v9,a9];have HB1:=mkHid (bt (ba (Below.refl _ w) _) b1);clear b1) | (go_at_call 169;refine (HH.out _ _ (row_new w1 (hnum e) 200 (a9 e) rfl)).mono ?_;rintro r w2 ⟨rfl,rfl⟩;simp only [a9];have HB2:=mkHid (ba HB1.out (.cells (a9 e) 200))))
   go_ret
   exact ⟨rfl,HB2.out⟩
  ·have hh':∀ x ∈ hnum e,amt x:=fun x hx=>Classical.byContradiction fun hn=>hh ⟨x,hx,hn⟩
   have HH:=mkHid (contOut_no · · 0 9 (hnum e) (by simp [hnum]) · hh')
   have HN:=mkHid hn
   have HH':=mkHid hh'
   clear hh hh'
   go_enter Tryz.func149,Tryz.ntmps149
   go_wp2_with (first | (go_at_call 118;refine (headOf_any _ e a e.ts.length cap).mono ?_;rintro r w1 ⟨rfl,b1⟩;simp only [v9,a9];have q8:=kc (ent8 w e (.slice a e.ts.length cap)) b1;have HB1:=mkHid (bt (ba (Below.refl _ w) _) b1);clear b1) | (go_at_call 169;refine (HH.out _ _ (row_new w1 (hnum e) 200 (a9 e) rfl)).mono ?_;rintro r w2 ⟨rfl,rfl⟩;simp only [a9];have HB2:=mkHid (ba HB1.out (.cells (a9 e) 200))))
   clear q8
   go_loopw [20] (fun iv wr=>∃ j:Nat,iv = .int .i64 (j:Int) ∧ j ≤ e.ts.length ∧ Hid (∀ i x,i < j → e.ts[i]? = some x → okT x) ∧ Hid (Below w.heap.size w wr)) (fun iv _=>e.ts.length - (intOf iv).toNat)
   case atStart=>exact ⟨0,rfl,Nat.zero_le _,mkHid (fun i x hi=>by omega),HB2⟩
   case round=>
    obtain ⟨j,rfl,hj,HO,HB⟩:=hrel
    by_cases hlt:j < e.ts.length
    ·obtain ⟨b,off,c,p,d,s,rfl,hxj,c0,c1,c2,c3⟩:=Tks.at HS.out HB.out j hlt
     have hji:(j:Int) < e.ts.length:=by omega
     by_cases hk:okT (c,p,d,s)
     ·have HK:=mkHid (contOut_no · · 0 4 (tnum (c,p,d,s)) (by simp [tnum]) · (okT_all.mp hk))
      have HO2:Hid (∀ i x,i < j + 1 → e.ts[i]? = some x → okT x):=mkHid fun i x hi hx=>by
       by_cases e':i = j
       ·subst e';rw [hxj] at hx;simp at hx;rw [← hx];exact hk
       ·exact HO.out i x (by omega) hx
      clear hxj hk
      go_wp2_with (first | (go_at_call 120;refine (partsOf_any _ (c,p,d,s)).mono ?_;rintro r w1 ⟨rfl,b1⟩;have HB3:=mkHid (bt (ba HB.out _) b1);clear b1) | (go_at_call 169;refine (HK.out _ _ (row_new w1 (tnum (c,p,d,s)) 203 #[.int .i64 c,.int .i64 p,.int .i64 d,.int .i64 s] rfl)).mono ?_;rintro r w2 ⟨rfl,rfl⟩;have HB4:=mkHid (ba HB3.out (.cells #[.int .i64 c,.int .i64 p,.int .i64 d,.int .i64 s] 203))))
      go_roundw
      case rel=>exact ⟨j + 1,by go_num,by omega,HO2,HB4⟩
      case measure=>simp [intOf];omega
     ·have HK:=mkHid (contOut_yes · · 0 4 (tnum (c,p,d,s)) (by simp [tnum]) · (okT_bad hk))
      clear hxj hk
      go_wp2_with (first | (go_at_call 120;refine (partsOf_any _ (c,p,d,s)).mono ?_;rintro r w1 ⟨rfl,b1⟩;have HB3:=mkHid (bt (ba HB.out _) b1);clear b1) | (go_at_call 169;refine (HK.out _ _ (row_new w1 (tnum (c,p,d,s)) 203 #[.int .i64 c,.int .i64 p,.int .i64 d,.int .i64 s] rfl)).mono ?_;rintro r w2 ⟨rfl,rfl⟩;have HB4:=mkHid (ba HB3.out (.cells #[.int .i64 c,.int .i64 p,.int .i64 d,.int .i64 s] 203))))
      go_ret
      exact ⟨rfl,HB4.out⟩
    ·exfalso
     refine HX.out ⟨by have:=HN.out;omega,HH'.out,fun x hm=>?_⟩
     obtain ⟨i,hi,rfl⟩:=List.getElem_of_mem hm
     exact HO.out i _ (by omega) (List.getElem?_eq_getElem hi)
abbrev vO (e:En) (tv:Value):Value:=.agg #[.int .i64 e.ki,.int .i64 e.id,.int .i64 e.sk,.int .i64 e.sq,.int .i64 e.st,.int .i64 e.po,tv,.int .i64 e.tm]
def kindB (e:En):Bool:=
 let s:=e.sk == 0 && (e.sq == 0 && e.st == 0)
 let g:=e.po == 0 && e.ts.length == 0
 if e.ki = 1 then g else if e.ki = 2 then g else if e.ki = 3 then s && g else if e.ki = 4 then s else false
theorem kindB_iff {e:En}:kindB e = true ↔ kindF e:=by
 unfold kindB kindF
 by_cases h1:e.ki = 1
 ·simp [h1]
 ·by_cases h2:e.ki = 2
  ·simp [h2]
  ·by_cases h3:e.ki = 3
   ·simp [h3,and_assoc]
   ·by_cases h4:e.ki = 4
    ·simp [h4]
    ·simp [h1,h2,h3,h4]
theorem int0 (n:Nat):((n:Int) == 0) = (n == 0):=by
 rw [Bool.eq_iff_iff]
 simp
set_option maxHeartbeats 3200000 in
theorem kindAllows_any (w:World) (e:En) (a:Option Addr) (cap:Nat):Calls Tryz.prog 150 #[vO e (.slice a e.ts.length cap)] w fun r w'=>r = .returned (.bool (kindB e)) ∧ Below w.heap.size w w':=by
 obtain ⟨cl,nu,ki,id,sk,sq,st,po,ts,tm⟩:=e
 obtain ⟨b,hb⟩:∃ b,b = kindB ⟨cl,nu,ki,id,sk,sq,st,po,ts,tm⟩:=⟨_,rfl⟩
 rw [← hb]
 have HQ:=mkHid hb
 clear hb
 simp only [vO]
 have hk:ki = 1 ∨ ki = 2 ∨ ki = 3 ∨ ki = 4 ∨ ((ki == 1) = false ∧ (ki == 2) = false ∧ (ki == 3) = false ∧ (ki == 4) = false):=by simp;omega
 rcases hk with rfl | rfl | rfl | rfl | ⟨h1,h2,h3,h4⟩
 all_goals
  go_enter Tryz.func150,Tryz.ntmps150
  go_wp2
 all_goals go_ret
 all_goals refine ⟨?_,ba (Below.refl _ _) _⟩
 all_goals
  rw [HQ.out]
  simp_all [kindB,int0]
theorem kindAllows_yes (w:World) (e:En) (a:Option Addr) (cap:Nat) (h:kindF e):Calls Tryz.prog 150 #[vO e (.slice a e.ts.length cap)] w fun r w'=>r = .returned (.bool true) ∧ Below w.heap.size w w':=by
 have:=kindAllows_any w e a cap
 rwa [kindB_iff.mpr h] at this
theorem kindAllows_no (w:World) (e:En) (a:Option Addr) (cap:Nat) (h:¬ kindF e):Calls Tryz.prog 150 #[vO e (.slice a e.ts.length cap)] w fun r w'=>r = .returned (.bool false) ∧ Below w.heap.size w w':=by
 have:=kindAllows_any w e a cap
 rwa [show kindB e = false by rw [← Bool.not_eq_true,kindB_iff];exact h] at this
theorem entO (w:World) (e:En) (tv:Value):(w.alloc (.cells #[.int .i64 e.cl,.int .i64 e.nu,.int .i64 e.ki,.int .i64 e.id,.int .i64 e.sk,.int .i64 e.sq,.int .i64 e.st,.int .i64 e.po,tv,.int .i64 e.tm] 69)).heap[w.heap.size]? = some (.cells #[.int .i64 e.cl,.int .i64 e.nu,.int .i64 e.ki,.int .i64 e.id,.int .i64 e.sk,.int .i64 e.sq,.int .i64 e.st,.int .i64 e.po,tv,.int .i64 e.tm] 69 (0,0)):=heap_alloc_new w _
theorem ent_cells {w:World} {b:Nat} {c0 c1 c2 c3 c4 c5 c6 c7 c8 c9:Value} (h:w.heap[b]? = some (.cells #[c0,c1,c2,c3,c4,c5,c6,c7,c8,c9] 69 (0,0))):w.cell? ⟨b,0,none⟩ = some c0 ∧ w.cell? ⟨b,1,none⟩ = some c1 ∧ w.cell? ⟨b,2,none⟩ = some c2 ∧ w.cell? ⟨b,3,none⟩ = some c3 ∧ w.cell? ⟨b,4,none⟩ = some c4 ∧ w.cell? ⟨b,5,none⟩ = some c5 ∧ w.cell? ⟨b,6,none⟩ = some c6 ∧ w.cell? ⟨b,7,none⟩ = some c7 ∧ w.cell? ⟨b,8,none⟩ = some c8 ∧ w.cell? ⟨b,9,none⟩ = some c9:=
 ⟨cell_of_block h rfl,cell_of_block h rfl,cell_of_block h rfl,cell_of_block h rfl,cell_of_block h rfl,cell_of_block h rfl,cell_of_block h rfl,cell_of_block h rfl,cell_of_block h rfl,cell_of_block h rfl⟩
abbrev vErr (a:Addr):Value:=.iface 284 (.pointer (some a))
set_option maxHeartbeats 3200000 in
theorem check_yes (w:World) (t:Ep) (h:EnW w t) (hf:inF t.1):Calls Tryz.prog 117 #[vP t] w fun r w'=>r = .returned .nilIface ∧ Below w.heap.size w w':=by
 obtain ⟨e,a,cap⟩:=t
 obtain ⟨⟨h1,h2⟩,hr,hk⟩:=hf
 have HR:=mkHid (fun W (hW:Below w.heap.size w W)=>inRange_yes W (e,a,cap) (h.below hW) hr)
 have HK:=mkHid hk
 have h1':¬ 16 ≤ e.cl:=by simp only at h1;omega
 have h2':¬ e.nu < 1:=by simp only at h2;omega
 clear h hr hk h1 h2
 simp only [vP,vN,tv] at HR ⊢
 go_enter Tryz.func117,Tryz.ntmps117
 go_wp2_with (first | (go_at_call 149;refine (HR.out _ (ba (Below.refl _ w) _)).mono ?_;rintro r w1 ⟨rfl,b1⟩;obtain ⟨q0,q1,q2,q3,q4,q5,q6,q7,q8,q9⟩:=ent_cells ((b1.block w.heap.size (by simp)).trans (entO w e (.slice a e.ts.length cap)));have HB1:=mkHid (bt (ba (Below.refl _ w) _) b1);clear b1) | (go_at_call 150;refine (kindAllows_yes _ e a cap HK.out).mono ?_;rintro r w2 ⟨rfl,b2⟩;have HB2:=mkHid (bt HB1.out b2);clear b2))
 go_ret
 exact ⟨rfl,HB2.out⟩
set_option maxHeartbeats 3200000 in
theorem check_no (w:World) (t:Ep) (ea:Addr) (h:EnW w t) (hf:¬ inF t.1) (he:w.cell? ⟨15,0,none⟩ = some (vErr ea)):Calls Tryz.prog 117 #[vP t] w fun r w'=>r = .returned (vErr ea) ∧ Below w.heap.size w w':=by
 obtain ⟨e,a,cap⟩:=t
 have HE:=mkHid he
 have hq:=kl he (.cells #[.int .i64 e.cl,.int .i64 e.nu,.int .i64 e.ki,.int .i64 e.id,.int .i64 e.sk,.int .i64 e.sq,.int .i64 e.st,.int .i64 e.po,.slice a e.ts.length cap,.int .i64 e.tm] 69)
 clear he
 by_cases h1:16 ≤ e.cl
 ·clear h hf
  simp only [vP,vN,tv]
  go_enter Tryz.func117,Tryz.ntmps117
  go_wp2
  go_ret
  exact ⟨rfl,ba (Below.refl _ _) _⟩
 ·by_cases h2:e.nu < 1
  ·clear h hf
   simp only [vP,vN,tv]
   go_enter Tryz.func117,Tryz.ntmps117
   go_wp2
   go_ret
   exact ⟨rfl,ba (Below.refl _ _) _⟩
  ·by_cases hr:rangeF e
   ·have HR:=mkHid (fun W (hW:Below w.heap.size w W)=>inRange_yes W (e,a,cap) (h.below hW) hr)
    have HK:Hid (¬ kindF e):=mkHid (fun hk=>hf ⟨⟨by simp only;omega,by simp only;omega⟩,hr,hk⟩)
    clear h hf hr
    simp only [vP,vN,tv] at HR ⊢
    go_enter Tryz.func117,Tryz.ntmps117
    go_wp2_with (first | (go_at_call 149;refine (HR.out _ (ba (Below.refl _ w) _)).mono ?_;rintro r w1 ⟨rfl,b1⟩;obtain ⟨q0,q1,q2,q3,q4,q5,q6,q7,q8,q9⟩:=ent_cells ((b1.block w.heap.size (by simp)).trans (entO w e (.slice a e.ts.length cap)));have HB1:=mkHid (bt (ba (Below.refl _ w) _) b1);clear b1) | (go_at_call 150;refine (kindAllows_no _ e a cap HK.out).mono ?_;rintro r w2 ⟨rfl,b2⟩;have HB2:=mkHid (bt HB1.out b2);have ce:=kc HE.out HB2.out;clear b2))
    go_ret
    exact ⟨rfl,HB2.out⟩
   ·have HR:=mkHid (fun W (hW:Below w.heap.size w W)=>inRange_no W (e,a,cap) (h.below hW) hr)
    clear h hf hr
    simp only [vP,vN,tv] at HR ⊢
    go_enter Tryz.func117,Tryz.ntmps117
    go_wp2_with (first | (go_at_call 149;refine (HR.out _ (ba (Below.refl _ w) _)).mono ?_;rintro r w1 ⟨rfl,b1⟩;have HB1:=mkHid (bt (ba (Below.refl _ w) _) b1);have ce:=kc HE.out HB1.out;clear b1))
    go_ret
    exact ⟨rfl,HB1.out⟩
end Go.Proofs.YtihdkgekickohaaGreatDoor
