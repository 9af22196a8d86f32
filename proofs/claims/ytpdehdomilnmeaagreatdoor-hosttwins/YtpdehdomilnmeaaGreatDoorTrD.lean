import Derived.Test.YtpdehdomilnmeaaGreatDoorTrC
import Derived.Laws.CopyRow
namespace Go.Proofs.YtpdehdomilnmeaaGreatDoor
open Go.ChangeShapes Go.WideShapes Go.ChangeAt Go.RowKit
set_option maxRecDepth 100000
attribute [local go_sem] World.cell?_alloc_some fAs
theorem zeroCells_one {z:Array Value} (h:∀ u ∈ z.toList,u.oneCell'=true) (hz:0 < z.size) (n:Nat):∀ u ∈ (Builtin.zeroCells z n).toList,u.oneCell'=true:=by
 intro u hu
 simp only [Builtin.zeroCells,Array.toList_map,List.mem_map] at hu
 obtain⟨i,_,rfl⟩:=hu
 have:i % z.size < z.size:=Nat.mod_lt _ hz
 rw [getElem!_pos z (i % z.size) this]
 exact h _ (by simp)
theorem run_clear_own {P:Program} (w:World) (base:Nat) (t ty e:TypeId) (i:TypeInfo) (ht:P.underlying t=some (.slice e)) (hi:P.info? e=some i) (z:Value) (k:Nat) (hk:0 < k) (hz:i.zero=some z) (hzs:z.cells.size=k) (h1:∀ u ∈ z.cells.toList,u.oneCell'=true)
  (g n cap m c:Nat) (xs:List Value) (hown:w.ownsRow base e k (.slice (some ⟨g,0,none⟩) n cap) n xs) (hm:m < n) :
  ∃ w',(Builtin.clear_ #[t] ty #[.slice (some ⟨g,m * k,none⟩) (n - m) c]).run P w=.ok (.tuple #[]) w'/\w'.ownsRow base e k (.slice (some ⟨g,0,none⟩) m cap) m (xs.take (m * k))/\w.grownBy w' (some g):=by
 rcases hown.2 with ⟨e',_⟩ | ⟨g',cap',cur,e1,hb,hg,h2,h3,h4,h5⟩
 ·simp at e'
 simp only [Value.slice.injEq,Option.some.injEq,Addr.mk.injEq] at e1
 obtain⟨⟨rfl,_⟩,_,rfl⟩:=e1
 have hzl:(Builtin.zeroCells z.cells (n - m)).toList.length=(n - m) * k:=by rw [Array.length_toList,size_zeroCells,hzs]
 have hnk:n * k<=cap * k:=Nat.mul_le_mul_right k h2
 have hmk:m * k+(n - m) * k=n * k:=by rw [<- Nat.add_mul];congr 1;omega
 have hst:=run_storeCells_at P g (m * k) e (Builtin.zeroCells z.cells (n - m)).toList 0 cur w hg (by rw [hzl,Nat.add_zero,h4];omega) (zeroCells_one h1 (by omega) _)
 obtain⟨d,hd⟩:∃ d,n - m=d+1:=⟨n - m - 1,by omega⟩
 have hlt:(cur.toList.take (m * k)).length=m * k:=by rw [List.length_take,Array.length_toList,h4];omega
 refine⟨w.setRow g (cur.toList.take (m * k+0) ++ (Builtin.zeroCells z.cells (n - m)).toList ++ cur.toList.drop (m * k+0+(Builtin.zeroCells z.cells (n - m)).toList.length)).toArray, ?_,⟨?_,.inr ⟨g,cap,_,rfl,hb,setRow_heap w g cur _ e _ hg,by omega,h3, ?_, ?_⟩⟩,⟨rfl,rfl,rfl,by simp,fun x _ hx=>setRow_other w g x _ (fun e=>hx (by rw [e]))⟩⟩
 ·rw [hd] at hst ⊢
  simp [Builtin.clear_,run_underlying ht,zeroValue,typeInfo,hi,hz,hst]
 ·rw [List.length_take,hown.1];exact Nat.min_eq_left (Nat.mul_le_mul_right k (by omega))
 ·simp only [List.size_toArray,List.length_append,List.length_take,List.length_drop,Array.length_toList,hzl,h4,Array.length_toList,Nat.add_zero]
  have:(Builtin.zeroCells z.cells (n - m)).size=(n - m) * k:=by rw [<- Array.length_toList];exact hzl
  first | omega | (rw [this];omega)
 ·rw [Nat.add_zero,List.append_assoc]
  show List.take (m * k) (cur.toList.take (m * k) ++ _)=_
  rw [List.take_append_of_le_length (by rw [hlt];exact Nat.le_refl _),List.take_of_length_le (by rw [hlt];exact Nat.le_refl _),<- h5,List.take_take,Nat.min_eq_left (Nat.mul_le_mul_right k (by omega))]
theorem fl_take {α:Type} (f:α->List Value) (n:Nat) (hf:∀ x,(f x).length=n) (xs:List α) (m:Nat):(xs.flatMap f).take (m * n)=(xs.take m).flatMap f:=by
 induction xs generalizing m with
 |nil=>simp
 |cons x l ih=>
  cases m with
  |zero=>simp
  |succ m=>
   rw [List.flatMap_cons,List.take_succ_cons,List.flatMap_cons,List.take_append,hf,List.take_of_length_le (by rw [hf,Nat.add_mul];omega)]
   congr 1
   rw [show (m+1) * n - n=m * n by rw [Nat.add_mul];omega]
   exact ih m
theorem own_set5 {w:World} {base:Nat} {e:TypeId} {g n cap:Nat} {gs:List Gh} (h:w.ownsRow base e 5 (.slice (some ⟨g,0,none⟩) n cap) n (gs.flatMap c5)) {j:Nat} {x:Gh} (hx:gs[j]?=some x) (y:Gh) :
  (((((w.setCell ⟨g,j * 5,none⟩ (.int .i64 y.pa)).setCell ⟨g,j * 5+1,none⟩ (.int .i64 y.sv.1)).setCell ⟨g,j * 5+2,none⟩ (.int .i64 y.sv.2.1)).setCell ⟨g,j * 5+3,none⟩ (.int .i64 y.sv.2.2)).setCell ⟨g,j * 5+4,none⟩ (.int .i64 y.un)).ownsRow base e 5 (.slice (some ⟨g,0,none⟩) n cap) n ((gs.set j y).flatMap c5):=by
 have a0:=own_put h (j * 5+0) (.int .i64 y.pa)
 rw [fl_set c5 5 c5_len gs j 0 x ⟨y.pa,x.sv,x.un⟩ _ hx (by omega) rfl] at a0
 have l:j < gs.length:=(List.getElem?_eq_some_iff.mp hx).1
 have g1:(gs.set j ⟨y.pa,x.sv,x.un⟩)[j]?=some ⟨y.pa,x.sv,x.un⟩:=by simp [l]
 have a1:=own_put a0 (j * 5+1) (.int .i64 y.sv.1)
 rw [fl_set c5 5 c5_len _ j 1 _ ⟨y.pa,(y.sv.1,x.sv.2),x.un⟩ _ g1 (by omega) rfl,List.set_set] at a1
 have g2:(gs.set j ⟨y.pa,(y.sv.1,x.sv.2),x.un⟩)[j]?=some ⟨y.pa,(y.sv.1,x.sv.2),x.un⟩:=by simp [l]
 have a2:=own_put a1 (j * 5+2) (.int .i64 y.sv.2.1)
 rw [fl_set c5 5 c5_len _ j 2 _ ⟨y.pa,(y.sv.1,y.sv.2.1,x.sv.2.2),x.un⟩ _ g2 (by omega) rfl,List.set_set] at a2
 have g3:(gs.set j ⟨y.pa,(y.sv.1,y.sv.2.1,x.sv.2.2),x.un⟩)[j]?=some ⟨y.pa,(y.sv.1,y.sv.2.1,x.sv.2.2),x.un⟩:=by simp [l]
 have a3:=own_put a2 (j * 5+3) (.int .i64 y.sv.2.2)
 rw [fl_set c5 5 c5_len _ j 3 _ ⟨y.pa,y.sv,x.un⟩ _ g3 (by omega) rfl,List.set_set] at a3
 have g4:(gs.set j ⟨y.pa,y.sv,x.un⟩)[j]?=some ⟨y.pa,y.sv,x.un⟩:=by simp [l]
 have a4:=own_put a3 (j * 5+4) (.int .i64 y.un)
 rw [fl_set c5 5 c5_len _ j 4 _ y _ g4 (by omega) rfl,List.set_set] at a4
 exact a4
theorem set5_kept {F:Nat->Prop} {w w':World} (h:Kept F w w') {g:Nat} (hb:F g ∨ w.heap.size<=g) (o:Nat) (v0 v1 v2 v3 v4:Value):Kept F w (((((w'.setCell ⟨g,o,none⟩ v0).setCell ⟨g,o+1,none⟩ v1).setCell ⟨g,o+2,none⟩ v2).setCell ⟨g,o+3,none⟩ v3).setCell ⟨g,o+4,none⟩ v4):=
 kset (kset (kset (kset (kset h hb o v0) hb (o+1) v1) hb (o+2) v2) hb (o+3) v3) hb (o+4) v4
theorem sizeG (W:World):(Go.sizeOf 111).run Tryz.prog W=.ok 5 W:=by
 obtain⟨i,hi,_,hs,_⟩:=info_parts info_ghost
 simp [Go.sizeOf,typeInfo,hi,hs]
theorem elemG:Tryz.prog.underlying 28=some (.slice (Tryz.prog.elem 28))/\Tryz.prog.elem 28=111:=by
 constructor <;> kernel_rfl
theorem sizeNd (W:World):(Go.sizeOf 69).run Tryz.prog W=.ok 7 W:=by
 obtain⟨i,hi,_,hs,_⟩:=info_parts info_node
 simp [Go.sizeOf,typeInfo,hi,hs]
theorem elemN:Tryz.prog.underlying 27=some (.slice (Tryz.prog.elem 27))/\Tryz.prog.elem 27=69:=by
 constructor <;> kernel_rfl
structure Gone (keep:Gh->Bool) (gs L:List Gh) (i j:Nat):Prop where
 len:L.length=gs.length
 hd:L.take i=(gs.take j).filter keep
 tl:L.drop j=gs.drop j
 lt:i < j
 le:j<=gs.length
theorem Gone.yes {keep:Gh->Bool} {gs L:List Gh} {i j:Nat} (h:Gone keep gs L i j) {x:Gh} (hx:gs[j]?=some x) (hk:keep x=true):Gone keep gs (L.set i x) (i+1) (j+1):=by
 have hj:j < gs.length:=(List.getElem?_eq_some_iff.mp hx).1
 have hil:i < L.length:=by rw [h.len];have:=h.lt;omega
 refine⟨by rw [List.length_set];exact h.len, ?_, ?_,by have:=h.lt;omega,hj⟩
 ·rw [List.take_add_one,List.take_set_of_le (Nat.le_refl _),h.hd,List.take_add_one,hx,List.filter_append]
  simp [hk,hil]
 ·rw [List.drop_set_of_lt (by have:=h.lt;omega),<- List.drop_drop,h.tl,List.drop_drop]
theorem Gone.no {keep:Gh->Bool} {gs L:List Gh} {i j:Nat} (h:Gone keep gs L i j) {x:Gh} (hx:gs[j]?=some x) (hk:keep x=false):Gone keep gs L i (j+1):=by
 have hj:j < gs.length:=(List.getElem?_eq_some_iff.mp hx).1
 refine⟨h.len, ?_, ?_,by have:=h.lt;omega,hj⟩
 ·rw [h.hd,List.take_add_one,hx,List.filter_append]
  simp [hk]
 ·rw [<- List.drop_drop,h.tl,List.drop_drop]
theorem Gone.at {keep:Gh->Bool} {gs L:List Gh} {i j:Nat} (h:Gone keep gs L i j) {x:Gh} (hx:gs[j]?=some x):L[j]?=some x:=by
 have:=congrArg (·[0]?) h.tl
 simpa [hx] using this
theorem Gone.start {keep:Gh->Bool} {gs:List Gh} {i:Nat} {x:Gh} (hx:gs[i]?=some x) (hk:keep x=false) (ha:∀ y ∈ gs.take i,keep y=true):Gone keep gs gs i (i+1):=by
 have hj:i < gs.length:=(List.getElem?_eq_some_iff.mp hx).1
 refine⟨rfl, ?_,rfl,by omega,hj⟩
 rw [List.take_add_one,hx,List.filter_append,List.filter_eq_self.mpr ha]
 simp [hk]
abbrev keepG (now:Int) (g:Gh):Bool:=! over now g
set_option maxHeartbeats 12800000 in
theorem delG_some (base:Nat) (w:World) (g cap:Nat) (gs:List Gh) (B p:Nat) (now:Int) (k0:Nat) (x0:Gh) (hown:w.ownsRow base 111 5 (.slice (some ⟨g,0,none⟩) gs.length cap) gs.length (gs.flatMap c5)) (hl:gs.length<=1000) (hB:w.cell? ⟨B,0,none⟩=some (.pointer (some ⟨p,0,none⟩))) (hp:w.cell? ⟨p,3,none⟩=some (.int .i64 now)) (hgB:¬ B=g) (hgp:¬ p=g) (hx0:gs[k0]?=some x0) (ho0:over now x0=true) (ha0:∀ y ∈ gs.take k0,over now y=false) :
  Calls Tryz.prog 99 #[.slice (some ⟨g,0,none⟩) gs.length cap,psFn B] w fun e w'=>∃ c,e=.returned (.slice (some ⟨g,0,none⟩) (gs.filter (keepG now)).length c)/\w'.ownsRow base 111 5 (.slice (some ⟨g,0,none⟩) (gs.filter (keepG now)).length c) (gs.filter (keepG now)).length ((gs.filter (keepG now)).flatMap c5)/\Kept (fun k=>k=g) w w':=by
 obtain⟨ie,hi,hz0,hz1,hz2⟩:=info_parts info_ghost
 have hie:=mH (And.intro hi (And.intro hz0 (And.intro hz1 hz2)))
 clear hi hz0 hz1 hz2
 have hcap:gs.length<=cap:=by obtain⟨_,_,e,h⟩:=own_sh hown;simp only [Value.slice.injEq] at e;rw [e.2.2];exact h
 have HI:Hid (∀ W,Below w.heap.size w W->Calls Tryz.prog 124 #[.slice (some ⟨g,0,none⟩) gs.length cap,psFn B] W fun e w'=>e=.returned (.int .i64 (k0:Int))/\Below W.heap.size W w'):=mH (fun W hW=>idxG_any W _ gs B p now k0 ((RowIn.of_owns c5_len (by omega) hown).below hW) (kc hB hW) (kc hp hW)
  (fun hn=>by have:=hn x0 (List.mem_of_getElem? hx0);rw [ho0] at this;cases this)
  (fun j x hx hk ha=>by
   rcases Nat.lt_trichotomy j k0 with c | c | c
   ·have:=ha0 x (by rw [List.mem_iff_getElem?];exact⟨j,by rw [List.getElem?_take_of_lt c];exact hx⟩)
    rw [hk] at this;cases this
   ·rw [c]
   ·have:=ha x0 (by rw [List.mem_iff_getElem?];exact⟨k0,by rw [List.getElem?_take_of_lt c];exact hx0⟩)
    rw [ho0] at this;cases this))
 have HG0:Hid (Gone (keepG now) gs gs k0 (k0+1)):=mH (Gone.start hx0 (by simp [keepG,ho0]) (fun y hy=>by simp [keepG,ha0 y hy]))
 have hk0:k0 < gs.length:=(List.getElem?_eq_some_iff.mp hx0).1
 have HP:=mH (And.intro hB hp)
 have HNE:=mH (And.intro hgB hgp)
 have HO:=mH hown
 have hnk:((k0:Int) == -1)=false:=by simp
 have ew0:IntKind.i64.wrap ((k0:Int)+1)=(k0:Int)+1:=wfit (by omega) (by omega)
 clear hown hB hp hgB hgp hx0 ho0 ha0
 simp only [psFn] at HI ⊢
 go_enter Tryz.func99,Tryz.ntmps99
 go_wp2_with (go_at_call 124;refine(HI.out _ (Below.refl _ _)).mono ?_;rintro r w1 ⟨rfl,hb1⟩;have HB1:=mH hb1;have HO1:=mH (oNk HO.out (kept_of_below hb1) (fun k e h=>by have:=(HO.out.lt k e).2;omega));clear hb1)
 go_loopw [5,6] (fun iv jv wr=>∃ (i j:Nat) (L:List Gh),iv=.int .i64 (i:Int)/\jv=.int .i64 (j:Int)/\i < j/\j<=gs.length/\Hid (Gone (keepG now) gs L i j)/\Hid (wr.ownsRow base 111 5 (.slice (some ⟨g,0,none⟩) gs.length cap) gs.length (L.flatMap c5))/\Hid (Kept (fun k=>k=g) w wr)) (fun _ jv _=>gs.length - (intOf jv).toNat)
 case atStart=>exact⟨k0,k0+1,gs,rfl,by go_num,by omega,hk0,HG0,HO1,mH (kept_new HB1.out)⟩
 case round=>
  clear HO1 HB1 HG0
  obtain⟨i,j,L,rfl,rfl,hij,hj,HGn,HOw,HK⟩:=hrel
  by_cases hlt:j < gs.length
  ·obtain⟨x,hx⟩:∃ x,gs[j]?=some x:=⟨_,List.getElem?_eq_getElem hlt⟩
   obtain⟨⟨q0,q1,q2,q3,q4⟩,_⟩:=ghost_cells HOw.out (HGn.out.at hx)
   have hji:(j:Int) < gs.length:=by omega
   have HX:=mH hx
   obtain⟨bb,hbb⟩:∃ bb,bb=over now x:=⟨_,rfl⟩
   have HC:Hid (∀ W,Below wr.heap.size wr W->Calls Tryz.prog 100 #[vGh x,.pointer (some ⟨B,0,none⟩)] W fun r w'=>r=.returned (.bool bb)/\Below W.heap.size W w'):=mH (fun W hW=>ps1_any W x B p now bb (kc (HK.out.cell HP.out.1 HNE.out.1) hW) (kc (HK.out.cell HP.out.2 HNE.out.2) hW) hbb)
   have HOV:=mH hbb
   have ewj:IntKind.i64.wrap ((j:Int)+1)=(j:Int)+1:=wfit (by omega) (by omega)
   have ewi:IntKind.i64.wrap ((i:Int)+1)=(i:Int)+1:=wfit (by omega) (by omega)
   obtain⟨pa,⟨k,q,T⟩,un⟩:=x
   simp only at q0 q1 q2 q3 q4
   simp only [vGh] at HC
   clear hx hbb
   cases bb with
   |true=>
    go_wp2_with (go_at_call 100;refine(HC.out _ (ba (Below.refl _ _) _)).mono ?_;rintro r w2 ⟨rfl,hb⟩;have HB2:=mH (bt (ba (Below.refl _ wr) _) hb);clear hb)
    go_roundw
    case rel=>exact⟨i,j+1,L,rfl,by go_num,by omega,hlt,mH (HGn.out.no HX.out (by simp [keepG,<- HOV.out])),mH (oNk HOw.out (kept_new (F:=fun _=>False) HB2.out) (fun _ _ h=>h)),mH (HK.out.trans (kept_new (F:=fun _=>False) HB2.out) (fun _ h=>h.elim))⟩
    case measure=>simp [intOf];omega
   |false=>
    obtain⟨y,hy⟩:∃ y,L[i]?=some y:=⟨_,List.getElem?_eq_getElem (by rw [HGn.out.len];omega)⟩
    have HY:=mH hy
    have hii:(i:Int) < gs.length:=by omega
    clear hy
    go_wp2_with (go_at_call 100;refine(HC.out _ (ba (Below.refl _ _) _)).mono ?_;rintro r w2 ⟨rfl,hb⟩;obtain⟨hbx,hbb2⟩:=new_last hb;have b0:=cOb (i:=0) hbx rfl;have b1:=cOb (i:=1) hbx rfl;have b2:=cOb (i:=2) hbx rfl;have b3:=cOb (i:=3) hbx rfl;have b4:=cOb (i:=4) hbx rfl;have HB2:=mH hbb2;have HO2:=mH (oNk HOw.out (kept_new (F:=fun _=>False) hbb2) (fun _ _ h=>h));clear q0 q1 q2 q3 q4;obtain⟨⟨q0,q1,q2,q3,q4⟩,f0,f1,f2,f3,f4⟩:=ghost_cells HO2.out HY.out;clear hb hbx hbb2)
    go_roundw
    case rel=>
     have hs:=own_set5 HO2.out HY.out ⟨pa,(k,q,T),un⟩
     have hk5:=set5_kept (F:=fun k=>k=g) (Kept.refl _ w2) (g:=g) (.inl rfl) (i * 5) (.int .i64 pa) (.int .i64 k) (.int .i64 q) (.int .i64 T) (.int .i64 un)
     exact⟨i+1,j+1,L.set i ⟨pa,(k,q,T),un⟩,by go_num,by go_num,by omega,hlt,mH (HGn.out.yes HX.out (by simp [keepG,<- HOV.out])),mH hs,mH ((HK.out.trans (kept_new (F:=fun k=>k=g) HB2.out) (fun _ h=>.inl h)).trans hk5 (fun _ h=>.inl h))⟩
    case measure=>simp [intOf];omega
  ·obtain rfl:j=gs.length:=by omega
   have hsl1:∀ W,(Instr.slice 28 (.slice (some ⟨g,0,none⟩) gs.length cap) (some (.int .i64 (i:Int))) none none).run Tryz.prog W=.ok (.slice (some ⟨g,i * 5,none⟩) (gs.length - i) (cap - i)) W:=fun W=>by
    rw [run_slice_l W 28 _ _ _ elemG.1 .i64 _ (by omega) (by omega),elemG.2,sizeG]
    simp only [Result.andThen,Go.sliced]
    rw [if_neg (by simp;omega)]
    simp [add_none]
   have hsl2:∀ W,(Instr.slice 28 (.slice (some ⟨g,0,none⟩) gs.length cap) none (some (.int .i64 (i:Int))) none).run Tryz.prog W=.ok (.slice (some ⟨g,0,none⟩) i cap) W:=fun W=>by
    rw [run_slice_h W 28 _ _ _ elemG.1 .i64 _ (by omega) (by omega),elemG.2,sizeG]
    simp only [Result.andThen,Go.sliced]
    simp [add_none]
   have hfl:=HGn.out.hd
   rw [List.take_length] at hfl
   have HFL:=mH hfl
   clear hfl
   obtain⟨w3,hr3,ho3,hg3⟩:=run_clear_own (P:=Tryz.prog) wr base 28 0 111 ie Tryz.underlying28 hie.out.1 (.agg #[.int .i64 0,.int .i64 0,.int .i64 0,.int .i64 0,.int .i64 0]) 5 (by omega) hie.out.2.1 rfl (by intro u hu;simp [Value.cells] at hu;rcases hu with rfl | rfl | rfl | rfl | rfl <;> rfl) g gs.length cap i (cap - i) (L.flatMap c5) HOw.out hij
   have HO3:=mH ho3
   have HK3:=mH (HK.out.trans (Kept.grown hg3 (F:=fun k=>k=g) (fun k e=>by cases e;rfl)) (fun _ h=>.inl h))
   clear ho3 hg3
   go_wp2
   go_ret
   have hlen:(gs.filter (keepG now)).length=i:=by rw [<- HFL.out,List.length_take,HGn.out.len];omega
   rw [hlen]
   refine⟨cap,rfl, ?_,HK3.out⟩
   have:=HO3.out
   rw [fl_take c5 5 c5_len,HFL.out] at this
   exact this
end Go.Proofs.YtpdehdomilnmeaaGreatDoor
