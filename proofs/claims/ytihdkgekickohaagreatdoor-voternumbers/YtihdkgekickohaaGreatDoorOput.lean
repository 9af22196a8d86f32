import Derived.Test.YtihdkgekickohaaGreatDoorOcX
import Derived.Test.YtihdkgekickohaaGreatDoorBaseH
namespace Go.Proofs.YtihdkgekickohaaGreatDoor
open Go.ChangeShapes Go.WideShapes Go.ChangeAt Go.RowKit
set_option maxRecDepth 100000
attribute [local go_sem] World.cell?_alloc_some frozen_alloc_some
theorem amt_i64 {x:Int} (h:amt x):0 ≤ x ∧ x ≤ 9223372036854775807:=⟨h.1,by have:=h.2;omega⟩
def WrB (B:Nat) (w:World) (p:Nat) (bs:List Int):Prop:=∃ F,Wr F w p bs false ∧ (∀ k,F k → B ≤ k) ∧ B ≤ w.heap.size
theorem WrB.below {B:Nat} {w w':World} {p:Nat} {bs:List Int} (h:WrB B w p bs) (hb:Below w.heap.size w w'):WrB B w' p bs:=by
 obtain ⟨F,h1,h2,h3⟩:=h
 exact ⟨F,h1.below hb,h2,Nat.le_trans h3 hb.size⟩
theorem newB (B:Nat) (w:World) (hB:B ≤ w.heap.size):Calls Tryz.prog 59 #[] w fun e w'=>e = .returned (.pointer (some ⟨w.heap.size,0,none⟩)) ∧ WrB B w' w.heap.size [] ∧ Below w.heap.size w w':=by
 refine (new_any w).mono ?_
 rintro e w' ⟨rfl,h,hb⟩
 exact ⟨rfl,⟨_,h,fun k hk=>by omega,Nat.le_trans hB hb.size⟩,hb⟩
theorem numB (B:Nat) (w:World) (p:Nat) (bs:List Int) (n:Nat) (h:WrB B w p bs) (hn:(n:Int) ≤ 9223372036854775807) (hl:(bs.length:Int) ≤ 140737488350000) :
  Calls Tryz.prog 61 #[.pointer (some ⟨p,0,none⟩),.int .i64 n] w fun e w'=>e = .returned (.tuple #[]) ∧ WrB B w' p (bs ++ enc n) ∧ Below B w w':=by
 obtain ⟨F,h1,h2,h3⟩:=h
 refine (num_any F w p bs false n h1 hn hl).mono ?_
 rintro e w' ⟨rfl,F',q1,q2,q3⟩
 exact ⟨rfl,⟨F',q1,fun k hk=>by rcases q2 k hk with a | a;exact h2 k a;omega,Nat.le_trans h3 q3.size⟩,q3.below h2 h3⟩
theorem encL_take {xs:List Int} {j:Nat} {x:Int} (h:xs[j]? = some x):encL (xs.take (j + 1)) = encL (xs.take j) ++ enc x.toNat:=by
 rw [List.take_add_one,h,encL_append]
 simp [encL_cons,encL_nil]
theorem encL_take_len {xs:List Int} (hx:∀ x ∈ xs,0 ≤ x ∧ x ≤ 9223372036854775807) (j:Nat):(encL (xs.take j)).length ≤ 9 * xs.length:=by
 have:=encL_len (xs.take j) (fun n hn=>(hx n (List.mem_of_mem_take hn)).2)
 rw [List.length_take] at this
 omega
set_option maxHeartbeats 1600000 in
theorem putAll_any (F:Nat → Prop) (w:World) (p b off c:Nat) (bs xs:List Int) (h:Wr F w p bs false) (hr:Row w b off xs) (hnb:¬ F b) (hx:∀ x ∈ xs,0 ≤ x ∧ x ≤ 9223372036854775807) (hn:(xs.length:Int) ≤ 1000000) (hl:(bs.length:Int) ≤ 140737400000000) :
  Calls Tryz.prog 119 #[.pointer (some ⟨p,0,none⟩),.slice (some ⟨b,off,none⟩) xs.length c] w fun e w'=>e = .returned (.tuple #[]) ∧ ∃ F',Wr F' w' p (bs ++ encL xs) false ∧ (∀ k,F' k → F k ∨ w.heap.size ≤ k) ∧ Kept F w w':=by
 have HR:=mkHid hr
 have HX:=mkHid hx
 have HN:=mkHid hnb
 have HW:=mkHid h
 have HL:=mkHid hl
 clear hr hx hnb h hl
 go_enter Tryz.func119,Tryz.ntmps119
 go_wp2
 go_loopw [5,8] (fun _ iv wr=>∃ (j:Nat) (G:Nat → Prop),iv = .int .i64 (j:Int) ∧ j ≤ xs.length ∧ Hid (Wr G wr p (bs ++ encL (xs.take j)) false ∧ (∀ k,G k → F k ∨ w.heap.size ≤ k) ∧ Kept F w wr)) (fun _ iv _=>xs.length - (intOf iv).toNat)
 case atStart=>exact ⟨0,F,rfl,Nat.zero_le _,mkHid ⟨by simpa [encL_nil] using HW.out,fun k hk=>.inl hk,Kept.refl _ _⟩⟩
 case round=>
  obtain ⟨j,G,rfl,hj,HG⟩:=hrel
  by_cases hlt:j < xs.length
  ·obtain ⟨y,hy⟩:∃ x,xs[j]? = some x:=⟨_,List.getElem?_eq_getElem hlt⟩
   have hcell:=HG.out.2.2.cell (HR.out j y hy) HN.out
   have hji:(j:Int) < xs.length:=by omega
   obtain ⟨hy0,hy1⟩:=HX.out y (List.mem_of_getElem? hy)
   obtain ⟨m,rfl⟩:=Int.eq_ofNat_of_zero_le hy0
   have HE:=mkHid (encL_take hy)
   have HQ:=mkHid (num_any G wr p (bs ++ encL (xs.take j)) false m HG.out.1 hy1 (by have:=encL_take_len HX.out j;have:=HL.out;simp only [List.length_append];omega))
   clear hy hy0
   go_wp2_with (go_at_call 61;refine HQ.out.mono ?_;rintro e w1 ⟨rfl,G',q1,q2,q3⟩;have HG1:Hid (Wr G' w1 p (bs ++ encL (xs.take (j + 1))) false ∧ (∀ k,G' k → F k ∨ w.heap.size ≤ k) ∧ Kept F w w1):=mkHid ⟨by rw [HE.out,← List.append_assoc];exact q1,fun k hk=>by { rcases q2 k hk with a | a;exact HG.out.2.1 k a;have:=HG.out.2.2.size;exact .inr (by omega) },HG.out.2.2.trans q3 HG.out.2.1⟩;clear q1 q2 q3)
   go_roundw
   case rel=>exact ⟨j + 1,G',by go_num,by omega,HG1⟩
   case measure=>simp [intOf];omega
  ·obtain rfl:j = xs.length:=by omega
   have HG1:=HG.out
   rw [List.take_of_length_le (Nat.le_refl _)] at HG1
   have HG2:=mkHid HG1
   clear HG1
   go_wp2
   first | go_end0 | refine bodyPost_ret (results_none rfl _ _ _) rfl ?_
   exact ⟨rfl,G,HG2.out⟩
theorem putArr (B:Nat) (w:World) (p c:Nat) (bs xs:List Int) (ty:TypeId) (cs:Array Value) (h:WrB B w p bs) (hcs:cs = (xs.map (Value.int .i64)).toArray) (hx:∀ x ∈ xs,0 ≤ x ∧ x ≤ 9223372036854775807) (hn:(xs.length:Int) ≤ 1000000) (hl:(bs.length:Int) ≤ 140737400000000) :
  Calls Tryz.prog 119 #[.pointer (some ⟨p,0,none⟩),.slice (some ⟨w.heap.size,0,none⟩) xs.length c] (w.alloc (.cells cs ty)) fun e w'=>e = .returned (.tuple #[]) ∧ WrB B w' p (bs ++ encL xs) ∧ Below B w w':=by
 obtain ⟨F,h1,h2,h3⟩:=h
 have hb:Below w.heap.size w (w.alloc (.cells cs ty)):=(Below.refl _ w).alloc (Nat.le_refl _) _
 refine (putAll_any F _ p w.heap.size 0 c bs xs (h1.below hb) (row_new w xs ty cs hcs) (fun hF=>by have:=h1.1 _ hF;omega) hx hn hl).mono ?_
 rintro e w' ⟨rfl,F',q1,q2,q3⟩
 have hs:B ≤ (w.alloc (.cells cs ty)).heap.size:=Nat.le_trans h3 hb.size
 exact ⟨rfl,⟨F',q1,fun k hk=>by rcases q2 k hk with a | a;exact h2 k a;omega,Nat.le_trans hs q3.size⟩,(hb.mono h3).trans (q3.below h2 hs)⟩
theorem bytesB (B:Nat) (w w2:World) (p:Nat) (bs xs:List Int) (v:Value) (h:WrB B w p bs) (hX:Byts xs) (hl:(bs.length:Int) + xs.length ≤ 140737488340000) (hb:Below w.heap.size w w2) (ho:w2.ownsRow w.heap.size 5 1 v xs.length (xs.map (Value.int .u8))) :
  Calls Tryz.prog 62 #[.pointer (some ⟨p,0,none⟩),v] w2 fun e w'=>e = .returned (.tuple #[]) ∧ WrB B w' p (bs ++ (enc xs.length ++ xs)) ∧ Below B w w':=by
 obtain ⟨F,h1,h2,h3⟩:=h
 have hr:=Rd.of_owns hX ho
 have hs:=Nat.le_trans h3 hb.size
 refine (bytes_any F w2 p bs xs false v (h1.below hb) hX hl (fun w' hk=>hr.kept hk (fun k hk' hF=>by have:=h1.1 k hF;have:=(ho.lt k hk').1;omega))).mono ?_
 rintro e w' ⟨rfl,F',q1,q2,q3⟩
 exact ⟨rfl,⟨F',q1,fun k hk=>by rcases q2 k hk with a | a;exact h2 k a;omega,Nat.le_trans hs q3.size⟩,(hb.mono h3).trans (q3.below h2 hs)⟩
abbrev oE (e:En) (tv:Value):Obj:=.cells #[.int .i64 e.cl,.int .i64 e.nu,.int .i64 e.ki,.int .i64 e.id,.int .i64 e.sk,.int .i64 e.sq,.int .i64 e.st,.int .i64 e.po,tv,.int .i64 e.tm] 69
theorem bb {B:Nat} {w w1 w2:World} (h:Below B w w1) (hb:Below B w1 w2):Below B w w2:=h.trans hb
theorem nums_take {e:En} {j:Nat} {x:Tk} (hx:e.ts[j]? = some x):encL (hnum e) ++ enc e.ts.length ++ encL ((e.ts.take (j + 1)).flatMap tnum) = encL (hnum e) ++ enc e.ts.length ++ encL ((e.ts.take j).flatMap tnum) ++ encL (tnum x):=by
 rw [List.take_add_one,hx,List.flatMap_append,encL_append]
 simp
theorem nums_whole (e:En):encL (hnum e) ++ enc e.ts.length ++ encL (e.ts.flatMap tnum) = bytesE e:=by
 simp [bytesE,nums,encL_append,encL_cons]
theorem inF.part {e:En} (h:inF e) (j:Nat):((encL (hnum e) ++ enc e.ts.length ++ encL ((e.ts.take j).flatMap tnum)).length:Int) ≤ 1000:=by
 obtain ⟨_,⟨h8,hh,ht⟩,_⟩:=h
 have l1:=encL_len (hnum e) (fun n hn=>by have:=(hh n hn).2;omega)
 have l2:=enc_len9 e.ts.length (by omega)
 have l3:=encL_len ((e.ts.take j).flatMap tnum) (fun n hn=>by
  obtain ⟨t,hm,hn⟩:=List.mem_flatMap.mp hn
  have:=okT_all.mp (ht t (List.mem_of_mem_take hm)) n hn
  have:=this.2
  omega)
 rw [tnum_len,List.length_take] at l3
 have l4:(hnum e).length = 9:=rfl
 simp only [List.length_append]
 omega
set_option maxHeartbeats 3200000 in
theorem put_yes (w:World) (t:Ep) (h:EnW w t) (hf:inF t.1):Calls Tryz.prog 77 #[vP t] w fun r w'=>∃ v,r = .returned (.tuple #[v,.nilIface]) ∧ w'.ownsRow w.heap.size 5 1 v (bytesE t.1).length ((bytesE t.1).map (Value.int .u8)) ∧ Below w.heap.size w w':=by
 obtain ⟨e,a,cap⟩:=t
 have HC:=mkHid (fun W (hW:Below w.heap.size w W)=>check_yes W (e,a,cap) (h.below hW) hf)
 have HS:=mkHid h
 have HF:=mkHid hf
 have HXX:Hid (∀ x ∈ hnum e,0 ≤ x ∧ x ≤ 9223372036854775807):=mkHid (fun x hx=>amt_i64 (hf.2.1.2.1 x hx))
 have hn8:(e.ts.length:Int) ≤ 8:=by have:=hf.2.1.1;simp only at this;omega
 clear h hf
 simp only [vP,vN,tv] at HC ⊢
 go_enter Tryz.func77,Tryz.ntmps77
 go_wp2_with (first
  |(go_at_call 117;refine (HC.out _ (ba (Below.refl _ w) _)).mono ?_;rintro r w1 ⟨rfl,b1⟩;obtain ⟨q0,q1,q2,q3,q4,q5,q6,q7,q8,q9⟩:=ent_cells ((b1.block w.heap.size (by simp)).trans (entO w e (.slice a e.ts.length cap)));have HB1:Hid (Below (w.alloc (oE e (.slice a e.ts.length cap))).heap.size (w.alloc (oE e (.slice a e.ts.length cap))) w1):=mkHid b1;clear b1)
  |(go_at_call 59;refine (newB (w.alloc (oE e (.slice a e.ts.length cap))).heap.size w1 HB1.out.size).mono ?_;rintro r w2 ⟨rfl,hw2,b2⟩;have HW2:=mkHid hw2;have HB2:=mkHid (bt HB1.out b2);clear hw2 b2 q0 q1 q2 q3 q4 q5 q6 q7 q8 q9;obtain ⟨q0,q1,q2,q3,q4,q5,q6,q7,q8,q9⟩:=ent_cells ((HB2.out.block w.heap.size (by simp)).trans (entO w e (.slice a e.ts.length cap))))
  |(go_at_call 118;refine (headOf_any _ e a e.ts.length cap).mono ?_;rintro r w3 ⟨rfl,b3⟩;simp only [v9,a9];have HW3:=mkHid (HW2.out.below b3);have HB3:=mkHid (bt HB2.out b3);clear b3 q0 q1 q2 q3 q4 q5 q6 q7 q8 q9)
  |(go_at_call 119;refine (putArr _ w3 _ 9 [] (hnum e) 200 (a9 e) HW3.out rfl HXX.out (by simp [hnum]) (by simp)).mono ?_;rintro r w4 ⟨rfl,hw4,b4⟩;have HW4:=mkHid hw4;have HB4:=mkHid (HB3.out.trans b4);clear hw4 b4;obtain ⟨q0,q1,q2,q3,q4,q5,q6,q7,q8,q9⟩:=ent_cells ((HB4.out.block w.heap.size (by simp)).trans (entO w e (.slice a e.ts.length cap))))
  |(go_at_call 61;refine (numB _ w4 _ _ e.ts.length HW4.out (by omega) (by have:=HF.out.part 0;simp only [List.length_append,List.nil_append] at this ⊢;omega)).mono ?_;rintro r w5 ⟨rfl,hw5,b5⟩;have HW5:=mkHid hw5;have HB5:=mkHid (HB4.out.trans b5);clear hw5 b5 q0 q1 q2 q3 q4 q5 q6 q7 q8 q9;obtain ⟨q0,q1,q2,q3,q4,q5,q6,q7,q8,q9⟩:=ent_cells ((HB5.out.block w.heap.size (by simp)).trans (entO w e (.slice a e.ts.length cap)))))
 clear q0 q1 q2 q3 q4 q5 q6 q7 q8 q9
 go_loopw [31] (fun iv wr=>∃ j:Nat,iv = .int .i64 (j:Int) ∧ j ≤ e.ts.length ∧ Hid (WrB (w.alloc (oE e (.slice a e.ts.length cap))).heap.size wr w1.heap.size (encL (hnum e) ++ enc e.ts.length ++ encL ((e.ts.take j).flatMap tnum)) ∧ Below (w.alloc (oE e (.slice a e.ts.length cap))).heap.size (w.alloc (oE e (.slice a e.ts.length cap))) wr)) (fun iv _=>e.ts.length - (intOf iv).toNat)
 case atStart=>exact ⟨0,rfl,Nat.zero_le _,mkHid ⟨by simpa [encL_nil] using HW5.out,HB5.out⟩⟩
 case round=>
  obtain ⟨j,rfl,hj,HB⟩:=hrel
  have HBW:Hid (Below w.heap.size w wr):=mkHid (bt (ba (Below.refl _ w) _) HB.out.2)
  by_cases hlt:j < e.ts.length
  ·obtain ⟨b,off,c,p,d,s,rfl,hxj,c0,c1,c2,c3⟩:=Tks.at HS.out HBW.out j hlt
   have hji:(j:Int) < e.ts.length:=by omega
   have HT:Hid (∀ x ∈ tnum (c,p,d,s),0 ≤ x ∧ x ≤ 9223372036854775807):=mkHid (fun x hx=>amt_i64 (okT_all.mp (HF.out.2.1.2.2 _ (List.mem_of_getElem? hxj)) x hx))
   have HNT:=mkHid (nums_take hxj)
   clear hxj
   go_wp2_with (first
    |(go_at_call 120;refine (partsOf_any _ (c,p,d,s)).mono ?_;rintro r w6 ⟨rfl,b6⟩;have HB6:=mkHid (bt (ba (Below.refl _ wr) _) b6);clear b6)
    |(go_at_call 119;refine (putArr _ w6 _ 4 _ (tnum (c,p,d,s)) 203 #[.int .i64 c,.int .i64 p,.int .i64 d,.int .i64 s] (HB.out.1.below HB6.out) rfl HT.out (by simp [tnum]) (by have:=HF.out.part j;omega)).mono ?_;rintro r w7 ⟨rfl,hw7,b7⟩;rw [← HNT.out] at hw7;have HW7:=mkHid (And.intro hw7 ((bt HB.out.2 HB6.out).trans b7));clear hw7 b7))
   go_roundw
   case rel=>exact ⟨j + 1,by go_num,by omega,HW7⟩
   case measure=>simp [intOf];omega
  ·obtain rfl:j = e.ts.length:=by omega
   have hq:=HB.out.1
   rw [List.take_of_length_le (Nat.le_refl _),nums_whole] at hq
   obtain ⟨F,hF,_⟩:=hq
   have HD:=mkHid (done_ok F wr w1.heap.size (bytesE e) hF (by have:=HF.out.blen;omega))
   clear hF
   go_wp2_with (go_at_call 63;refine HD.out.mono ?_;rintro r w8 ⟨v8,rfl,ho8,b8⟩;obtain ⟨a8,c8,rfl⟩:=own_shape ho8;have HO8:=mkHid (And.intro ho8 (bt HBW.out b8));clear ho8 b8)
   go_ret2
   exact ⟨_,rfl,own_up HO8.out.1 HBW.out.size,HO8.out.2⟩
end Go.Proofs.YtihdkgekickohaaGreatDoor
