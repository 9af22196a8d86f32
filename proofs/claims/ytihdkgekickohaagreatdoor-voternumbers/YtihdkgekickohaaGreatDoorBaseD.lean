import Derived.Test.YtihdkgekickohaaGreatDoorRd
import Derived.Lib.SliceRun
import Derived.Laws.BitsAllLaws
import Derived.Lib.SlBytesConst
import Derived.Deep.QuietTactic
import Derived.BigQuiet
import Derived.Lib.AppendZerosOnto
import Derived.Deep.RegionWith
import Derived.Test.YtihdkgekickohaaGreatDoorLaid
namespace Go.Proofs.YtihdkgekickohaaGreatDoor
open Go.ChangeShapes Go.WideShapes Go.ChangeAt Go.RowKit
set_option maxRecDepth 100000
theorem new_any (w:World):Calls Tryz.prog 59 #[] w fun e w'=>e = .returned (.pointer (some ⟨w.heap.size,0,none⟩)) ∧ Wr (fun k=>k = w.heap.size) w' w.heap.size [] false ∧ Below w.heap.size w w':=by
 go_enter Tryz.func59,Tryz.ntmps59
 go_wp2
 go_ret
 refine ⟨rfl,⟨by simp,rfl,Byts.nil,.slice none 0 0,?_,by simp [Value.ownBlock],World.ownsRow_nil _ _ _ _⟩,(Below.refl _ _).alloc (Nat.le_refl _) _⟩
 exact heap_alloc_new w _
set_option maxHeartbeats 1600000 in
theorem num_any (F:Nat → Prop) (w:World) (p:Nat) (bs:List Int) (sp:Bool) (n:Nat) (h:Wr F w p bs sp) (hn:(n:Int) ≤ 9223372036854775807) (hl:(bs.length:Int) ≤ 140737488350000) :
  Calls Tryz.prog 61 #[.pointer (some ⟨p,0,none⟩),.int .i64 n] w fun e w'=>e = .returned (.tuple #[]) ∧ ∃ F',Wr F' w' p (bs ++ enc n) sp ∧ (∀ k,F' k → F k ∨ w.heap.size ≤ k) ∧ Kept F w w':=by
 obtain ⟨i0,hi,hz0,hz1,hz2⟩:=info_parts Tryz.info5
 have hn0:¬ (n:Int) < 0:=by omega
 go_enter Tryz.func61,Tryz.ntmps61
 go_wp2
 go_loopw [1] (fun nv wr=>∃ (m:Nat) (ds:List Int) (G:Nat → Prop),nv = .int .i64 m ∧ (m:Int) ≤ 9223372036854775807 ∧ Hid (enc n = ds ++ enc m) ∧ Wr G wr p (bs ++ ds) sp ∧ (∀ k,G k → F k ∨ w.heap.size ≤ k) ∧ Kept F w wr) (fun nv _=>(intOf nv).toNat)
 case atStart=>exact ⟨n,[],F,rfl,hn,mkHid rfl,by simpa using h,fun k hk=>.inl hk,Kept.refl _ _⟩
 case round=>
  obtain ⟨m,ds,G,rfl,hm,HE,hw,hG,hk⟩:=hrel
  have hE:=enc_len9 n (by omega)
  have hdl:(ds ++ enc m).length ≤ 9:=by rw [← HE.out];exact hE
  have hpos:=enc_len_pos m
  rw [List.length_append] at hdl
  obtain ⟨hGs,hGp,hB,v,hv,hb,ho⟩:=hw
  have c0:wr.cell? ⟨p,0,none⟩ = some v:=cell_of_block hv rfl
  have f0:wr.frozen? ⟨p,0,none⟩ = false:=frozen_of_block hv
  have HG:Hid ((∀ k,G k → k < wr.heap.size) ∧ G p ∧ (∀ k,v.ownBlock = some k → G k ∧ k ≠ p) ∧ (∀ k,G k → F k ∨ w.heap.size ≤ k)):=⟨hGs,hGp,hb,hG⟩
  have HV:Hid (wr.heap[p]? = some (.cells #[v,.bool sp] 187 (0,0))):=hv
  have HL:Hid ((bs ++ ds).length ≤ 140737488350009):=mkHid (by rw [List.length_append];omega)
  clear hGs hGp hb hG hv hdl hpos hE
  by_cases h128:(128:Int) ≤ m
  ·go_wp2_with (at_builtin;refine wpList_append_src _ rfl (.tmp 17) (.tmp 22) 74 74 rfl 0 5 i0 Tryz.underlying74 hi hz0 hz1 hz2 _ _ _ rfl (ho.alloc _) _ 1 [.int .u8 ((m:Int) % 128 + 128)] rfl (src_one wr _) ?c3 ?c4 (Nat.zero_le _) ?_)
   case c3=>have:=HL.out;simp only [List.length_append] at this ⊢;unfold maxLen;omega
   case c4=>have:=HL.out;simp only [List.length_append] at this ⊢;omega
   intro v' w1 hown hgrow hat
   obtain ⟨a',c',rfl⟩:=own_shape hown
   obtain ⟨g1,g2,g3,g4⟩:=HG.out
   obtain ⟨⟨d0,d1⟩,F',q1,q2,q3⟩:=Wr.put g1 g2 hB (xs:=[(m:Int) % 128 + 128]) (Byts.one (by omega) (by omega)) HV.out g3 (Kept.alloc _ _ _) (by simpa using hown) hgrow (by simpa using hat)
   have HQ:Hid (Wr F' (w1.setCell ⟨p,0,none⟩ (.slice a' (bs.length + ds.length + 1) c')) p (bs ++ ds ++ [(m:Int) % 128 + 128]) sp ∧ (∀ k,F' k → F k ∨ w.heap.size ≤ k) ∧ Kept F w (w1.setCell ⟨p,0,none⟩ (.slice a' (bs.length + ds.length + 1) c'))):=by
    refine ⟨q1,fun k hk'=>?_,hk.trans q3 g4⟩
    rcases q2 k hk' with h1 | h1
    ·exact g4 k h1
    ·have:=hk.size
     exact .inr (by omega)
   clear g1 g2 g3 g4 q1 q2 q3 hown hgrow hat hk ho
   go_wp2
   go_roundw
   case rel=>
    refine ⟨m / 128,ds ++ [(m:Int) % 128 + 128],F',?_,by omega,?_,by simpa using HQ.out.1,HQ.out.2⟩
    ·go_num
    ·show enc n = _
     rw [HE.out,enc_ge (by omega)]
     simp
   case measure=>simp [intOf];omega
  ·have HC:Hid (enc m = [(m:Int)]):=mkHid (enc_lt (by omega))
   have hlt:(m:Int) < 128:=by omega
   go_wp2_with (at_builtin;refine wpList_append_src _ rfl (.tmp 30) (.tmp 33) 74 74 rfl 0 5 i0 Tryz.underlying74 hi hz0 hz1 hz2 _ _ _ rfl (ho.alloc _) _ 1 [.int .u8 (m:Int)] rfl (src_one wr _) ?c3 ?c4 (Nat.zero_le _) ?_)
   case c3=>have:=HL.out;simp only [List.length_append] at this ⊢;unfold maxLen;omega
   case c4=>have:=HL.out;simp only [List.length_append] at this ⊢;omega
   intro v' w1 hown hgrow hat
   obtain ⟨a',c',rfl⟩:=own_shape hown
   obtain ⟨g1,g2,g3,g4⟩:=HG.out
   obtain ⟨⟨d0,d1⟩,F',q1,q2,q3⟩:=Wr.put g1 g2 hB (xs:=[(m:Int)]) (Byts.one (by omega) (by omega)) HV.out g3 (Kept.alloc _ _ _) (by simpa using hown) hgrow (by simpa using hat)
   have HQ:Hid (∃ F',Wr F' (w1.setCell ⟨p,0,none⟩ (.slice a' (bs.length + ds.length + 1) c')) p (bs ++ enc n) sp ∧ (∀ k,F' k → F k ∨ w.heap.size ≤ k) ∧ Kept F w (w1.setCell ⟨p,0,none⟩ (.slice a' (bs.length + ds.length + 1) c'))):=by
    refine ⟨F',by rw [HE.out,HC.out,← List.append_assoc];exact q1,fun k hk'=>?_,hk.trans q3 g4⟩
    rcases q2 k hk' with h1 | h1
    ·exact g4 k h1
    ·have:=hk.size
     exact .inr (by omega)
   clear g1 g2 g3 g4 q1 q2 q3 hown hgrow hat hk ho
   go_wp2
   first | go_end0 | refine bodyPost_ret (results_none rfl _ _ _) rfl ?_
   exact ⟨rfl,HQ.out⟩
set_option maxHeartbeats 1600000 in
theorem bytes_any (F:Nat → Prop) (w:World) (p:Nat) (bs xs:List Int) (sp:Bool) (v0:Value) (h:Wr F w p bs sp) (hX:Byts xs) (hl:(bs.length:Int) + xs.length ≤ 140737488340000) (hr:∀ w',Kept F w w' → Rd w' v0 xs) :
  Calls Tryz.prog 62 #[.pointer (some ⟨p,0,none⟩),v0] w fun e w'=>e = .returned (.tuple #[]) ∧ ∃ F',Wr F' w' p (bs ++ (enc xs.length ++ xs)) sp ∧ (∀ k,F' k → F k ∨ w.heap.size ≤ k) ∧ Kept F w w':=by
 obtain ⟨i0,hi,hz0,hz1,hz2⟩:=info_parts Tryz.info5
 obtain ⟨a0,cap0,rfl⟩:∃ a c,v0 = .slice a xs.length c:=(hr w (Kept.refl _ _)).2.imp fun a h=>h.imp fun c h=>h.1
 have hE:=enc_len9 xs.length (by omega)
 have HL:Hid ((bs ++ enc xs.length).length + xs.length ≤ 140737488355328):=mkHid (by rw [List.length_append];omega)
 have HL3:Hid ((bs ++ enc xs.length).length + xs.length ≤ maxLen):=mkHid (by have:=HL.out;unfold maxLen;omega)
 clear hE
 go_enter Tryz.func62,Tryz.ntmps62
 go_wp2_with (first | (go_at_call 61;refine (num_any F _ p bs sp xs.length h (by omega) (by omega)).mono ?_;rintro e w1 ⟨rfl,G,hw,hG,hk⟩;obtain ⟨v,c0,ho,hmid⟩:=hw.mid hG hk;have hr1:=hr _ hk;clear hw hG hk) | (at_builtin;refine wpList_append_src _ rfl (.tmp 12) (.tmp 13) 74 74 rfl 0 5 i0 Tryz.underlying74 hi hz0 hz1 hz2 _ _ _ rfl ho _ xs.length (xs.map (Value.int .u8)) rfl hr1.src HL3.out HL.out (Nat.zero_le _) ?_;intro v' w2 hown hgrow hat;obtain ⟨⟨d0,d1⟩,⟨a',c',hv'⟩,HQ⟩:=hmid.put hX (Kept.refl _ _) (by rw [List.length_append]) (List.append_assoc bs (enc xs.length) xs).symm hown hgrow hat;subst hv';clear hown hgrow hat hmid))
 go_end0
 have hq:=HQ.out
 rw [List.length_append] at hq
 exact ⟨rfl,hq⟩
theorem eql_nil (w:World) (a:Option Addr) (n c n' c':Nat):(binOp .eql 74 (.slice a n c) (.slice none n' c')).run Tryz.prog w = .ok (.bool a.isNone) w:=
 Lib.run_eql_slice_nil w _ _ a n c n' c' Tryz.underlying74
set_option maxHeartbeats 800000 in
theorem clone_any (w:World) (v:Value) (bs:List Int) (h:Rd w v bs) (hl:(bs.length:Int) ≤ 140737488355328) :
  Calls Tryz.prog 69 #[v] w fun e w'=>∃ v',e = .returned v' ∧ w'.ownsRow w.heap.size 5 1 v' bs.length (bs.map (Value.int .u8)) ∧ Below w.heap.size w w':=by
 obtain ⟨i0,hi,hz0,hz1,hz2⟩:=info_parts Tryz.info5
 obtain ⟨hB,a,cap,rfl,hc,h0,hr⟩:=id h
 have q:=eql_nil
 cases a with
 |none=>
  have hl0:bs = []:=by
   by_cases hp:0 < bs.length
   ·obtain ⟨b,off,e,_⟩:=hr hp
    simp at e
   ·exact List.length_eq_zero_iff.mp (by omega)
  subst hl0
  clear hr
  go_enter Tryz.func69,Tryz.ntmps69
  go_wp2
  go_ret
  exact ⟨_,rfl,World.ownsRow_nil _ _ _ _,Below.refl _ _⟩
 |some ad=>
  clear hr
  have hm:w.ownsRow w.heap.size 5 1 (.slice none 0 0) 0 []:=World.ownsRow_nil _ _ _ _
  have hm2:=World.ownsRow_made (base:=w.heap.size) (e:=5) (size:=1) w #[] 0 (Nat.le_refl _) (by unfold maxLen;omega) rfl
  have hs:Src Tryz.prog 1 74 (.slice (some ad) bs.length cap) bs.length (bs.map (Value.int .u8)) (w.alloc (.cells #[] 5)):=(h.alloc _).src
  have HL:Hid (0 + bs.length ≤ 140737488355328 ∧ 0 + bs.length ≤ maxLen):=mkHid ⟨by omega,by unfold maxLen;omega⟩
  clear hm
  go_enter Tryz.func69,Tryz.ntmps69
  go_wp2_with (at_builtin;refine wpList_append_src _ rfl (.tmp 5) (.tmp 6) 74 74 rfl w.heap.size 5 i0 Tryz.underlying74 hi hz0 hz1 hz2 _ _ _ rfl hm2 _ bs.length (bs.map (Value.int .u8)) rfl hs HL.out.2 HL.out.1 (by simp) ?_;intro v' w2 hown hgrow _;have HQ:Hid (w2.ownsRow w.heap.size 5 1 v' bs.length (bs.map (Value.int .u8)) ∧ Below w.heap.size w w2):=mkHid ⟨by simpa using hown,((Below.refl _ _).alloc (Nat.le_refl _) _).grown hgrow (by simp) (fun k hk=>(hm2.lt k hk).1)⟩;clear hown hgrow)
  go_ret
  exact ⟨_,rfl,HQ.out⟩
set_option maxHeartbeats 800000 in
theorem done_ok (F:Nat → Prop) (w:World) (p:Nat) (bs:List Int) (h:Wr F w p bs false) (hl:(bs.length:Int) ≤ 140737488355328) :
  Calls Tryz.prog 63 #[.pointer (some ⟨p,0,none⟩)] w fun e w'=>∃ v',e = .returned (.tuple #[v',.nilIface]) ∧ w'.ownsRow w.heap.size 5 1 v' bs.length (bs.map (Value.int .u8)) ∧ Below w.heap.size w w':=by
 obtain ⟨v,c0,c1,f0,f1,hr⟩:=h.parts
 go_enter Tryz.func63,Tryz.ntmps63
 go_wp2_with (go_at_call 69;refine (clone_any _ v bs hr hl).mono ?_;rintro e w1 ⟨v',rfl,hw,hk⟩)
 go_ret2
 exact ⟨_,rfl,hw,hk⟩
def fs (s:Nat) (c:Int):Nat:=(s ^^^ c.toNat) * 16777619 % 4294967296
theorem take_snoc (bs:List Int) (k:Nat) (h:k < bs.length):bs.take (k + 1) = bs.take k ++ [bs.getD k 0]:=by
 rw [List.take_succ_eq_append_getElem h]
 simp [List.getD,h]
set_option maxHeartbeats 1600000 in
theorem grow_any (n:Nat) (w:World) (h0:(1:Int) ≤ n) (h1:(n:Int) ≤ 140737488355328) :
  Calls Tryz.prog 167 #[.slice none 0 0,.int .i64 n] w fun e w'=>∃ v',e = .returned v' ∧ w'.ownsRow w.heap.size 5 1 v' 0 [] ∧ Below w.heap.size w w':=by
 obtain ⟨i0,hi,hz0,hz1,hz2⟩:=info_parts Tryz.info5
 have hrz:∀ ty,(Builtin.append_ #[74,3] ty #[.slice none 0 0,.int .i64 n]).run Tryz.prog w =
   .ok (.slice (some ⟨w.heap.size,0,none⟩) n (grownCap w n 0 5)) (w.drew.alloc (.cells (#[] ++ Builtin.zeroCells (Value.int .u8 0).cells n ++ Builtin.zeroCells (Value.int .u8 0).cells (grownCap w n 0 5 - n)) 5)):=fun ty=>by
  have h:=Lib.run_append_grow_zeros w 74 3 ty 5 i0 (.int .u8 0) .i64 .i64 Tryz.underlying74 Tryz.underlying3 hi hz0 none 0 0 [] (run_firstCells_none w.drew i0.size 0 0 0) n (by omega) (by omega) (by omega) (by omega) (by rw [hz2];omega) (by rw [hz2];exact growslice_fits (by omega) (by omega))
  simpa using h
 have hGn:n ≤ grownCap w n 0 5:=grownCap_ge w _ _ _
 have hGm:grownCap w n 0 5 ≤ maxLen:=grownCap_le_maxLen w n 0 _ (by unfold maxLen;omega)
 obtain ⟨G,hG⟩:∃ G,G = grownCap w n 0 5:=⟨_,rfl⟩
 rw [← hG] at hrz hGn hGm
 obtain ⟨X,hX⟩:∃ X,X = #[] ++ Builtin.zeroCells (Value.int .u8 0).cells n ++ Builtin.zeroCells (Value.int .u8 0).cells (G - n):=⟨_,rfl⟩
 rw [← hX] at hrz
 have hXs:X.size = G:=by
  have hz:(Value.int IntKind.u8 0).cells.size = 1:=rfl
  rw [hX]
  simp only [Array.size_append,size_zeroCells,hz]
  simp
  omega
 clear hX
 have HQ:Hid ((w.drew.alloc (.cells X 5)).ownsRow w.heap.size 5 1 (.slice (some ⟨w.heap.size,0,none⟩) 0 G) 0 [] ∧
   Below w.heap.size w (w.drew.alloc (.cells X 5))):=by
  refine ⟨⟨rfl,.inr ⟨w.heap.size,G,_,rfl,Nat.le_refl _,heap_alloc_new w.drew _,by omega,hGm,?_,by simp⟩⟩,(Below.refl _ _).drew.alloc (Nat.le_refl _) _⟩
  omega
 have hG63:(G:Int) ≤ 9223372036854775807:=by unfold maxLen at hGm;omega
 clear hG hGm
 go_enter Tryz.func167,Tryz.ntmps167
 go_wp2_with (at_builtin;refine Lib.wpList_append_run _ rfl _ _ _ _ rfl _ _ rfl rfl _ _ (hrz _) ?_)
 all_goals go_ret
 all_goals exact ⟨_,rfl,HQ.out⟩
theorem rd_four (w:World) (a b c d:Int) (h:Byts [a,b,c,d]):Rd (w.alloc (.cells #[.int .u8 a,.int .u8 b,.int .u8 c,.int .u8 d] 5)) (.slice (some ⟨w.heap.size,0,none⟩) 4 4) [a,b,c,d]:=by
 refine ⟨h,some ⟨w.heap.size,0,none⟩,4,rfl,by simp,fun e=>by simp at e,fun _=>⟨w.heap.size,0,rfl,by simp,fun k hk=>?_⟩⟩
 have:k = 0 ∨ k = 1 ∨ k = 2 ∨ k = 3:=by simp at hk;omega
 rcases this with rfl | rfl | rfl | rfl <;> go_simp
set_option maxHeartbeats 1600000 in
theorem concat_any (w:World) (q:Nat) (va vb:Value) (xs ys:List Int) (c0:w.cell? ⟨q,0,none⟩ = some va) (c1:w.cell? ⟨q,1,none⟩ = some vb) (ha:Rd w va xs) (hb:Rd w vb ys) (h0:(1:Int) ≤ xs.length + ys.length) (h1:(xs.length:Int) + ys.length ≤ 140737488355328) :
  Calls Tryz.prog 142 #[.slice (some ⟨q,0,none⟩) 2 2] w fun e w'=>∃ v',e = .returned v' ∧ w'.ownsRow w.heap.size 5 1 v' (xs.length + ys.length) ((xs ++ ys).map (Value.int .u8)) ∧ Below w.heap.size w w':=by
 obtain ⟨i0,hi,hz0,hz1,hz2⟩:=info_parts Tryz.info5
 obtain ⟨aa,ca,eva⟩:∃ a c,va = .slice a xs.length c:=ha.2.imp fun a h=>h.imp fun c h=>h.1
 obtain ⟨ab,cb,evb⟩:∃ a c,vb = .slice a ys.length c:=hb.2.imp fun a h=>h.imp fun c h=>h.1
 subst eva evb
 go_enter Tryz.func142,Tryz.ntmps142
 go_wp2
 go_loop [3,11] (fun sv iv=>(iv = .int .i64 0 ∧ sv = .int .i64 0) ∨ (iv = .int .i64 1 ∧ sv = .int .i64 xs.length) ∨ (iv = .int .i64 2 ∧ sv = .int .i64 (xs.length + ys.length))) (fun _ iv=>2 - (intOf iv).toNat)
 case atStart=>exact .inl ⟨rfl,rfl⟩
 case round=>
  rcases hrel with ⟨rfl,rfl⟩ | ⟨rfl,rfl⟩ | ⟨rfl,rfl⟩
  ·go_wp2
   go_round
   case rel=>exact .inr (.inl ⟨rfl,by simp⟩)
   case measure=>simp [intOf]
  ·go_wp2
   go_round
   case rel=>exact .inr (.inr ⟨rfl,rfl⟩)
   case measure=>simp [intOf]
  ·have hN:((xs.length:Int) + ys.length) = ((xs.length + ys.length:Nat):Int):=by omega
   rw [hN]
   have hn1:(1:Int) ≤ ((xs.length + ys.length:Nat):Int):=by omega
   have hn2:((xs.length + ys.length:Nat):Int) ≤ 140737488355328:=by omega
   clear hN
   go_wp2_with (go_at_call 167;refine (grow_any (xs.length + ys.length) _ hn1 hn2).mono ?_;rintro e w1 ⟨v1,rfl,ho1,hb1⟩)
   go_loopw [6,27] (fun sv iv wr=>∃ zs:List Int,((iv = .int .i64 0 ∧ zs = []) ∨ (iv = .int .i64 1 ∧ zs = xs) ∨ (iv = .int .i64 2 ∧ zs = xs ++ ys)) ∧ wr.ownsRow w.heap.size 5 1 sv zs.length (zs.map (Value.int .u8)) ∧ Below w.heap.size w wr) (fun _ iv _=>2 - (intOf iv).toNat)
   case atStart=>exact ⟨[],.inl ⟨rfl,rfl⟩,ho1,hb1⟩
   case round=>
    clear ho1 hb1
    obtain ⟨zs,hz,ho,hbel⟩:=hrel
    have hbs:=hbel.size
    have ha':=(ha.later hbel).src
    have hb':=(hb.later hbel).src
    have d0:wr.cell? ⟨q,0,none⟩ = some (.slice aa xs.length ca):=(kept_of_below hbel).cell c0 (by have:=World.block_lt_of_cell? w _ c0;simp at this ⊢;omega)
    have d1:wr.cell? ⟨q,1,none⟩ = some (.slice ab ys.length cb):=(kept_of_below hbel).cell c1 (by have:=World.block_lt_of_cell? w _ c1;simp at this ⊢;omega)
    clear c0 c1
    rcases hz with ⟨rfl,rfl⟩ | ⟨rfl,rfl⟩ | ⟨rfl,rfl⟩
    ·have HL:Hid (([]:List Int).length + xs.length ≤ 140737488355328 ∧ ([]:List Int).length + xs.length ≤ maxLen):=mkHid ⟨by simp;omega,by unfold maxLen;simp;omega⟩
     go_wp2_with (at_builtin;refine wpList_append_src _ rfl (.tmp 31) (.tmp 32) 74 74 rfl w.heap.size 5 i0 Tryz.underlying74 hi hz0 hz1 hz2 _ _ _ rfl ho _ _ _ rfl ha' HL.out.2 HL.out.1 hbs ?_;intro v' w2 hown hgrow _;have HQ:Hid (w2.ownsRow w.heap.size 5 1 v' xs.length (xs.map (Value.int .u8)) ∧ Below w.heap.size w w2):=mkHid ⟨by simpa using hown,hbel.grown hgrow hbs (fun k hk=>(ho.lt k hk).1)⟩;clear hown hgrow)
     go_roundw
     case rel=>exact ⟨xs,.inr (.inl ⟨rfl,rfl⟩),HQ.out.1,HQ.out.2⟩
     case measure=>simp [intOf]
    ·have HL:Hid (zs.length + ys.length ≤ 140737488355328 ∧ zs.length + ys.length ≤ maxLen):=mkHid ⟨by omega,by unfold maxLen;omega⟩
     go_wp2_with (at_builtin;refine wpList_append_src _ rfl (.tmp 31) (.tmp 32) 74 74 rfl w.heap.size 5 i0 Tryz.underlying74 hi hz0 hz1 hz2 _ _ _ rfl ho _ _ _ rfl hb' HL.out.2 HL.out.1 hbs ?_;intro v' w2 hown hgrow _;have HQ:Hid (w2.ownsRow w.heap.size 5 1 v' (zs ++ ys).length ((zs ++ ys).map (Value.int .u8)) ∧ Below w.heap.size w w2):=mkHid ⟨by simpa using hown,hbel.grown hgrow hbs (fun k hk=>(ho.lt k hk).1)⟩;clear hown hgrow)
     go_roundw
     case rel=>exact ⟨zs ++ ys,.inr (.inr ⟨rfl,rfl⟩),HQ.out.1,HQ.out.2⟩
     case measure=>simp [intOf]
    ·have HQ:Hid (wr.ownsRow w.heap.size 5 1 _ (xs.length + ys.length) ((xs ++ ys).map (Value.int .u8)) ∧ Below w.heap.size w wr):=mkHid ⟨by simpa using ho,hbel⟩
     clear ho
     go_wp2
     go_ret
     exact ⟨_,rfl,HQ.out⟩
theorem Rd.drop {w:World} {b off n m cap:Nat} {bs:List Int} (h:Rd w (.slice (some ⟨b,off,none⟩) bs.length cap) bs) (hn:n + m = bs.length):Rd w (.slice (some ⟨b,off + n,none⟩) m (cap - n)) (bs.drop n):=by
 obtain ⟨hB,a',cap',e,hc,h0,hr⟩:=h
 simp at e
 obtain ⟨rfl,rfl⟩:=e
 have hl:(bs.drop n).length = m:=by rw [List.length_drop];omega
 refine ⟨hB.drop n,some ⟨b,off + n,none⟩,cap - n,by rw [hl],by omega,fun e=>by simp at e,fun hp=>?_⟩
 obtain ⟨b',off',e,hlt,hcell⟩:=hr (by omega)
 simp at e
 obtain ⟨rfl,rfl⟩:=e
 refine ⟨b,off + n,rfl,hlt,fun k hk=>?_⟩
 rw [Nat.add_assoc,hcell (n + k) (by omega)]
 simp [List.getD,List.getElem?_drop]
theorem Rd.drewN {w:World} {v:Value} {bs:List Int} (h:Rd w v bs) (k:Nat):Rd (w.drewN k) v bs:=h.later ⟨rfl,rfl,rfl,Nat.le_refl _,fun _ _=>rfl⟩
theorem Rd.drew {w:World} {v:Value} {bs:List Int} (h:Rd w v bs):Rd w.drew v bs:=h.later ⟨rfl,rfl,rfl,Nat.le_refl _,fun _ _=>rfl⟩
theorem cell_later {w w':World} {a:Addr} {v:Value} (hb:Below w.heap.size w w') (h:w.cell? a = some v):w'.cell? a = some v:=
 (kept_of_below hb).cell h (by have:=World.block_lt_of_cell? w _ h;omega)
end Go.Proofs.YtihdkgekickohaaGreatDoor
namespace Go.Proofs.YtihdkgekickohaaGreatDoor
end Go.Proofs.YtihdkgekickohaaGreatDoor
namespace Go.Proofs.YtihdkgekickohaaGreatDoor
open Go.ChangeShapes Go.WideShapes Go.ChangeAt Go.RowKit
set_option maxRecDepth 100000
theorem Byts.set {a:List Int} (h:Byts a) (I:Nat) {x:Int} (hx:0 ≤ x ∧ x ≤ 255):Byts (a.set I x):=fun y hy=>by
 rcases List.mem_or_eq_of_mem_set hy with h1 | h1
 ·exact h y h1
 ·rw [h1];exact hx
def marks:List Int:=[201,202,203,204,205,206]
theorem marks_byts:Byts marks:=by intro b hb;simp [marks] at hb;omega
def Mk (w:World) (base g cap:Nat) (bs:List Int):Prop:=w.ownsRow base 5 1 (.slice (some ⟨g,0,none⟩) (bs.length + 6) cap) (bs.length + 6) ((bs ++ marks).map (Value.int .u8))
theorem Mk.lt {w:World} {base g cap:Nat} {bs:List Int} (h:Mk w base g cap bs):base ≤ g ∧ g < w.heap.size:=World.ownsRow.lt h g rfl
theorem Mk.whole {w:World} {base g cap:Nat} {bs:List Int} (hB:Byts bs) (h:Mk w base g cap bs):Rd w (.slice (some ⟨g,0,none⟩) (bs ++ marks).length cap) (bs ++ marks):=
 Rd.of_owns (hB.append marks_byts) (by rw [List.length_append];exact h)
theorem Mk.rd {w:World} {base g cap:Nat} {bs:List Int} (hB:Byts bs) (h:Mk w base g cap bs):Rd w (.slice (some ⟨g,0,none⟩) bs.length cap) bs:=by
 have:=Rd.take (n:=bs.length) (h.whole hB) (by rw [List.length_append];omega)
 rwa [List.take_left] at this
theorem Mk.kept {F:Nat → Prop} {w w':World} {base g cap:Nat} {bs:List Int} (h:Mk w base g cap bs) (hk:Kept F w w') (hn:¬ F g):Mk w' base g cap bs:=by
 refine ⟨h.1,?_⟩
 rcases h.2 with ⟨e,_⟩ | ⟨g',cap',cur,e,hb,hg,rest⟩
 ·simp at e
 ·simp at e
  obtain ⟨rfl,rfl⟩:=e
  exact .inr ⟨g,cap,cur,rfl,hb,by rw [hk.block g (Array.getElem?_eq_some_iff.1 hg).1 hn];exact hg,rest⟩
end Go.Proofs.YtihdkgekickohaaGreatDoor
