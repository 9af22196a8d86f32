import Derived.Test.YtihdkgekickohaaGreatDoorBaseD
import Derived.Test.YtihdkgekickohaaGreatDoorBaseN
import Derived.Test.YtihdkgekickohaaGreatDoorLaid
import Derived.Test.YtihdkgekickohaaGreatDoorRd
namespace Go.Proofs.YtihdkgekickohaaGreatDoor
open Go.ChangeShapes Go.WideShapes Go.ChangeAt Go.RowKit
set_option maxRecDepth 100000
theorem shifted_any (w:World) (x:Nat) (hx:(x:Int) ≤ 4294967295):Calls Tryz.prog 176 #[.int .u32 x] w fun e w'=>e = .returned (.int .u32 (sh x)) ∧ w' = w:=by
 have e1:bits .and .u32 (x:Int) 1 = ((x % 2:Nat):Int):=by
  have:=u32_and (x:Int) 1 (by omega) (by omega) (by omega) (by omega)
  simpa [Nat.and_one_is_mod] using this
 have e2:bits .xor .u32 ((x:Int) / 2) 3988292384 = ((x / 2 ^^^ 3988292384:Nat):Int):=by
  have:=u32_xor ((x:Int) / 2) 3988292384 (by omega) (by omega) (by omega) (by omega)
  rw [this]
  congr 2
 by_cases h:x % 2 = 1
 ·have hs:sh x = x / 2 ^^^ 3988292384:=by unfold sh;rw [if_pos h]
  rw [h] at e1
  rw [hs]
  go_enter Tryz.func176,Tryz.ntmps176
  go_wp2
  go_ret
  exact ⟨rfl,rfl⟩
 ·have hs:sh x = x / 2:=by unfold sh;rw [if_neg h]
  rw [show x % 2 = 0 by omega] at e1
  rw [hs]
  go_enter Tryz.func176,Tryz.ntmps176
  go_wp2
  go_ret
  exact ⟨rfl,rfl⟩
set_option maxHeartbeats 800000 in
theorem update_any (w:World) (v:Value) (bs:List Int) (s:Nat) (hs:(s:Int) ≤ 4294967295) (h:Rd w v bs) (hl:(bs.length:Int) ≤ 140737488356000) :
  Calls Tryz.prog 168 #[.int .u32 s,v] w fun e w'=>e = .returned (.int .u32 (crcW s bs)) ∧ w' = w:=by
 obtain ⟨hB,a,cap,rfl,hc,h0,hr⟩:=h
 go_enter Tryz.func168,Tryz.ntmps168
 go_wp2
 go_loop [0,9] (fun sv iv=>∃ k:Nat,k ≤ bs.length ∧ iv = .int .i64 k ∧ sv = .int .u32 (crcW s (bs.take k))) (fun _ iv=>bs.length - (intOf iv).toNat)
 case atStart=>exact ⟨0,Nat.zero_le _,rfl,rfl⟩
 case round=>
  obtain ⟨k,hk,rfl,rfl⟩:=hrel
  by_cases hlt:k < bs.length
  ·obtain ⟨b,off,rfl,hbl,hcell⟩:=hr (by omega)
   have hck:=hcell k hlt
   have hb:=hB.at k
   have HS:Hid (crcW s (bs.take (k + 1)) = up (crcW s (bs.take k)) (bs.getD k 0)):=mkHid (by rw [take_snoc bs k hlt,crcW_snoc])
   have hf:=crcW_lt (s:=s) (by omega) (hB.take k)
   clear hcell hr
   generalize crcW s (bs.take k) = t at *
   generalize bs.getD k 0 = c at *
   have e1:bits .xor .u32 (t:Int) c = ((t ^^^ c.toNat:Nat):Int):=by
    have:=u32_xor (t:Int) c (by omega) (by omega) hb.1 (by omega)
    simpa using this
   have hx:t ^^^ c.toNat < 4294967296:=xor_byte_lt hf hb.2
   have HT:Hid (up t c = shN 8 (t ^^^ c.toNat)):=mkHid rfl
   obtain ⟨x,hx2⟩:∃ x:Nat,x = t ^^^ c.toNat:=⟨_,rfl⟩
   rw [← hx2] at e1 hx
   rw [← hx2] at HT
   have HX:=mkHid hx
   have hxi:(x:Int) ≤ 4294967295:=by omega
   clear hx hx2 hf
   go_wp2
   go_loop [0,17] (fun sv iv=>∃ j:Nat,j ≤ 8 ∧ iv = .int .i64 j ∧ sv = .int .u32 (shN j x)) (fun _ iv=>8 - (intOf iv).toNat)
   case atStart=>exact ⟨0,by omega,rfl,rfl⟩
   case round=>
    obtain ⟨j,hj,rfl,rfl⟩:=hrel
    by_cases hj8:(j:Int) < 8
    ·have hy:=shN_lt j HX.out
     have hyi:(shN j x:Int) ≤ 4294967295:=by omega
     have HJ:Hid (shN (j + 1) x = sh (shN j x)):=mkHid rfl
     generalize shN j x = y at *
     clear hy
     go_wp2_with (go_at_call 176;refine (shifted_any _ y hyi).mono ?_;rintro e wx ⟨rfl,hw⟩;rw [hw];clear hw)
     go_round
     case rel=>exact ⟨j + 1,by omega,by go_num,by rw [HJ.out]⟩
     case measure=>simp [intOf];omega
    ·obtain rfl:j = 8:=by omega
     go_wp2
     go_round
     case rel=>exact ⟨k + 1,by omega,by go_num,by rw [HS.out,HT.out]⟩
     case measure=>simp [intOf];omega
  ·have hk':bs.take k = bs:=List.take_of_length_le (by omega)
   have hl':k = bs.length:=by omega
   rw [hk']
   clear hr
   subst hl'
   go_wp2
   go_ret
   exact ⟨rfl,rfl⟩
set_option maxHeartbeats 800000 in
theorem crcsum_any (w:World) (v:Value) (bs:List Int) (h:Rd w v bs) (hl:(bs.length:Int) ≤ 140737488356000) :
  Calls Tryz.prog 144 #[v] w fun e w'=>e = .returned (.int .u32 (csum bs)) ∧ w' = w:=by
 have hf:=crcW_lt (s:=4294967295) (by omega) h.1
 have e1:bits .xor .u32 IntKind.u32.max (crcW 4294967295 bs:Int) = ((csum bs:Nat):Int):=by
  have:=u32_xor IntKind.u32.max (crcW 4294967295 bs:Int) (by decide) (by decide) (by omega) (by omega)
  rw [this,Nat.xor_comm]
  rfl
 go_enter Tryz.func144,Tryz.ntmps144
 go_wp2_with (go_at_call 168;refine (update_any _ _ bs 4294967295 (by omega) h hl).mono ?_;rintro e wx ⟨rfl,hw⟩;rw [hw];clear hw hf)
 go_ret
 exact ⟨rfl,rfl⟩
theorem rd_fourc (w:World) (s:Nat) (a b c d:Int) (h:[a,b,c,d] = four s):Rd (w.alloc (.cells #[.int .u8 a,.int .u8 b,.int .u8 c,.int .u8 d] 5)) (.slice (some ⟨w.heap.size,0,none⟩) 4 4) (four s):=by
 have:=rd_four w a b c d (by rw [h];exact four_byts s)
 rwa [h] at this
theorem bytesof_any (w:World) (s:Nat) (hs:(s:Int) ≤ 4294967295) :
  Calls Tryz.prog 143 #[.int .u32 s] w fun e w'=>e = .returned (.slice (some ⟨w.heap.size,0,none⟩) 4 4) ∧ Rd w' (.slice (some ⟨w.heap.size,0,none⟩) 4 4) (four s) ∧ Below w.heap.size w w':=by
 go_enter Tryz.func143,Tryz.ntmps143
 go_wp2
 go_ret
 refine ⟨rfl,rd_fourc w s _ _ _ _ ?_,(Below.refl _ _).alloc (Nat.le_refl _) _⟩
 simp only [four,List.cons.injEq,and_true]
 omega
theorem own_weak {w:World} {base base':Nat} {e:TypeId} {v:Value} {n:Nat} {xs:List Value} (h:w.ownsRow base e 1 v n xs) (hb:base' ≤ base):w.ownsRow base' e 1 v n xs:=by
 refine ⟨h.1,h.2.imp id ?_⟩
 rintro ⟨g,cap,cur,e,hg,rest⟩
 exact ⟨g,cap,cur,e,Nat.le_trans hb hg,rest⟩
theorem own_keep {F:Nat → Prop} {w w':World} {base:Nat} {e:TypeId} {v:Value} {n:Nat} {xs:List Value} (h:w.ownsRow base e 1 v n xs) (hk:Kept F w w') (hn:∀ k,v.ownBlock = some k → ¬ F k):w'.ownsRow base e 1 v n xs:=by
 refine ⟨h.1,h.2.imp id ?_⟩
 rintro ⟨g,cap,cur,rfl,hb,hg,rest⟩
 exact ⟨g,cap,cur,rfl,hb,by rw [hk.block g (Array.getElem?_eq_some_iff.1 hg).1 (hn g rfl)];exact hg,rest⟩
theorem own_late {w w':World} {base:Nat} {e:TypeId} {v:Value} {n:Nat} {xs:List Value} (h:w.ownsRow base e 1 v n xs) (hb:Below w.heap.size w w'):w'.ownsRow base e 1 v n xs:=
 own_keep h (kept_of_below hb) (fun k hk hge=>by have:=(h.lt k hk).2;omega)
set_option maxHeartbeats 3200000 in
theorem frame_any (w:World) (v:Value) (bs:List Int) (h:Rd w v bs) (hl:(bs.length:Int) ≤ 32768) :
  Calls Tryz.prog 109 #[v] w fun e w'=>∃ v',e = .returned (.tuple #[v',.nilIface]) ∧ w'.ownsRow w.heap.size 5 1 v' (bs.length + 8) ((frame bs).map (Value.int .u8)) ∧ Below w.heap.size w w':=by
 obtain ⟨i0,hi,hz0,hz1,hz2⟩:=info_parts Tryz.info5
 obtain ⟨a,c,ev⟩:∃ a c,v = .slice a bs.length c:=h.2.imp fun a h=>h.imp fun c h=>h.1
 have hbody:(four bs.length ++ bs).length = 4 + bs.length:=by rw [List.length_append,four_len]
 have hB:=(four_byts bs.length).append h.1
 have hcs:=csum_lt hB
 have hci:(csum (four bs.length ++ bs):Int) ≤ 4294967295:=by omega
 have HL:Hid (4 + bs.length + 4 ≤ maxLen ∧ 4 + bs.length + 4 ≤ 140737488355328):=mkHid ⟨by unfold maxLen;omega,by omega⟩
 clear hcs
 subst ev
 go_enter Tryz.func109,Tryz.ntmps109
 have M1:Hid True:=trivial
 go_wp2_with (first | (go_at_call 143;clear M1;refine (bytesof_any _ bs.length (by omega)).mono ?_;rintro e w1 ⟨rfl,r1,hb1⟩;have r0:=h.later hb1) | (go_at_call 142;refine (concat_any _ w1.heap.size _ _ (four bs.length) bs (by go_simp) (by go_simp) (r1.alloc _) (r0.alloc _) (by rw [four_len];omega) (by rw [four_len];omega)).mono ?_;rintro e w2 ⟨v2,rfl,ho2,hb2⟩;rw [four_len] at ho2;have hb2':=(hb1.alloc hb1.size _).trans (hb2.mono (by have:=hb1.size;simp;omega));have ho2':=own_weak (base':=w.heap.size) ho2 (by have:=hb1.size;simp;omega);clear ho2 hb2 r1 r0) | (go_at_call 144;refine (crcsum_any _ _ (four bs.length ++ bs) (Rd.of_owns hB (by rw [hbody];exact ho2')) (by rw [hbody];omega)).mono ?_;rintro e wx ⟨rfl,hw⟩;rw [hw];clear hw) | (go_at_call 143;refine (bytesof_any _ _ hci).mono ?_;rintro e w3 ⟨rfl,r3,hb3⟩;have ho3:=own_late ho2' hb3;have hb3':=hb2'.trans (hb3.mono hb2'.size);clear hb3 ho2') | (at_builtin;refine wpList_append_src _ rfl (.tmp 16) (.tmp 19) 74 74 rfl w.heap.size 5 i0 Tryz.underlying74 hi hz0 hz1 hz2 _ _ _ rfl ho3 _ _ _ rfl r3.src HL.out.1 HL.out.2 hb3'.size ?_;intro v4 w4 ho4 hg4 _;have hb4:=hb3'.grown hg4 hb3'.size (fun k hk=>(ho3.lt k hk).1);rw [← List.map_append] at ho4;have HQ:Hid (w4.ownsRow w.heap.size 5 1 v4 (bs.length + 8) ((frame bs).map (Value.int .u8))):=mkHid (by have e:4 + bs.length + (four (csum (four bs.length ++ bs))).length = bs.length + 8:=(by rw [four_len];omega);rw [e] at ho4;exact ho4);clear hg4 ho4))
 go_ret2
 exact ⟨_,rfl,HQ.out,hb4⟩
theorem size1 (W:World):(Go.sizeOf 5).run Tryz.prog W = .ok 1 W:=by
 obtain ⟨i0,hi,hz0,hz1,hz2⟩:=info_parts Tryz.info5
 simp [Go.sizeOf,typeInfo,hi,hz1]
theorem elemB:Tryz.prog.underlying 74 = some (.slice (Tryz.prog.elem 74)) ∧ Tryz.prog.elem 74 = 5:=by
 simp [Program.elem,Tryz.underlying74]
theorem Rd.slicedM {w:World} {a:Option Addr} {cap f t m:Nat} {bs:List Int} (h:Rd w (.slice a bs.length cap) bs) (h1:f ≤ t) (h2:t ≤ bs.length) (hm:t ≤ m) (hc:m ≤ cap):Rd w (Go.sliced a f t m 1) ((bs.drop f).take (t - f)):=by
 obtain ⟨hB,a',cap',e,hc,h0,hr⟩:=h
 simp at e
 obtain ⟨rfl,rfl⟩:=e
 have hl:((bs.drop f).take (t - f)).length = t - f:=by rw [List.length_take,List.length_drop];omega
 refine ⟨(hB.drop f).take _,_,m - f,by unfold Go.sliced;rw [hl],by omega,?_,fun hp=>?_⟩
 ·intro e
  split at e
  ·have:=h0 e;omega
  ·have:=h0 (by simpa using e);omega
 ·obtain ⟨b,off,rfl,hlt,hcell⟩:=hr (by omega)
  refine ⟨b,off + f,?_,hlt,fun k hk=>?_⟩
  ·rw [if_neg (by omega)]
   simp [add_none]
  ·rw [Nat.add_assoc,hcell (f + k) (by omega)]
   have:k < t - f:=by omega
   simp [List.getD,List.getElem?_drop,this]
theorem Rd.tailS {w:World} {v:Value} {bs:List Int} (h:Rd w v bs) (F:Int) (f:Nat) (hF:F = f) (h1:f ≤ bs.length) :
  ∃ v',(∀ W,(Instr.slice 74 v (some (.int .i64 F)) none none).run Tryz.prog W = .ok v' W) ∧ Rd w v' (bs.drop f):=by
 obtain ⟨hB,a,cap,rfl,hc,_⟩:=id h
 subst hF
 refine ⟨Go.sliced a f bs.length cap 1,fun W=>?_,?_⟩
 ·rw [run_slice_l W 74 _ _ _ elemB.1 .i64 _ (by omega) (by omega),elemB.2,size1]
  simp [Result.andThen]
 ·have:=h.slicedM h1 (Nat.le_refl _) hc (Nat.le_refl _)
  rwa [List.take_of_length_le (by rw [List.length_drop];omega)] at this
theorem Rd.midS {w:World} {v:Value} {bs:List Int} (h:Rd w v bs) (F T:Int) (f t:Nat) (hF:F = f) (hT:T = t) (h1:f ≤ t) (h2:t ≤ bs.length) :
  ∃ v',(∀ W,(Instr.slice 74 v (some (.int .i64 F)) (some (.int .i64 T)) none).run Tryz.prog W = .ok v' W) ∧ Rd w v' ((bs.drop f).take (t - f)):=by
 obtain ⟨hB,a,cap,rfl,hc,_⟩:=id h
 subst hF hT
 refine ⟨Go.sliced a f t cap 1,fun W=>?_,h.slicedM h1 h2 (by omega) (Nat.le_refl _)⟩
 rw [run_slice_lh W 74 _ _ _ elemB.1 .i64 .i64 _ _ (by omega) (by omega) (by omega),elemB.2,size1]
 simp [Result.andThen]
theorem Rd.headS {w:World} {v:Value} {bs:List Int} (h:Rd w v bs) (T:Int) (t:Nat) (hT:T = t) (h2:t ≤ bs.length) :
  ∃ v',(∀ W,(Instr.slice 74 v none (some (.int .i64 T)) none).run Tryz.prog W = .ok v' W) ∧ Rd w v' (bs.take t):=by
 obtain ⟨hB,a,cap,rfl,hc,_⟩:=id h
 subst hT
 refine ⟨Go.sliced a 0 t cap 1,fun W=>?_,?_⟩
 ·rw [run_slice_h W 74 _ _ _ elemB.1 .i64 _ (by omega) (by omega),elemB.2,size1]
  simp [Result.andThen]
 ·simpa using h.slicedM (f:=0) (Nat.zero_le _) h2 (by omega) (Nat.le_refl _)
theorem or_add (i a b:Nat) (h:b < 2 ^ i):b ||| a * 2 ^ i = b + a * 2 ^ i:=by
 have:=Nat.two_pow_add_eq_or_of_lt h a
 rw [Nat.mul_comm] at this
 rw [Nat.or_comm,← this,Nat.add_comm]
theorem or32 (i:Nat) (a b:Int) (ha:0 ≤ a) (hb:0 ≤ b) (hi:b < 2 ^ i) (hs:a * 2 ^ i < 4294967296) (hb2:b < 4294967296):bits .or .u32 b (a * 2 ^ i) = b + a * 2 ^ i:=by
 have h0:0 ≤ a * 2 ^ i:=Int.mul_nonneg ha (by exact Int.le_of_lt (Int.pow_pos (by omega)))
 have:=u32_or b (a * 2 ^ i) hb hb2 h0 hs
 rw [this]
 obtain ⟨x,rfl⟩:=Int.eq_ofNat_of_zero_le ha
 obtain ⟨y,rfl⟩:=Int.eq_ofNat_of_zero_le hb
 have e:((x:Int) * 2 ^ i).toNat = x * 2 ^ i:=by
  rw [show ((x:Int) * 2 ^ i) = ((x * 2 ^ i:Nat):Int) by simp]
  exact Int.toNat_natCast _
 have hy:y < 2 ^ i:=by exact_mod_cast hi
 rw [e,Int.toNat_natCast,or_add i x y hy]
 simp
set_option maxHeartbeats 3200000 in
theorem wordof_any (w:World) (v:Value) (bs:List Int) (h:Rd w v bs) (hl:4 ≤ bs.length) :
  Calls Tryz.prog 165 #[v] w fun e w'=>e = .returned (.int .u32 (word bs)) ∧ ∃ k,w' = w.drewN k:=by
 obtain ⟨hB,a,cap,rfl,hc,h0,hr⟩:=h
 obtain ⟨b,off,rfl,hlt,hcell⟩:=hr (by omega)
 have c0:=hcell 0 (by omega)
 have c1:=hcell 1 (by omega)
 have c2:=hcell 2 (by omega)
 have c3:=hcell 3 (by omega)
 rw [Nat.add_zero] at c0
 have q0:=hB.at 0
 have q1:=hB.at 1
 have q2:=hB.at 2
 have q3:=hB.at 3
 have HW:Hid (((word bs:Nat):Int) = bs.getD 0 0 + bs.getD 1 0 * 256 + bs.getD 2 0 * 65536 + bs.getD 3 0 * 16777216):=mkHid (by unfold word;omega)
 generalize bs.getD 0 0 = x0 at *
 generalize bs.getD 1 0 = x1 at *
 generalize bs.getD 2 0 = x2 at *
 generalize bs.getD 3 0 = x3 at *
 have o1:bits .or .u32 x0 (x1 * 256) = x0 + x1 * 256:=or32 8 x1 x0 q1.1 q0.1 (by omega) (by omega) (by omega)
 have o2:bits .or .u32 (x0 + x1 * 256) (x2 * 65536) = x0 + x1 * 256 + x2 * 65536:=or32 16 x2 _ q2.1 (by omega) (by omega) (by omega) (by omega)
 have o3:bits .or .u32 (x0 + x1 * 256 + x2 * 65536) (x3 * 16777216) = x0 + x1 * 256 + x2 * 65536 + x3 * 16777216:=or32 24 x3 _ q3.1 (by omega) (by omega) (by omega) (by omega)
 have hl0:(0:Int) < bs.length:=by omega
 have hl1:(1:Int) < bs.length:=by omega
 have hl2:(2:Int) < bs.length:=by omega
 have hl3:(3:Int) < bs.length:=by omega
 rw [HW.out]
 clear hcell hr HW hl
 go_enter Tryz.func165,Tryz.ntmps165
 go_wp2
 go_quiet (fail)
 go_wp2
 go_ret
 exact ⟨rfl,_,rfl⟩
theorem drewN_below (w:World) (k:Nat):Below w.heap.size w (w.drewN k):=⟨rfl,rfl,rfl,Nat.le_refl _,fun _ _=>rfl⟩
theorem drewN_kept (F:Nat → Prop) (w:World) (k:Nat):Kept F w (w.drewN k):=⟨rfl,rfl,rfl,Nat.le_refl _,fun _ _ _=>rfl⟩
theorem read_short1 (w:World) (v:Value) (bs:List Int) (h:Rd w v bs) (hl:(bs.length:Int) < 4) :
  Calls Tryz.prog 138 #[v] w fun e w'=>e = .returned (.tuple #[.slice none 0 0,.int .i64 0,.nilIface]) ∧ Below w.heap.size w w':=by
 obtain ⟨a,c,rfl⟩:∃ a c,v = .slice a bs.length c:=h.2.imp fun a h=>h.imp fun c h=>h.1
 go_enter Tryz.func138,Tryz.ntmps138
 go_wp2
 go_ret3
 exact ⟨rfl,Below.refl _ _⟩
theorem read_short2 (w:World) (v:Value) (bs:List Int) (h:Rd w v bs) (hl:4 ≤ bs.length) (hn:word bs ≤ 32768) (hs:bs.length < word bs + 8) :
  Calls Tryz.prog 138 #[v] w fun e w'=>e = .returned (.tuple #[.slice none 0 0,.int .i64 0,.nilIface]) ∧ Below w.heap.size w w':=by
 obtain ⟨a,c,rfl⟩:∃ a c,v = .slice a bs.length c:=h.2.imp fun a h=>h.imp fun c h=>h.1
 obtain ⟨b,off,rfl,hc,_⟩:=h.spot (by omega)
 have hli:¬ (bs.length:Int) < 4:=by omega
 obtain ⟨n,HN⟩:∃ n,Hid (n = word bs):=⟨_,mkHid rfl⟩
 rw [← HN.out] at hn hs
 have hni:(n:Int) ≤ 32768:=by omega
 have hsi:(bs.length:Int) < 4 + (n:Int) + 4:=by omega
 go_enter Tryz.func138,Tryz.ntmps138
 go_wp2_with (go_at_call 165;refine (wordof_any _ _ bs h hl).mono ?_;rintro e w1 ⟨rfl,k,rfl⟩;rw [← HN.out])
 go_ret3
 exact ⟨rfl,drewN_below w k⟩
theorem read_large (w:World) (v:Value) (bs:List Int) (ev:Value) (h:Rd w v bs) (hl:4 ≤ bs.length) (hn:32768 < word bs) (he:w.cell? ⟨8,0,none⟩ = some ev) :
  Calls Tryz.prog 138 #[v] w fun e w'=>e = .returned (.tuple #[.slice none 0 0,.int .i64 0,ev]) ∧ Below w.heap.size w w':=by
 obtain ⟨a,c,rfl⟩:∃ a c,v = .slice a bs.length c:=h.2.imp fun a h=>h.imp fun c h=>h.1
 obtain ⟨b,off,rfl,hc,_⟩:=h.spot (by omega)
 have hli:¬ (bs.length:Int) < 4:=by omega
 have hlt:=word_lt h.1
 obtain ⟨n,HN⟩:∃ n,Hid (n = word bs):=⟨_,mkHid rfl⟩
 rw [← HN.out] at hn hlt
 have hni:(32768:Int) < n:=by omega
 have hn2:(n:Int) ≤ 4294967295:=by omega
 clear hlt
 go_enter Tryz.func138,Tryz.ntmps138
 go_wp2_with (go_at_call 165;refine (wordof_any _ _ bs h hl).mono ?_;rintro e w1 ⟨rfl,hk⟩;rw [← HN.out];have hb1:Below w.heap.size w w1:=(by obtain ⟨k,rfl⟩:=hk;exact drewN_below w k);have he1:w1.cell? ⟨8,0,none⟩ = some ev:=cell_later hb1 he;clear hk)
 go_quiet (fail)
 go_wp2
 go_ret3
 exact ⟨rfl,hb1.trans ((drewN_below _ _).mono hb1.size)⟩
set_option maxHeartbeats 3200000 in
theorem read_bad (w:World) (v:Value) (bs:List Int) (ev:Value) (n:Nat) (h:Rd w v bs) (hnn:n = word bs) (hn:(n:Int) ≤ 32768) (hs:(n:Int) + 8 ≤ bs.length) (hbad:csum (bs.take (4 + n)) ≠ word (bs.drop (4 + n))) (he:w.cell? ⟨5,0,none⟩ = some ev) :
  Calls Tryz.prog 138 #[v] w fun e w'=>e = .returned (.tuple #[.slice none 0 0,.int .i64 0,ev]) ∧ Below w.heap.size w w':=by
 obtain ⟨a,c,rfl⟩:∃ a c,v = .slice a bs.length c:=h.2.imp fun a h=>h.imp fun c h=>h.1
 have HN:=mkHid hnn
 have hli:¬ (bs.length:Int) < 4:=by omega
 have hsi:¬ (bs.length:Int) < 4 + (n:Int) + 4:=by omega
 obtain ⟨v1,s1,r1⟩:=h.headS (4 + (n:Int)) (4 + n) (by omega) (by omega)
 obtain ⟨v2,s2,r2⟩:=h.tailS (4 + (n:Int)) (4 + n) (by omega) (by omega)
 have hx:=csum_lt r1.1
 have hy:=word_lt r2.1
 obtain ⟨C,hC⟩:∃ C,C = csum (bs.take (4 + n)):=⟨_,rfl⟩
 obtain ⟨D,hD⟩:∃ D,D = word (bs.drop (4 + n)):=⟨_,rfl⟩
 have HS:Hid (∀ W,Below w.heap.size w W → ∀ j,Calls Tryz.prog 144 #[v1] (W.drewN j) fun e w'=>e = .returned (.int .u32 C) ∧ w' = W.drewN j):=mkHid (fun W hW j=>by rw [hC];exact crcsum_any _ _ _ ((r1.later hW).drewN _) (by rw [List.length_take];omega))
 have HT:Hid (∀ W,Below w.heap.size w W → ∀ j,Calls Tryz.prog 165 #[v2] (W.drewN j) fun e w'=>e = .returned (.int .u32 D) ∧ ∃ i,w' = (W.drewN j).drewN i):=mkHid (fun W hW j=>by rw [hD];exact wordof_any _ _ _ ((r2.later hW).drewN _) (by rw [List.length_drop];omega))
 rw [← hC,← hD] at hbad
 rw [← hC] at hx
 rw [← hD] at hy
 have hne:¬ (C:Int) = D:=by omega
 clear hC hD hx hy hbad hnn r1 r2
 go_enter Tryz.func138,Tryz.ntmps138
 go_wp2_with (go_at_call 165;refine (wordof_any _ _ bs h (by omega)).mono ?_;rintro e w1 ⟨rfl,hk⟩;rw [← HN.out];have hb1:Below w.heap.size w w1:=(by obtain ⟨k,rfl⟩:=hk;exact drewN_below w k);have he1:w1.cell? ⟨5,0,none⟩ = some ev:=cell_later hb1 he;have HS1:=mkHid (HS.out w1 hb1);have HT1:=mkHid (HT.out w1 hb1);clear hk HS HT)
 go_quiet (first | (go_at_call 144;exact Calls.quiet_of_same (HS1.out _)) | (go_at_call 165;exact Calls.quiet_of (HT1.out _)))
 go_wp2
 go_quiet (fail)
 go_wp2
 go_ret3
 exact ⟨rfl,hb1.trans (Below.mono ⟨rfl,rfl,rfl,Nat.le_refl _,fun _ _=>rfl⟩ hb1.size)⟩
set_option maxHeartbeats 3200000 in
theorem read_good (w:World) (v:Value) (bs:List Int) (n:Nat) (h:Rd w v bs) (hnn:n = word bs) (hn:(n:Int) ≤ 32768) (hs:(n:Int) + 8 ≤ bs.length) (hgood:csum (bs.take (4 + n)) = word (bs.drop (4 + n))) :
  Calls Tryz.prog 138 #[v] w fun e w'=>∃ v',e = .returned (.tuple #[v',.int .i64 ((n:Int) + 8),.nilIface]) ∧ w'.ownsRow w.heap.size 5 1 v' n (((bs.drop 4).take n).map (Value.int .u8)) ∧ Below w.heap.size w w':=by
 obtain ⟨a,c,rfl⟩:∃ a c,v = .slice a bs.length c:=h.2.imp fun a h=>h.imp fun c h=>h.1
 have HN:=mkHid hnn
 have hli:¬ (bs.length:Int) < 4:=by omega
 have hsi:¬ (bs.length:Int) < 4 + (n:Int) + 4:=by omega
 obtain ⟨v1,s1,r1⟩:=h.headS (4 + (n:Int)) (4 + n) (by omega) (by omega)
 obtain ⟨v2,s2,r2⟩:=h.tailS (4 + (n:Int)) (4 + n) (by omega) (by omega)
 obtain ⟨v3,s3,r3⟩:=h.midS 4 (4 + (n:Int)) 4 (4 + n) (by omega) (by omega) (by omega) (by omega)
 rw [show 4 + n - 4 = n by omega] at r3
 have hx:=csum_lt r1.1
 obtain ⟨C,hC⟩:∃ C,C = csum (bs.take (4 + n)):=⟨_,rfl⟩
 have hl3:((bs.drop 4).take n).length = n:=by rw [List.length_take,List.length_drop];omega
 have HS:Hid (∀ W,Below w.heap.size w W → ∀ j,Calls Tryz.prog 144 #[v1] (W.drewN j) fun e w'=>e = .returned (.int .u32 C) ∧ w' = W.drewN j):=mkHid (fun W hW j=>by rw [hC];exact crcsum_any _ _ _ ((r1.later hW).drewN _) (by rw [List.length_take];omega))
 have HT:Hid (∀ W,Below w.heap.size w W → ∀ j,Calls Tryz.prog 165 #[v2] (W.drewN j) fun e w'=>e = .returned (.int .u32 C) ∧ ∃ i,w' = (W.drewN j).drewN i):=mkHid (fun W hW j=>by rw [hC,hgood];exact wordof_any _ _ _ ((r2.later hW).drewN _) (by rw [List.length_drop];omega))
 have HC:Hid (∀ W,Below w.heap.size w W → ∀ j,Calls Tryz.prog 69 #[v3] (W.drewN j) fun e w'=>∃ v',e = .returned v' ∧ w'.ownsRow w.heap.size 5 1 v' n (((bs.drop 4).take n).map (Value.int .u8)) ∧ Below w.heap.size w w'):=mkHid (fun W hW j=>by
  refine (clone_any _ _ _ ((r3.later hW).drewN _) (by rw [hl3];omega)).mono ?_
  rintro e w' ⟨v',he,ho,hb⟩
  rw [hl3] at ho
  exact ⟨v',he,own_weak ho hW.size,hW.trans ((((drewN_below W j).trans hb)).mono hW.size)⟩)
 rw [← hC] at hx
 have hxi:(C:Int) ≤ 4294967295:=by omega
 have e8:4 + (n:Int) + 4 = (n:Int) + 8:=by omega
 clear hC hx hgood hnn r1 r2 r3 hl3
 go_enter Tryz.func138,Tryz.ntmps138
 go_wp2_with (go_at_call 165;refine (wordof_any _ _ bs h (by omega)).mono ?_;rintro e w1 ⟨rfl,hk⟩;rw [← HN.out];have hb1:Below w.heap.size w w1:=(by obtain ⟨k,rfl⟩:=hk;exact drewN_below w k);have HS1:=mkHid (HS.out w1 hb1);have HT1:=mkHid (HT.out w1 hb1);have HC1:=mkHid (HC.out w1 hb1);clear hk HS HT HC)
 go_quiet (first | (go_at_call 144;exact Calls.quiet_of_same (HS1.out _)) | (go_at_call 165;exact Calls.quiet_of (HT1.out _)))
 go_wp2_with (go_at_call 69;refine (HC1.out _).mono ?_;rintro e w2 ⟨v',rfl,ho,hb2⟩)
 go_ret3
 refine ⟨v',?_,ho,hb2⟩
 first | rfl | (rw [← e8];rfl)
end Go.Proofs.YtihdkgekickohaaGreatDoor
