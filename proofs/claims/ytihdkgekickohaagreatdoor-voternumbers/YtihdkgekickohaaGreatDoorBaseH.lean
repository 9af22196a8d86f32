import Derived.Test.YtihdkgekickohaaGreatDoorBaseD
import Derived.Test.YtihdkgekickohaaGreatDoorBaseM
import Derived.Deep.RegionWith
import Derived.Laws.BitsLemmas
namespace Go.Proofs.YtihdkgekickohaaGreatDoor
open Go.ChangeShapes Go.WideShapes Go.ChangeAt Go.RowKit
set_option maxRecDepth 100000
theorem or_join (i:Nat) (x n:Int) (h0:0 ≤ x) (h1:x < 128) (hn0:0 ≤ n) (hn:n < 2 ^ i) (hi:i ≤ 56):bits .or .i64 n (x * 2 ^ i) = n + x * 2 ^ i:=by
 have hc:bits .or .i64 n (x * 2 ^ i) = bits .or .i64 (x * 2 ^ i) n:=by simp only [bits,BitVec.or_comm]
 have hp:(2:Int) ^ i ≤ 2 ^ 56:=by exact_mod_cast Nat.pow_le_pow_right (n:=2) (by omega) hi
 have hx:x * 2 ^ i < 2 ^ 63:=by
  have:x * 2 ^ i ≤ 127 * 2 ^ 56:=Int.mul_le_mul (by omega) hp (Int.le_of_lt (Int.pow_pos (by omega))) (by omega)
  omega
 rw [hc,bits_join .i64 63 (by decide) (fun m a b=>by rw [IntKind.wrap_i64];omega) i (x * 2 ^ i) n (Int.mul_nonneg h0 (Int.le_of_lt (Int.pow_pos (by omega)))) (Int.mul_emod_left _ _) hx hn0 hn (by omega)]
 omega
theorem hi_snoc {p:List Int} (h:Hi p) {c:Int} (h0:128 ≤ c) (h1:c ≤ 255):Hi (p ++ [c]):=fun b hb=>by
 rcases List.mem_append.mp hb with hb | hb
 ·exact h b hb
 ·simp at hb;omega
theorem take_snoc' (bs:List Int) (k:Nat) (h:k < bs.length):bs.take (k + 1) = bs.take k ++ [bs.getD k 0]:=take_snoc bs k h
theorem num_more (rest:List Int) (k:Nat) (c:Int) (hk:k < rest.length) (hc:rest.getD k 0 = c) (h:Hi (rest.take k)) (h0:128 ≤ c) (h1:c ≤ 255) :
  Hi (rest.take (k + 1)) ∧ (lo (rest.take (k + 1)):Int) = lo (rest.take k) + (c - 128) * 128 ^ k:=by
 have hl:(rest.take k).length = k:=by rw [List.length_take];omega
 rw [take_snoc' rest k hk,hc]
 refine ⟨hi_snoc h h0 h1,?_⟩
 rw [lo_snoc,hl]
 have:(((c - 128).toNat:Nat):Int) = c - 128:=by omega
 push_cast
 rw [this]
theorem num_ends (rest:List Int) (k:Nat) (c:Int) (hk:k < rest.length) (hk8:k ≤ 8) (hc:rest.getD k 0 = c) (h:Hi (rest.take k)) (h0:0 ≤ c) (h1:c < 128) :
  NumSpec rest (lo (rest.take k) + c * 128 ^ k) (k + 1) (decide (0 < c) || decide (k = 0)):=by
 have hl:(rest.take k).length = k:=by rw [List.length_take];omega
 have hsp:rest = rest.take k ++ c :: rest.drop (k + 1):=by
  conv=>lhs;rw [← List.take_append_drop k rest,List.drop_eq_getElem_cons hk]
  rw [← hc]
  simp [List.getD,hk]
 by_cases hok:0 < c ∨ k = 0
 ·left
  refine ⟨by simpa using hok,lo (rest.take k) + c.toNat * 128 ^ k,rest.drop (k + 1),?_,?_,?_,?_⟩
  ·have:((c.toNat:Nat):Int) = c:=by omega
   push_cast
   rw [this]
  ·have h2:=lo_lt _ h
   rw [hl] at h2
   have h3:128 ^ k ≤ 128 ^ 8:=Nat.pow_le_pow_right (by omega) hk8
   have h4:c.toNat * 128 ^ k ≤ 127 * 128 ^ k:=Nat.mul_le_mul_right _ (by omega)
   omega
  ·have e:=enc_hi (rest.take k) c h h0 h1 (by rcases hok with h | h;exact .inl h;right;rw [h];rfl)
   rw [hl] at e
   rw [e]
   simp [hl]
  ·have e:=enc_hi (rest.take k) c h h0 h1 (by rcases hok with h | h;exact .inl h;right;rw [h];rfl)
   rw [hl] at e
   rw [e,List.append_assoc]
   exact hsp
 ·right
  refine ⟨by simpa using hok,fun N r _=>?_⟩
  have:c = 0:=by omega
  rw [hsp,this]
  exact no_zero _ _ h (fun e=>by rw [e] at hl;simp at hl;omega) N r
def NumPost (rest:List Int) (e:Ending):Prop:=∃ n s ok,e = .returned (.tuple #[.int .i64 n,.int .i64 s,.bool ok]) ∧ NumSpec rest n s ok
theorem num_post {rest:List Int} {n s:Int} {ok:Bool} (h:NumSpec rest n s ok):NumPost rest (.returned (.tuple #[.int .i64 n,.int .i64 s,.bool ok])):=⟨n,s,ok,rfl,h⟩
theorem num_false {rest:List Int} {n s n' s':Int} (h:NumSpec rest n s false):NumSpec rest n' s' false:=by
 rcases h with ⟨h,_⟩ | h
 ·simp at h
 ·exact .inr h
theorem num_round (rest:List Int) (k:Nat) (c:Int) (P:Int) (hP:P = 128 ^ k) (hk:k < rest.length) (hk8:k ≤ 8) (hc:rest.getD k 0 = c) (hB:Byts rest) (h:Hi (rest.take k)) :
  ∃ n x:Int,(lo (rest.take k):Int) = n ∧ c % 128 = x ∧ 0 ≤ n ∧ n < P ∧ 0 ≤ x ∧ x < 128 ∧ bits .or .i64 n (x * P) = n + x * P ∧ (0 ≤ c ∧ c ≤ 255) ∧
   (128 ≤ c → Hid (Hi (rest.take (k + 1)) ∧ (lo (rest.take (k + 1)):Int) = n + x * P)) ∧
   (c < 128 → Hid (c = x ∧ NumSpec rest (n + x * P) (k + 1) (decide (0 < x) || decide (k = 0)))):=by
 have hb:=hB.at k
 rw [hc] at hb
 have hl:(rest.take k).length = k:=by rw [List.length_take];omega
 have h2:=lo_lt _ h
 rw [hl] at h2
 have hPn:P = ((128 ^ k:Nat):Int):=by rw [hP];push_cast;rfl
 have hP2:P = 2 ^ (7 * k):=by rw [hP,Int.pow_mul];rfl
 refine ⟨_,c % 128,rfl,rfl,by omega,by omega,by omega,by omega,?_,hb,fun hge=>?_,fun hlt=>?_⟩
 ·rw [hP2]
  exact or_join (7 * k) (c % 128) _ (by omega) (by omega) (by omega) (by rw [← hP2];omega) (by omega)
 ·obtain ⟨r1,r2⟩:=num_more rest k c hk hc h hge hb.2
  exact mkHid ⟨r1,by rw [r2,hP,show c % 128 = c - 128 by omega]⟩
 ·have:=num_ends rest k c hk hk8 hc h hb.1 hlt
  have e:c % 128 = c:=by omega
  rw [e,hP]
  exact mkHid ⟨rfl,this⟩
set_option maxHeartbeats 6400000 in
theorem number_big (w:World) (a:Option Addr) (cap:Nat) (rest:List Int) (hB:Byts rest) (hc:rest.length ≤ cap) (hr:0 < rest.length → ∃ b off,a = some ⟨b,off,none⟩ ∧ b < w.heap.size ∧ ∀ k,k < rest.length → w.cell? ⟨b,off + k,none⟩ = some (.int .u8 (rest.getD k 0))) (hl:(rest.length:Int) ≤ 140737488355328) (hbig:(9:Int) < rest.length) :
  Calls Tryz.prog 166 #[.slice a rest.length cap] w fun e w'=>w' = w ∧ NumPost rest e:=by
 have hcap:(9:Int) ≤ cap:=by omega
 go_enter Tryz.func166,Tryz.ntmps166
 go_wp2
 go_loop [5,14] (fun nv iv=>∃ k:Nat,k ≤ 9 ∧ k ≤ rest.length ∧ iv = .int .i64 k ∧ nv = .int .i64 (lo (rest.take k)) ∧ Hi (rest.take k)) (fun _ iv=>9 - (intOf iv).toNat)
 case atStart=>exact ⟨0,by omega,by omega,rfl,rfl,by simp [Hi]⟩
 case round=>
  obtain ⟨k,hk9,hkl,rfl,rfl,hhi⟩:=hrel
  by_cases hlt:k < 9
  ·obtain ⟨b,off,rfl,hbl,hcell⟩:=hr (by omega)
   have hck:=hcell k (by omega)
   obtain ⟨c,hc'⟩:∃ c,rest.getD k 0 = c:=⟨_,rfl⟩
   rw [hc'] at hck
   have hk8:k = 0 ∨ k = 1 ∨ k = 2 ∨ k = 3 ∨ k = 4 ∨ k = 5 ∨ k = 6 ∨ k = 7 ∨ k = 8:=by omega
   rcases hk8 with rfl | rfl | rfl | rfl | rfl | rfl | rfl | rfl | rfl
   ·obtain ⟨n,x,e1,e2,n0,n1,x0,x1,e3,hcb,hge,hlo⟩:=num_round rest 0 c 1 (by decide) (by omega) (by omega) hc' hB hhi
    rw [e1]
    have HR:Hid ((128 ≤ c → Hid (Hi (rest.take (0 + 1)) ∧ (lo (rest.take (0 + 1)):Int) = n + x * 1)) ∧ (c < 128 → Hid (c = x ∧ NumSpec rest (n + x * 1) ((0:Nat) + 1) (decide (0 < x) || decide ((0:Nat) = 0))))):=⟨hge,hlo⟩
    rw [Nat.add_zero] at hck
    rw [Int.mul_one] at e3
    clear hge hlo e1 hcell hr hhi hc' hB
    by_cases hs:c < 128
    ·have hcx:=(HR.out.2 hs).out.1
     have HN:Hid (NumSpec rest (n + x * 1) ((0:Nat) + 1) (decide (0 < x) || decide ((0:Nat) = 0))):=(HR.out.2 hs).out.2
     clear HR
     subst hcx
     by_cases hz:0 < c
     ·have HN':NumSpec rest (n + c) 1 true:=by simpa [hz] using HN.out
      clear HN
      go_wp2
      go_ret3
      exact ⟨rfl,num_post HN'⟩
     ·obtain rfl:c = 0:=by omega
      have HN':NumSpec rest n 1 true:=by simpa using HN.out
      clear HN
      go_wp2
      go_ret3
      exact ⟨rfl,num_post HN'⟩
    ·have HN:=HR.out.1 (by omega)
     go_wp2
     go_round
     case rel=>exact ⟨0 + 1,by omega,by omega,rfl,by first | (rw [HN.out.2];done) | (rw [HN.out.2];congr 1;omega),HN.out.1⟩
     case measure=>simp [intOf]
   ·obtain ⟨n,x,e1,e2,n0,n1,x0,x1,e3,hcb,hge,hlo⟩:=num_round rest 1 c 128 (by decide) (by omega) (by omega) hc' hB hhi
    rw [e1]
    have HR:Hid ((128 ≤ c → Hid (Hi (rest.take (1 + 1)) ∧ (lo (rest.take (1 + 1)):Int) = n + x * 128)) ∧ (c < 128 → Hid (c = x ∧ NumSpec rest (n + x * 128) ((1:Nat) + 1) (decide (0 < x) || decide ((1:Nat) = 0))))):=⟨hge,hlo⟩
    clear hge hlo e1 hcell hr hhi hc' hB
    by_cases hs:c < 128
    ·have hcx:=(HR.out.2 hs).out.1
     have HN:Hid (NumSpec rest (n + x * 128) ((1:Nat) + 1) (decide (0 < x) || decide ((1:Nat) = 0))):=(HR.out.2 hs).out.2
     clear HR
     subst hcx
     by_cases hz:0 < c
     ·have HN':NumSpec rest (n + c * 128) 2 true:=by simpa [hz] using HN.out
      clear HN
      go_wp2
      go_ret3
      exact ⟨rfl,num_post HN'⟩
     ·obtain rfl:c = 0:=by omega
      have HN':NumSpec rest n 2 false:=by simpa using HN.out
      clear HN
      go_wp2
      go_ret3
      exact ⟨rfl,num_post (num_false HN')⟩
    ·have HN:=HR.out.1 (by omega)
     go_wp2
     go_round
     case rel=>exact ⟨1 + 1,by omega,by omega,rfl,by first | (rw [HN.out.2];done) | (rw [HN.out.2];congr 1;omega),HN.out.1⟩
     case measure=>simp [intOf]
   ·obtain ⟨n,x,e1,e2,n0,n1,x0,x1,e3,hcb,hge,hlo⟩:=num_round rest 2 c 16384 (by decide) (by omega) (by omega) hc' hB hhi
    rw [e1]
    have HR:Hid ((128 ≤ c → Hid (Hi (rest.take (2 + 1)) ∧ (lo (rest.take (2 + 1)):Int) = n + x * 16384)) ∧ (c < 128 → Hid (c = x ∧ NumSpec rest (n + x * 16384) ((2:Nat) + 1) (decide (0 < x) || decide ((2:Nat) = 0))))):=⟨hge,hlo⟩
    clear hge hlo e1 hcell hr hhi hc' hB
    by_cases hs:c < 128
    ·have hcx:=(HR.out.2 hs).out.1
     have HN:Hid (NumSpec rest (n + x * 16384) ((2:Nat) + 1) (decide (0 < x) || decide ((2:Nat) = 0))):=(HR.out.2 hs).out.2
     clear HR
     subst hcx
     by_cases hz:0 < c
     ·have HN':NumSpec rest (n + c * 16384) 3 true:=by simpa [hz] using HN.out
      clear HN
      go_wp2
      go_ret3
      exact ⟨rfl,num_post HN'⟩
     ·obtain rfl:c = 0:=by omega
      have HN':NumSpec rest n 3 false:=by simpa using HN.out
      clear HN
      go_wp2
      go_ret3
      exact ⟨rfl,num_post (num_false HN')⟩
    ·have HN:=HR.out.1 (by omega)
     go_wp2
     go_round
     case rel=>exact ⟨2 + 1,by omega,by omega,rfl,by first | (rw [HN.out.2];done) | (rw [HN.out.2];congr 1;omega),HN.out.1⟩
     case measure=>simp [intOf]
   ·obtain ⟨n,x,e1,e2,n0,n1,x0,x1,e3,hcb,hge,hlo⟩:=num_round rest 3 c 2097152 (by decide) (by omega) (by omega) hc' hB hhi
    rw [e1]
    have HR:Hid ((128 ≤ c → Hid (Hi (rest.take (3 + 1)) ∧ (lo (rest.take (3 + 1)):Int) = n + x * 2097152)) ∧ (c < 128 → Hid (c = x ∧ NumSpec rest (n + x * 2097152) ((3:Nat) + 1) (decide (0 < x) || decide ((3:Nat) = 0))))):=⟨hge,hlo⟩
    clear hge hlo e1 hcell hr hhi hc' hB
    by_cases hs:c < 128
    ·have hcx:=(HR.out.2 hs).out.1
     have HN:Hid (NumSpec rest (n + x * 2097152) ((3:Nat) + 1) (decide (0 < x) || decide ((3:Nat) = 0))):=(HR.out.2 hs).out.2
     clear HR
     subst hcx
     by_cases hz:0 < c
     ·have HN':NumSpec rest (n + c * 2097152) 4 true:=by simpa [hz] using HN.out
      clear HN
      go_wp2
      go_ret3
      exact ⟨rfl,num_post HN'⟩
     ·obtain rfl:c = 0:=by omega
      have HN':NumSpec rest n 4 false:=by simpa using HN.out
      clear HN
      go_wp2
      go_ret3
      exact ⟨rfl,num_post (num_false HN')⟩
    ·have HN:=HR.out.1 (by omega)
     go_wp2
     go_round
     case rel=>exact ⟨3 + 1,by omega,by omega,rfl,by first | (rw [HN.out.2];done) | (rw [HN.out.2];congr 1;omega),HN.out.1⟩
     case measure=>simp [intOf]
   ·obtain ⟨n,x,e1,e2,n0,n1,x0,x1,e3,hcb,hge,hlo⟩:=num_round rest 4 c 268435456 (by decide) (by omega) (by omega) hc' hB hhi
    rw [e1]
    have HR:Hid ((128 ≤ c → Hid (Hi (rest.take (4 + 1)) ∧ (lo (rest.take (4 + 1)):Int) = n + x * 268435456)) ∧ (c < 128 → Hid (c = x ∧ NumSpec rest (n + x * 268435456) ((4:Nat) + 1) (decide (0 < x) || decide ((4:Nat) = 0))))):=⟨hge,hlo⟩
    clear hge hlo e1 hcell hr hhi hc' hB
    by_cases hs:c < 128
    ·have hcx:=(HR.out.2 hs).out.1
     have HN:Hid (NumSpec rest (n + x * 268435456) ((4:Nat) + 1) (decide (0 < x) || decide ((4:Nat) = 0))):=(HR.out.2 hs).out.2
     clear HR
     subst hcx
     by_cases hz:0 < c
     ·have HN':NumSpec rest (n + c * 268435456) 5 true:=by simpa [hz] using HN.out
      clear HN
      go_wp2
      go_ret3
      exact ⟨rfl,num_post HN'⟩
     ·obtain rfl:c = 0:=by omega
      have HN':NumSpec rest n 5 false:=by simpa using HN.out
      clear HN
      go_wp2
      go_ret3
      exact ⟨rfl,num_post (num_false HN')⟩
    ·have HN:=HR.out.1 (by omega)
     go_wp2
     go_round
     case rel=>exact ⟨4 + 1,by omega,by omega,rfl,by first | (rw [HN.out.2];done) | (rw [HN.out.2];congr 1;omega),HN.out.1⟩
     case measure=>simp [intOf]
   ·obtain ⟨n,x,e1,e2,n0,n1,x0,x1,e3,hcb,hge,hlo⟩:=num_round rest 5 c 34359738368 (by decide) (by omega) (by omega) hc' hB hhi
    rw [e1]
    have HR:Hid ((128 ≤ c → Hid (Hi (rest.take (5 + 1)) ∧ (lo (rest.take (5 + 1)):Int) = n + x * 34359738368)) ∧ (c < 128 → Hid (c = x ∧ NumSpec rest (n + x * 34359738368) ((5:Nat) + 1) (decide (0 < x) || decide ((5:Nat) = 0))))):=⟨hge,hlo⟩
    clear hge hlo e1 hcell hr hhi hc' hB
    by_cases hs:c < 128
    ·have hcx:=(HR.out.2 hs).out.1
     have HN:Hid (NumSpec rest (n + x * 34359738368) ((5:Nat) + 1) (decide (0 < x) || decide ((5:Nat) = 0))):=(HR.out.2 hs).out.2
     clear HR
     subst hcx
     by_cases hz:0 < c
     ·have HN':NumSpec rest (n + c * 34359738368) 6 true:=by simpa [hz] using HN.out
      clear HN
      go_wp2
      go_ret3
      exact ⟨rfl,num_post HN'⟩
     ·obtain rfl:c = 0:=by omega
      have HN':NumSpec rest n 6 false:=by simpa using HN.out
      clear HN
      go_wp2
      go_ret3
      exact ⟨rfl,num_post (num_false HN')⟩
    ·have HN:=HR.out.1 (by omega)
     go_wp2
     go_round
     case rel=>exact ⟨5 + 1,by omega,by omega,rfl,by first | (rw [HN.out.2];done) | (rw [HN.out.2];congr 1;omega),HN.out.1⟩
     case measure=>simp [intOf]
   ·obtain ⟨n,x,e1,e2,n0,n1,x0,x1,e3,hcb,hge,hlo⟩:=num_round rest 6 c 4398046511104 (by decide) (by omega) (by omega) hc' hB hhi
    rw [e1]
    have HR:Hid ((128 ≤ c → Hid (Hi (rest.take (6 + 1)) ∧ (lo (rest.take (6 + 1)):Int) = n + x * 4398046511104)) ∧ (c < 128 → Hid (c = x ∧ NumSpec rest (n + x * 4398046511104) ((6:Nat) + 1) (decide (0 < x) || decide ((6:Nat) = 0))))):=⟨hge,hlo⟩
    clear hge hlo e1 hcell hr hhi hc' hB
    by_cases hs:c < 128
    ·have hcx:=(HR.out.2 hs).out.1
     have HN:Hid (NumSpec rest (n + x * 4398046511104) ((6:Nat) + 1) (decide (0 < x) || decide ((6:Nat) = 0))):=(HR.out.2 hs).out.2
     clear HR
     subst hcx
     by_cases hz:0 < c
     ·have HN':NumSpec rest (n + c * 4398046511104) 7 true:=by simpa [hz] using HN.out
      clear HN
      go_wp2
      go_ret3
      exact ⟨rfl,num_post HN'⟩
     ·obtain rfl:c = 0:=by omega
      have HN':NumSpec rest n 7 false:=by simpa using HN.out
      clear HN
      go_wp2
      go_ret3
      exact ⟨rfl,num_post (num_false HN')⟩
    ·have HN:=HR.out.1 (by omega)
     go_wp2
     go_round
     case rel=>exact ⟨6 + 1,by omega,by omega,rfl,by first | (rw [HN.out.2];done) | (rw [HN.out.2];congr 1;omega),HN.out.1⟩
     case measure=>simp [intOf]
   ·obtain ⟨n,x,e1,e2,n0,n1,x0,x1,e3,hcb,hge,hlo⟩:=num_round rest 7 c 562949953421312 (by decide) (by omega) (by omega) hc' hB hhi
    rw [e1]
    have HR:Hid ((128 ≤ c → Hid (Hi (rest.take (7 + 1)) ∧ (lo (rest.take (7 + 1)):Int) = n + x * 562949953421312)) ∧ (c < 128 → Hid (c = x ∧ NumSpec rest (n + x * 562949953421312) ((7:Nat) + 1) (decide (0 < x) || decide ((7:Nat) = 0))))):=⟨hge,hlo⟩
    clear hge hlo e1 hcell hr hhi hc' hB
    by_cases hs:c < 128
    ·have hcx:=(HR.out.2 hs).out.1
     have HN:Hid (NumSpec rest (n + x * 562949953421312) ((7:Nat) + 1) (decide (0 < x) || decide ((7:Nat) = 0))):=(HR.out.2 hs).out.2
     clear HR
     subst hcx
     by_cases hz:0 < c
     ·have HN':NumSpec rest (n + c * 562949953421312) 8 true:=by simpa [hz] using HN.out
      clear HN
      go_wp2
      go_ret3
      exact ⟨rfl,num_post HN'⟩
     ·obtain rfl:c = 0:=by omega
      have HN':NumSpec rest n 8 false:=by simpa using HN.out
      clear HN
      go_wp2
      go_ret3
      exact ⟨rfl,num_post (num_false HN')⟩
    ·have HN:=HR.out.1 (by omega)
     go_wp2
     go_round
     case rel=>exact ⟨7 + 1,by omega,by omega,rfl,by first | (rw [HN.out.2];done) | (rw [HN.out.2];congr 1;omega),HN.out.1⟩
     case measure=>simp [intOf]
   ·obtain ⟨n,x,e1,e2,n0,n1,x0,x1,e3,hcb,hge,hlo⟩:=num_round rest 8 c 72057594037927936 (by decide) (by omega) (by omega) hc' hB hhi
    rw [e1]
    have HR:Hid ((128 ≤ c → Hid (Hi (rest.take (8 + 1)) ∧ (lo (rest.take (8 + 1)):Int) = n + x * 72057594037927936)) ∧ (c < 128 → Hid (c = x ∧ NumSpec rest (n + x * 72057594037927936) ((8:Nat) + 1) (decide (0 < x) || decide ((8:Nat) = 0))))):=⟨hge,hlo⟩
    clear hge hlo e1 hcell hr hhi hc' hB
    by_cases hs:c < 128
    ·have hcx:=(HR.out.2 hs).out.1
     have HN:Hid (NumSpec rest (n + x * 72057594037927936) ((8:Nat) + 1) (decide (0 < x) || decide ((8:Nat) = 0))):=(HR.out.2 hs).out.2
     clear HR
     subst hcx
     by_cases hz:0 < c
     ·have HN':NumSpec rest (n + c * 72057594037927936) 9 true:=by simpa [hz] using HN.out
      clear HN
      go_wp2
      go_ret3
      exact ⟨rfl,num_post HN'⟩
     ·obtain rfl:c = 0:=by omega
      have HN':NumSpec rest n 9 false:=by simpa using HN.out
      clear HN
      go_wp2
      go_ret3
      exact ⟨rfl,num_post (num_false HN')⟩
    ·have HN:=HR.out.1 (by omega)
     go_wp2
     go_round
     case rel=>exact ⟨8 + 1,by omega,by omega,rfl,by first | (rw [HN.out.2];done) | (rw [HN.out.2];congr 1;omega),HN.out.1⟩
     case measure=>simp [intOf]
  ·obtain rfl:k = 9:=by omega
   clear hr
   go_wp2
   go_ret3
   exact ⟨rfl,num_post (n:=0) (s:=0) (ok:=false) (.inr ⟨rfl,fun N r hN=>no_end rest hhi N (by omega) r⟩)⟩
set_option maxHeartbeats 6400000 in
theorem number_small (w:World) (a:Option Addr) (cap:Nat) (rest:List Int) (hB:Byts rest) (hc:rest.length ≤ cap) (hr:0 < rest.length → ∃ b off,a = some ⟨b,off,none⟩ ∧ b < w.heap.size ∧ ∀ k,k < rest.length → w.cell? ⟨b,off + k,none⟩ = some (.int .u8 (rest.getD k 0))) (hbig:¬ (9:Int) < rest.length) :
  Calls Tryz.prog 166 #[.slice a rest.length cap] w fun e w'=>w' = w ∧ NumPost rest e:=by
 go_enter Tryz.func166,Tryz.ntmps166
 go_wp2
 go_loop [5,14] (fun nv iv=>∃ k:Nat,k ≤ 9 ∧ k ≤ rest.length ∧ iv = .int .i64 k ∧ nv = .int .i64 (lo (rest.take k)) ∧ Hi (rest.take k)) (fun _ iv=>9 - (intOf iv).toNat)
 case atStart=>exact ⟨0,by omega,by omega,rfl,rfl,by simp [Hi]⟩
 case round=>
  obtain ⟨k,hk9,hkl,rfl,rfl,hhi⟩:=hrel
  by_cases hlt:k < rest.length
  ·obtain ⟨b,off,rfl,hbl,hcell⟩:=hr (by omega)
   have hck:=hcell k (by omega)
   obtain ⟨c,hc'⟩:∃ c,rest.getD k 0 = c:=⟨_,rfl⟩
   rw [hc'] at hck
   have hk8:k = 0 ∨ k = 1 ∨ k = 2 ∨ k = 3 ∨ k = 4 ∨ k = 5 ∨ k = 6 ∨ k = 7 ∨ k = 8:=by omega
   rcases hk8 with rfl | rfl | rfl | rfl | rfl | rfl | rfl | rfl | rfl
   ·obtain ⟨n,x,e1,e2,n0,n1,x0,x1,e3,hcb,hge,hlo⟩:=num_round rest 0 c 1 (by decide) (by omega) (by omega) hc' hB hhi
    rw [e1]
    have HR:Hid ((128 ≤ c → Hid (Hi (rest.take (0 + 1)) ∧ (lo (rest.take (0 + 1)):Int) = n + x * 1)) ∧ (c < 128 → Hid (c = x ∧ NumSpec rest (n + x * 1) ((0:Nat) + 1) (decide (0 < x) || decide ((0:Nat) = 0))))):=⟨hge,hlo⟩
    rw [Nat.add_zero] at hck
    rw [Int.mul_one] at e3
    clear hge hlo e1 hcell hr hhi hc' hB
    by_cases hs:c < 128
    ·have hcx:=(HR.out.2 hs).out.1
     have HN:Hid (NumSpec rest (n + x * 1) ((0:Nat) + 1) (decide (0 < x) || decide ((0:Nat) = 0))):=(HR.out.2 hs).out.2
     clear HR
     subst hcx
     by_cases hz:0 < c
     ·have HN':NumSpec rest (n + c) 1 true:=by simpa [hz] using HN.out
      clear HN
      go_wp2
      go_ret3
      exact ⟨rfl,num_post HN'⟩
     ·obtain rfl:c = 0:=by omega
      have HN':NumSpec rest n 1 true:=by simpa using HN.out
      clear HN
      go_wp2
      go_ret3
      exact ⟨rfl,num_post HN'⟩
    ·have HN:=HR.out.1 (by omega)
     go_wp2
     go_round
     case rel=>exact ⟨0 + 1,by omega,by omega,rfl,by first | (rw [HN.out.2];done) | (rw [HN.out.2];congr 1;omega),HN.out.1⟩
     case measure=>simp [intOf]
   ·obtain ⟨n,x,e1,e2,n0,n1,x0,x1,e3,hcb,hge,hlo⟩:=num_round rest 1 c 128 (by decide) (by omega) (by omega) hc' hB hhi
    rw [e1]
    have HR:Hid ((128 ≤ c → Hid (Hi (rest.take (1 + 1)) ∧ (lo (rest.take (1 + 1)):Int) = n + x * 128)) ∧ (c < 128 → Hid (c = x ∧ NumSpec rest (n + x * 128) ((1:Nat) + 1) (decide (0 < x) || decide ((1:Nat) = 0))))):=⟨hge,hlo⟩
    clear hge hlo e1 hcell hr hhi hc' hB
    by_cases hs:c < 128
    ·have hcx:=(HR.out.2 hs).out.1
     have HN:Hid (NumSpec rest (n + x * 128) ((1:Nat) + 1) (decide (0 < x) || decide ((1:Nat) = 0))):=(HR.out.2 hs).out.2
     clear HR
     subst hcx
     by_cases hz:0 < c
     ·have HN':NumSpec rest (n + c * 128) 2 true:=by simpa [hz] using HN.out
      clear HN
      go_wp2
      go_ret3
      exact ⟨rfl,num_post HN'⟩
     ·obtain rfl:c = 0:=by omega
      have HN':NumSpec rest n 2 false:=by simpa using HN.out
      clear HN
      go_wp2
      go_ret3
      exact ⟨rfl,num_post (num_false HN')⟩
    ·have HN:=HR.out.1 (by omega)
     go_wp2
     go_round
     case rel=>exact ⟨1 + 1,by omega,by omega,rfl,by first | (rw [HN.out.2];done) | (rw [HN.out.2];congr 1;omega),HN.out.1⟩
     case measure=>simp [intOf]
   ·obtain ⟨n,x,e1,e2,n0,n1,x0,x1,e3,hcb,hge,hlo⟩:=num_round rest 2 c 16384 (by decide) (by omega) (by omega) hc' hB hhi
    rw [e1]
    have HR:Hid ((128 ≤ c → Hid (Hi (rest.take (2 + 1)) ∧ (lo (rest.take (2 + 1)):Int) = n + x * 16384)) ∧ (c < 128 → Hid (c = x ∧ NumSpec rest (n + x * 16384) ((2:Nat) + 1) (decide (0 < x) || decide ((2:Nat) = 0))))):=⟨hge,hlo⟩
    clear hge hlo e1 hcell hr hhi hc' hB
    by_cases hs:c < 128
    ·have hcx:=(HR.out.2 hs).out.1
     have HN:Hid (NumSpec rest (n + x * 16384) ((2:Nat) + 1) (decide (0 < x) || decide ((2:Nat) = 0))):=(HR.out.2 hs).out.2
     clear HR
     subst hcx
     by_cases hz:0 < c
     ·have HN':NumSpec rest (n + c * 16384) 3 true:=by simpa [hz] using HN.out
      clear HN
      go_wp2
      go_ret3
      exact ⟨rfl,num_post HN'⟩
     ·obtain rfl:c = 0:=by omega
      have HN':NumSpec rest n 3 false:=by simpa using HN.out
      clear HN
      go_wp2
      go_ret3
      exact ⟨rfl,num_post (num_false HN')⟩
    ·have HN:=HR.out.1 (by omega)
     go_wp2
     go_round
     case rel=>exact ⟨2 + 1,by omega,by omega,rfl,by first | (rw [HN.out.2];done) | (rw [HN.out.2];congr 1;omega),HN.out.1⟩
     case measure=>simp [intOf]
   ·obtain ⟨n,x,e1,e2,n0,n1,x0,x1,e3,hcb,hge,hlo⟩:=num_round rest 3 c 2097152 (by decide) (by omega) (by omega) hc' hB hhi
    rw [e1]
    have HR:Hid ((128 ≤ c → Hid (Hi (rest.take (3 + 1)) ∧ (lo (rest.take (3 + 1)):Int) = n + x * 2097152)) ∧ (c < 128 → Hid (c = x ∧ NumSpec rest (n + x * 2097152) ((3:Nat) + 1) (decide (0 < x) || decide ((3:Nat) = 0))))):=⟨hge,hlo⟩
    clear hge hlo e1 hcell hr hhi hc' hB
    by_cases hs:c < 128
    ·have hcx:=(HR.out.2 hs).out.1
     have HN:Hid (NumSpec rest (n + x * 2097152) ((3:Nat) + 1) (decide (0 < x) || decide ((3:Nat) = 0))):=(HR.out.2 hs).out.2
     clear HR
     subst hcx
     by_cases hz:0 < c
     ·have HN':NumSpec rest (n + c * 2097152) 4 true:=by simpa [hz] using HN.out
      clear HN
      go_wp2
      go_ret3
      exact ⟨rfl,num_post HN'⟩
     ·obtain rfl:c = 0:=by omega
      have HN':NumSpec rest n 4 false:=by simpa using HN.out
      clear HN
      go_wp2
      go_ret3
      exact ⟨rfl,num_post (num_false HN')⟩
    ·have HN:=HR.out.1 (by omega)
     go_wp2
     go_round
     case rel=>exact ⟨3 + 1,by omega,by omega,rfl,by first | (rw [HN.out.2];done) | (rw [HN.out.2];congr 1;omega),HN.out.1⟩
     case measure=>simp [intOf]
   ·obtain ⟨n,x,e1,e2,n0,n1,x0,x1,e3,hcb,hge,hlo⟩:=num_round rest 4 c 268435456 (by decide) (by omega) (by omega) hc' hB hhi
    rw [e1]
    have HR:Hid ((128 ≤ c → Hid (Hi (rest.take (4 + 1)) ∧ (lo (rest.take (4 + 1)):Int) = n + x * 268435456)) ∧ (c < 128 → Hid (c = x ∧ NumSpec rest (n + x * 268435456) ((4:Nat) + 1) (decide (0 < x) || decide ((4:Nat) = 0))))):=⟨hge,hlo⟩
    clear hge hlo e1 hcell hr hhi hc' hB
    by_cases hs:c < 128
    ·have hcx:=(HR.out.2 hs).out.1
     have HN:Hid (NumSpec rest (n + x * 268435456) ((4:Nat) + 1) (decide (0 < x) || decide ((4:Nat) = 0))):=(HR.out.2 hs).out.2
     clear HR
     subst hcx
     by_cases hz:0 < c
     ·have HN':NumSpec rest (n + c * 268435456) 5 true:=by simpa [hz] using HN.out
      clear HN
      go_wp2
      go_ret3
      exact ⟨rfl,num_post HN'⟩
     ·obtain rfl:c = 0:=by omega
      have HN':NumSpec rest n 5 false:=by simpa using HN.out
      clear HN
      go_wp2
      go_ret3
      exact ⟨rfl,num_post (num_false HN')⟩
    ·have HN:=HR.out.1 (by omega)
     go_wp2
     go_round
     case rel=>exact ⟨4 + 1,by omega,by omega,rfl,by first | (rw [HN.out.2];done) | (rw [HN.out.2];congr 1;omega),HN.out.1⟩
     case measure=>simp [intOf]
   ·obtain ⟨n,x,e1,e2,n0,n1,x0,x1,e3,hcb,hge,hlo⟩:=num_round rest 5 c 34359738368 (by decide) (by omega) (by omega) hc' hB hhi
    rw [e1]
    have HR:Hid ((128 ≤ c → Hid (Hi (rest.take (5 + 1)) ∧ (lo (rest.take (5 + 1)):Int) = n + x * 34359738368)) ∧ (c < 128 → Hid (c = x ∧ NumSpec rest (n + x * 34359738368) ((5:Nat) + 1) (decide (0 < x) || decide ((5:Nat) = 0))))):=⟨hge,hlo⟩
    clear hge hlo e1 hcell hr hhi hc' hB
    by_cases hs:c < 128
    ·have hcx:=(HR.out.2 hs).out.1
     have HN:Hid (NumSpec rest (n + x * 34359738368) ((5:Nat) + 1) (decide (0 < x) || decide ((5:Nat) = 0))):=(HR.out.2 hs).out.2
     clear HR
     subst hcx
     by_cases hz:0 < c
     ·have HN':NumSpec rest (n + c * 34359738368) 6 true:=by simpa [hz] using HN.out
      clear HN
      go_wp2
      go_ret3
      exact ⟨rfl,num_post HN'⟩
     ·obtain rfl:c = 0:=by omega
      have HN':NumSpec rest n 6 false:=by simpa using HN.out
      clear HN
      go_wp2
      go_ret3
      exact ⟨rfl,num_post (num_false HN')⟩
    ·have HN:=HR.out.1 (by omega)
     go_wp2
     go_round
     case rel=>exact ⟨5 + 1,by omega,by omega,rfl,by first | (rw [HN.out.2];done) | (rw [HN.out.2];congr 1;omega),HN.out.1⟩
     case measure=>simp [intOf]
   ·obtain ⟨n,x,e1,e2,n0,n1,x0,x1,e3,hcb,hge,hlo⟩:=num_round rest 6 c 4398046511104 (by decide) (by omega) (by omega) hc' hB hhi
    rw [e1]
    have HR:Hid ((128 ≤ c → Hid (Hi (rest.take (6 + 1)) ∧ (lo (rest.take (6 + 1)):Int) = n + x * 4398046511104)) ∧ (c < 128 → Hid (c = x ∧ NumSpec rest (n + x * 4398046511104) ((6:Nat) + 1) (decide (0 < x) || decide ((6:Nat) = 0))))):=⟨hge,hlo⟩
    clear hge hlo e1 hcell hr hhi hc' hB
    by_cases hs:c < 128
    ·have hcx:=(HR.out.2 hs).out.1
     have HN:Hid (NumSpec rest (n + x * 4398046511104) ((6:Nat) + 1) (decide (0 < x) || decide ((6:Nat) = 0))):=(HR.out.2 hs).out.2
     clear HR
     subst hcx
     by_cases hz:0 < c
     ·have HN':NumSpec rest (n + c * 4398046511104) 7 true:=by simpa [hz] using HN.out
      clear HN
      go_wp2
      go_ret3
      exact ⟨rfl,num_post HN'⟩
     ·obtain rfl:c = 0:=by omega
      have HN':NumSpec rest n 7 false:=by simpa using HN.out
      clear HN
      go_wp2
      go_ret3
      exact ⟨rfl,num_post (num_false HN')⟩
    ·have HN:=HR.out.1 (by omega)
     go_wp2
     go_round
     case rel=>exact ⟨6 + 1,by omega,by omega,rfl,by first | (rw [HN.out.2];done) | (rw [HN.out.2];congr 1;omega),HN.out.1⟩
     case measure=>simp [intOf]
   ·obtain ⟨n,x,e1,e2,n0,n1,x0,x1,e3,hcb,hge,hlo⟩:=num_round rest 7 c 562949953421312 (by decide) (by omega) (by omega) hc' hB hhi
    rw [e1]
    have HR:Hid ((128 ≤ c → Hid (Hi (rest.take (7 + 1)) ∧ (lo (rest.take (7 + 1)):Int) = n + x * 562949953421312)) ∧ (c < 128 → Hid (c = x ∧ NumSpec rest (n + x * 562949953421312) ((7:Nat) + 1) (decide (0 < x) || decide ((7:Nat) = 0))))):=⟨hge,hlo⟩
    clear hge hlo e1 hcell hr hhi hc' hB
    by_cases hs:c < 128
    ·have hcx:=(HR.out.2 hs).out.1
     have HN:Hid (NumSpec rest (n + x * 562949953421312) ((7:Nat) + 1) (decide (0 < x) || decide ((7:Nat) = 0))):=(HR.out.2 hs).out.2
     clear HR
     subst hcx
     by_cases hz:0 < c
     ·have HN':NumSpec rest (n + c * 562949953421312) 8 true:=by simpa [hz] using HN.out
      clear HN
      go_wp2
      go_ret3
      exact ⟨rfl,num_post HN'⟩
     ·obtain rfl:c = 0:=by omega
      have HN':NumSpec rest n 8 false:=by simpa using HN.out
      clear HN
      go_wp2
      go_ret3
      exact ⟨rfl,num_post (num_false HN')⟩
    ·have HN:=HR.out.1 (by omega)
     go_wp2
     go_round
     case rel=>exact ⟨7 + 1,by omega,by omega,rfl,by first | (rw [HN.out.2];done) | (rw [HN.out.2];congr 1;omega),HN.out.1⟩
     case measure=>simp [intOf]
   ·obtain ⟨n,x,e1,e2,n0,n1,x0,x1,e3,hcb,hge,hlo⟩:=num_round rest 8 c 72057594037927936 (by decide) (by omega) (by omega) hc' hB hhi
    rw [e1]
    have HR:Hid ((128 ≤ c → Hid (Hi (rest.take (8 + 1)) ∧ (lo (rest.take (8 + 1)):Int) = n + x * 72057594037927936)) ∧ (c < 128 → Hid (c = x ∧ NumSpec rest (n + x * 72057594037927936) ((8:Nat) + 1) (decide (0 < x) || decide ((8:Nat) = 0))))):=⟨hge,hlo⟩
    clear hge hlo e1 hcell hr hhi hc' hB
    by_cases hs:c < 128
    ·have hcx:=(HR.out.2 hs).out.1
     have HN:Hid (NumSpec rest (n + x * 72057594037927936) ((8:Nat) + 1) (decide (0 < x) || decide ((8:Nat) = 0))):=(HR.out.2 hs).out.2
     clear HR
     subst hcx
     by_cases hz:0 < c
     ·have HN':NumSpec rest (n + c * 72057594037927936) 9 true:=by simpa [hz] using HN.out
      clear HN
      go_wp2
      go_ret3
      exact ⟨rfl,num_post HN'⟩
     ·obtain rfl:c = 0:=by omega
      have HN':NumSpec rest n 9 false:=by simpa using HN.out
      clear HN
      go_wp2
      go_ret3
      exact ⟨rfl,num_post (num_false HN')⟩
    ·have HN:=HR.out.1 (by omega)
     go_wp2
     go_round
     case rel=>exact ⟨8 + 1,by omega,by omega,rfl,by first | (rw [HN.out.2];done) | (rw [HN.out.2];congr 1;omega),HN.out.1⟩
     case measure=>simp [intOf]
  ·obtain rfl:k = rest.length:=by omega
   clear hr
   go_wp2
   go_ret3
   exact ⟨rfl,num_post (n:=0) (s:=0) (ok:=false) (.inr ⟨rfl,fun N r hN=>no_end rest (by rw [List.take_of_length_le (by omega)] at hhi ⊢;exact hhi) N (by omega) r⟩)⟩
theorem number_any (w:World) (v:Value) (rest:List Int) (h:Rd w v rest) (hl:(rest.length:Int) ≤ 140737488355328) :
  Calls Tryz.prog 166 #[v] w fun e w'=>w' = w ∧ NumPost rest e:=by
 obtain ⟨hB,a,cap,rfl,hc,h0,hr⟩:=h
 by_cases hbig:(9:Int) < rest.length
 ·exact number_big w a cap rest hB hc hr hl hbig
 ·exact number_small w a cap rest hB hc hr hbig
theorem size1r (W:World):(Go.sizeOf 5).run Tryz.prog W = .ok 1 W:=by
 obtain ⟨i0,hi,hz0,hz1,hz2⟩:=info_parts Tryz.info5
 simp [Go.sizeOf,typeInfo,hi,hz1]
theorem elem27:Tryz.prog.underlying 74 = some (.slice (Tryz.prog.elem 74)) ∧ Tryz.prog.elem 74 = 5:=by
 simp [Program.elem,Tryz.underlying74]
theorem Rd.sliced {w:World} {a:Option Addr} {cap f t:Nat} {bs:List Int} (h:Rd w (.slice a bs.length cap) bs) (h1:f ≤ t) (h2:t ≤ bs.length):Rd w (Go.sliced a f t cap 1) ((bs.drop f).take (t - f)):=by
 obtain ⟨hB,a',cap',e,hc,h0,hr⟩:=h
 simp at e
 obtain ⟨rfl,rfl⟩:=e
 have hl:((bs.drop f).take (t - f)).length = t - f:=by rw [List.length_take,List.length_drop];omega
 refine ⟨(hB.drop f).take _,_,cap - f,by unfold Go.sliced;rw [hl],by omega,?_,fun hp=>?_⟩
 ·intro e
  split at e
  ·have:=h0 e;omega
  ·have:=h0 (by simpa using e);omega
 ·obtain ⟨b,off,rfl,hlt,hcell⟩:=hr (by omega)
  refine ⟨b,off + f,?_,hlt,fun k hk=>?_⟩
  ·rw [if_neg (by omega)]
   simp [add_none]
  ·rw [Nat.add_assoc,hcell (f + k) (by omega)]
   have:k < t - f:=by omega
   simp [List.getD,List.getElem?_drop,this]
theorem Rd.tailN {w:World} {v:Value} {f:Nat} {bs:List Int} (h:Rd w v bs) (h1:f ≤ bs.length) :
  ∃ v',(∀ W,(Instr.slice 74 v (some (.int .i64 (f:Int))) none none).run Tryz.prog W = .ok v' W) ∧ Rd w v' (bs.drop f):=by
 obtain ⟨a,cap,rfl⟩:∃ a c,v = .slice a bs.length c:=h.2.imp fun a h=>h.imp fun c h=>h.1
 refine ⟨Go.sliced a f bs.length cap 1,fun W=>?_,?_⟩
 ·rw [run_slice_l W 74 _ _ _ elem27.1 .i64 _ (by omega) (by omega),elem27.2,size1r]
  simp [Result.andThen]
 ·have:=h.sliced h1 (Nat.le_refl _)
  rwa [List.take_of_length_le (by rw [List.length_drop];omega)] at this
theorem Rd.midN {w:World} {v:Value} {f t:Nat} {bs:List Int} (h:Rd w v bs) (h1:f ≤ t) (h2:t ≤ bs.length) :
  ∃ v',(∀ W,(Instr.slice 74 v (some (.int .i64 (f:Int))) (some (.int .i64 (t:Int))) none).run Tryz.prog W = .ok v' W) ∧ Rd w v' ((bs.drop f).take (t - f)):=by
 obtain ⟨hB,a,cap,rfl,hc,_⟩:=id h
 refine ⟨Go.sliced a f t cap 1,fun W=>?_,h.sliced h1 h2⟩
 rw [run_slice_lh W 74 _ _ _ elem27.1 .i64 .i64 _ _ (by omega) (by omega) (by omega),elem27.2,size1r]
 simp [Result.andThen]
def Rr (F:Nat → Prop) (w:World) (p:Nat) (bs:List Int) (i:Nat):Prop:=
 (∀ k,F k → k < w.heap.size) ∧ F p ∧ i ≤ bs.length ∧ ∃ v,w.heap[p]? = some (.cells #[v,.int .i64 (i:Int)] 242 (0,0)) ∧ (∀ k,v.ownBlock = some k → F k ∧ k ≠ p) ∧ Byts bs ∧ w.ownsRow 0 5 1 v bs.length (bs.map (Value.int .u8))
theorem Rr.kept {F G:Nat → Prop} {w w':World} {p:Nat} {bs:List Int} {i:Nat} (h:Rr F w p bs i) (hk:Kept G w w') (hn:∀ k,F k → ¬ G k):Rr F w' p bs i:=by
 obtain ⟨hF,hp,hi,v,hv,hb,hB,ho⟩:=h
 refine ⟨fun k hk'=>Nat.lt_of_lt_of_le (hF k hk') hk.size,hp,hi,v,?_,hb,hB,ho.1,?_⟩
 ·rw [hk.block p (hF p hp) (hn p hp)];exact hv
 ·rcases ho.2 with h1 | ⟨g,cap,cur,rfl,hbg,hg,rest⟩
  ·exact .inl h1
  ·have:=(hb g rfl).1
   exact .inr ⟨g,cap,cur,rfl,hbg,by rw [hk.block g (hF g this) (hn g this)];exact hg,rest⟩
theorem Rr.below {F:Nat → Prop} {w w':World} {p:Nat} {bs:List Int} {i:Nat} (h:Rr F w p bs i) (hb:Below w.heap.size w w'):Rr F w' p bs i:=
 h.kept (kept_of_below hb) (fun k hk hge=>by have:=h.1 k hk;omega)
theorem Rr.parts {F:Nat → Prop} {w:World} {p:Nat} {bs:List Int} {i:Nat} (h:Rr F w p bs i):∃ v,w.cell? ⟨p,0,none⟩ = some v ∧ w.cell? ⟨p,1,none⟩ = some (.int .i64 (i:Int)) ∧ w.frozen? ⟨p,1,none⟩ = false ∧ Rd w v bs ∧ i ≤ bs.length:=by
 obtain ⟨hF,hp,hi,v,hv,hb,hB,ho⟩:=h
 exact ⟨v,cell_of_block hv rfl,cell_of_block hv rfl,frozen_of_block hv,Rd.of_owns hB ho,hi⟩
theorem Rr.move {F:Nat → Prop} {w:World} {p:Nat} {bs:List Int} {i:Nat} (h:Rr F w p bs i) (j:Nat) (hj:j ≤ bs.length):Rr F (w.setCell ⟨p,1,none⟩ (.int .i64 (j:Int))) p bs j ∧ Kept F w (w.setCell ⟨p,1,none⟩ (.int .i64 (j:Int))):=by
 obtain ⟨hF,hp,hi,v,hv,hb,hB,ho⟩:=h
 refine ⟨⟨fun k hk=>by simpa [World.setCell] using hF k hk,hp,hj,v,by rw [heap_set hv];rfl,hb,hB,?_⟩,Kept.setCell _ hp _⟩
 refine ho.kept (row:=some p) ⟨rfl,rfl,rfl,by simp [World.setCell],fun k _ hk=>Below.heap_setCell _ _ _ _ (fun e=>hk (by rw [e]))⟩ (.inr ?_)
 intro e
 exact (hb p e).2 rfl
theorem Rr.drewN {F:Nat → Prop} {w:World} {p:Nat} {bs:List Int} {i:Nat} (h:Rr F w p bs i) (k:Nat):Rr F (w.drewN k) p bs i:=h.below ⟨rfl,rfl,rfl,Nat.le_refl _,fun _ _=>rfl⟩
set_option maxHeartbeats 1600000 in
theorem newReader_any (w:World) (v:Value) (bs:List Int) (h:Rd w v bs) (hl:(bs.length:Int) ≤ 140737488355328) :
  Calls Tryz.prog 122 #[v] w fun e w'=>∃ p F,e = .returned (.pointer (some ⟨p,0,none⟩)) ∧ Rr F w' p bs 0 ∧ (∀ k,F k → w.heap.size ≤ k) ∧ Below w.heap.size w w':=by
 go_enter Tryz.func122,Tryz.ntmps122
 go_wp2_with (go_at_call 69;refine (clone_any _ v bs h hl).mono ?_;rintro e w1 ⟨v1,rfl,ho,hb⟩;obtain ⟨a1,c1,hv1⟩:=own_shape ho;subst hv1)
 go_ret
 have hs:=hb.size
 refine ⟨w1.heap.size,fun k=>w.heap.size ≤ k ∧ k ≤ w1.heap.size,rfl,⟨fun k hk=>by simp;omega,⟨hs,Nat.le_refl _⟩,Nat.zero_le _,_,heap_alloc_new w1 _,?_,h.1,?_⟩,fun k hk=>hk.1,hb.alloc hs _⟩
 ·intro k hk
  have:=ho.lt k hk
  omega
 ·have:=ho.alloc (.cells #[.slice a1 bs.length c1,.int .i64 ((0:Nat):Int)] 242)
  refine ⟨this.1,this.2.imp id ?_⟩
  rintro ⟨g,cap,cur,e,hg,rest⟩
  exact ⟨g,cap,cur,e,Nat.zero_le _,rest⟩
theorem cell_lat {w w':World} {a:Addr} {v:Value} (hb:Below w.heap.size w w') (h:w.cell? a = some v):w'.cell? a = some v:=
 (kept_of_below hb).cell h (by have:=World.block_lt_of_cell? w _ h;omega)
set_option maxHeartbeats 3200000 in
theorem left_any (F:Nat → Prop) (w:World) (p:Nat) (bs:List Int) (i:Nat) (h:Rr F w p bs i) (hl:(bs.length:Int) ≤ 140737488355328) :
  Calls Tryz.prog 153 #[.pointer (some ⟨p,0,none⟩)] w fun e w'=>e = .returned (.int .i64 ((bs.length:Int) - i)) ∧ ∃ n,w' = w.drewN n:=by
 obtain ⟨v,c0,c1,f1,hr,hi⟩:=h.parts
 obtain ⟨a,cap,rfl⟩:∃ a c,v = .slice a bs.length c:=hr.2.imp fun a h=>h.imp fun c h=>h.1
 have hw:wrap64 ((bs.length:Int) - i) = (bs.length:Int) - i:=by unfold wrap64;omega
 have hsub:(0:Int) ≤ (bs.length:Int) - i:=by omega
 clear hr h
 go_enter Tryz.func153,Tryz.ntmps153
 go_wp2
 go_quiet (fail)
 go_wp2
 go_ret
 exact ⟨rfl,_,rfl⟩
theorem Rd.dr {w:World} {v:Value} {bs:List Int} (h:Rd w v bs):Rd w.drew v bs:=h.later ⟨rfl,rfl,rfl,Nat.le_refl _,fun _ _=>rfl⟩
def RnumPost (F:Nat → Prop) (w:World) (p:Nat) (bs:List Int) (i:Nat) (most:Int) (ev:Value) (e:Ending) (w':World):Prop:=
 (∃ (N:Nat) (r:List Int),bs.drop i = enc N ++ r ∧ (N:Int) ≤ 9223372036854775807 ∧ (N:Int) ≤ most ∧ e = .returned (.tuple #[.int .i64 (N:Int),.nilIface]) ∧ Rr F w' p bs (i + (enc N).length) ∧ Kept F w w') ∨
 ((∀ (N:Nat) (r:List Int),(N:Int) ≤ 9223372036854775807 → (N:Int) ≤ most → bs.drop i ≠ enc N ++ r) ∧ e = .returned (.tuple #[.int .i64 0,ev]) ∧ Rr F w' p bs i ∧ Kept F w w')
theorem Rr.dr {F:Nat → Prop} {w:World} {p:Nat} {bs:List Int} {i:Nat} (h:Rr F w p bs i):Rr F w.drew p bs i:=h.below ⟨rfl,rfl,rfl,Nat.le_refl _,fun _ _=>rfl⟩
set_option maxHeartbeats 3200000 in
theorem rnum_any (F:Nat → Prop) (w:World) (p:Nat) (bs:List Int) (i:Nat) (most:Int) (ev:Value) (h:Rr F w p bs i) (hl:(bs.length:Int) ≤ 140737488355328) (he:w.cell? ⟨4,0,none⟩ = some ev) :
  Calls Tryz.prog 139 #[.pointer (some ⟨p,0,none⟩),.int .i64 most] w fun e w'=>RnumPost F w p bs i most ev e w':=by
 obtain ⟨v,c0,c1,f1,hr,hi⟩:=h.parts
 obtain ⟨v2,hsl,hr2⟩:=hr.tailN hi
 have hl2:((bs.drop i).length:Int) ≤ 140737488355328:=by rw [List.length_drop];omega
 clear hr
 go_enter Tryz.func139,Tryz.ntmps139
 go_wp2
 go_region_with (go_at_call 166;refine (number_any _ v2 (bs.drop i) hr2.dr hl2).mono ?_;rintro e wx ⟨hw,n,s,ok,rfl,hsp⟩;rw [hw];clear hw)
 all_goals
  rcases hsp with ⟨rfl,N,r,rfl,hN,rfl,hd⟩ | ⟨rfl,hno⟩
  ·have hlen:=congrArg List.length hd
   rw [List.length_drop,List.length_append] at hlen
   have HD:Hid (bs.drop i = enc N ++ r):=hd
   clear hd
   by_cases hm:(N:Int) ≤ most
   ·have hmv:=h.dr.move (i + (enc N).length) (by omega)
    rw [Int.natCast_add] at hmv
    have HMV:Hid (Rr F (w.drew.setCell ⟨p,1,none⟩ (.int .i64 ((i:Int) + ((enc N).length:Int)))) p bs (i + (enc N).length) ∧ Kept F w (w.drew.setCell ⟨p,1,none⟩ (.int .i64 ((i:Int) + ((enc N).length:Int))))):=⟨hmv.1,(Kept.drew F w).trans hmv.2 (fun k hk=>.inl hk)⟩
    clear hmv
    go_wp2
    go_ret2
    exact .inl ⟨N,r,HD.out,hN,hm,rfl,HMV.out.1,HMV.out.2⟩
   ·have hgt:most < (N:Int):=by omega
    go_wp2
    go_region
    all_goals go_wp2
    all_goals go_ret2
    all_goals exact .inr ⟨fun M r' hM hM' e=>by obtain ⟨rfl,_⟩:=enc_free N M r r' (HD.out.symm.trans e);omega,rfl,h.below ⟨rfl,rfl,rfl,Nat.le_refl _,fun _ _=>rfl⟩,⟨rfl,rfl,rfl,Nat.le_refl _,fun _ _ _=>rfl⟩⟩
  ·have HD:Hid (∀ (N:Nat) (r:List Int),(N:Int) ≤ 9223372036854775807 → bs.drop i ≠ enc N ++ r):=hno
   clear hno
   go_wp2
   go_region
   all_goals go_wp2
   all_goals go_ret2
   all_goals exact .inr ⟨fun M r' hM _=>HD.out M r' hM,rfl,h.below ⟨rfl,rfl,rfl,Nat.le_refl _,fun _ _=>rfl⟩,⟨rfl,rfl,rfl,Nat.le_refl _,fun _ _ _=>rfl⟩⟩
def PieceYes (bs:List Int) (i:Nat) (most:Int) (N:Nat) (r:List Int):Prop:=bs.drop i = enc N ++ r ∧ (N:Int) ≤ most ∧ N ≤ r.length
def PieceNo (bs:List Int) (i:Nat) (most:Int):Prop:=∀ (N:Nat) (r:List Int),¬ PieceYes bs i most N r
def PiecePost (F:Nat → Prop) (w:World) (p:Nat) (bs:List Int) (i:Nat) (most:Int) (ev:Value) (e:Ending) (w':World):Prop:=
 (∃ (N:Nat) (r:List Int) (v:Value),PieceYes bs i most N r ∧ e = .returned (.tuple #[v,.nilIface]) ∧ Rd w' v (r.take N) ∧ Rr F w' p bs (i + (enc N).length + N) ∧ Kept F w w') ∨
 (PieceNo bs i most ∧ e = .returned (.tuple #[.slice none 0 0,ev]) ∧ Rr F w' p bs i ∧ Kept F w w')
theorem piece_parts {bs:List Int} {i N:Nat} {r:List Int} (hd:bs.drop i = enc N ++ r) (hi:i ≤ bs.length):bs.length = i + (enc N).length + r.length ∧ bs.drop (i + (enc N).length) = r:=by
 have hlen:=congrArg List.length hd
 rw [List.length_drop,List.length_append] at hlen
 refine ⟨by omega,?_⟩
 rw [← List.drop_drop,hd,List.drop_left]
theorem rd_set {F:Nat → Prop} {w:World} {p:Nat} {bs:List Int} {i:Nat} (h:Rr F w p bs i) {v v3:Value} {x:Value} {f t:Nat} (c0:w.cell? ⟨p,0,none⟩ = some v) (h1:f ≤ t) (h2:t ≤ bs.length)
  (h3:∀ W,(Instr.slice 74 v (some (.int .i64 (f:Int))) (some (.int .i64 (t:Int))) none).run Tryz.prog W = .ok v3 W):Rd (w.setCell ⟨p,1,none⟩ x) v3 ((bs.drop f).take (t - f)):=by
 obtain ⟨hF,hp,hi,v',hv,hb,hB,ho⟩:=h
 have e:v' = v:=by
  have:=cell_of_block (i:=0) hv rfl
  rw [this] at c0
  simpa using c0
 subst e
 have ho':(w.setCell ⟨p,1,none⟩ x).ownsRow 0 5 1 v' bs.length (bs.map (Value.int .u8)):=by
  refine ho.kept (row:=some p) ⟨rfl,rfl,rfl,by simp [World.setCell],fun k _ hk=>Below.heap_setCell _ _ _ _ (fun e=>hk (by rw [e]))⟩ (.inr ?_)
  intro e
  exact (hb p e).2 rfl
 obtain ⟨v4,h4,hr⟩:=(Rd.of_owns hB ho').midN h1 h2
 have:v4 = v3:=by
  have a:=h3 w
  rw [h4 w] at a
  simpa using a
 rwa [this] at hr
set_option maxHeartbeats 6400000 in
theorem piece_any (F:Nat → Prop) (w:World) (p:Nat) (bs:List Int) (i:Nat) (most:Int) (ev:Value) (h:Rr F w p bs i) (hl:(bs.length:Int) ≤ 140737488355328) (he:w.cell? ⟨4,0,none⟩ = some ev) :
  Calls Tryz.prog 178 #[.pointer (some ⟨p,0,none⟩),.int .i64 most] w fun e w'=>PiecePost F w p bs i most ev e w':=by
 obtain ⟨v,c0,c1,f1,hr,hi⟩:=h.parts
 obtain ⟨v2,hsl,hr2⟩:=hr.tailN hi
 have hl2:((bs.drop i).length:Int) ≤ 140737488355328:=by rw [List.length_drop];omega
 have sd:∀ (W:World) (j:Nat) (x:Addr) (u:Value),(W.drewN j).setCell x u = (W.setCell x u).drewN j:=fun _ _ _ _=>rfl
 go_enter Tryz.func178,Tryz.ntmps178
 go_wp2
 go_region_with (go_at_call 166;refine (number_any _ v2 (bs.drop i) hr2.dr hl2).mono ?_;rintro e wx ⟨hw,n,s,ok,rfl,hsp⟩;rw [hw];clear hw)
 all_goals
  rcases hsp with ⟨rfl,N,r,rfl,hN,rfl,hd⟩ | ⟨rfl,hno⟩
  ·obtain ⟨hp1,hp2⟩:=piece_parts hd hi
   have HD:Hid (bs.drop i = enc N ++ r):=hd
   clear hd hr2
   by_cases hm:(N:Int) ≤ most
   ·by_cases hf:N ≤ r.length
    ·obtain ⟨v3,hs3,hr3⟩:=hr.midN (f:=i + (enc N).length) (t:=i + (enc N).length + N) (by omega) (by omega)
     have hmv:=h.dr.move (i + (enc N).length + N) (by omega)
     have hrs:=fun x=>rd_set (x:=x) h c0 (by omega) (by omega) hs3
     rw [hp2,show i + (enc N).length + N - (i + (enc N).length) = N by omega] at hrs
     rw [Int.natCast_add,Int.natCast_add] at hmv
     simp only [Int.natCast_add] at hs3
     have HMV:Hid (Rr F (w.drew.setCell ⟨p,1,none⟩ (.int .i64 ((i:Int) + ((enc N).length:Int) + (N:Int)))) p bs (i + (enc N).length + N) ∧ Kept F w (w.drew.setCell ⟨p,1,none⟩ (.int .i64 ((i:Int) + ((enc N).length:Int) + (N:Int)))) ∧ Rd (w.setCell ⟨p,1,none⟩ (.int .i64 ((i:Int) + ((enc N).length:Int) + (N:Int)))) v3 (r.take N)):=⟨hmv.1,(Kept.drew F w).trans hmv.2 (fun k hk=>.inl hk),hrs _⟩
     have HP:Hid (PieceYes bs i most N r):=⟨HD.out,hm,hf⟩
     have hfi:(N:Int) ≤ (bs.length:Int) - i - ((enc N).length:Int):=by omega
     clear hmv hrs hr3 hr HD hp1 hp2
     go_wp2_with (go_at_call 153;refine (left_any F _ p bs i h.dr hl).mono ?_;rintro e wy ⟨rfl,nq,hw⟩;rw [hw];clear hw)
     go_quiet (fail)
     go_wp2
     go_ret2
     exact .inl ⟨N,r,v3,HP.out,rfl,HMV.out.2.2.later ⟨rfl,rfl,rfl,Nat.le_refl _,fun _ _=>rfl⟩,HMV.out.1.below ⟨rfl,rfl,rfl,Nat.le_refl _,fun _ _=>rfl⟩,HMV.out.2.1.trans (G:=F) ⟨rfl,rfl,rfl,Nat.le_refl _,fun _ _ _=>rfl⟩ (fun k hk=>.inl hk)⟩
    ·have HQ:Hid (PieceNo bs i most):=mkHid (fun M r' hy=>by obtain ⟨e,_,hf'⟩:=hy;obtain ⟨rfl,rfl⟩:=enc_free N M r r' (HD.out.symm.trans e);exact hf hf')
     have hfi:(bs.length:Int) - i - ((enc N).length:Int) < (N:Int):=by omega
     have hr0:(0:Int) ≤ (bs.length:Int) - i - ((enc N).length:Int):=by omega
     clear HD hp1 hp2 hr
     go_wp2_with (go_at_call 153;refine (left_any F _ p bs i h.dr hl).mono ?_;rintro e wy ⟨rfl,nq,hw⟩;rw [hw];clear hw)
     go_region
     all_goals go_wp2
     all_goals go_ret2
     all_goals exact .inr ⟨HQ.out,rfl,h.below ⟨rfl,rfl,rfl,Nat.le_refl _,fun _ _=>rfl⟩,⟨rfl,rfl,rfl,Nat.le_refl _,fun _ _ _=>rfl⟩⟩
   ·have HQ:Hid (PieceNo bs i most):=mkHid (fun M r' hy=>by obtain ⟨e,hm',_⟩:=hy;obtain ⟨rfl,_⟩:=enc_free N M r r' (HD.out.symm.trans e);omega)
    have hgt:most < (N:Int):=by omega
    clear HD hp1 hp2 hr
    go_wp2
    go_region
    all_goals go_wp2
    all_goals go_ret2
    all_goals exact .inr ⟨HQ.out,rfl,h.below ⟨rfl,rfl,rfl,Nat.le_refl _,fun _ _=>rfl⟩,⟨rfl,rfl,rfl,Nat.le_refl _,fun _ _ _=>rfl⟩⟩
  ·have HQ:Hid (PieceNo bs i most):=mkHid (fun M r' hy=>by
    obtain ⟨e,_,hf'⟩:=hy
    refine hno M r' ?_ e
    have:=congrArg List.length e
    rw [List.length_drop,List.length_append] at this
    omega)
   clear hno hr
   go_wp2
   go_region
   all_goals go_wp2
   all_goals go_ret2
   all_goals exact .inr ⟨HQ.out,rfl,h.below ⟨rfl,rfl,rfl,Nat.le_refl _,fun _ _=>rfl⟩,⟨rfl,rfl,rfl,Nat.le_refl _,fun _ _ _=>rfl⟩⟩
def BytesPost (F:Nat → Prop) (w:World) (p:Nat) (bs:List Int) (i:Nat) (most:Int) (ev:Value) (e:Ending) (w':World):Prop:=
 (∃ (N:Nat) (r:List Int) (v:Value),PieceYes bs i most N r ∧ e = .returned (.tuple #[v,.nilIface]) ∧ w'.ownsRow w.heap.size 5 1 v (r.take N).length ((r.take N).map (Value.int .u8)) ∧ Rr F w' p bs (i + (enc N).length + N) ∧ Kept F w w') ∨
 (∃ v,PieceNo bs i most ∧ e = .returned (.tuple #[v,ev]) ∧ w'.ownsRow w.heap.size 5 1 v 0 [] ∧ Rr F w' p bs i ∧ Kept F w w')
theorem PieceYes.take_len {bs:List Int} {i:Nat} {most:Int} {N:Nat} {r:List Int} (h:PieceYes bs i most N r):(r.take N).length = N ∧ N ≤ bs.length:=by
 have hl:=congrArg List.length h.1
 rw [List.length_drop,List.length_append] at hl
 have:=h.2.2
 rw [List.length_take]
 omega
theorem own_up {w:World} {b c:Nat} {e:TypeId} {v:Value} {n:Nat} {xs:List Value} (h:w.ownsRow c e 1 v n xs) (hb:b ≤ c):w.ownsRow b e 1 v n xs:=
 ⟨h.1,h.2.imp id fun ⟨g,cap,cur,e1,hg,rest⟩=>⟨g,cap,cur,e1,Nat.le_trans hb hg,rest⟩⟩
theorem rd_nil (w:World):Rd w (.slice none 0 0) []:=⟨Byts.nil,none,0,rfl,by simp,fun _=>rfl,fun hp=>by simp at hp⟩
set_option maxHeartbeats 3200000 in
theorem rbytes_any (F:Nat → Prop) (w:World) (p:Nat) (bs:List Int) (i:Nat) (most:Int) (ev:Value) (h:Rr F w p bs i) (hl:(bs.length:Int) ≤ 140737488355328) (he:w.cell? ⟨4,0,none⟩ = some ev) :
  Calls Tryz.prog 171 #[.pointer (some ⟨p,0,none⟩),.int .i64 most] w fun e w'=>BytesPost F w p bs i most ev e w':=by
 go_enter Tryz.func171,Tryz.ntmps171
 go_wp2_with (first | (go_at_call 178;refine (piece_any F _ p bs i most ev h hl he).mono ?_;intro e w1 hp;rcases hp with ⟨N,r,v,hy,rfl,hr,hrr,hk⟩ | ⟨hno,rfl,hrr,hk⟩ <;> first | have hl1:((r.take N).length:Int) ≤ 140737488355328:=(by have:=hy.take_len;omega) | have hn0:=rd_nil w1) | (go_at_call 69;refine (clone_any _ _ _ hr hl1).mono ?_;rintro e w2 ⟨v2,rfl,ho2,hb2⟩) | (go_at_call 69;refine (clone_any _ _ [] hn0 (by simp)).mono ?_;rintro e w2 ⟨v2,rfl,ho2,hb2⟩))
 ·go_ret2
  exact .inl ⟨N,r,_,hy,rfl,own_up ho2 hk.size,hrr.below hb2,hk.trans (kept_of_below hb2) (fun k hge=>.inr (Nat.le_trans hk.size hge))⟩
 ·go_ret2
  exact .inr ⟨_,hno,rfl,own_up (by simpa using ho2) hk.size,hrr.below hb2,hk.trans (kept_of_below hb2) (fun k hge=>.inr (Nat.le_trans hk.size hge))⟩
set_option maxHeartbeats 3200000 in
theorem end_nil (F:Nat → Prop) (w:World) (p:Nat) (bs:List Int) (i:Nat) (h:Rr F w p bs i) (hl:(bs.length:Int) ≤ 140737488355328) (hz:i = bs.length) :
  Calls Tryz.prog 124 #[.pointer (some ⟨p,0,none⟩)] w fun e w'=>e = .returned .nilIface ∧ ∃ n,w' = w.drewN n:=by
 have h0:(bs.length:Int) - i = 0:=by omega
 go_enter Tryz.func124,Tryz.ntmps124
 go_wp2_with (go_at_call 153;refine (left_any F _ p bs i h hl).mono ?_;rintro e wy ⟨rfl,nq,hw⟩;rw [hw,h0];clear hw)
 go_ret
 exact ⟨rfl,nq,rfl⟩
set_option maxHeartbeats 3200000 in
theorem end_err (F:Nat → Prop) (w:World) (p:Nat) (bs:List Int) (i:Nat) (ev:Value) (h:Rr F w p bs i) (hl:(bs.length:Int) ≤ 140737488355328) (he:w.cell? ⟨4,0,none⟩ = some ev) (hz:i < bs.length) :
  Calls Tryz.prog 124 #[.pointer (some ⟨p,0,none⟩)] w fun e w'=>e = .returned ev ∧ ∃ n,w' = w.drewN n:=by
 have h0:(0:Int) < (bs.length:Int) - i:=by omega
 go_enter Tryz.func124,Tryz.ntmps124
 go_wp2_with (go_at_call 153;refine (left_any F _ p bs i h hl).mono ?_;rintro e wy ⟨rfl,nq,hw⟩;rw [hw];clear hw)
 go_ret
 exact ⟨rfl,nq,rfl⟩
end Go.Proofs.YtihdkgekickohaaGreatDoor
