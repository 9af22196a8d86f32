import Derived.Test.YtpdehdomilnmeaaGreatDoorMul
import Derived.Below
namespace Go.Proofs.YtpdehdomilnmeaaGreatDoor
open Go.ChangeShapes Go.WideShapes Go.ChangeAt Go.RowKit
set_option maxRecDepth 100000
structure Word (x:Int):Prop where
 lo:0<=x
 hi:x < 18446744073709551616
theorem bcell {W w1:World} (hb:Below W.heap.size W w1):(∀ b o,b < W.heap.size->w1.cell? ⟨b,o,none⟩=W.cell? ⟨b,o,none⟩)/\(∀ b o,b < W.heap.size->w1.frozen? ⟨b,o,none⟩=W.frozen? ⟨b,o,none⟩):=
 ⟨fun b o h=>hb.cell (p:=⟨b,o,none⟩) h,fun b o h=>hb.frozen (p:=⟨b,o,none⟩) h⟩
theorem ba {W w:World} (h:Below W.heap.size W w) (o:Obj):Below W.heap.size W (w.alloc o):=h.alloc h.size o
theorem bt {W w w1:World} (h:Below W.heap.size W w) (hb:Below w.heap.size w w1):Below W.heap.size W w1:=h.trans (hb.mono h.size)
theorem add64_is {x y c S C:Int} (hx:0<=x) (hy:0<=y) (hc0:0<=c) (hc:c<=1) (h:Hid (x+y+c=C * 18446744073709551616+S)) (hS:Word S) (w:World) :
  (callFunc 222 #[.int .u64 x,.int .u64 y,.int .u64 c]).run Tryz.prog w=.ok (.value (.tuple #[.int .u64 S,.int .u64 C])) w:=by
 have h1:=hS.lo
 have h2:=hS.hi
 have h3:=h.out
 have e1:S=(x+y+c) % 18446744073709551616:=by omega
 have e2:C=(x+y+c) / 18446744073709551616:=by omega
 rw [e1,e2,run_callFunc_extern Tryz.func222 (by kernel_rfl) (by kernel_rfl) (by kernel_rfl) (e:=add64Entry) (by kernel_rfl),run_add64 x y c hx hy hc0 hc]
 simp [Result.andThen]
theorem halves (n:Int) (h0:0<=n) (h1:n < 340282366920938463463374607431768211456):∃ H L:Int,Word H/\Word L/\n=H * 18446744073709551616+L:=
 ⟨n / 18446744073709551616,n % 18446744073709551616,⟨by omega,by omega⟩,⟨by omega,by omega⟩,by omega⟩
theorem wadd_yes {ah al bh bl H L:Int} {w:World} (a1:Word ah) (a2:Word al) (b1:Word bh) (b2:Word bl) (h1:Word H) (h2:Word L) (h:Hid (H * 18446744073709551616+L=ah * 18446744073709551616+al+(bh * 18446744073709551616+bl))) :
  Calls Tryz.prog 217 #[.agg #[.int .u64 ah,.int .u64 al],.agg #[.int .u64 bh,.int .u64 bl]] w fun e w'=>e=.returned (.tuple #[.agg #[.int .u64 H,.int .u64 L],.bool true])/\Below w.heap.size w w':=by
 have:=h.out
 obtain⟨u1,u2⟩:=a1;obtain⟨u3,u4⟩:=a2;obtain⟨u5,u6⟩:=b1;obtain⟨u7,u8⟩:=b2;obtain⟨v1,v2⟩:=id h1;obtain⟨v3,v4⟩:=id h2
 obtain⟨c,hc⟩:∃ c,c=(al+bl) / 18446744073709551616:=⟨_,rfl⟩
 have c0:0<=c:=by omega
 have c1:c<=1:=by omega
 have k1:Hid (al+bl+0=c * 18446744073709551616+L):=by show al+bl+0=c * 18446744073709551616+L;omega
 have k2:Hid (ah+bh+c=0 * 18446744073709551616+H):=by show ah+bh+c=0 * 18446744073709551616+H;omega
 clear hc this h
 go_enter Tryz.func217,Tryz.ntmps217
 go_wp2_with (first | simp only [add64_is u3 u7 (Int.le_refl 0) (by decide) k1 h2] | simp only [add64_is u1 u5 c0 c1 k2 h1])
 exact bodyPost_ret (v:=.tuple #[.agg #[.int .u64 H,.int .u64 L],.bool true]) (by simp [results,Tryz.results217,go_sem]) rfl ⟨rfl,((((Below.refl _ _).alloc (Nat.le_refl _) _).alloc (by simp) _).alloc (by simp;omega) _)⟩
theorem wadd_no {ah al bh bl:Int} {w:World} (a1:Word ah) (a2:Word al) (b1:Word bh) (b2:Word bl) (h:Hid (340282366920938463463374607431768211456<=ah * 18446744073709551616+al+(bh * 18446744073709551616+bl))) :
  Calls Tryz.prog 217 #[.agg #[.int .u64 ah,.int .u64 al],.agg #[.int .u64 bh,.int .u64 bl]] w fun e w'=>e=.returned (.tuple #[.agg #[.int .u64 0,.int .u64 0],.bool false])/\Below w.heap.size w w':=by
 have:=h.out
 obtain⟨u1,u2⟩:=a1;obtain⟨u3,u4⟩:=a2;obtain⟨u5,u6⟩:=b1;obtain⟨u7,u8⟩:=b2
 obtain⟨c,hc⟩:∃ c,c=(al+bl) / 18446744073709551616:=⟨_,rfl⟩
 obtain⟨L,hL⟩:∃ c,c=(al+bl) % 18446744073709551616:=⟨_,rfl⟩
 obtain⟨H,hH⟩:∃ H,H=ah+bh+c - 18446744073709551616:=⟨_,rfl⟩
 have c0:0<=c:=by omega
 have c1:c<=1:=by omega
 have h2:Word L:=⟨by omega,by omega⟩
 have h1:Word H:=⟨by omega,by omega⟩
 have k1:Hid (al+bl+0=c * 18446744073709551616+L):=by show al+bl+0=c * 18446744073709551616+L;omega
 have k2:Hid (ah+bh+c=1 * 18446744073709551616+H):=by show ah+bh+c=1 * 18446744073709551616+H;omega
 clear hc this h hL hH
 go_enter Tryz.func217,Tryz.ntmps217
 go_wp2_with (first | simp only [add64_is u3 u7 (Int.le_refl 0) (by decide) k1 h2] | simp only [add64_is u1 u5 c0 c1 k2 h1])
 exact bodyPost_ret (v:=.tuple #[.agg #[.int .u64 0,.int .u64 0],.bool false]) (by simp [results,Tryz.results217,go_sem]) rfl ⟨rfl,((((Below.refl _ _).alloc (Nat.le_refl _) _).alloc (by simp) _).alloc (by simp;omega) _)⟩
theorem wof {n:Int} {w:World} :
  Calls Tryz.prog 204 #[.int .u64 n] w fun e w'=>e=.returned (.agg #[.int .u64 0,.int .u64 n])/\Below w.heap.size w w':=by
 go_enter Tryz.func204,Tryz.ntmps204
 go_wp2
 exact bodyPost_ret (v:=.agg #[.int .u64 0,.int .u64 n]) (by simp [results,Tryz.results204,go_sem]) rfl ⟨rfl,(Below.refl _ _).alloc (Nat.le_refl _) _⟩
theorem mul_range {x y:Int} (hx:Word x) (hy:Word y):0<=x * y/\x * y<=18446744073709551615 * 18446744073709551615:=
 ⟨Int.mul_nonneg hx.lo hy.lo,Int.mul_le_mul (by have:=hx.hi;omega) (by have:=hy.hi;omega) hy.lo (by decide)⟩
theorem wmul_yes {ah al n H L:Int} {w:World} (a1:Word ah) (a2:Word al) (b:Word n) (h1:Word H) (h2:Word L) (h:Hid (H * 18446744073709551616+L=(ah * 18446744073709551616+al) * n)) :
  Calls Tryz.prog 208 #[.agg #[.int .u64 ah,.int .u64 al],.int .u64 n] w fun e w'=>e=.returned (.tuple #[.agg #[.int .u64 H,.int .u64 L],.bool true])/\Below w.heap.size w w':=by
 have h3:=h.out
 have e:(ah * 18446744073709551616+al) * n=ah * n * 18446744073709551616+al * n:=by grind
 rw [e] at h3
 have r1:=mul_range a1 b
 have r2:=mul_range a2 b
 obtain⟨v1,v2⟩:=id h1;obtain⟨v3,v4⟩:=id h2
 obtain⟨P,hP⟩:∃ P,P=ah * n:=⟨_,rfl⟩
 obtain⟨Q,hQ⟩:∃ Q,Q=al * n:=⟨_,rfl⟩
 rw [<- hP,<- hQ] at h3
 rw [<- hP] at r1
 rw [<- hQ] at r2
 obtain⟨c,hc⟩:∃ c,c=Q / 18446744073709551616:=⟨_,rfl⟩
 have k1:Hid (ah * n / 18446744073709551616=0):=by show ah * n / 18446744073709551616=0;rw [<- hP];omega
 have k2:Hid (ah * n % 18446744073709551616=P):=by show ah * n % 18446744073709551616=P;rw [<- hP];omega
 have k3:Hid (al * n / 18446744073709551616=c):=by show al * n / 18446744073709551616=c;rw [<- hQ];omega
 have k4:Hid (al * n % 18446744073709551616=L):=by show al * n % 18446744073709551616=L;rw [<- hQ];omega
 have wP:Word P:=⟨by omega,by omega⟩
 have wc:Word c:=⟨by omega,by omega⟩
 have w0:Word 0:=⟨by decide,by decide⟩
 have k5:Hid (H * 18446744073709551616+L=P * 18446744073709551616+0+(c * 18446744073709551616+L)):=by show H * 18446744073709551616+L=P * 18446744073709551616+0+(c * 18446744073709551616+L);omega
 obtain⟨u1,u2⟩:=id a1;obtain⟨u3,u4⟩:=id a2;obtain⟨u5,u6⟩:=id b
 clear hc hP hQ h3 e h r1 r2
 go_enter Tryz.func208,Tryz.ntmps208
 go_wp2_with (first | (go_at_call 219;first | (with_reducible refine(mul64_is u1 u2 u5 u6 k1 k2).mono ?_;rintro e wx ⟨rfl,hw⟩;rw [hw];clear hw) | (with_reducible refine(mul64_is u3 u4 u5 u6 k3 k4).mono ?_;rintro e wx ⟨rfl,hw⟩;rw [hw];clear hw)) | (go_at_call 217;refine(wadd_yes wP w0 wc h2 h1 h2 k5).mono ?_;rintro e w1 ⟨rfl,hb1⟩;obtain⟨hc,hf⟩:=bcell hb1))
 exact bodyPost_ret (v:=.tuple #[.agg #[.int .u64 H,.int .u64 L],.bool true]) (by simp [results,Tryz.results208,go_sem,hc]) rfl ⟨rfl,((bt (ba (ba (Below.refl _ _) _) _) hb1).setCell (by simp) _).setCell (by simp) _⟩
theorem wmul_no {ah al n:Int} {w:World} (a1:Word ah) (a2:Word al) (b:Word n) (h:Hid (340282366920938463463374607431768211456<=(ah * 18446744073709551616+al) * n)) :
  Calls Tryz.prog 208 #[.agg #[.int .u64 ah,.int .u64 al],.int .u64 n] w fun e w'=>e=.returned (.tuple #[.agg #[.int .u64 0,.int .u64 0],.bool false])/\Below w.heap.size w w':=by
 have h3:=h.out
 have e:(ah * 18446744073709551616+al) * n=ah * n * 18446744073709551616+al * n:=by grind
 rw [e] at h3
 have r1:=mul_range a1 b
 have r2:=mul_range a2 b
 obtain⟨P,hP⟩:∃ P,P=ah * n:=⟨_,rfl⟩
 obtain⟨Q,hQ⟩:∃ Q,Q=al * n:=⟨_,rfl⟩
 rw [<- hP,<- hQ] at h3
 rw [<- hP] at r1
 rw [<- hQ] at r2
 obtain⟨c,hc⟩:∃ c,c=Q / 18446744073709551616:=⟨_,rfl⟩
 obtain⟨d,hd⟩:∃ d,d=Q % 18446744073709551616:=⟨_,rfl⟩
 obtain⟨f,hf⟩:∃ f,f=P / 18446744073709551616:=⟨_,rfl⟩
 obtain⟨g,hg⟩:∃ g,g=P % 18446744073709551616:=⟨_,rfl⟩
 have k1:Hid (ah * n / 18446744073709551616=f):=by show ah * n / 18446744073709551616=f;rw [<- hP];omega
 have k2:Hid (ah * n % 18446744073709551616=g):=by show ah * n % 18446744073709551616=g;rw [<- hP];omega
 have k3:Hid (al * n / 18446744073709551616=c):=by show al * n / 18446744073709551616=c;rw [<- hQ];omega
 have k4:Hid (al * n % 18446744073709551616=d):=by show al * n % 18446744073709551616=d;rw [<- hQ];omega
 obtain⟨u1,u2⟩:=id a1;obtain⟨u3,u4⟩:=id a2;obtain⟨u5,u6⟩:=id b
 by_cases hz:f=0
 ·have wg:Word g:=⟨by omega,by omega⟩
  have wc:Word c:=⟨by omega,by omega⟩
  have wd:Word d:=⟨by omega,by omega⟩
  have w0:Word 0:=⟨by decide,by decide⟩
  have k5:Hid (340282366920938463463374607431768211456<=g * 18446744073709551616+0+(c * 18446744073709551616+d)):=by show 340282366920938463463374607431768211456<=g * 18446744073709551616+0+(c * 18446744073709551616+d);omega
  clear hc hP hQ h3 e h r1 r2 hd hf hg
  subst hz
  go_enter Tryz.func208,Tryz.ntmps208
  go_wp2_with (first | (go_at_call 219;first | (with_reducible refine(mul64_is u1 u2 u5 u6 k1 k2).mono ?_;rintro e wx ⟨rfl,hw⟩;rw [hw];clear hw) | (with_reducible refine(mul64_is u3 u4 u5 u6 k3 k4).mono ?_;rintro e wx ⟨rfl,hw⟩;rw [hw];clear hw)) | (go_at_call 217;refine(wadd_no wg w0 wc wd k5).mono ?_;rintro e w1 ⟨rfl,hb1⟩;obtain⟨hc,hf⟩:=bcell hb1))
  exact bodyPost_ret (v:=.tuple #[.agg #[.int .u64 0,.int .u64 0],.bool false]) (by simp [results,Tryz.results208,go_sem,hc]) rfl ⟨rfl,((bt (ba (ba (Below.refl _ _) _) _) hb1).setCell (by simp) _).setCell (by simp) _⟩
 ·have hz':(f != 0)=true:=by simpa using hz
  have f1:0<=f:=by omega
  clear hc hP hQ h3 e h r1 r2 hd hf hg
  go_enter Tryz.func208,Tryz.ntmps208
  go_wp2_with (go_at_call 219;first | (with_reducible refine(mul64_is u1 u2 u5 u6 k1 k2).mono ?_;rintro e wx ⟨rfl,hw⟩;rw [hw];clear hw) | (with_reducible refine(mul64_is u3 u4 u5 u6 k3 k4).mono ?_;rintro e wx ⟨rfl,hw⟩;rw [hw];clear hw))
  exact bodyPost_ret (v:=.tuple #[.agg #[.int .u64 0,.int .u64 0],.bool false]) (by simp [results,Tryz.results208,go_sem]) rfl ⟨rfl,ba (ba (Below.refl _ _) _) _⟩
def cmpI (a b:Int):Int:=if a < b then -1 else if b < a then 1 else 0
theorem isNaN_any {a:Int} {w:World}:Calls Tryz.prog 224 #[.int .u64 a] w fun e w'=>e=.returned (.bool false)/\w'=w:=by
 go_enter Tryz.func224,Tryz.ntmps224
 go_wp2
 go_ret
 exact⟨rfl,rfl⟩
theorem cmp_any {a b c:Int} {w:World} (h:Hid (c=cmpI a b)) :
  Calls Tryz.prog 223 #[.int .u64 a,.int .u64 b] w fun e w'=>e=.returned (.int .i64 c)/\w'=w:=by
 rw [h.out]
 unfold cmpI
 clear h
 by_cases h1:a < b
 ·go_enter Tryz.func223,Tryz.ntmps223
  go_wp2_with (go_at_call 224;refine(isNaN_any).mono ?_;rintro e wx ⟨rfl,hw⟩;rw [hw];clear hw)
  go_ret
  exact⟨rfl,rfl⟩
 ·by_cases h2:b < a
  ·go_enter Tryz.func223,Tryz.ntmps223
   go_wp2_with (go_at_call 224;refine(isNaN_any).mono ?_;rintro e wx ⟨rfl,hw⟩;rw [hw];clear hw)
   go_ret
   exact⟨rfl,rfl⟩
  ·go_enter Tryz.func223,Tryz.ntmps223
   go_wp2_with (go_at_call 224;refine(isNaN_any).mono ?_;rintro e wx ⟨rfl,hw⟩;rw [hw];clear hw)
   go_ret
   exact⟨rfl,rfl⟩
theorem wcmp {ah al bh bl c:Int} {w:World} (a1:Word ah) (a2:Word al) (b1:Word bh) (b2:Word bl) (h:Hid (c=cmpI (ah * 18446744073709551616+al) (bh * 18446744073709551616+bl))) :
  Calls Tryz.prog 218 #[.agg #[.int .u64 ah,.int .u64 al],.agg #[.int .u64 bh,.int .u64 bl]] w fun e w'=>e=.returned (.int .i64 c)/\Below w.heap.size w w':=by
 have h0:=h.out
 unfold cmpI at h0
 obtain⟨u1,u2⟩:=id a1;obtain⟨u3,u4⟩:=id a2;obtain⟨u5,u6⟩:=id b1;obtain⟨u7,u8⟩:=id b2
 have kl:ah=bh->Hid (c=cmpI al bl):=by
  intro e;show c=cmpI al bl;unfold cmpI;split at h0 <;> split <;> (try split at h0) <;> (try split) <;> omega
 have kh:ah ≠ bh->Hid (c=cmpI ah bh)/\c ≠ 0:=by
  intro e
  have:c=cmpI ah bh:=by unfold cmpI;split at h0 <;> split <;> (try split at h0) <;> (try split) <;> omega
  refine⟨this, ?_⟩
  rw [this];unfold cmpI;split <;> (try split) <;> omega
 clear h h0
 by_cases e:ah=bh
 ·have kq:=kl e
  clear kh kl
  subst e
  have kz:Hid ((0:Int)=cmpI ah ah):=by show (0:Int)=cmpI ah ah;unfold cmpI;rw [if_neg (by omega),if_neg (by omega)]
  go_enter Tryz.func218,Tryz.ntmps218
  go_wp2_with (go_at_call 223;first | (with_reducible refine(cmp_any kz).mono ?_;rintro e wx ⟨rfl,hw⟩;rw [hw];clear hw) | (with_reducible refine(cmp_any kq).mono ?_;rintro e wx ⟨rfl,hw⟩;rw [hw];clear hw))
  go_ret
  exact⟨rfl,ba (ba (Below.refl _ _) _) _⟩
 ·obtain⟨kh,kn⟩:=kh e
  have kn':(c != 0)=true:=by simpa using kn
  clear kl kn
  go_enter Tryz.func218,Tryz.ntmps218
  go_wp2_with (go_at_call 223;with_reducible refine(cmp_any kh).mono ?_;rintro e wx ⟨rfl,hw⟩;rw [hw];clear hw)
  go_ret
  exact⟨rfl,ba (ba (Below.refl _ _) _) _⟩
end Go.Proofs.YtpdehdomilnmeaaGreatDoor
