import Derived.Test.YtpdehdomilnmeaaGreatDoorDv
import Derived.Deep.RegionHeld
namespace Go.Proofs.YtpdehdomilnmeaaGreatDoor
open Go.ChangeShapes Go.WideShapes Go.ChangeAt Go.RowKit
set_option maxRecDepth 100000
def wv (h l:Int):Int:=h * 18446744073709551616+l
theorem wv_lo {h l:Int} (a:Word h) (b:Word l):0<=wv h l:=by unfold wv;have:=a.lo;have:=b.lo;omega
theorem wv_hi {h l:Int} (a:Word h) (b:Word l):wv h l < 340282366920938463463374607431768211456:=by unfold wv;have:=a.hi;have:=b.hi;omega
theorem wv_inj {h l h' l':Int} (a:Word h) (b:Word l) (a':Word h') (b':Word l') (e:wv h l=wv h' l'):h=h'/\l=l':=by
 unfold wv at e
 obtain⟨u1,u2⟩:=a;obtain⟨u3,u4⟩:=b;obtain⟨u5,u6⟩:=a';obtain⟨u7,u8⟩:=b'
 omega
theorem word0:Word 0:=⟨by decide,by decide⟩
theorem word1:Word 1:=⟨by decide,by decide⟩
structure Is (n H L:Int) (ok:Bool):Prop where
 h:Word H
 l:Word L
 yes:ok=true->wv H L=n
 no:ok=false->H=0/\L=0/\¬ (0<=n/\n < 340282366920938463463374607431768211456)
theorem is_ex (n:Int):∃ H L ok,Is n H L ok:=by
 by_cases h:0<=n/\n < 340282366920938463463374607431768211456
 ·obtain⟨H,L,a,b,e⟩:=halves n h.1 h.2
  exact⟨H,L,true,a,b,fun _=>by unfold wv;omega,fun h=>(by cases h)⟩
 ·exact⟨0,0,false,word0,word0,fun h=>(by cases h),fun _=>⟨rfl,rfl,h⟩⟩
theorem wadd_is {ah al bh bl H L:Int} {ok:Bool} {w:World} (a1:Word ah) (a2:Word al) (b1:Word bh) (b2:Word bl) (h:Is (wv ah al+wv bh bl) H L ok) :
  Calls Tryz.prog 217 #[.agg #[.int .u64 ah,.int .u64 al],.agg #[.int .u64 bh,.int .u64 bl]] w fun e w'=>e=.returned (.tuple #[.agg #[.int .u64 H,.int .u64 L],.bool ok])/\Below w.heap.size w w':=by
 cases ok
 ·obtain⟨rfl,rfl,hn⟩:=h.no rfl
  have:=wv_lo a1 a2;have:=wv_lo b1 b2
  exact wadd_no a1 a2 b1 b2 (by show 340282366920938463463374607431768211456<=_;unfold wv at *;omega)
 ·exact wadd_yes a1 a2 b1 b2 h.h h.l (h.yes rfl)
theorem wmul_is {ah al n H L:Int} {ok:Bool} {w:World} (a1:Word ah) (a2:Word al) (b:Word n) (h:Is (wv ah al * n) H L ok) :
  Calls Tryz.prog 208 #[.agg #[.int .u64 ah,.int .u64 al],.int .u64 n] w fun e w'=>e=.returned (.tuple #[.agg #[.int .u64 H,.int .u64 L],.bool ok])/\Below w.heap.size w w':=by
 cases ok
 ·obtain⟨rfl,rfl,hn⟩:=h.no rfl
  have:=Int.mul_nonneg (wv_lo a1 a2) b.lo
  exact wmul_no a1 a2 b (by show 340282366920938463463374607431768211456<=_;unfold wv at *;omega)
 ·exact wmul_yes a1 a2 b h.h h.l (h.yes rfl)
theorem cell_lt {w:World} {a:Addr} {v:Value} (h:w.cell? a=some v):a.block < w.heap.size:=by
 refine Nat.not_le.mp fun hn=>?_
 unfold World.cell? at h
 rw [Array.getElem?_eq_none hn] at h
 simp at h
theorem kc {w w1:World} {a:Addr} {v:Value} (h:w.cell? a=some v) (hb:Below w.heap.size w w1):w1.cell? a=some v:=by
 rw [hb.cell (cell_lt h)];exact h
theorem kl {w:World} {a:Addr} {v:Value} (h:w.cell? a=some v) (o:Obj):(w.alloc o).cell? a=some v:=by
 rw [World.cell?_alloc_lt]
 ·exact h
 ·exact cell_lt h
end Go.Proofs.YtpdehdomilnmeaaGreatDoor
