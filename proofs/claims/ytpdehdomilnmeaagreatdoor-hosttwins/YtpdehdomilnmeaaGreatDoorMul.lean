import Derived.Test.YtpdehdomilnmeaaGreatDoorGcd
import Derived.Laws.MathBits
namespace Go.Proofs.YtpdehdomilnmeaaGreatDoor
open Go.ChangeShapes Go.WideShapes Go.ChangeAt Go.RowKit
set_option maxRecDepth 100000
theorem ret2u {a b c d:Int} (h1:a=b) (h2:c=d):Ending.returned (.tuple #[.int .u64 a,.int .u64 c])=.returned (.tuple #[.int .u64 b,.int .u64 d]):=by rw [h1,h2]
theorem mul64_any (x y:Int) (w:World) (hx0:0<=x) (hx:x < 18446744073709551616) (hy0:0<=y) (hy:y < 18446744073709551616) :
  Calls Tryz.prog 219 #[.int .u64 x,.int .u64 y] w fun e w'=>e=.returned (.tuple #[.int .u64 (x * y / 18446744073709551616),.int .u64 (x * y % 18446744073709551616)])/\w'=w:=by
 have e1:=and_low32 x hx0 hx
 have e2:=and_low32 y hy0 hy
 go_enter Tryz.func219,Tryz.ntmps219
 go_wp2
 go_ret2
 refine⟨ret2u ?_ (IntKind.wrap_u64 _),rfl⟩
 rw [and_low32 (IntKind.u64.wrap _) (by rw [IntKind.wrap_u64];omega) (by rw [IntKind.wrap_u64];omega)]
 simp only [IntKind.wrap_u64]
 exact mul64_arith x y hx0 hx hy0 hy
theorem mul64_is {x y H L:Int} {w:World} (hx0:0<=x) (hx:x < 18446744073709551616) (hy0:0<=y) (hy:y < 18446744073709551616) (hH:Hid (x * y / 18446744073709551616=H)) (hL:Hid (x * y % 18446744073709551616=L)) :
  Calls Tryz.prog 219 #[.int .u64 x,.int .u64 y] w fun e w'=>e=.returned (.tuple #[.int .u64 H,.int .u64 L])/\w'=w:=by
 rw [<- hH.out,<- hL.out]
 exact mul64_any x y w hx0 hx hy0 hy
end Go.Proofs.YtpdehdomilnmeaaGreatDoor
