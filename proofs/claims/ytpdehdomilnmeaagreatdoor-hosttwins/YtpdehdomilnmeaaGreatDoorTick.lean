import Derived.Test.YtpdehdomilnmeaaGreatDoorMath
namespace Go.Proofs.YtpdehdomilnmeaaGreatDoor
open Go.ChangeShapes Go.WideShapes Go.ChangeAt Go.RowKit
set_option maxRecDepth 100000
theorem floor_any (a b:Int) (w:World) (a1:-9223372036854775808<=a) (a2:a<=9223372036854775807) (b1:1<=b) (b2:b<=9223372036854775807) :
  Calls Tryz.prog 220 #[.int .i64 a,.int .i64 b] w fun e w'=>e=.returned (.tuple #[.int .i64 (a / b),.bool true])/\w'=w:=by
 go_enter Tryz.func220,Tryz.ntmps220
 go_wp2
 all_goals
  go_ret2
  have h1:=tdm a b b1
  have h2:=div_range a b b1 a1 a2
  refine⟨ret2 ?_ rfl,rfl⟩
  try rw [wrap64_fit (by omega) (by omega)]
  omega
theorem mod_any (a b:Int) (w:World) (b1:1<=b) (b2:b<=9223372036854775807) :
  Calls Tryz.prog 221 #[.int .i64 a,.int .i64 b] w fun e w'=>e=.returned (.tuple #[.int .i64 (a % b),.bool true])/\w'=w:=by
 go_enter Tryz.func221,Tryz.ntmps221
 go_wp2
 all_goals
  go_ret2
  have h1:=tdm a b b1
  have h2:=Int.emod_lt_of_pos a (by omega:0 < b)
  have h3:=Int.emod_nonneg a (by omega:b ≠ 0)
  refine⟨ret2 ?_ rfl,rfl⟩
  try rw [wrap64_fit (by omega) (by omega)]
  omega
end Go.Proofs.YtpdehdomilnmeaaGreatDoor
