import Derived.Test.YtpdehdomilnmeaaGreatDoorWide
namespace Go.Proofs.YtpdehdomilnmeaaGreatDoor
open Go.ChangeShapes Go.WideShapes Go.ChangeAt Go.RowKit
set_option maxRecDepth 100000
structure I64 (x:Int):Prop where
 lo:-9223372036854775808<=x
 hi:x<=9223372036854775807
end Go.Proofs.YtpdehdomilnmeaaGreatDoor
