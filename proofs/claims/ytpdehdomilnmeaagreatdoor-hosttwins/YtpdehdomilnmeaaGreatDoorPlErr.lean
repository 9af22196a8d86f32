import Derived.Test.YtpdehdomilnmeaaGreatDoorPlan5
namespace Go.Proofs.YtpdehdomilnmeaaGreatDoor
open Go.ChangeShapes Go.WideShapes Go.ChangeAt Go.RowKit
set_option maxRecDepth 100000
attribute [local go_sem] World.cell?_alloc_some fAs
abbrev oS (s:Sv):Obj:=.cells #[.int .i64 s.1,.int .i64 s.2.1,.int .i64 s.2.2] 37
end Go.Proofs.YtpdehdomilnmeaaGreatDoor
