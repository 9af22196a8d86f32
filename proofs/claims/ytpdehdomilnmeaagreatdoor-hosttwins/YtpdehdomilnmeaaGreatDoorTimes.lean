import Derived.Test.YtpdehdomilnmeaaGreatDoorBg
import Derived.Test.YtpdehdomilnmeaaGreatDoorMul
namespace Go.Proofs.YtpdehdomilnmeaaGreatDoor
open Go.ChangeShapes Go.WideShapes Go.ChangeAt Go.RowKit
set_option maxRecDepth 100000
end Go.Proofs.YtpdehdomilnmeaaGreatDoor
