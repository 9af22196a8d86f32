import Derived.Test.YtpdehdomilnmeaaGreatDoorMath
import Derived.Laws.Bits64b
import Derived.Test.YtpdehdomilnmeaaGreatDoorTick
import Derived.OwnWalk
import Derived.WalkSmall
namespace Go.Proofs.YtpdehdomilnmeaaGreatDoor
def val:List Int->Int
 |[]=>0
 |d :: ds=>d+65536 * val ds
end Go.Proofs.YtpdehdomilnmeaaGreatDoor
namespace Go.Proofs.YtpdehdomilnmeaaGreatDoor
open Go.ChangeShapes Go.WideShapes Go.ChangeAt Go.RowKit
set_option maxRecDepth 100000
end Go.Proofs.YtpdehdomilnmeaaGreatDoor
