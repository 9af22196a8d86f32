import Derived.Test.YtihdkgekickohaaGreatDoorRd
namespace Go.Proofs.YtihdkgekickohaaGreatDoor
open Go.ChangeShapes Go.WideShapes Go.ChangeAt Go.RowKit
set_option maxRecDepth 100000
end Go.Proofs.YtihdkgekickohaaGreatDoor
