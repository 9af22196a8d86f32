import Derived.Test.YtihdkgekickohaaGreatDoorOled
import Derived.Test.YtihdkgekickohaaGreatDoorBaseA
import Derived.Test.YtihdkgekickohaaGreatDoorRefNum
namespace Go.Proofs.YtihdkgekickohaaGreatDoor
open Go.ChangeShapes Go.WideShapes Go.ChangeAt Go.RowKit
set_option maxRecDepth 100000
attribute [local go_sem] World.cell?_alloc_some frozen_alloc_some
end Go.Proofs.YtihdkgekickohaaGreatDoor
