/- getEntry of bytes that don't begin with an entry's numbers. -/
import Derived.Test.YtjocjkfllicjdaaDoorOget2
namespace Go.Proofs.YtjocjkfllicjdaaDoor
open Go.ChangeShapes Go.WideShapes Go.ChangeAt Go.RowKit
set_option maxRecDepth 100000
attribute [local go_sem] World.cell?_alloc_some frozen_alloc_some

end Go.Proofs.YtjocjkfllicjdaaDoor
