/- The document's Num and Bytes. -/
import Derived.Test.YtjocjkfllicjdaaDoorRd
namespace Go.Proofs.YtjocjkfllicjdaaDoor
open Go.ChangeShapes Go.WideShapes Go.ChangeAt Go.RowKit
set_option maxRecDepth 100000

end Go.Proofs.YtjocjkfllicjdaaDoor
