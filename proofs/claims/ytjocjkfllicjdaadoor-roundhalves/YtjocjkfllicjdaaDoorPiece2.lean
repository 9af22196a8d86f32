/- Text and Bytes of a reader of package wire; End. -/
import Derived.Test.YtjocjkfllicjdaaDoorPiece
namespace Go.Proofs.YtjocjkfllicjdaaDoor
open Go.ChangeShapes Go.WideShapes Go.ChangeAt Go.RowKit
set_option maxRecDepth 100000

end Go.Proofs.YtjocjkfllicjdaaDoor
