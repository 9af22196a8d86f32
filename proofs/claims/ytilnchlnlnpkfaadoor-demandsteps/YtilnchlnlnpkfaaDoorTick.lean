/- What the functions Add, Sub, Floor, Ceil, Mod of package tick answer, at every pair of 64-bit integers. -/
import Derived.Test.YtilnchlnlnpkfaaDoorMath
namespace Go.Proofs.YtilnchlnlnpkfaaDoor
open Go.ChangeShapes Go.WideShapes Go.ChangeAt Go.RowKit
set_option maxRecDepth 100000

end Go.Proofs.YtilnchlnlnpkfaaDoor
