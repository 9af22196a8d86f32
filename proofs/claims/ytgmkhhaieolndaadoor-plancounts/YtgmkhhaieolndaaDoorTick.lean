/- What the functions Add, Sub, Floor, Ceil, Mod of package tick answer, at every pair of 64-bit integers. -/
import Derived.Test.YtgmkhhaieolndaaDoorMath
namespace Go.Proofs.YtgmkhhaieolndaaDoor
open Go.ChangeShapes Go.WideShapes Go.ChangeAt Go.RowKit

end Go.Proofs.YtgmkhhaieolndaaDoor
