import Derived.Test.YtpdehdomilnmeaaGreatDoorIs
import Derived.Test.YtpdehdomilnmeaaGreatDoorTimes
import Derived.Deep.RegionHeld3
import Derived.Deep.AppendLies
namespace Go.Proofs.YtpdehdomilnmeaaGreatDoor
open Go.ChangeShapes Go.WideShapes Go.ChangeAt Go.RowKit
set_option maxRecDepth 100000
theorem kf {w w1:World} {a:Addr} {v:Value} (h:w.cell? a=some v) (hb:Below w.heap.size w w1) (f:w.frozen? a=false):w1.frozen? a=false:=by
 rw [hb.frozen (cell_lt h)];exact f
end Go.Proofs.YtpdehdomilnmeaaGreatDoor
