import Derived.Test.YtpdehdomilnmeaaGreatDoorWide
import Derived.Deep.QuietTactic
import Derived.BigQuiet
namespace Go.Proofs.YtpdehdomilnmeaaGreatDoor
open Go.ChangeShapes Go.WideShapes Go.ChangeAt Go.RowKit
set_option maxRecDepth 100000
theorem below_drewN {B:Nat} {a w:World} (h:Below B a w) (k:Nat):Below B a (w.drewN k):=⟨h.os,h.tape,h.output,h.size,h.block⟩
end Go.Proofs.YtpdehdomilnmeaaGreatDoor
