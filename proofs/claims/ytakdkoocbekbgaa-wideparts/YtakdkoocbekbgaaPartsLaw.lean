/- The law WideParts. -/
import Derived.Test.YtakdkoocbekbgaaPartsLaw1
import Derived.Test.YtakdkoocbekbgaaPartsLaw2
import Derived.Test.YtakdkoocbekbgaaPartsLaw3
namespace Go.Proofs.Ytakdkoocbekbgaa
open Go.ChangeShapes Go.WideShapes Go.ChangeAt Go.RowKit
theorem parts_any {nh nl dh dl q t a b : Int} (w : World) (a1 : Word nh) (a2 : Word nl) (a3 : Word dh) (a4 : Word dl) (hq : I64 q) (ht : I64 t) (ha : I64 a) (hb : I64 b) :
    Calls Try.prog 6 #[.agg #[.int .u64 nh, .int .u64 nl, .int .u64 dh, .int .u64 dl, .int .i64 q, .int .i64 t, .int .i64 a, .int .i64 b]] w fun r w' => r = .returned (.bool true) ∧ Below w.heap.size w w' := by
  by_cases c1 : 0 ≤ a
  · by_cases c2 : 1 ≤ b
    · exact parts_1 w a1 a2 a3 a4 hq ht ha hb c1 c2
    · exact parts_2 w a1 a2 a3 a4 hq ht ha hb c1 c2
  · exact parts_3 w a1 a2 a3 a4 hq ht ha hb c1
end Go.Proofs.Ytakdkoocbekbgaa
