/- What a writer of package wire does: NewWriter, Num, Text, Bytes, Done. -/
import Derived.Test.YtjocjkfllicjdaaDoorRd
import Derived.Lib.SliceRun
namespace Go.Proofs.YtjocjkfllicjdaaDoor
open Go.ChangeShapes Go.WideShapes Go.ChangeAt Go.RowKit
set_option maxRecDepth 100000

theorem strCells (bs : List Int) (hB : Byts bs) : byteCells (strOfNums bs) = bs.map (Value.int .u8) := by
  unfold byteCells
  rw [strOfNums_data, List.map_map]
  apply List.map_congr_left
  intro x hx
  have := hB x hx
  simp only [Function.comp]
  congr 1
  simp only [UInt8.toNat_ofNat']
  omega
theorem src_str {xs : List Int} (hX : Byts xs) (w : World) : Src Tryd.prog 1 9 (.string (strOfNums xs)) xs.length (xs.map (Value.int .u8)) w := by
  have := Src.ofString (P := Tryd.prog) w Tryd.underlying9 (strOfNums xs)
  rwa [strCells xs hX, strOfNums_size] at this
end Go.Proofs.YtjocjkfllicjdaaDoor
