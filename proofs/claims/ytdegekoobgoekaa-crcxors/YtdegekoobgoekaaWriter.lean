/- What a writer of package wire does: NewWriter, Num, Text, Bytes, Done. -/
import Derived.Test.YtdegekoobgoekaaRd
import Derived.Lib.SliceRun
namespace Go.Proofs.Ytdegekoobgoekaa
open Go.ChangeShapes Go.WideShapes Go.ChangeAt Go.RowKit

theorem strCells (bs : List Int) (hB : Byts bs) : byteCells (strOfNums bs) = bs.map (Value.int .u8) := by
  unfold byteCells
  rw [strOfNums_data, List.map_map]
  apply List.map_congr_left
  intro x hx
  have := hB x hx
  simp only [Function.comp]
  congr 1
  simp only [UInt8.toNat_ofNat']
  omega
theorem src_str {xs : List Int} (hX : Byts xs) (w : World) : Src Try.prog 1 9 (.string (strOfNums xs)) xs.length (xs.map (Value.int .u8)) w := by
  have := Src.ofString (P := Try.prog) w Try.underlying9 (strOfNums xs)
  rwa [strCells xs hX, strOfNums_size] at this
theorem eql_nil (w : World) (a : Option Addr) (n c n' c' : Nat) : (binOp .eql 22 (.slice a n c) (.slice none n' c')).run Try.prog w = .ok (.bool a.isNone) w :=
  Lib.run_eql_slice_nil w _ _ a n c n' c' Try.underlying22
end Go.Proofs.Ytdegekoobgoekaa
