/- Done, Sum of package wire; the chapter's examples. -/
import Derived.Test.YtjocjkfllicjdaaDoorWriter
import Derived.Laws.BitsAllLaws
import Derived.Lib.SlBytesConst
import Derived.Deep.QuietTactic
import Derived.BigQuiet
namespace Go.Proofs.YtjocjkfllicjdaaDoor
open Go.ChangeShapes Go.WideShapes Go.ChangeAt Go.RowKit
set_option maxRecDepth 100000

def fs (s : Nat) (c : Int) : Nat := (s ^^^ c.toNat) * 16777619 % 4294967296
def fnv (bs : List Int) : Nat := bs.foldl fs 2166136261
theorem fnv_snoc (bs : List Int) (c : Int) : fnv (bs ++ [c]) = fs (fnv bs) c := by
  unfold fnv
  rw [List.foldl_append, List.foldl_cons, List.foldl_nil]
theorem fs_lt (s : Nat) (c : Int) : fs s c < 4294967296 := Nat.mod_lt _ (by omega)
theorem fold_lt (bs : List Int) (s : Nat) (h : s < 4294967296) : bs.foldl fs s < 4294967296 := by
  induction bs generalizing s with
  | nil => exact h
  | cons c bs ih => exact ih _ (fs_lt s c)
theorem fnv_lt (bs : List Int) : fnv bs < 4294967296 := by
  unfold fnv
  exact fold_lt bs _ (by omega)
theorem take_snoc (bs : List Int) (k : Nat) (h : k < bs.length) : bs.take (k + 1) = bs.take k ++ [bs.getD k 0] := by
  rw [List.take_succ_eq_append_getElem h]
  simp [List.getD, h]
theorem enc300 : enc 300 = [172, 2] := by rw [enc_ge (by omega), enc_lt (by omega)]; rfl
theorem enc2 : enc 2 = [2] := by rw [enc_lt (by omega)]; rfl
theorem fnv_a : fnv [97] = 3826002220 := by
  unfold fnv
  rw [List.foldl_cons, List.foldl_nil]
  unfold fs
  decide +kernel
theorem alive_list : (([] : List Int) ++ enc 300 ++ (enc ([97, 98] : List Int).length ++ [97, 98])) = [172, 2, 2, 97, 98] := by
  rw [enc300]
  simp [enc2]
theorem alive_byts : Byts [172, 2, 2, 97, 98] := by intro b hb; simp at hb; omega
theorem alive_str : strOfNums [172, 2, 2, 97, 98] = ⟨#[172, 2, 2, 97, 98]⟩ := by decide +kernel
theorem rd_a (w : World) : Rd (w.alloc (.cells #[.int .u8 97] 5 (1, 2))) (.slice (some ⟨w.heap.size, 0, none⟩) 1 1) [97] := by
  refine ⟨Byts.one (by omega) (by omega), some ⟨w.heap.size, 0, none⟩, 1, rfl, by simp, fun e => by simp at e, fun _ => ⟨w.heap.size, 0, rfl, by simp, fun k hk => ?_⟩⟩
  obtain rfl : k = 0 := by simp at hk; omega
  simp [World.cell?_alloc_mark]
end Go.Proofs.YtjocjkfllicjdaaDoor
