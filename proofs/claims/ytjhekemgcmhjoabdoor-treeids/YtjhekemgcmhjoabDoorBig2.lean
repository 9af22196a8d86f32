/- What the document's numbers do: at, Less, Minus, Fits, Whole, Amount. -/
import Derived.Test.YtjhekemgcmhjoabDoorBig
namespace Go.Proofs.YtjhekemgcmhjoabDoor
open Go.ChangeShapes Go.WideShapes Go.ChangeAt Go.RowKit
set_option maxRecDepth 100000

theorem retb {p q : Bool} (h : p = q) : Ending.returned (.bool p) = .returned (.bool q) := by rw [h]
theorem minus_rel {ps qs xs : List Int} {i : Nat} {r x : Int} {w wr w1 : World} {o : Obj} {ov v' : Value} (hx : x = ps.getD i 0 + 65536 - qs.getD i 0 - r) (dp : Digs ps) (dq : Digs qs) (hr0 : 0 ≤ r) (hr1 : r ≤ 1) (hlen : xs.length = i) (hdx : Digs xs)
    (hown : wr.ownsRow w.heap.size 157 1 ov i (xs.map (Value.int .u32))) (HV : Hid (val xs - r * pw i = val (ps.take i) - val (qs.take i))) (hbel : Below w.heap.size w wr)
    (hown' : w1.ownsRow w.heap.size 157 1 v' (i + 1) (xs.map (Value.int .u32) ++ [.int .u32 (x % 65536)])) (hgrow : (wr.alloc o).grownBy w1 ov.ownBlock) :
    (0 ≤ 1 - x / 65536 ∧ 1 - x / 65536 ≤ 1) ∧ (xs ++ [x % 65536]).length = i + 1 ∧ Digs (xs ++ [x % 65536]) ∧ w1.ownsRow w.heap.size 157 1 v' (i + 1) ((xs ++ [x % 65536]).map (Value.int .u32)) ∧
      Hid (val (xs ++ [x % 65536]) - (1 - x / 65536) * pw (i + 1) = val (ps.take (i + 1)) - val (qs.take (i + 1))) ∧ Below w.heap.size w w1 := by
  have h1 := dp.at i
  have h2 := dq.at i
  have hsz := hbel.size
  refine ⟨by omega, by simp [hlen], hdx.snoc (by omega) (by omega), by simpa using hown', ?_, ?_⟩
  · exact minus_round xs ps qs i r x hlen hx HV.out
  · exact (hbel.alloc hsz _).grown hgrow (by simp; omega) (fun k hk => (hown.lt k hk).1)
theorem fits_head (ds : List Int) (i : Nat) (hz : ds.getD i 0 = 0) (h : val (ds.take i) = val (ds.take 4)) : val (ds.take (i + 1)) = val (ds.take 4) := by
  rw [val_take, hz, h]; omega
theorem fits_great (ds : List Int) (hd : Digs ds) (i : Nat) (h4 : 4 ≤ i) (hz : ds.getD i 0 ≠ 0) : 18446744073709551616 ≤ val ds := by
  have h1 := take_le hd (i + 1)
  rw [val_take] at h1
  have h2 := take_nonneg hd i
  have h3 := (hd.at i).1
  have h5 : 1 * pw i ≤ ds.getD i 0 * pw i := Int.mul_le_mul_of_nonneg_right (by omega) (Int.le_of_lt (pw_pos i))
  have h6 := pw_le h4
  have h7 : pw 4 = 18446744073709551616 := rfl
  omega
theorem fits_less (ds : List Int) (hd : Digs ds) : val (ds.take 4) < 18446744073709551616 := take_lt hd 4
def fitU (n : Int) : Int := if n < 18446744073709551616 then n else 0
end Go.Proofs.YtjhekemgcmhjoabDoor
