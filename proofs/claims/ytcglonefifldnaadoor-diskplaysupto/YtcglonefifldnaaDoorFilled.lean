/- filled: a sector made of bytes again and again. -/
import Derived.Test.YtcglonefifldnaaDoorDcrash
import Derived.Test.YtcglonefifldnaaDoorMarked
import Derived.Test.YtcglonefifldnaaDoorSlips
import Derived.Deep.OwnRows
namespace Go.Proofs.YtcglonefifldnaaDoor
open Go.ChangeShapes Go.WideShapes Go.ChangeAt Go.RowKit

def fillTo (bs : List Int) (j : Nat) : List Int := (List.range 64).map (fun k => if k < j then bs.getD (k % bs.length) 0 else 0)
def fillB (bs : List Int) : List Int := fillTo bs 64
theorem fillTo_byts {bs : List Int} (h : Byts bs) (j : Nat) : Byts (fillTo bs j) := by
  intro b hb
  obtain ⟨k, _, rfl⟩ := List.mem_map.mp hb
  split
  · exact h.at _
  · omega
theorem fillTo_len (bs : List Int) (j : Nat) : (fillTo bs j).length = 64 := by simp [fillTo]
theorem fillB_sec {bs : List Int} (h : Byts bs) : Sec (fillB bs) := ⟨fillTo_len _ _, fillTo_byts h _⟩
theorem fillTo_succ (bs : List Int) (j : Nat) : (fillTo bs j).set j (bs.getD (j % bs.length) 0) = fillTo bs (j + 1) := by
  apply List.ext_getElem
  · simp [fillTo]
  · intro i h1 h2
    have hi : i < 64 := by simpa [fillTo] using h2
    rw [List.getElem_set]
    by_cases e : j = i
    · subst e; simp [fillTo]
    · have : (i < j + 1) = (i < j) := by simp; omega
      simp [fillTo, e, this]
theorem fillTo_zero (bs : List Int) : fillTo bs 0 = zeros := by simp [fillTo, zeros]; rfl
def filledTo (bs : List Int) (j : Nat) : List Int := if bs = [] then zeros else fillTo bs j
/-- A sector made of bytes again and again. -/
def filledB (bs : List Int) : List Int := filledTo bs 64
theorem filledB_sec {bs : List Int} (h : Byts bs) : Sec (filledB bs) := by
  unfold filledB filledTo
  split
  · exact zeros_sec
  · exact fillB_sec h
set_option maxHeartbeats 6400000 in
theorem filled_any (w : World) (v : Value) (bs : List Int) (h : Rd w v bs) (hl : (bs.length : Int) ≤ 9223372036854775807) :
    Calls Tryd.prog 16 #[v] w fun e w' => ∃ g, e = .returned (.slice (some ⟨g, 0, none⟩) 64 64) ∧ w'.ownsRow w.heap.size 5 1 (.slice (some ⟨g, 0, none⟩) 64 64) 64 ((filledB bs).map (Value.int .u8)) ∧ Below w.heap.size w w' := by
  obtain ⟨i0, hi, hz0, hz1, hz2⟩ := info_parts Tryd.info5
  have hB := h.1
  obtain ⟨a, c, rfl, hcap, _, hr⟩ := h.2
  have hmk : ∀ W : World, (Instr.makeSlice 33 (.int .i64 64) (.int .i64 64)).run Tryd.prog W = .ok (.slice (some ⟨W.heap.size, 0, none⟩) 64 64) (W.alloc (.cells (madeCells #[.int .u8 0] 64) 5)) := run_make_row' (P := Tryd.prog) 33 5 (.int .u8 0) 1 Tryd.underlying33 Tryd.info5 rfl .i64 .i64 64 (by omega) (by omega)
  have HO1 : Hid ((w.alloc (.cells (madeCells #[.int .u8 0] 64) 5)).ownsRow w.heap.size 5 1 (.slice (some ⟨w.heap.size, 0, none⟩) 64 64) 64 (zeros.map (Value.int .u8))) := mkHid ⟨rfl, .inr ⟨w.heap.size, 64, _, rfl, Nat.le_refl _, heap_alloc_new w _, Nat.le_refl _, by unfold maxLen; omega, by kernel_rfl, by kernel_rfl⟩⟩
  clear h hi hz0 hz1 hz2
  go_enter Tryd.func16, Tryd.ntmps16
  go_wp2
  go_loopw [8] (fun iv wr => ∃ j : Nat, iv = .int .i64 (j : Int) ∧ j ≤ 64 ∧ wr.ownsRow w.heap.size 5 1 (.slice (some ⟨w.heap.size, 0, none⟩) 64 64) 64 ((filledTo bs j).map (Value.int .u8)) ∧ Below w.heap.size w wr) (fun iv _ => 64 - (intOf iv).toNat)
  case atStart => exact ⟨0, rfl, by omega, by unfold filledTo; rw [fillTo_zero]; simpa using HO1.out, (Below.refl _ w).alloc (Nat.le_refl _) _⟩
  case round =>
    clear HO1 hmk
    obtain ⟨j, rfl, hj, ho, hb⟩ := hrel
    by_cases hlt : j < 64
    · have hji : (j : Int) < 64 := by omega
      by_cases h0 : bs = []
      · subst h0
        have HO := mkHid ho
        have HB := mkHid hb
        clear ho hb
        go_wp2
        go_roundw
        case rel => exact ⟨j + 1, by go_num, by omega, by simpa [filledTo] using HO.out, HB.out⟩
        case measure => simp [intOf]; omega
      · have hpos : 0 < bs.length := List.length_pos_iff.mpr h0
        obtain ⟨b, off, rfl, hlb, hcell⟩ := hr hpos
        have hm : j % bs.length < bs.length := Nat.mod_lt _ hpos
        have hc := hb.cell (p := ⟨b, off + j % bs.length, none⟩) hlb |>.trans (hcell _ hm)
        rw [filledTo, if_neg h0] at ho
        obtain ⟨r1, r2, r3⟩ := own_set (bs.getD (j % bs.length) 0) ho hlt
        rw [fillTo_succ bs j] at r1
        have HQ : Hid ((wr.setCell ⟨w.heap.size, j, none⟩ (.int .u8 (bs.getD (j % bs.length) 0))).ownsRow w.heap.size 5 1 (.slice (some ⟨w.heap.size, 0, none⟩) 64 64) 64 ((fillTo bs (j + 1)).map (Value.int .u8)) ∧ Below w.heap.size w (wr.setCell ⟨w.heap.size, j, none⟩ (.int .u8 (bs.getD (j % bs.length) 0)))) := mkHid ⟨r1, hb.setCell (p := ⟨w.heap.size, j, none⟩) (Nat.le_refl _) _⟩
        have hpi : (0 : Int) < bs.length := by omega
        have hrem : (j : Int) % (bs.length : Int) = ((j % bs.length : Nat) : Int) := by omega
        have hmi : ((j % bs.length : Nat) : Int) < bs.length := by omega
        generalize bs.getD (j % bs.length) 0 = z at *
        generalize hmm : j % bs.length = m at *
        clear r1 ho hb hcell hr
        go_wp2
        go_roundw
        case rel => exact ⟨j + 1, by go_num, by omega, by rw [filledTo, if_neg h0]; exact HQ.out.1, HQ.out.2⟩
        case measure => simp [intOf]; omega
    · obtain rfl : j = 64 := by omega
      have HO := mkHid ho
      have HB := mkHid hb
      clear ho hb
      go_wp2
      go_ret
      exact ⟨w.heap.size, rfl, HO.out, HB.out⟩
end Go.Proofs.YtcglonefifldnaaDoor
