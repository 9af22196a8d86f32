/- What a writer of package wire does: NewWriter, Num, Text, Bytes, Done. -/
import Derived.Test.YtcglonefifldnaaDoorRd
import Derived.Lib.SliceRun
namespace Go.Proofs.YtcglonefifldnaaDoor
open Go.ChangeShapes Go.WideShapes Go.ChangeAt Go.RowKit

theorem strCells (bs : List Int) (hB : Byts bs) : byteCells (strOfNums bs) = bs.map (Value.int .u8) := by
  unfold byteCells
  rw [strOfNums_data, List.map_map]
  apply List.map_congr_left
  intro x hx
  have := hB x hx
  simp only [Function.comp]
  congr 1
  simp only [UInt8.toNat_ofNat']
  omega
theorem src_str {xs : List Int} (hX : Byts xs) (w : World) : Src Tryd.prog 1 9 (.string (strOfNums xs)) xs.length (xs.map (Value.int .u8)) w := by
  have := Src.ofString (P := Tryd.prog) w Tryd.underlying9 (strOfNums xs)
  rwa [strCells xs hX, strOfNums_size] at this
theorem eql_nil (w : World) (a : Option Addr) (n c n' c' : Nat) : (binOp .eql 33 (.slice a n c) (.slice none n' c')).run Tryd.prog w = .ok (.bool a.isNone) w :=
  Lib.run_eql_slice_nil w _ _ a n c n' c' Tryd.underlying33
set_option maxHeartbeats 800000 in
/-- A copy in new memory. -/
theorem clone_any (w : World) (v : Value) (bs : List Int) (h : Rd w v bs) (hl : (bs.length : Int) ≤ 140737488355328) :
    Calls Tryd.prog 31 #[v] w fun e w' => ∃ v', e = .returned v' ∧ w'.ownsRow w.heap.size 5 1 v' bs.length (bs.map (Value.int .u8)) ∧ Below w.heap.size w w' := by
  obtain ⟨i0, hi, hz0, hz1, hz2⟩ := info_parts Tryd.info5
  obtain ⟨hB, a, cap, rfl, hc, h0, hr⟩ := id h
  have q := eql_nil
  cases a with
  | none =>
    have hl0 : bs = [] := by
      by_cases hp : 0 < bs.length
      · obtain ⟨b, off, e, _⟩ := hr hp
        simp at e
      · exact List.length_eq_zero_iff.mp (by omega)
    subst hl0
    clear hr
    go_enter Tryd.func31, Tryd.ntmps31
    go_wp2
    go_ret
    exact ⟨_, rfl, World.ownsRow_nil _ _ _ _, Below.refl _ _⟩
  | some ad =>
    clear hr
    have hm : w.ownsRow w.heap.size 5 1 (.slice none 0 0) 0 [] := World.ownsRow_nil _ _ _ _
    have hm2 := World.ownsRow_made (base := w.heap.size) (e := 5) (size := 1) w #[] 0 (Nat.le_refl _) (by unfold maxLen; omega) rfl
    have hs : Src Tryd.prog 1 33 (.slice (some ad) bs.length cap) bs.length (bs.map (Value.int .u8)) (w.alloc (.cells #[] 5)) := (h.alloc _).src
    have HL : Hid (0 + bs.length ≤ 140737488355328 ∧ 0 + bs.length ≤ maxLen) := mkHid ⟨by omega, by unfold maxLen; omega⟩
    clear hm
    go_enter Tryd.func31, Tryd.ntmps31
    go_wp2_with (at_builtin; refine wpList_append_src _ rfl (.tmp 5) (.tmp 6) 33 33 rfl w.heap.size 5 i0 Tryd.underlying33 hi hz0 hz1 hz2 _ _ _ rfl hm2 _ bs.length (bs.map (Value.int .u8)) rfl hs HL.out.2 HL.out.1 (by simp) ?_; intro v' w2 hown hgrow _; have HQ : Hid (w2.ownsRow w.heap.size 5 1 v' bs.length (bs.map (Value.int .u8)) ∧ Below w.heap.size w w2) := mkHid ⟨by simpa using hown, ((Below.refl _ _).alloc (Nat.le_refl _) _).grown hgrow (by simp) (fun k hk => (hm2.lt k hk).1)⟩; clear hown hgrow)
    go_ret
    exact ⟨_, rfl, HQ.out⟩
end Go.Proofs.YtcglonefifldnaaDoor
