/- Waiting: the numbers that wait. -/
import Derived.Test.YtaiklaipdocdmaaDoorNt7
import Derived.Test.YtaiklaipdocdmaaDoorRefNum
namespace Go.Proofs.YtaiklaipdocdmaaDoor
open Go.ChangeShapes Go.WideShapes Go.ChangeAt Go.RowKit
set_option maxRecDepth 100000
attribute [local go_sem] World.cell?_alloc_some frozen_alloc_some

theorem info_int1 : (Tryd.prog.info? 3).map (fun i => (i.zero, i.size, i.bytes)) = some (some (.int .i64 0), 1, 8) := by kernel_rfl
theorem ints_zero (n : Nat) : (madeCells (Value.int .i64 0).cells (n * 1)).toList = (List.replicate n (0 : Int)).map (Value.int .i64) := by
  rw [Nat.mul_one]
  simp only [madeCells]
  apply List.ext_getElem?
  intro k
  by_cases hk : k < n
  · simp [hk, Value.cells, Nat.mod_one]
  · simp [hk]
abbrev iv (x : Int) : Value := .int .i64 x
/-- The first numbers, the others zero. -/
def nus (ls : List Lt) (j : Nat) : List Int := (ls.take j).map (·.nu) ++ List.replicate (ls.length - j) 0
theorem nus_len (ls : List Lt) {j : Nat} (h : j ≤ ls.length) : (nus ls j).length = ls.length := by
  unfold nus
  rw [List.length_append, List.length_map, List.length_take, List.length_replicate]
  omega
theorem nus_set {ls : List Lt} {j : Nat} {l : Lt} (hl : ls[j]? = some l) : (nus ls j).set j l.nu = nus ls (j + 1) := by
  have hlt : j < ls.length := (List.getElem?_eq_some_iff.mp hl).1
  unfold nus
  have e1 : ((ls.take j).map (·.nu)).length = j := by rw [List.length_map, List.length_take]; omega
  rw [List.set_append_right _ _ (by omega), e1, Nat.sub_self]
  obtain ⟨d, hd⟩ : ∃ d, ls.length - j = d + 1 := ⟨ls.length - j - 1, by omega⟩
  rw [hd, List.replicate_succ, List.set_cons_zero, List.take_add_one, hl, List.map_append, List.append_assoc, show ls.length - (j + 1) = d by omega]
  rfl
theorem nus_full (ls : List Lt) : nus ls ls.length = ls.map (·.nu) := by
  unfold nus
  rw [List.take_of_length_le (Nat.le_refl _), Nat.sub_self]
  simp
set_option maxHeartbeats 6400000 in
theorem waiting_is (own : Nat → Int × Int) (i : Int) (w : World) (p : Nat) (v : Value) (ps : List Lp) (n : Nt) (h : NB own i w p v ps n) :
    Calls Tryd.prog 18 #[.pointer (some ⟨p, 0, none⟩)] w fun e w' => ∃ v', e = .returned v' ∧ w'.ownsRow w.heap.size 3 1 v' n.ls.length ((n.ls.map (·.nu)).map iv) ∧ Below w.heap.size w w' := by
  obtain ⟨ie, hi, hz0, hz1, hz2⟩ := info_parts info_int1
  have hie := mkHid (And.intro hi (And.intro hz0 (And.intro hz1 hz2)))
  clear hi hz0 hz1 hz2
  obtain ⟨c0, _, _, _⟩ := h.cells
  obtain ⟨a, cap, rfl, _⟩ := h.shape
  have HL : Hid (ps.length ≤ 4096 ∧ ps.length = n.ls.length) := mkHid ⟨by have := h.ok.len; have := h.len; omega, h.len⟩
  have HN := mkHid h
  clear h
  go_enter Tryd.func18, Tryd.ntmps18
  go_wp2_with (refine wpList_make_full _ rfl (.tmp 10) (.tmp 10) 53 rfl w.heap.size 3 ie (.int .i64 0) 1 Tryd.underlying53 hie.out.1 hie.out.2.1 hie.out.2.2.1 .i64 .i64 (ps.length : Int) (ps.length : Int) ps.length rfl rfl rfl rfl (by rw [hie.out.2.2.2]; have := HL.out.1; omega) (by have := HL.out.1; unfold maxLen; omega) (Nat.le_refl _) ?_; intro w1 ho1 hg1; rw [ints_zero] at ho1; have hb1 := (Below.refl w.heap.size w).grown hg1 (Nat.le_refl _) (fun k hk => by simp at hk); have c1 := kc c0 hb1; have HO1 := mkHid ho1; have HB1 := mkHid hb1; clear ho1 hg1 hb1)
  go_loopw [17] (fun xv wr => ∃ j : Nat, xv = .int .i64 (j : Int) ∧ j ≤ ps.length ∧ Hid (wr.ownsRow w.heap.size 3 1 (.slice (some ⟨w.heap.size, 0, none⟩) ps.length ps.length) ps.length ((nus n.ls j).map iv) ∧ Below w.heap.size w wr)) (fun xv _ => ps.length - (intOf xv).toNat)
  case atStart => exact ⟨0, rfl, Nat.zero_le _, mkHid ⟨by have h1 := HO1.out; rw [HL.out.2] at h1 ⊢; simpa [nus] using h1, HB1.out⟩⟩
  case round =>
    obtain ⟨j, rfl, hj, HI⟩ := hrel
    have hl64 : (ps.length : Int) ≤ 4096 := by have := HL.out.1; omega
    by_cases hlt : j < ps.length
    · obtain ⟨l, hl⟩ : ∃ l, ps[j]? = some l := ⟨_, List.getElem?_eq_getElem hlt⟩
      have hji : (j : Int) < (ps.length : Int) := by omega
      obtain ⟨g, off, rfl, k0, k1, k2, k3⟩ := (HN.out.below HI.out.2).at hl
      have hls := HN.out.ls hl
      obtain ⟨⟨nu, fr, to, bs⟩, la, lc⟩ := l
      simp only [bv] at k0 k1 k2 k3
      simp only at hls
      have ho2 : (wr.alloc (oL (⟨nu, fr, to, bs⟩, la, lc))).ownsRow w.heap.size 3 1 (.slice (some ⟨w.heap.size, 0, none⟩) ps.length ps.length) ps.length ((nus n.ls j).map iv) := HI.out.1.alloc _
      obtain ⟨x0, hx0⟩ : ∃ x, ((nus n.ls j).map iv)[j]? = some x := ⟨_, List.getElem?_eq_getElem (by rw [List.length_map, nus_len _ (by have := HL.out.2; omega)]; have := HL.out.2; omega)⟩
      obtain ⟨z0, f0⟩ := own_cell ho2 hx0
      have HP : Hid (((wr.alloc (oL (⟨nu, fr, to, bs⟩, la, lc))).setCell ⟨w.heap.size, j, none⟩ (.int .i64 nu)).ownsRow w.heap.size 3 1 (.slice (some ⟨w.heap.size, 0, none⟩) ps.length ps.length) ps.length ((nus n.ls (j + 1)).map iv)) := mkHid (by
        have h1 := own_put ho2 j (.int .i64 nu)
        rw [← nus_set hls, List.map_set]
        exact h1)
      have HB2 : Hid (Below w.heap.size w ((wr.alloc (oL (⟨nu, fr, to, bs⟩, la, lc))).setCell ⟨w.heap.size, j, none⟩ (.int .i64 nu))) := mkHid (setG_below (ba HI.out.2 _) (Nat.le_refl _) _ (by have := HI.out.2.size; simp; omega))
      clear hl hls ho2 hx0
      go_wp2
      go_roundw
      case rel => exact ⟨j + 1, by go_num, by omega, mkHid ⟨HP.out, HB2.out⟩⟩
      case measure => simp [intOf]; omega
    · obtain rfl : j = ps.length := by omega
      have hq := HI.out
      rw [HL.out.2, nus_full] at hq
      have HQ := mkHid hq
      clear hq
      go_wp2
      go_ret
      exact ⟨_, rfl, by rw [HL.out.2]; exact HQ.out.1, HQ.out.2⟩
end Go.Proofs.YtaiklaipdocdmaaDoor
