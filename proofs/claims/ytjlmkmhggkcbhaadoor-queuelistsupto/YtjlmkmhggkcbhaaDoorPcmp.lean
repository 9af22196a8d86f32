/- Which of two things stands ahead: cmp.Compare, cmp.Or, compare, ahead. -/
import Derived.Test.YtjlmkmhggkcbhaaDoorMint
import Derived.Sort.Grow
import Derived.Deep.RegionHeld3
namespace Go.Proofs.YtjlmkmhggkcbhaaDoor
open Go.ChangeShapes Go.WideShapes Go.ChangeAt Go.RowKit
set_option maxRecDepth 100000

def cmpI (x y : Int) : Int := if x < y then -1 else if y < x then 1 else 0
def cmpT (a b : Th) : Int := if cmpI a.2 b.2 ≠ 0 then cmpI a.2 b.2 else cmpI a.1 b.1
theorem cmpT_lt (a b : Th) : cmpT a b < 0 ↔ Ahd a b := by
  unfold cmpT cmpI Ahd
  repeat' split
  all_goals omega
theorem compare_is (x y : Int) (w : World) : Calls Tryd.prog 47 #[.int .i64 x, .int .i64 y] w fun e w' => e = .returned (.int .i64 (cmpI x y)) ∧ w' = w := by
  unfold cmpI
  by_cases h1 : x < y
  · rw [if_pos h1]
    go_enter Tryd.func47, Tryd.ntmps47
    go_wp2
    go_ret
    exact ⟨rfl, rfl⟩
  · rw [if_neg h1]
    by_cases h2 : y < x
    · rw [if_pos h2]
      go_enter Tryd.func47, Tryd.ntmps47
      go_wp2
      go_ret
      exact ⟨rfl, rfl⟩
    · rw [if_neg h2]
      go_enter Tryd.func47, Tryd.ntmps47
      go_wp2
      go_ret
      exact ⟨rfl, rfl⟩
theorem or_is (x y r : Int) (b : Nat) (w : World) (h0 : w.cell? ⟨b, 0, none⟩ = some (.int .i64 x)) (h1 : w.cell? ⟨b, 1, none⟩ = some (.int .i64 y)) (hr : r = if x ≠ 0 then x else y) :
    Calls Tryd.prog 46 #[.slice (some ⟨b, 0, none⟩) 2 2] w fun e w' => e = .returned (.int .i64 r) ∧ w' = w := by
  have HR : Hid (r = if x ≠ 0 then x else y) := mkHid hr
  clear hr
  go_enter Tryd.func46, Tryd.ntmps46
  go_wp2
  go_loopw [8] (fun iv wr => wr = w ∧ ((iv = .int .i64 0) ∨ (iv = .int .i64 1 ∧ x = 0) ∨ (iv = .int .i64 2 ∧ x = 0 ∧ y = 0))) (fun iv _ => 2 - (intOf iv).toNat)
  case atStart => exact ⟨rfl, .inl rfl⟩
  case round =>
    obtain ⟨rfl, hc⟩ := hrel
    rcases hc with rfl | ⟨rfl, hx⟩ | ⟨rfl, hx, hy⟩
    · by_cases e : x = 0
      · subst e
        go_wp2
        go_roundw
        case rel => simp
        case measure => simp [intOf]
      · go_wp2
        go_ret
        exact ⟨by rw [HR.out, if_pos e]; rfl, rfl⟩
    · by_cases e : y = 0
      · subst e hx
        go_wp2
        go_roundw
        case rel => simp
        case measure => simp [intOf]
      · go_wp2
        go_ret
        exact ⟨by rw [HR.out, if_neg (by simp [hx])]; rfl, rfl⟩
    · go_wp2
      go_ret
      exact ⟨by rw [HR.out, if_neg (by simp [hx]), hy]; rfl, rfl⟩
/-- Two things' cells. -/
def tv (x : Th) : Value := .agg #[.int .i64 x.1, .int .i64 x.2]
def Lays (w w' : World) : Prop := ∃ q os, w' = Go.Sort.grow (w.drewN q) os
theorem Lays.below {w w' : World} (h : Lays w w') : Below w.heap.size w w' := by
  obtain ⟨q, os, rfl⟩ := h
  refine ⟨rfl, rfl, rfl, by simp [Go.Sort.grow, World.drewN], fun k hk => ?_⟩
  simp only [Go.Sort.grow, World.drewN]
  exact Array.getElem?_append_left hk
theorem Lays.alloc {w w' : World} (h : Lays w w') (o : Obj) : Lays w (w'.alloc o) := by
  obtain ⟨q, os, rfl⟩ := h
  exact ⟨q, os ++ #[o], by rw [Go.Sort.alloc_eq_grow, Go.Sort.grow_grow]⟩
theorem Lays.drew {w w' : World} (h : Lays w w') : Lays w w'.drew := by
  obtain ⟨q, os, rfl⟩ := h
  exact ⟨q + 1, os, rfl⟩
set_option maxHeartbeats 1600000 in
theorem compareT_is (a b : Th) (w : World) : Calls Tryd.prog 36 #[tv a, tv b] w fun e w' => e = .returned (.int .i64 (cmpT a b)) ∧ Lays w w' := by
  obtain ⟨x, hx⟩ : ∃ x, Hid (x = cmpI a.2 b.2) := ⟨_, mkHid rfl⟩
  obtain ⟨y, hy⟩ : ∃ y, Hid (y = cmpI a.1 b.1) := ⟨_, mkHid rfl⟩
  obtain ⟨r, hr⟩ : ∃ r, Hid (r = cmpT a b) := ⟨_, mkHid rfl⟩
  have hr2 : Hid (r = if x ≠ 0 then x else y) := mkHid (by rw [hr.out, hx.out, hy.out]; rfl)
  rw [← hr.out]
  unfold tv
  go_enter Tryd.func36, Tryd.ntmps36
  go_wp2
  obtain ⟨W, hW⟩ : ∃ W, W = (w.alloc (.cells #[.int .i64 a.1, .int .i64 a.2] 52)).alloc (.cells #[.int .i64 b.1, .int .i64 b.2] 52) := ⟨_, rfl⟩
  have c0 : W.cell? ⟨w.heap.size, 0, none⟩ = some (.int .i64 a.1) := by rw [hW]; simp
  have c1 : W.cell? ⟨w.heap.size, 1, none⟩ = some (.int .i64 a.2) := by rw [hW]; simp
  have c2 : W.cell? ⟨w.heap.size + 1, 0, none⟩ = some (.int .i64 b.1) := by rw [hW]; simp
  have c3 : W.cell? ⟨w.heap.size + 1, 1, none⟩ = some (.int .i64 b.2) := by rw [hW]; simp
  have HL : Hid (Lays w W) := mkHid ⟨0, _, by rw [hW, Go.Sort.alloc_eq_grow, Go.Sort.alloc_eq_grow, Go.Sort.grow_grow]; rfl⟩
  rw [← hW]
  clear hW
  have hd : W.drew.heap.size = W.heap.size := rfl
  go_region_held3 (fun w' => w'.cell? ⟨w.heap.size, 0, none⟩ = some (.int .i64 a.1) ∧ w'.cell? ⟨w.heap.size, 1, none⟩ = some (.int .i64 a.2) ∧ w'.cell? ⟨w.heap.size + 1, 0, none⟩ = some (.int .i64 b.1) ∧ w'.cell? ⟨w.heap.size + 1, 1, none⟩ = some (.int .i64 b.2)) (go_keep) (first
    | (go_at_call 47; refine (compare_is _ _ _).mono ?_; rintro e w' ⟨rfl, rfl⟩)
    | (go_at_call 46; refine (or_is x y r _ _ (by rw [hx.out]; simp) (by rw [hy.out]; simp) hr2.out).mono ?_; rintro e w' ⟨rfl, rfl⟩))
  go_wp2
  go_ret
  exact ⟨rfl, (HL.out.alloc _).drew⟩
theorem ahead_is (a b : Th) (w : World) : Calls Tryd.prog 68 #[tv a, tv b] w fun e w' => e = .returned (.bool (ahb a b)) ∧ Below w.heap.size w w' := by
  have hc := fun w => compareT_is a b w
  have hd : decide (cmpT a b < 0) = ahb a b := by rw [Bool.eq_iff_iff]; simp [cmpT_lt, ahb_iff]
  rw [← hd]
  generalize cmpT a b = r at hc ⊢
  unfold tv at *
  go_enter Tryd.func68, Tryd.ntmps68
  go_wp2_with (first | (go_at_call 36; refine (hc _).mono ?_; rintro e w' ⟨rfl, hl⟩; have HL := mkHid hl.below; clear hl))
  go_ret
  refine ⟨by simp, ?_⟩
  refine Below.trans ?_ (HL.out.mono ?_)
  · exact ((Below.refl _ w).alloc (Nat.le_refl _) _).alloc (by simp) _
  · simp; omega
end Go.Proofs.YtjlmkmhggkcbhaaDoor
