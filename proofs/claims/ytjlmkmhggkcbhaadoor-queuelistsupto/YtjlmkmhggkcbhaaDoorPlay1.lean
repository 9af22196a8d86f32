/- lay. -/
import Derived.Test.YtjlmkmhggkcbhaaDoorPile
namespace Go.Proofs.YtjlmkmhggkcbhaaDoor
open Go.ChangeShapes Go.WideShapes Go.ChangeAt Go.RowKit
set_option maxRecDepth 100000

set_option maxHeartbeats 1600000 in
theorem lay_is (F : Nat → Prop) (w : World) (p : Nat) (T : TypeId) (xs : List Th) (m : Int → Option Nat) (i : Nat) (x : Th) (h : Rp F w p T xs m) (hi : i < xs.length) :
    Calls Tryd.prog 62 #[.pointer (some ⟨p, 0, none⟩), .int .i64 (i : Int), tv x] w fun e w' => e = .returned (.tuple #[]) ∧ Rp F w' p T (xs.set i x) (upn m x.1 i) ∧ Kept F w w' := by
  obtain ⟨mb, g, cap, hP⟩ := h.view (by omega)
  obtain ⟨W, hW⟩ : ∃ W, W = w.alloc (.cells #[.int .i64 x.1, .int .i64 x.2] 52) := ⟨_, rfl⟩
  have hb : Below w.heap.size w W := by rw [hW]; exact (Below.refl _ w).alloc (Nat.le_refl _) _
  have HP := mkHid (hP.below hb)
  have hp0 : W.cell? ⟨p, 0, none⟩ = some (.slice (some ⟨g, 0, none⟩) xs.length cap) := cell_of_block HP.out.hd rfl
  have x0 : W.cell? ⟨w.heap.size, 0, none⟩ = some (.int .i64 x.1) := by rw [hW]; simp
  have x1 : W.cell? ⟨w.heap.size, 1, none⟩ = some (.int .i64 x.2) := by rw [hW]; simp
  have g0 := (HP.out.at i hi).1
  have g1 := (HP.out.at i hi).2
  have f0 : W.frozen? ⟨g, i * 2, none⟩ = false := own_frozen HP.out.ho _
  have f1 : W.frozen? ⟨g, i * 2 + 1, none⟩ = false := own_frozen HP.out.ho _
  have n1 : ¬ g = p := hP.gp
  have n2 : ¬ g = w.heap.size := by have := hP.hF g hP.fg; omega
  have n3 : ¬ p = g := fun e => n1 e.symm
  have n4 : ¬ w.heap.size = g := fun e => n2 e.symm
  have hii : (i : Int) < xs.length := by omega
  have HB := mkHid hb
  have HF := mkHid hP.hF
  clear h hP hb
  unfold tv
  go_enter Tryd.func62, Tryd.ntmps62
  go_wp2
  rw [← hW]
  clear hW
  go_region_held3 (fun w' => w'.cell? ⟨p, 0, none⟩ = some (.slice (some ⟨g, 0, none⟩) xs.length cap) ∧ w'.cell? ⟨w.heap.size, 0, none⟩ = some (.int .i64 x.1) ∧ w'.cell? ⟨w.heap.size, 1, none⟩ = some (.int .i64 x.2)) (go_keep) (fail)
  obtain ⟨hP2, hk2⟩ := HP.out.stored i hi x
  obtain ⟨W2, hW2⟩ : ∃ W2, W2 = ((W.setCell ⟨g, i * 2, none⟩ (.int .i64 x.1)).setCell ⟨g, i * 2 + 1, none⟩ (.int .i64 x.2)).drew := ⟨_, rfl⟩
  have hP3 : Pv F W2 p T (xs.set i x) m mb g cap := by rw [hW2]; exact hP2.below ⟨rfl, rfl, rfl, Nat.le_refl _, fun _ _ => rfl⟩
  have hk3 : Kept F w W2 := by rw [hW2]; exact ((kept_below F HB.out).trans hk2 (fun _ h => .inl h)).trans (Kept.drew F _) (fun _ h => .inl h)
  have y0 : W2.cell? ⟨w.heap.size, 0, none⟩ = some (.int .i64 x.1) := by rw [hW2]; exact hk2.cell x0 (fun f => by have := HF.out _ f; exact absurd this (Nat.lt_irrefl _))
  have y1 : W2.cell? ⟨p, 1, none⟩ = some (.map (some mb)) := cell_of_block hP3.hd rfl
  rw [← hW2]
  clear hW2 hP2 hk2 hp0 x0 x1 g0 g1 f0 f1 n1 n2 n3 n4
  have HP3 := mkHid hP3
  have HK3 := mkHid hk3
  obtain ⟨W3, hup, hM3, hk4⟩ := (HP3.out.below (w' := W2.drew) ⟨rfl, rfl, rfl, Nat.le_refl _, fun _ _ => rfl⟩).mi.put x.1 i
  have z0 : W3.cell? ⟨w.heap.size, 0, none⟩ = some (.int .i64 x.1) := hk4.cell (w := W2.drew) y0 (fun e => by have := HF.out _ HP3.out.fm; simp at e; omega)
  have z1 : W3.cell? ⟨p, 1, none⟩ = some (.map (some mb)) := hk4.cell (w := W2.drew) y1 HP3.out.pm
  have HM3 := mkHid hM3
  have HK4 := mkHid hk4
  clear hP3 hk3 hM3 hk4 HP HB
  go_wp2
  go_region_held3 (fun w' => w'.cell? ⟨w.heap.size, 0, none⟩ = some (.int .i64 x.1) ∧ w'.cell? ⟨p, 1, none⟩ = some (.map (some mb))) (go_keep) (fail)
  go_wp2
  go_end0
  have h3 := (HP3.out.below (w' := W2.drew) ⟨rfl, rfl, rfl, Nat.le_refl _, fun _ _ => rfl⟩).mapped HM3.out HK4.out
  exact ⟨rfl, h3.rp, (HK3.out.trans (Kept.drew F _) (fun _ h => .inl h)).trans HK4.out (fun k e => .inl (by rw [e]; exact HP3.out.fm))⟩
end Go.Proofs.YtjlmkmhggkcbhaaDoor
