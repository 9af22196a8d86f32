/- slices.SortFunc of things; List. -/
import Derived.Test.YtjlmkmhggkcbhaaDoorQshelf
import Derived.Test.YtjlmkmhggkcbhaaDoorSrtMath
namespace Go.Proofs.YtjlmkmhggkcbhaaDoor
open Go.Shelf Go.ChangeShapes Go.WideShapes Go.ChangeAt Go.RowKit
set_option maxRecDepth 100000

theorem ltOf_ahd (x y : Th) : ltOf cmpT x y = ahb x y := by
  unfold ltOf
  rw [Bool.eq_iff_iff]
  simp [cmpT_lt, ahb_iff]
theorem not_ahb {x y : Th} : ahb x y = false ↔ ¬ Ahd x y := by rw [← ahb_iff]; simp
theorem swoT : Go.Sort.SWO (ltOf cmpT) :=
  ⟨fun x => by rw [ltOf_ahd, not_ahb]; exact Ahd.irrefl x, fun x y z h1 h2 => by rw [ltOf_ahd, ahb_iff] at *; exact h1.trans h2, fun x y z h1 h2 => by rw [ltOf_ahd, not_ahb] at *; exact not_ahd_trans h1 h2⟩
/-- A row of things in a block. -/
def TR (w : World) (g : Nat) (xs : List Th) : Prop := ∀ i, i < xs.length → (w.cell? ⟨g, i * 2, none⟩ = some (.int .i64 (gt xs i).1) ∧ w.cell? ⟨g, i * 2 + 1, none⟩ = some (.int .i64 (gt xs i).2)) ∧ w.frozen? ⟨g, i * 2, none⟩ = false ∧ w.frozen? ⟨g, i * 2 + 1, none⟩ = false
theorem gt_arr (d : Array Th) (i : Nat) (hi : i < d.size) : d[i]! = gt d.toList i := by
  rw [getElem!_pos d i hi]
  simp [gt, List.getD, hi]
theorem TR.holds {w : World} {g : Nat} {xs : List Th} (h : TR w g xs) : Go.Sort.HoldsK tc 2 w g 0 xs.toArray := by
  intro j hj
  rw [Go.Sort.size_flatK] at hj
  rw [Go.Sort.get_flatK _ _ _ _ hj]
  have hi : j / 2 < xs.length := by simp at hj; omega
  have e := gt_arr xs.toArray (j / 2) (by simpa using hi)
  rw [e]
  obtain ⟨⟨a, b⟩, c, d⟩ := h (j / 2) hi
  rw [Nat.zero_add]
  rcases (show j % 2 = 0 ∨ j % 2 = 1 by omega) with h0 | h0
  · have ej : j / 2 * 2 = j := by omega
    rw [ej] at a c
    rw [h0]
    exact ⟨a, c⟩
  · have ej : j / 2 * 2 + 1 = j := by omega
    rw [ej] at b d
    rw [h0]
    exact ⟨b, d⟩
theorem TR.of_holds {w : World} {g : Nat} {d : Array Th} (h : Go.Sort.HoldsK tc 2 w g 0 d) : TR w g d.toList := by
  intro i hi
  have hi' : i < d.size := by simpa using hi
  have a := Go.Sort.HoldsK.cell h hi' (show 0 < 2 by omega)
  have b := Go.Sort.HoldsK.cell h hi' (show 1 < 2 by omega)
  rw [gt_arr d i hi', Nat.zero_add] at a b
  rw [Nat.add_zero] at a
  exact ⟨⟨a.1, b.1⟩, a.2, b.2⟩
theorem sort_is (w : World) (g cap : Nat) (xs : List Th) (h : TR w g xs) (hg : g < w.heap.size) (hl : xs.length < 4611686018427387904) :
    Calls Tryd.prog 35 #[.slice (some ⟨g, 0, none⟩) xs.length cap, .func (.func 36) #[] #[]] w fun e w' => e = .returned (.tuple #[]) ∧ Hid (TR w' g (srtd xs) ∧ Kept (fun k => k = g) w w') := by
  have eg : ∀ args w, (callFunc 36 args).run Tryd.prog w = .ok (.enter 36 args) w := enters_of Tryd.func36 (by kernel_rfl) rfl
  have hcmp : CmpLays Tryd.prog 36 #[] tc 2 cmpT g 0 xs.toArray.size w := by
    intro m os dk hs x y
    refine (compareT_is x y _).mono ?_
    rintro e w' ⟨rfl, q, os', rfl⟩
    exact ⟨rfl, q, os', rfl⟩
  have hc := AnyQ.slices_SortFunc Tryd.sortTh 2 Tryd.isAgg52 Tryd.sizeOf52 tc (fun _ => rfl) (fun x v hv => by simp [tc] at hv; rcases hv with rfl | rfl <;> rfl) cmpT swoT 36 #[] g 0 cap xs.toArray w eg hcmp h.holds hg (by simpa using hl)
  rw [List.size_toArray] at hc
  refine Calls.mono hc ?_
  rintro e w' ⟨rfl, d', n, os, hp, hs, rfl⟩
  have hsz : d'.size = xs.length := by have := hp.1; simpa using this
  have hh := holdsK_sortWorldK tc 2 w g 0 n xs.toArray d' os hg h.holds (by simpa using hsz)
  have hys : d'.toList = srtd xs := by
    refine srtd_is ?_ (fun i j hij hj => ?_)
    · have := hp.2.2
      have e1 : (d'.extract 0 xs.length).toList = d'.toList := by rw [← hsz]; simp
      have e2 : (xs.toArray.extract 0 xs.length).toList = xs := by simp
      rw [e1, e2] at this
      exact this
    · have hj' : j < xs.length := by rw [← hsz]; simpa using hj
      have := hs i j (Nat.zero_le _) hij hj'
      rw [gt_arr d' j (by omega), gt_arr d' i (by omega), ltOf_ahd, not_ahb] at this
      exact this
  refine ⟨rfl, by rw [← hys]; exact TR.of_holds hh, ?_⟩
  · have hs := Go.Proofs.size_sortWorldK_c tc 2 w g 0 n d' os
    refine ⟨rfl, rfl, rfl, hs, fun k hk hn => ?_⟩
    unfold sortWorldK Go.Sort.putRowK Go.Sort.putRow Go.Sort.mapBlock Go.Sort.grow
    simp only
    rw [Array.getElem?_append_left (by simpa [Go.Sort.ahead] using hk), Array.getElem?_modify, if_neg (fun e => hn e.symm)]
    rfl
theorem sort_none (w : World) (a : Option Addr) (cap : Nat) (fv : Value) :
    Calls Tryd.prog 35 #[.slice a 0 cap, fv] w fun e w' => e = .returned (.tuple #[]) ∧ w' = w :=
  AnyF.slices_SortFunc_none Tryd.sortTh a cap fv w
end Go.Proofs.YtjlmkmhggkcbhaaDoor
