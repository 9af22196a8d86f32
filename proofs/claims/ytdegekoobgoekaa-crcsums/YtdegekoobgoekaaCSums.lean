/- CrcSums: Sum and Update are the check that the chapter defines, of all bytes, in one piece or two. -/
import Derived.Test.YtdegekoobgoekaaMarked
import Derived.Test.YtdegekoobgoekaaCrc
import Derived.Test.YtdegekoobgoekaaCut
namespace Go.Proofs.Ytdegekoobgoekaa
open Go.ChangeShapes Go.WideShapes Go.ChangeAt Go.RowKit

set_option maxHeartbeats 3200000 in
theorem csums_walk (w : World) (v : Value) (bs : List Int) (s : Nat) (t : Int) (h : Rd w v bs) (hl : (bs.length : Int) ≤ 140737488355300) (hs : (s : Int) ≤ 4294967295) :
    Calls Try.prog 3 #[v, .int .u32 s, .int .i64 t] w fun e w' => e = .returned (.bool true) ∧ Below w.heap.size w w' := by
  obtain ⟨a0, c0, rfl⟩ : ∃ a c, v = .slice a bs.length c := h.2.imp fun a h => h.imp fun c h => h.1
  obtain ⟨I, eI, hI⟩ := rem_ex t (bs.length + 1) (by omega)
  have hs1 := Int.lt_tmod_of_pos t (show (0 : Int) < ((bs.length + 1 : Nat) : Int) by omega)
  have hs2 := Int.tmod_lt_of_pos t (show (0 : Int) < ((bs.length + 1 : Nat) : Int) by omega)
  rw [show ((bs.length + 1 : Nat) : Int) = (bs.length : Int) + 1 by omega] at eI hI hs1 hs2
  rw [← Int.add_assoc] at eI
  have hIl : I ≤ bs.length := by omega
  have hcw := crcW_lt (s := s) (by omega) (h.1.take I)
  have hcwi : (crcW s (bs.take I) : Int) ≤ 4294967295 := by omega
  have HA : Hid (crcW (crcW s (bs.take I)) (bs.drop I) = crcW s bs) := mkHid (by rw [← crcW_append, List.take_append_drop])
  clear hcw
  go_enter Try.func3, Try.ntmps3
  go_wp2_with (first | (go_at_call 5; refine (crcalive_any _).mono ?_; rintro e w1 ⟨rfl, hb1⟩; have r1 := h.later hb1) | (go_at_call 6; refine (nbytes_any _ _ bs r1 (by omega)).mono ?_; rintro e w2 ⟨g, cap, rfl, hmk, hb2⟩; have hb2' := hb1.trans (hb2.mono hb1.size); have ri := hmk.rd h.1; have r0 := r1.later hb2; obtain ⟨va, sa, ra⟩ := ri.head3S (I : Int) I rfl hIl; obtain ⟨vb, sb, rb⟩ := ri.tailS (I : Int) I rfl hIl; have HK : Hid (Mk w2 w1.heap.size g cap bs) := hmk; clear hmk r1 hb2 hb1))
  have hIi : (I : Int) ≤ bs.length := by omega
  have hlA : ((bs.take I).length : Int) ≤ 140737488356000 := by rw [List.length_take]; omega
  have hlB : ((bs.drop I).length : Int) ≤ 140737488356000 := by rw [List.length_drop]; omega
  have hlC : (bs.length : Int) ≤ 140737488356000 := by omega
  obtain ⟨C, hC⟩ : ∃ C, C = csum bs := ⟨_, rfl⟩
  obtain ⟨U, hU⟩ : ∃ U, U = crcW s bs := ⟨_, rfl⟩
  obtain ⟨V, hV⟩ : ∃ V, V = crcW s (bs.take I) := ⟨_, rfl⟩
  have HR1 : Hid (∀ k, Calls Try.prog 7 #[.slice (some ⟨g, 0, none⟩) bs.length cap] (w2.drewN k) fun e w' => e = .returned (.int .u32 C) ∧ w' = w2.drewN k) := mkHid (fun k => by rw [hC]; exact crcsum_any _ _ bs (ri.drewN _) hlC)
  have HR2 : Hid (∀ k, Calls Try.prog 8 #[.slice a0 bs.length c0] (w2.drewN k) fun e w' => e = .returned (.int .u32 C) ∧ w' = w2.drewN k) := mkHid (fun k => by rw [hC]; exact refcsum_any _ _ bs (r0.drewN _) hlC)
  obtain ⟨Cond, k1, k2, k3, HU⟩ : ∃ Cond : Int → Value → Int → Prop, Cond s (.slice (some ⟨g, 0, none⟩) bs.length cap) U ∧ Cond s va V ∧ Cond V vb U ∧ Hid (∀ k x v r, Cond x v r → Calls Try.prog 9 #[.int .u32 x, v] (w2.drewN k) fun e w' => e = .returned (.int .u32 r) ∧ w' = w2.drewN k) := by
    refine ⟨fun x v r => ∃ (m : Nat) (xs : List Int), x = m ∧ (m : Int) ≤ 4294967295 ∧ Rd w2 v xs ∧ (xs.length : Int) ≤ 140737488356000 ∧ r = crcW m xs, ⟨s, bs, rfl, hs, ri, hlC, by rw [hU]⟩, ⟨s, bs.take I, rfl, hs, ra, hlA, by rw [hV]⟩, ⟨V, bs.drop I, rfl, by rw [hV]; exact hcwi, rb, hlB, by rw [hU, hV, HA.out]⟩, mkHid ?_⟩
    rintro k x v r ⟨m, xs, rfl, hm, hr, hx, rfl⟩
    exact update_any _ _ xs m hm (hr.drewN k) hx
  have HR4 : Hid (∀ k, Calls Try.prog 10 #[.int .u32 s, .slice a0 bs.length c0] (w2.drewN k) fun e w' => e = .returned (.int .u32 U) ∧ w' = w2.drewN k) := mkHid (fun k => by rw [hU]; exact refupdate_any _ _ bs s hs (r0.drewN _) hlC)
  have HR7 : Hid (∀ k, Calls Try.prog 11 #[.slice (some ⟨g, 0, none⟩) bs.length cap, .slice a0 bs.length c0] (w2.drewN k) fun e w' => e = .returned (.bool true) ∧ ∃ n, w' = (w2.drewN k).drewN n) := mkHid (fun k => nkept_any _ _ g cap _ bs (HK.out.kept (F := fun _ => False) ⟨rfl, rfl, rfl, Nat.le_refl _, fun _ _ _ => rfl⟩ (fun h => h)) (r0.drewN _) hl)
  have hCi : (C : Int) = C := rfl
  clear hC hU hV HA ra rb ri r0 hcwi hlA hlB hlC HK eI hs1 hs2 hl hs h
  go_quiet (first | (go_at_call 7; exact Calls.quiet_of_same (HR1.out _)) | (go_at_call 8; exact Calls.quiet_of_same (HR2.out _)) | (go_at_call 10; exact Calls.quiet_of_same (HR4.out _)) | (go_at_call 9; first | with_reducible exact Calls.quiet_of_same (HU.out _ _ _ _ k1) | with_reducible exact Calls.quiet_of_same (HU.out _ _ _ _ k2) | with_reducible exact Calls.quiet_of_same (HU.out _ _ _ _ k3)) | (go_at_call 11; exact Calls.quiet_of (HR7.out _)))
  go_wp2
  go_ret
  exact ⟨rfl, hb2'.trans ⟨rfl, rfl, rfl, Nat.le_refl _, fun _ _ => rfl⟩⟩
end Go.Proofs.Ytdegekoobgoekaa
