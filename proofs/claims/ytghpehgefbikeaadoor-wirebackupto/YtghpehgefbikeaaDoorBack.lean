/- WireBack: what was put is read back, and no strict beginning of it is read to its end. -/
import Derived.Test.YtghpehgefbikeaaDoorReadBack
namespace Go.Proofs.YtghpehgefbikeaaDoor
open Go.ChangeShapes Go.WideShapes Go.ChangeAt Go.RowKit

theorem rem_at (a : Int) (L : Nat) (h : (1 : Int) ≤ L) : ∃ I : Nat, Int.tmod (Int.tmod a L + L) L = (I : Int) ∧ (I : Int) < L := by
  have h1 := Int.lt_tmod_of_pos a (show (0 : Int) < L by omega)
  have h3 : 0 ≤ Int.tmod a L + L := by omega
  have h4 := Int.tmod_nonneg (L : Int) h3
  have h5 := Int.tmod_lt_of_pos (Int.tmod a L + L) (show (0 : Int) < L by omega)
  exact ⟨(Int.tmod (Int.tmod a L + L) L).toNat, by omega, by omega⟩
theorem own_spot3 {w : World} {base : Nat} {e : TypeId} {v : Value} {n : Nat} {xs : List Value} (h : w.ownsRow base e 1 v n xs) (hn : 1 ≤ n) : ∃ g cap, v = .slice (some ⟨g, 0, none⟩) n cap ∧ base ≤ g ∧ g < w.heap.size ∧ n ≤ cap := by
  rcases h.2 with ⟨_, h0⟩ | ⟨g, cap, cur, hv, hb, hg, hc, _⟩
  · omega
  · exact ⟨g, cap, hv, hb, (Array.getElem?_eq_some_iff.1 hg).1, hc⟩
theorem Rd.takeC {w : World} {b off n cap : Nat} {bs : List Int} (h : Rd w (.slice (some ⟨b, off, none⟩) bs.length cap) bs) (hn : n ≤ bs.length) : Rd w (.slice (some ⟨b, off, none⟩) n n) (bs.take n) := by
  obtain ⟨hB, a, c, e, hc, h0, hr⟩ := Rd.take h hn
  simp at e
  have hl : (bs.take n).length = n := by rw [List.length_take]; omega
  exact ⟨hB, some ⟨b, off, none⟩, n, by rw [hl], by omega, fun e => by simp at e, fun hp => by obtain ⟨b', o', e', r⟩ := hr hp; rw [← e.1] at e'; exact ⟨b', o', e', r⟩⟩
theorem Err.later {w w' : World} {g : Nat} {s : List UInt8} {a : Addr} (h : Err w g s a) (hb : Below w.heap.size w w') : Err w' g s a := by
  obtain ⟨h1, ⟨t, h2, h3⟩, c, u, h4⟩ := h
  refine ⟨cell_lat hb h1, ⟨t, cell_lat hb h2, h3⟩, c, u, ?_⟩
  rw [hb.block _ (World.block_lt_of_cell? w _ h2)]
  exact h4
set_option maxHeartbeats 6400000 in
theorem back_walk (w : World) (sv : Value) (xs : List OpD) (cut : Int) (a : Addr) (h' : Ops w sv xs) (hs : opsz xs ≤ 2097152) (hE : Err w 1 text1 a) :
    Calls Tryd.prog 6 #[sv, .int .i64 cut] w fun e w' => e = .returned (.bool true) ∧ Below w.heap.size w w' := by
  have hL := allb_len xs (by omega)
  have hlen := opsz_len xs
  have HE : Hid (Err w 1 text1 a) := hE
  clear hE
  obtain ⟨av, cap, rfl, hlc, hnil, hr⟩ := id h'
  clear hr hnil
  go_enter Tryd.func6, Tryd.ntmps6
  go_wp2_with (first | (go_at_call 9; refine (alive_any _).mono ?_; rintro e w1 ⟨rfl, hb1⟩) | (go_at_call 10; refine (new_any _).mono ?_; rintro e w2 ⟨rfl, hw2, hb2⟩; have hb2' := hb1.trans (hb2.mono hb1.size); obtain ⟨P, hP⟩ : ∃ P, P = w1.heap.size := ⟨_, rfl⟩; have hP0 : w.heap.size ≤ P := (by rw [hP]; exact hb1.size); rw [← hP] at hw2 ⊢; clear hP hb1 hb2))
  go_loopw [20] (fun iv wr => ∃ (k : Nat) (G : Nat → Prop), iv = .int .i64 k ∧ k ≤ xs.length ∧ Wr G wr P (allb (xs.take k)) false ∧ Hid (∀ j, G j → w.heap.size ≤ j) ∧ Below w.heap.size w wr) (fun iv _ => xs.length - (intOf iv).toNat)
  case atStart => exact ⟨0, _, rfl, Nat.zero_le _, by simpa [allb] using hw2, mkHid (fun j hj => by omega), hb2'⟩
  case round =>
    clear hw2 hb2'
    obtain ⟨k, G, rfl, hk, hw, HG, hbel⟩ := hrel
    have hbs := hbel.size
    by_cases hlt : k < xs.length
    · obtain ⟨b, off, rfl, hblt, hat⟩ := h'.at hlt
      have hr0 := hat.2.2.2.2.1
      obtain ⟨c0, c1, c2, c3, hrd, hbk, hbw, hbn⟩ := hat.later hbel
      have hsz := opsz_at xs k hlt
      have em := and_mask xs[k].n
      have HT : Hid (allb (xs.take (k + 1)) = allb (xs.take k) ++ opb xs[k]) := mkHid (allb_take xs k hlt)
      have hle := allb_le xs k
      have HO : Hid (opb xs[k] = if xs[k].kind = 1 then enc (mask xs[k].n) else if xs[k].kind = 2 ∨ xs[k].kind = 3 then enc xs[k].bs.length ++ xs[k].bs else []) := mkHid rfl
      have hml := mask_le xs[k].n
      have hcv := hrd.conv
      clear hat
      generalize xs[k] = x at *
      obtain ⟨xk, xw, xn, xv, xbs⟩ := x
      simp only at c0 c1 c2 c3 hrd hbk hbw hbn hr0 hsz em hml hcv
      obtain ⟨xa, xc, rfl⟩ : ∃ a c, xv = .slice a xbs.length c := hrd.2.imp fun a h => h.imp fun c h => h.1
      have hcv2 := fun o => ((hrd.alloc o).conv)
      clear hrd
      by_cases k1 : xk = 1
      · subst k1
        go_wp2_with (go_at_call 11; refine (num_any G _ P _ false (mask xn) (hw.below ((Below.refl _ _).alloc (Nat.le_refl _) _)) hml (by omega)).mono ?_; rintro e w4 ⟨rfl, G4, hw4, hF4, hk4⟩; have cB := hk4.below (B := w.heap.size) HG.out (by simp; omega); have hb4 := (hbel.alloc hbs _).trans cB; have HG4 : Hid (∀ j, G4 j → w.heap.size ≤ j) := mkHid (fun j hj => by rcases hF4 j hj with h | h; exact HG.out j h; simp at h; omega); clear hF4 hk4 cB)
        go_roundw
        case rel => exact ⟨k + 1, G4, by go_num, by omega, by rw [HT.out, HO.out]; simpa using hw4, HG4, hb4⟩
        case measure => simp [intOf]; omega
      · by_cases k2 : xk = 2
        · subst k2
          go_wp2_with (go_at_call 13; refine (text_any G _ P _ xbs false (hw.below ((Below.refl _ _).alloc (Nat.le_refl _) _)) hr0.1 (by omega)).mono ?_; rintro e w4 ⟨rfl, G4, hw4, hF4, hk4⟩; have cB := hk4.below (B := w.heap.size) HG.out (by simp; omega); have hb4 := (hbel.alloc hbs _).trans cB; have HG4 : Hid (∀ j, G4 j → w.heap.size ≤ j) := mkHid (fun j hj => by rcases hF4 j hj with h | h; exact HG.out j h; simp at h; omega); clear hF4 hk4 cB)
          go_roundw
          case rel => exact ⟨k + 1, G4, by go_num, by omega, by rw [HT.out, HO.out]; simpa using hw4, HG4, hb4⟩
          case measure => simp [intOf]; omega
        · by_cases k3 : xk = 3
          · subst k3
            go_wp2_with (go_at_call 16; refine (bytes_any G _ P _ xbs false _ (hw.below ((Below.refl _ _).alloc (Nat.le_refl _) _)) hr0.1 (by omega) (fun w' hk => hr0.later ((hbel.alloc hbs _).trans (hk.below (B := w.heap.size) HG.out (by simp; omega))))).mono ?_; rintro e w4 ⟨rfl, G4, hw4, hF4, hk4⟩; have cB := hk4.below (B := w.heap.size) HG.out (by simp; omega); have hb4 := (hbel.alloc hbs _).trans cB; have HG4 : Hid (∀ j, G4 j → w.heap.size ≤ j) := mkHid (fun j hj => by rcases hF4 j hj with h | h; exact HG.out j h; simp at h; omega); clear hF4 hk4 cB)
            go_roundw
            case rel => exact ⟨k + 1, G4, by go_num, by omega, by rw [HT.out, HO.out]; simpa using hw4, HG4, hb4⟩
            case measure => simp [intOf]; omega
          · have HO2 : Hid (opb ⟨xk, xw, xn, .slice xa xbs.length xc, xbs⟩ = []) := mkHid (by rw [HO.out]; simp [k1, k2, k3])
            go_wp2
            go_roundw
            case rel => exact ⟨k + 1, G, by go_num, by omega, by rw [HT.out, HO2.out, List.append_nil]; exact hw.below ((Below.refl _ _).alloc (Nat.le_refl _) _), HG, hbel.alloc hbs _⟩
            case measure => simp [intOf]; omega
    · obtain rfl : k = xs.length := by omega
      rw [List.take_length] at hw
      have M1 : Hid True := trivial
      by_cases hz : (allb xs).length = 0
      · go_wp2_with (first | (go_at_call 18; refine (done_ok G _ P _ hw (by omega)).mono ?_; rintro e w5 ⟨v5, rfl, ho5, hb5⟩; have hb5' := hbel.trans (hb5.mono hbel.size); have r5 := Rd.of_owns hw.2.2.1 ho5; obtain ⟨a5, c5, hv5⟩ := own_shape ho5; rw [hz] at hv5; subst hv5; clear ho5; clear hb5) | (go_at_call 35; clear M1; refine (read_any _ _ _ xs (allb xs) (allb xs).length true a r5 (h'.later hb5') (by rw [List.take_length]) (Nat.le_refl _) hs (HE.out.later hb5') (by simp)).mono ?_; rintro e w6 ⟨rfl, hb6⟩; have hb6' := hb5'.trans (hb6.mono hb5'.size); have r6 := r5.later hb6; clear hb6 r5))
        go_ret
        exact ⟨rfl, hb6'⟩
      · obtain ⟨I, eI, hI⟩ := rem_at cut (allb xs).length (by omega)
        have hs1 := Int.lt_tmod_of_pos cut (show (0 : Int) < ((allb xs).length : Int) by omega)
        have hs2 := Int.tmod_lt_of_pos cut (show (0 : Int) < ((allb xs).length : Int) by omega)
        have hwr : wrap64 (cut.tmod ((allb xs).length : Int) + ((allb xs).length : Int)) = cut.tmod ((allb xs).length : Int) + ((allb xs).length : Int) := by unfold wrap64; omega
        go_wp2_with (first | (go_at_call 18; refine (done_ok G _ P _ hw (by omega)).mono ?_; rintro e w5 ⟨v5, rfl, ho5, hb5⟩; have hb5' := hbel.trans (hb5.mono hbel.size); have r5 := Rd.of_owns hw.2.2.1 ho5; obtain ⟨g5, c5, hv5, hg5, hgl5, hcc⟩ := own_spot3 ho5 (by omega); subst hv5; clear ho5; clear hb5) | (go_at_call 35; clear M1; refine (read_any _ _ _ xs (allb xs) (allb xs).length true a r5 (h'.later hb5') (by rw [List.take_length]) (Nat.le_refl _) hs (HE.out.later hb5') (by simp)).mono ?_; rintro e w6 ⟨rfl, hb6⟩; have hb6' := hb5'.trans (hb6.mono hb5'.size); have r6 := r5.later hb6; clear hb6 r5) | (go_at_call 35; refine (read_any _ _ _ xs ((allb xs).take I) I false a (r6.takeC (by omega)) (h'.later hb6') rfl (by omega) hs (HE.out.later hb6') (by simp; omega)).mono ?_; rintro e w7 ⟨rfl, hb7⟩; have hb7' := hb6'.trans (hb7.mono hb6'.size); clear hb7))
        go_ret
        exact ⟨rfl, hb7'⟩
end Go.Proofs.YtghpehgefbikeaaDoor
