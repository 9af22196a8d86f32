/- The law's own reader, walked. -/
import Derived.Test.YtghpehgefbikeaaDoorAt
import Derived.Test.YtghpehgefbikeaaDoorLaid
namespace Go.Proofs.YtghpehgefbikeaaDoor
open Go.ChangeShapes Go.WideShapes Go.ChangeAt Go.RowKit

theorem At.below {F : Nat → Prop} {w w' : World} {p k : Nat} {bs : List Int} {xs : List OpD} (h : At F w p bs xs k) (hb : Below w.heap.size w w') : At F w' p bs xs k := Rr.below h hb
set_option maxHeartbeats 6400000 in
theorem read_any (w : World) (v sv : Value) (xs : List OpD) (bs : List Int) (n : Nat) (c : Bool) (a : Addr) (h : Rd w v bs) (h' : Ops w sv xs) (hb : bs = (allb xs).take n) (hn : n ≤ (allb xs).length) (hs : opsz xs ≤ 2097152) (hE : Err w 1 text1 a) (hc : c = decide (n = (allb xs).length)) :
    Calls Tryd.prog 35 #[v, sv] w fun e w' => e = .returned (.tuple #[.bool c, .bool c]) ∧ Below w.heap.size w w' := by
  have he := hE.1
  have hL := allb_len xs (by omega)
  have hbl : bs.length = n := by rw [hb, List.length_take]; omega
  have hbi : (bs.length : Int) ≤ 140737488355328 := by omega
  have HC : Hid (c = decide (n = (allb xs).length)) := hc
  have HB : Hid (bs = (allb xs).take n) := hb
  have HBL : Hid (bs.length = n ∧ n ≤ (allb xs).length) := ⟨hbl, hn⟩
  have hlen := opsz_len xs
  clear hc hb hbl hn hL
  obtain ⟨av, cap, rfl, hlc, hnil, hr⟩ := id h'
  clear hr hnil
  go_enter Tryd.func35, Tryd.ntmps35
  go_wp2_with (go_at_call 19; refine (newReader_any _ _ bs h hbi).mono ?_; rintro e w1 ⟨p, F, rfl, hR, hF, hb1⟩; have HF : Hid (∀ k, F k → w.heap.size ≤ k) := hF; clear hF)
  go_loopw [21] (fun iv wr => ∃ k : Nat, iv = .int .i64 k ∧ k ≤ xs.length ∧ At F wr p bs xs k ∧ Below w.heap.size w wr) (fun iv _ => xs.length - (intOf iv).toNat)
  case atStart => exact ⟨0, rfl, Nat.zero_le _, by simpa [At, allb] using hR, hb1⟩
  case round =>
    clear hR hb1
    obtain ⟨k, rfl, hk, hA, hbel⟩ := hrel
    have her := cell_lat hbel he
    have hbs := hbel.size
    by_cases hlt : k < xs.length
    · obtain ⟨b, off, rfl, hblt, hat⟩ := h'.at hlt
      have hr0 := hat.2.2.2.2.1
      obtain ⟨c0, c1, c2, c3, hrd, hbk, hbw, hbn⟩ := hat.later hbel
      have hsz := opsz_at xs k hlt
      have em := and_mask xs[k].n
      have HN := mkHid (fun w w' e => @at_num F w w' p k n bs xs (.iface 86 (.pointer (some a))) e HB.out hlt)
      have HT := mkHid (fun w w' e => @at_text F w w' p k n bs xs (.iface 86 (.pointer (some a))) e HB.out hlt)
      have HY := mkHid (fun w w' e => @at_bytes F w w' p k n bs xs (.iface 86 (.pointer (some a))) e HB.out hlt)
      have HS := mkHid (fun w => @at_skip F w p k bs xs hlt)
      clear hat
      generalize xs[k] = x at *
      obtain ⟨xk, xw, xn, xv, xbs⟩ := x
      simp only at c0 c1 c2 c3 hrd hbk hbw hbn hr0 hsz em
      obtain ⟨xa, xc, rfl⟩ : ∃ a c, xv = .slice a xbs.length c := hrd.2.imp fun a h => h.imp fun c h => h.1
      clear hrd
      have hout := mkHid (fun (hlt' : n < (allb xs).length) => show c = false from by rw [HC.out]; simp; omega)
      have HNF : Hid (¬ F wr.heap.size) := mkHid (fun hf => by have := (show Rr F wr p bs _ from hA).1 _ hf; omega)
      by_cases k1 : xk = 1
      · subst k1
        go_wp2_with (go_at_call 20; refine (rnum_any F _ p bs _ _ _ (Rr.below hA ((Below.refl _ _).alloc (Nat.le_refl _) _)) hbi (cell_lat ((Below.refl _ _).alloc (Nat.le_refl _) _) her)).mono ?_; intro e w2 hp; have hq := HN.out _ _ _ (by simp) hp; rcases hq with ⟨rfl, hA2, hk2⟩ | ⟨hlt2, rfl, hk2⟩ <;> (have cL2 : w2.cell? ⟨wr.heap.size, 2, none⟩ = some (.int .i64 xn) := hk2.cell (by go_simp) HNF.out; have cL3 : w2.cell? ⟨wr.heap.size, 3, none⟩ = some (.slice xa xbs.length xc) := hk2.cell (by go_simp) HNF.out; have hb2 := (hbel.alloc hbs _).trans (hk2.below (B := w.heap.size) HF.out (by simp; omega)); clear hp hk2))
        · go_roundw
          case rel => exact ⟨k + 1, by go_num, by omega, hA2, hb2⟩
          case measure => simp [intOf]; omega
        · go_ret2
          have := hout.out hlt2
          subst this
          exact ⟨rfl, hb2⟩
      · by_cases k2 : xk = 2
        · subst k2
          go_wp2_with (go_at_call 23; refine (rtext_any F _ p bs _ _ _ (Rr.below hA ((Below.refl _ _).alloc (Nat.le_refl _) _)) hbi (cell_lat ((Below.refl _ _).alloc (Nat.le_refl _) _) her)).mono ?_; intro e w2 hp; have hq := HT.out _ _ _ (by simp) hp; rcases hq with ⟨rfl, hA2, hk2⟩ | ⟨hlt2, rfl, hk2⟩ <;> (have cL2 : w2.cell? ⟨wr.heap.size, 2, none⟩ = some (.int .i64 xn) := hk2.cell (by go_simp) HNF.out; have cL3 : w2.cell? ⟨wr.heap.size, 3, none⟩ = some (.slice xa xbs.length xc) := hk2.cell (by go_simp) HNF.out; have hb2 := (hbel.alloc hbs _).trans (hk2.below (B := w.heap.size) HF.out (by simp; omega)); have cv2 := (hr0.later hb2).conv; clear hp hk2))
          · go_roundw
            case rel => exact ⟨k + 1, by go_num, by omega, hA2, hb2⟩
            case measure => simp [intOf]; omega
          · go_ret2
            have := hout.out hlt2
            subst this
            exact ⟨rfl, hb2⟩
        · by_cases k3 : xk = 3
          · subst k3
            go_wp2_with (go_at_call 25; refine (rbytes_any F _ p bs _ _ _ (Rr.below hA ((Below.refl _ _).alloc (Nat.le_refl _) _)) hbi (cell_lat ((Below.refl _ _).alloc (Nat.le_refl _) _) her)).mono ?_; intro e w2 hp; have hq := HY.out _ _ _ (by simp) hp; rcases hq with ⟨v2, rfl, ho2, hA2, hk2⟩ | ⟨hlt2, v2, rfl, hk2⟩ <;> (have cL2 : w2.cell? ⟨wr.heap.size, 2, none⟩ = some (.int .i64 xn) := hk2.cell (by go_simp) HNF.out; have cL3 : w2.cell? ⟨wr.heap.size, 3, none⟩ = some (.slice xa xbs.length xc) := hk2.cell (by go_simp) HNF.out; have hb2 := (hbel.alloc hbs _).trans (hk2.below (B := w.heap.size) HF.out (by simp; omega)); have cv2 := (hr0.later hb2).conv; (try have cv3 := (Rd.of_owns hr0.1 ho2).conv); clear hp hk2))
            · go_roundw
              case rel => exact ⟨k + 1, by go_num, by omega, hA2, hb2⟩
              case measure => simp [intOf]; omega
            · go_ret2
              have := hout.out hlt2
              subst this
              exact ⟨rfl, hb2⟩
          · have hA2 := HS.out _ k1 k2 k3 hA
            go_wp2
            go_roundw
            case rel => exact ⟨k + 1, by go_num, by omega, hA2.below ((Below.refl _ _).alloc (Nat.le_refl _) _), hbel.alloc hbs _⟩
            case measure => simp [intOf]; omega
    · obtain rfl : k = xs.length := by omega
      have hA' : Rr F wr p bs (allb xs).length := by unfold At at hA; rwa [List.take_length] at hA
      have hz : (allb xs).length = bs.length := by have := hA'.2.2.1; have := HBL.out; omega
      have hct : c = true := by rw [HC.out]; have := HBL.out; simp; omega
      subst hct
      go_wp2
      go_region_with (go_at_call 26; refine (end_nil F _ p bs _ hA'.dr hbi hz).mono ?_; rintro e wx ⟨rfl, nq, hw⟩; rw [hw]; clear hw)
      all_goals go_wp2
      all_goals go_ret2
      all_goals exact ⟨rfl, hbel.trans ⟨rfl, rfl, rfl, Nat.le_refl _, fun _ _ => rfl⟩⟩
end Go.Proofs.YtghpehgefbikeaaDoor
