/- WireSpoilt: a writer that was given a number below 0 tells nothing any more. -/
import Derived.Test.YtghpehgefbikeabDoorAlive
import Derived.Test.YtghpehgefbikeabDoorOpenOps
import Derived.Test.YtghpehgefbikeabDoorLaid
import Derived.Laws.DeepNot64
namespace Go.Proofs.YtghpehgefbikeabDoor
open Go.ChangeShapes Go.WideShapes Go.ChangeAt Go.RowKit

theorem not_ex (n : Int) (h1 : -9223372036854775808 ≤ n) (h2 : n ≤ 9223372036854775807) (h : 0 ≤ n) : bits .xor .i64 (-1) n = -1 - n := by
  obtain ⟨N, rfl⟩ := Int.eq_ofNat_of_zero_le h
  exact i64_not N (by omega)
theorem opsz_drop (xs : List OpD) (k : Nat) (h : k < xs.length) : opsz (xs.drop k) = xs[k].bs.length + 10 + opsz (xs.drop (k + 1)) := by
  unfold opsz
  rw [List.drop_eq_getElem_cons h, List.map_cons, List.sum_cons]
theorem cell_later {w w' : World} {a : Addr} {v : Value} (hb : Below w.heap.size w w') (h : w.cell? a = some v) : w'.cell? a = some v :=
  (kept_of_below hb).cell h (by have := World.block_lt_of_cell? w _ h; omega)
/-- Num of whatever number. -/
theorem num_all (F : Nat → Prop) (w : World) (p : Nat) (bs : List Int) (n : Int) (h : Wr F w p bs true) (hn : n ≤ 9223372036854775807) (hl : (bs.length : Int) ≤ 140737488350000) :
    Calls Tryd.prog 6 #[.pointer (some ⟨p, 0, none⟩), .int .i64 n] w fun e w' => e = .returned (.tuple #[]) ∧ ∃ F' bs', Wr F' w' p bs' true ∧ bs'.length ≤ bs.length + 9 ∧ (∀ k, F' k → F k ∨ w.heap.size ≤ k) ∧ Kept F w w' := by
  by_cases h0 : n < 0
  · refine (num_spoil F w p bs true n h h0).mono ?_
    rintro e w' ⟨rfl, hw, hk⟩
    exact ⟨rfl, F, bs, hw, by omega, fun k hk => .inl hk, hk⟩
  · obtain ⟨N, rfl⟩ := Int.eq_ofNat_of_zero_le (show 0 ≤ n by omega)
    refine (num_any F w p bs true N h hn hl).mono ?_
    rintro e w' ⟨rfl, F', hw, hF, hk⟩
    exact ⟨rfl, F', _, hw, by rw [List.length_append]; have := enc_len9 N (by omega); omega, hF, hk⟩
set_option maxHeartbeats 3200000 in
theorem spoilt_walk (w : World) (v : Value) (xs : List OpD) (n : Int) (a : Addr) (h : Ops w v xs) (hs : opsz xs ≤ 2097152) (hn1 : -9223372036854775808 ≤ n) (hn2 : n ≤ 9223372036854775807) (hE : Err w 0 text0 a) :
    Calls Tryd.prog 3 #[v, .int .i64 n] w fun e w' => e = .returned (.bool true) ∧ Below w.heap.size w w' := by
  have hq := hE.eq
  have hq2 := hE.same
  have he := hE.1
  have h' := h
  obtain ⟨av, cap, rfl, hlc, hnil, hr⟩ := h
  clear hr
  obtain ⟨m, hm, em⟩ : ∃ m : Int, m < 0 ∧ ((0 ≤ n ∧ bits .xor .i64 (-1) n = m) ∨ (n < 0 ∧ n = m)) := by
    by_cases h0 : 0 ≤ n
    · exact ⟨-1 - n, by omega, .inl ⟨h0, not_ex n hn1 hn2 h0⟩⟩
    · exact ⟨n, by omega, .inr ⟨by omega, rfl⟩⟩
  have hsg : IntKind.i64.signed = true := rfl
  have hlen : xs.length ≤ opsz xs := by
    clear h' hlc hs
    induction xs with
    | nil => simp
    | cons x xs ih => simp only [opsz, List.map_cons, List.sum_cons, List.length_cons] at ih ⊢; omega
  rcases em with ⟨h0, em⟩ | ⟨h0, em⟩
  all_goals
    go_enter Tryd.func3, Tryd.ntmps3
    go_wp2_with (first | (go_at_call 4; refine (alive_any _).mono ?_; rintro e w1 ⟨rfl, hb1⟩) | (go_at_call 5; refine (new_any _).mono ?_; rintro e w2 ⟨rfl, hw2, hb2⟩; have hb2' := hb1.trans (hb2.mono hb1.size); obtain ⟨P, hP⟩ : ∃ P, P = w1.heap.size := ⟨_, rfl⟩; have hP0 : w.heap.size ≤ P := (by rw [hP]; exact hb1.size); rw [← hP] at hw2 ⊢; clear hP hb1 hb2) | (go_at_call 6; refine (num_spoil _ _ _ _ _ _ hw2 (by omega)).mono ?_; rintro e w3 ⟨rfl, hw3, hk3⟩; have hb3 := hb2'.trans (hk3.below (B := w.heap.size) (fun k hk => by omega) hb2'.size); clear hb2' hk3 hw2))
    go_loopw [26] (fun iv wr => ∃ (k : Nat) (G : Nat → Prop) (bs : List Int), iv = .int .i64 k ∧ k ≤ xs.length ∧ Wr G wr P bs true ∧ Hid ((∀ j, G j → w.heap.size ≤ j) ∧ bs.length + 2 * opsz (xs.drop k) ≤ 4194304) ∧ Below w.heap.size w wr) (fun iv _ => xs.length - (intOf iv).toNat)
    case atStart => exact ⟨0, _, [], rfl, Nat.zero_le _, hw3, mkHid ⟨fun j hj => by omega, by simp; omega⟩, hb3⟩
    case round =>
      clear hw3 hb3
      obtain ⟨k, G, bs, rfl, hk, hw, HG, hbel⟩ := hrel
      have her := cell_later hbel he
      by_cases hlt : k < xs.length
      · obtain ⟨b, off, rfl, hblt, hat⟩ := h'.at hlt
        have hr0 := hat.2.2.2.2.1
        obtain ⟨c0, c1, c2, c3, hrd, hbk, hbw, hbn⟩ := hat.later hbel
        have hO := opsz_drop xs k hlt
        obtain ⟨HG1, HG2⟩ := HG.out
        have HL : Hid ((bs.length : Int) + 2 * (xs[k].bs.length + 10 + opsz (xs.drop (k + 1))) ≤ 4194304) := mkHid (by omega)
        have HG1' : Hid ((∀ j, G j → w.heap.size ≤ j) ∧ ∀ j, G j → j < wr.heap.size) := ⟨HG1, hw.1⟩
        clear HG HG1 HG2 hO hat
        generalize xs[k] = x at *
        obtain ⟨xk, xw, xn, xv, xbs⟩ := x
        simp only at c0 c1 c2 c3 hrd hbk hbw hbn HL hr0
        obtain ⟨xa, xc, rfl⟩ : ∃ a c, xv = .slice a xbs.length c := hrd.2.imp fun a h => h.imp fun c h => h.1
        have hbs := hbel.size
        clear hrd
        go_wp2_with (first | (go_at_call 6; refine (num_all G _ P bs xn (hw.below ((Below.refl _ _).alloc (Nat.le_refl _) _)) hbn.2 (by have := HL.out; omega)).mono ?_; rintro e w4 ⟨rfl, G4, bs4, hw4, hl4, hF4, hk4⟩; have cL : w4.cell? ⟨wr.heap.size, 3, none⟩ = some (.slice xa xbs.length xc) := hk4.cell (by go_simp) (fun g => by have := HG1'.out.2 _ g; simp at this); have hb4 := (hbel.alloc hbs _).trans (hk4.below (B := w.heap.size) HG1'.out.1 (by simp; omega)); have HG4 : Hid (∀ j, G4 j → w.heap.size ≤ j) := mkHid (fun j hj => by rcases hF4 j hj with h | h; exact HG1'.out.1 j h; simp at h; omega); clear hF4 hk4) | (go_at_call 7; refine (bytes_any G4 _ P bs4 xbs true _ hw4 hr0.1 (by have := HL.out; omega) (fun w' hk => hr0.later (hb4.trans (hk.below (B := w.heap.size) HG4.out hb4.size)))).mono ?_; rintro e w5 ⟨rfl, G5, hw5, hF5, hk5⟩; have hb5 := hb4.trans (hk5.below (B := w.heap.size) HG4.out hb4.size); have HG5 : Hid (∀ j, G5 j → w.heap.size ≤ j) := mkHid (fun j hj => by have := hb4.size; rcases hF5 j hj with h | h; exact HG4.out j h; omega); clear hF5 hk5; have he5 := cell_later hb5 he) | (go_at_call 8; refine (done_spoilt G5 _ P _ _ hw5 he5).mono ?_; rintro e w6 ⟨rfl, hb6⟩; have hw6 := hw5.below hb6; have he6 := cell_later hb6 he5; have hb6' := hb5.trans (hb6.mono hb5.size); clear hb6 hb5))
        go_roundw
        case rel => exact ⟨k + 1, G5, _, by go_num, by omega, hw6, mkHid ⟨HG5.out, by have := HL.out; have := enc_len9 xbs.length (by omega); simp only [List.length_append]; omega⟩, hb6'⟩
        case measure => simp [intOf]; omega
      · obtain rfl : k = xs.length := by omega
        go_wp2_with (go_at_call 8; refine (done_spoilt G _ P _ _ hw her).mono ?_; rintro e w6 ⟨rfl, hb6⟩; have he6 := cell_later hb6 her; have hb6' := hbel.trans (hb6.mono hbel.size); clear hb6)
        go_ret
        exact ⟨rfl, hb6'⟩
end Go.Proofs.YtghpehgefbikeabDoor
