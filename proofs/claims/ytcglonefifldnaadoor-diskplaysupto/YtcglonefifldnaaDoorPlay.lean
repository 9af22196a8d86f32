/- play: one call by both. -/
import Derived.Test.YtcglonefifldnaaDoorPlaySt
namespace Go.Proofs.YtcglonefifldnaaDoor
open Go.ChangeShapes Go.WideShapes Go.ChangeAt Go.RowKit

def PlayPost (w0 : World) (p q n m sb nb : Nat) (e : Ending) (w' : World) : Prop := e = .returned (.bool true) ∧ ∃ lost f c nw F G fs fn av dv H, PS w0 w' p q n m lost f c nw F G fs fn sb nb av dv H
theorem PS.wrote {w0 wr w1 w2 w3 : World} {p q n m : Nat} {lost : Bool} {f : Int → List Int} {c : List (Int × List Int)} {nw : Int} {F G F' G' : Nat → Prop} {fs fn : Int → List Int} {sb nb : Nat} {av dv av' dv' : Value} {H H' : Nat → Prop} {i k : Int} {bs : List Int} (h : PS w0 wr p q n m lost f c nw F G fs fn sb nb av dv H) (hD : Dk F' w1 p n f (wput k c i bs) (wnum k nw) lost) (hF : ∀ k, F' k → F k ∨ wr.heap.size ≤ k) (hk1 : Kept F wr w1) (hb : Below w1.heap.size w1 w2)
    (hR : Rk G' w3 q n fs (if k = 0 then updI fn i bs else fn) (wput k c i bs) (wnum k nw) lost sb nb av' dv' H') (hG : ∀ k, G' k → G k ∨ w2.heap.size ≤ k) (hk3 : Kept G w2 w3) : PS w0 w3 p q n (m + 1) lost f (wput k c i bs) (wnum k nw) F' G' fs (if k = 0 then updI fn i bs else fn) sb nb av' dv' H' := by
  refine h.two hD hF hk1 hb hR hG hk3 (fun hl => ?_) ?_ ?_
  · obtain ⟨e1, e2⟩ := h.eq hl
    refine ⟨e1, ?_⟩
    unfold wput
    split
    · rw [seenOf_snoc, e2]
    · exact e2
  · have := h.cl
    unfold wput
    split
    · simp; omega
    · omega
  · have := h.nn
    unfold wnum
    split <;> omega
set_option maxRecDepth 5000 in
set_option maxHeartbeats 12800000 in
theorem play_write (w0 wr : World) (p q n m : Nat) (lost : Bool) (f : Int → List Int) (c : List (Int × List Int)) (nw : Int) (F G : Nat → Prop) (fs fn : Int → List Int) (sb nb : Nat) (av dv : Value) (H : Nat → Prop) (xk xa xt xkeep : Int) (v : Value) (bs : List Int) (a : Nat → Addr) (E : Errs w0 a) (hS : PS w0 wr p q n m lost f c nw F G fs fn sb nb av dv H) (hv : Rd wr v bs) (hbl : (bs.length : Int) ≤ 140737488355300) (hm : m ≤ 100000000) (hk : xk = 1 ∨ xk = 2) :
    Calls Tryd.prog 11 #[.pointer (some ⟨p, 0, none⟩), .pointer (some ⟨q, 0, none⟩), .agg #[.int .i64 xk, .int .i64 xa, .int .i64 xt, .int .u64 xkeep, v]] wr (PlayPost w0 p q n (m + 1) sb nb) := by
  obtain ⟨xsa, xsc, rfl⟩ : ∃ a c, v = .slice a bs.length c := hv.2.imp fun a h => h.imp fun c h => h.1
  have HE := mkHid E
  have HS := mkHid hS
  have HV := mkHid hv
  have hbm : (bs.length : Int) ≤ 9223372036854775807 := by omega
  have HLM : Hid (c.length ≤ 100000000 ∧ (0 ≤ nw ∧ nw ≤ 100000000)) := mkHid (by have := hS.cl; have := hS.nn; omega)
  clear E hS hv
  obtain ⟨W1, hW1⟩ : ∃ W1, W1 = wr.alloc (.cells #[.int .i64 xk, .int .i64 xa, .int .i64 xt, .int .u64 xkeep, .slice xsa bs.length xsc] 35) := ⟨_, rfl⟩
  have hb1 : Below wr.heap.size wr W1 := by rw [hW1]; exact (Below.refl _ wr).alloc (Nat.le_refl _) _
  have hz1 : W1.heap.size = wr.heap.size + 1 := by rw [hW1]; simp
  have HC : Hid (W1.cell? ⟨wr.heap.size, 0, none⟩ = some (.int .i64 xk) ∧ W1.cell? ⟨wr.heap.size, 1, none⟩ = some (.int .i64 xa) ∧ W1.cell? ⟨wr.heap.size, 4, none⟩ = some (.slice xsa bs.length xsc)) := mkHid (by rw [hW1]; exact ⟨by go_simp, by go_simp, by go_simp⟩)
  have HS1 := mkHid (HS.out.late hb1)
  have HV1 := mkHid (HV.out.later hb1)
  have q0 := HC.out.1
  have q4 := HC.out.2.2
  have HKEEP : Hid (∀ (w' : World) (o : Nat) (u : Value), Below W1.heap.size W1 w' → W1.cell? ⟨wr.heap.size, o, none⟩ = some u → w'.cell? ⟨wr.heap.size, o, none⟩ = some u) := mkHid (fun w' o u hb hu => (hb.cell (p := ⟨wr.heap.size, o, none⟩) (by show wr.heap.size < W1.heap.size; omega)).trans hu)
  go_enter Tryd.func11, Tryd.ntmps11
  rcases hk with rfl | rfl
  · go_wp2_with (first
      | (go_at_call 21; rw [← hW1]; refine (nbytes_any W1 _ bs HV1.out hbl).mono ?_; rintro e w2 ⟨g2, cap2, rfl, hMk, hb2⟩; have HB2 := mkHid hb2; have r0 := HKEEP.out w2 0 _ hb2 HC.out.1; have r1 := HKEEP.out w2 1 _ hb2 HC.out.2.1; have r4 := HKEEP.out w2 4 _ hb2 HC.out.2.2; have HGL := mkHid hMk.lt; have HRb := mkHid (hMk.rd HV.out.1); have HWb := mkHid (WB.of_mk HV.out.1 hMk); have hcv2 := HRb.out.conv; clear hMk hb2))
    have HPS := mkHid (HS1.out.late HB2.out)
    have HPd := mkHid (HPS.out.late (show Below w2.heap.size w2 w2.drew from ⟨rfl, rfl, rfl, Nat.le_refl _, fun _ _ => rfl⟩))
    have HRd := mkHid HRb.out.drew
    have HWd := mkHid (HWb.out.kept (Kept.drew (fun _ => False) w2) (fun h => h))
    have HGB : Hid ((¬ F g2 ∧ ¬ G g2) ∧ w0.heap.size ≤ g2 ∧ g2 < w2.heap.size) := mkHid ⟨⟨fun e => by have := HS1.out.dk.1 _ e; have := HGL.out.1; omega, fun e => by have := HS1.out.rk.lt _ e; have := HGL.out.1; omega⟩, by have := HS1.out.bel.size; have := HGL.out.1; omega, HGL.out.2⟩
    have HOP : Hid (¬ F wr.heap.size ∧ ¬ G wr.heap.size) := mkHid ⟨fun e => by have := HS.out.dk.1 _ e; omega, fun e => by have := HS.out.rk.lt _ e; omega⟩
    obtain ⟨k, hk⟩ : ∃ k, k = wcode lost n xa bs.length := ⟨_, rfl⟩
    have HK := mkHid hk
    have t1 : w2.drew.cell? ⟨wr.heap.size, 1, none⟩ = some (.int .i64 xa) := r1
    clear hk hW1 q0 q4
    go_region_held (fun w' => w'.cell? ⟨wr.heap.size, 1, none⟩ = some (.int .i64 xa)) (go_keep) (first
      | (go_at_call 17; refine (dwrite_all F w2.drew p n f c nw lost xa _ bs a (HE.out.late HPd.out.bel) HPd.out.dk HRd.out (by have := HLM.out.1; omega) (by have := HLM.out.2; omega)).mono ?_; rintro e w5 ⟨ev5, F5, rfl, hE5, hD5, hF5, hk5⟩; rw [← HK.out] at hE5 hD5; have t5 := hk5.cell t1 HOP.out.1; have HE5 := mkHid hE5; have HD5 := mkHid hD5; have HF5 := mkHid hF5; have HK5 := mkHid hk5; have HW5 := mkHid (HWd.out.kept hk5 HGB.out.1.1); have HR5 := mkHid (HRd.out.kept hk5 (fun j hj e => by simp [Value.ownBlock] at hj; subst hj; exact HGB.out.1.1 e)); have HB5 := mkHid (HPd.out.mid hk5 (Below.refl _ w5)).2; clear hE5 hD5 hF5 hk5)
      | (go_at_call 9; refine (errnum_no w5 a (HE.out.late HB5.out) _ _ HE5.out).mono ?_; rintro e w6 ⟨rfl, hb6⟩; have t6 := (hb6.cell (p := ⟨wr.heap.size, 1, none⟩) (World.block_lt_of_cell? w5 _ t5)).trans t5; have HM6 := mkHid (HPd.out.mid HK5.out hb6); have HR6 := mkHid (HR5.out.later hb6); have HW6 := mkHid (HW5.out.kept (kept_of_below hb6) (fun hge => by have := HGB.out.2.2; have := HK5.out.size; have h2 : w2.drew.heap.size = w2.heap.size := rfl; omega)); have HB6 := mkHid hb6; clear hb6)
      | (go_at_call 22; refine (rwrite_all G w6 q n fs fn c nw lost sb nb av dv H xa _ bs HM6.out.1 HR6.out (fun j hj e => by simp [Value.ownBlock] at hj; subst hj; exact HGB.out.1.2 e) (by have := HLM.out.1; omega) (by have := HLM.out.2; omega)).mono ?_; rintro r w7 ⟨rfl, G7, av7, dv7, H7, hR7, hG7, hk7⟩; rw [← HK.out] at hR7 ⊢; have HP7 := mkHid (HPd.out.wrote HD5.out HF5.out HK5.out HB6.out hR7 hG7 hk7); have t7 := hk7.cell t6 HOP.out.2; have hcv7 := (HR6.out.kept hk7 (fun j hj e => by simp [Value.ownBlock] at hj; subst hj; exact HGB.out.1.2 e)).conv; have HW7 := mkHid (HW6.out.kept hk7 HGB.out.1.2); have HN7 : Hid (¬ F5 g2 ∧ ¬ G7 g2) := mkHid ⟨fun e => by rcases HF5.out _ e with h | h; exact HGB.out.1.1 h; (have h2 : w2.drew.heap.size = w2.heap.size := rfl; have := HGB.out.2.2; omega), fun e => by rcases hG7 _ e with h | h; exact HGB.out.1.2 h; (have h2 : w2.drew.heap.size = w2.heap.size := rfl; have := HGB.out.2.2; have := HK5.out.size; have := HB6.out.size; omega)⟩; clear hR7 hG7 hk7))
    clear HPd HRd HWd HR5 HW5 HR6 HW6 HM6 HB5 HB6 HD5 HF5 HK5 HE5 t1 t5 t6 t7 hcv7 HOP HPS HRb HWb
    go_wp2
    go_loopw [53] (fun iv wq => ∃ j : Nat, iv = .int .i64 (j : Int) ∧ j ≤ bs.length ∧ PS w0 wq p q n (m + 1) lost f (wput k c xa bs) (wnum k nw) F5 G7 fs (if k = 0 then updI fn xa bs else fn) sb nb av7 dv7 H7 ∧ WB wq g2 bs.length) (fun iv _ => bs.length - (intOf iv).toNat)
    case atStart => exact ⟨0, rfl, Nat.zero_le _, HP7.out, HW7.out⟩
    case round =>
      clear HP7 HW7
      obtain ⟨j, rfl, hj, hP, hW⟩ := hrel
      by_cases hjl : j < bs.length
      · have hji : (j : Int) < (bs.length : Int) := by omega
        obtain ⟨x, cx, fx, x0, x1⟩ := hW.at hjl
        obtain ⟨y, hy, y0, y1⟩ := xor77 x ⟨x0, x1⟩
        have HP := mkHid (hP.other (Kept.setCell (F := fun k => k = g2) wr (p := ⟨g2, j, none⟩) rfl (.int .u8 y)) HGB.out.2.1 HN7.out.1 HN7.out.2)
        have HW := mkHid (hW.set (k := j) ⟨y0, y1⟩)
        clear hP hW
        go_wp2
        go_roundw
        case rel => exact ⟨j + 1, by go_num, by omega, HP.out, HW.out⟩
        case measure => simp [intOf]; omega
      · have hji : ¬ (j : Int) < (bs.length : Int) := by omega
        have HP := mkHid hP
        clear hP hW
        go_wp2
        go_ret
        exact ⟨rfl, lost, f, _, _, F5, G7, fs, _, av7, dv7, H7, HP.out⟩
  · go_wp2_with (first
      | (go_at_call 21; rw [← hW1]; refine (nbytes_any W1 _ bs HV1.out hbl).mono ?_; rintro e w2 ⟨g2, cap2, rfl, hMk, hb2⟩; have HB2 := mkHid hb2; have r0 := HKEEP.out w2 0 _ hb2 HC.out.1; have r1 := HKEEP.out w2 1 _ hb2 HC.out.2.1; have r4 := HKEEP.out w2 4 _ hb2 HC.out.2.2; clear hMk hb2)
      | (go_at_call 16; refine (filled_any w2 _ bs (HV1.out.later HB2.out) hbm).mono ?_; rintro e w3 ⟨g3, rfl, ho3, hb3⟩; have HB3 := mkHid (HB2.out.trans (hb3.mono HB2.out.size)); have s0 := HKEEP.out w3 0 _ HB3.out HC.out.1; have s1 := HKEEP.out w3 1 _ HB3.out HC.out.2.1; have HGL : Hid (W1.heap.size ≤ g3 ∧ g3 < w3.heap.size) := mkHid (by have := ho3.lt g3 rfl; have := HB2.out.size; omega); have HRb := mkHid (filled_rd HV.out.1 ho3); have HWb := mkHid (WB.of_owns (filledB_sec HV.out.1).byts ho3); have hcv3 := HRb.out.conv; clear ho3 hb3))
    have HPS := mkHid (HS1.out.late HB3.out)
    have HPd := mkHid (HPS.out.late (show Below w3.heap.size w3 w3.drew from ⟨rfl, rfl, rfl, Nat.le_refl _, fun _ _ => rfl⟩))
    have HRd := mkHid HRb.out.drew
    have HWd := mkHid (HWb.out.kept (Kept.drew (fun _ => False) w3) (fun h => h))
    have HGB : Hid ((¬ F g3 ∧ ¬ G g3) ∧ w0.heap.size ≤ g3 ∧ g3 < w3.heap.size) := mkHid ⟨⟨fun e => by have := HS1.out.dk.1 _ e; have := HGL.out.1; omega, fun e => by have := HS1.out.rk.lt _ e; have := HGL.out.1; omega⟩, by have := HS1.out.bel.size; have := HGL.out.1; omega, HGL.out.2⟩
    have HOP : Hid (¬ F wr.heap.size ∧ ¬ G wr.heap.size) := mkHid ⟨fun e => by have := HS.out.dk.1 _ e; omega, fun e => by have := HS.out.rk.lt _ e; omega⟩
    obtain ⟨k, hk⟩ : ∃ k, k = wcode lost n xa 64 := ⟨_, rfl⟩
    have HK := mkHid hk
    have t1 : w3.drew.cell? ⟨wr.heap.size, 1, none⟩ = some (.int .i64 xa) := s1
    clear hk hW1 q0 q4
    go_region_held (fun w' => w'.cell? ⟨wr.heap.size, 1, none⟩ = some (.int .i64 xa)) (go_keep) (first
      | (go_at_call 17; refine (dwrite_all F w3.drew p n f c nw lost xa _ (filledB bs) a (HE.out.late HPd.out.bel) HPd.out.dk HRd.out (by have := HLM.out.1; omega) (by have := HLM.out.2; omega)).mono ?_; rintro e w5 ⟨ev5, F5, rfl, hE5, hD5, hF5, hk5⟩; rw [(filledB_sec HV.out.1).len, ← HK.out] at hE5 hD5; have t5 := hk5.cell t1 HOP.out.1; have HE5 := mkHid hE5; have HD5 := mkHid hD5; have HF5 := mkHid hF5; have HK5 := mkHid hk5; have HW5 := mkHid (HWd.out.kept hk5 HGB.out.1.1); have HR5 := mkHid (HRd.out.kept hk5 (fun j hj e => by simp [Value.ownBlock] at hj; subst hj; exact HGB.out.1.1 e)); have HB5 := mkHid (HPd.out.mid hk5 (Below.refl _ w5)).2; clear hE5 hD5 hF5 hk5)
      | (go_at_call 9; refine (errnum_no w5 a (HE.out.late HB5.out) _ _ HE5.out).mono ?_; rintro e w6 ⟨rfl, hb6⟩; have t6 := (hb6.cell (p := ⟨wr.heap.size, 1, none⟩) (World.block_lt_of_cell? w5 _ t5)).trans t5; have HM6 := mkHid (HPd.out.mid HK5.out hb6); have HR6 := mkHid (HR5.out.later hb6); have HW6 := mkHid (HW5.out.kept (kept_of_below hb6) (fun hge => by have := HGB.out.2.2; have := HK5.out.size; have h2 : w3.drew.heap.size = w3.heap.size := rfl; omega)); have HB6 := mkHid hb6; clear hb6)
      | (go_at_call 22; refine (rwrite_all G w6 q n fs fn c nw lost sb nb av dv H xa _ (filledB bs) HM6.out.1 HR6.out (fun j hj e => by simp [Value.ownBlock] at hj; subst hj; exact HGB.out.1.2 e) (by have := HLM.out.1; omega) (by have := HLM.out.2; omega)).mono ?_; rintro r w7 ⟨rfl, G7, av7, dv7, H7, hR7, hG7, hk7⟩; rw [(filledB_sec HV.out.1).len, ← HK.out] at hR7 ⊢; have HP7 := mkHid (HPd.out.wrote HD5.out HF5.out HK5.out HB6.out hR7 hG7 hk7); have t7 := hk7.cell t6 HOP.out.2; have hcv7 := (HR6.out.kept hk7 (fun j hj e => by simp [Value.ownBlock] at hj; subst hj; exact HGB.out.1.2 e)).conv; have HW7 := mkHid (HW6.out.kept hk7 HGB.out.1.2); have HN7 : Hid (¬ F5 g3 ∧ ¬ G7 g3) := mkHid ⟨fun e => by rcases HF5.out _ e with h | h; exact HGB.out.1.1 h; (have h2 : w3.drew.heap.size = w3.heap.size := rfl; have := HGB.out.2.2; omega), fun e => by rcases hG7 _ e with h | h; exact HGB.out.1.2 h; (have h2 : w3.drew.heap.size = w3.heap.size := rfl; have := HGB.out.2.2; have := HK5.out.size; have := HB6.out.size; omega)⟩; clear hR7 hG7 hk7))
    clear HPd HRd HWd HR5 HW5 HR6 HW6 HM6 HB5 HB6 HD5 HF5 HK5 HE5 t1 t5 t6 t7 hcv7 HOP HPS HRb HWb
    go_wp2
    go_loopw [53] (fun iv wq => ∃ j : Nat, iv = .int .i64 (j : Int) ∧ j ≤ 64 ∧ PS w0 wq p q n (m + 1) lost f (wput k c xa (filledB bs)) (wnum k nw) F5 G7 fs (if k = 0 then updI fn xa (filledB bs) else fn) sb nb av7 dv7 H7 ∧ WB wq g3 64) (fun iv _ => 64 - (intOf iv).toNat)
    case atStart => exact ⟨0, rfl, Nat.zero_le _, HP7.out, HW7.out⟩
    case round =>
      clear HP7 HW7
      obtain ⟨j, rfl, hj, hP, hW⟩ := hrel
      by_cases hjl : j < 64
      · have hji : (j : Int) < 64 := by omega
        obtain ⟨x, cx, fx, x0, x1⟩ := hW.at hjl
        obtain ⟨y, hy, y0, y1⟩ := xor77 x ⟨x0, x1⟩
        have HP := mkHid (hP.other (Kept.setCell (F := fun k => k = g3) wr (p := ⟨g3, j, none⟩) rfl (.int .u8 y)) HGB.out.2.1 HN7.out.1 HN7.out.2)
        have HW := mkHid (hW.set (k := j) ⟨y0, y1⟩)
        clear hP hW
        go_wp2
        go_roundw
        case rel => exact ⟨j + 1, by go_num, by omega, HP.out, HW.out⟩
        case measure => simp [intOf]; omega
      · have hji : ¬ (j : Int) < 64 := by omega
        have HP := mkHid hP
        clear hP hW
        go_wp2
        go_ret
        exact ⟨rfl, lost, f, _, _, F5, G7, fs, _, av7, dv7, H7, HP.out⟩
end Go.Proofs.YtcglonefifldnaaDoor
