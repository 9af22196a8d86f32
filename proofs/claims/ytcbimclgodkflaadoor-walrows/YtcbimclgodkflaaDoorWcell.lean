/- The number of a cell. -/
import Derived.Test.YtcbimclgodkflaaDoorWother
namespace Go.Proofs.YtcbimclgodkflaaDoor
open Go.ChangeShapes Go.WideShapes Go.ChangeAt Go.RowKit
set_option maxRecDepth 100000

open Classical in
/-- The number that a cell's sector tells; 0 if it isn't valid. -/
noncomputable def cellN (s : List Int) : Nat := if h : kind s = 1 ∧ ∃ N, pay s = enc N ∧ N ≤ 1099511627776 then h.2.choose else 0
theorem cellN_yes {s : List Int} {N : Nat} (hk : kind s = 1) (hp : pay s = enc N) (hN : N ≤ 1099511627776) : cellN s = N := by
  have h : kind s = 1 ∧ ∃ N, pay s = enc N ∧ N ≤ 1099511627776 := ⟨hk, N, hp, hN⟩
  unfold cellN
  rw [dif_pos h]
  have h2 := h.2.choose_spec.1
  exact (enc_free _ _ [] [] (by rw [List.append_nil, List.append_nil, ← h2, hp])).1
theorem cellN_no {s : List Int} (h : kind s = 1 → ∀ N, N ≤ 1099511627776 → ¬ pay s = enc N) : cellN s = 0 := by
  unfold cellN
  rw [dif_neg]
  rintro ⟨hk, N, hp, hN⟩
  exact h hk N hN hp
set_option maxHeartbeats 12800000 in
theorem cell_no (F : Nat → Prop) (w : World) (p n : Nat) (f : Int → List Int) (c : List (Int × List Int)) (nw i : Int) (t1 t2 t3 : TypeId) (d1 d2 d3 : Value) (h : Dk F w p n f c nw false) (hcl : c.length ≤ 1000000000000) (hi0 : 0 ≤ i) (hi : i < (n : Int))
    (h1 : w.cell? ⟨5, 0, none⟩ = some (.iface t1 d1)) (h2 : w.cell? ⟨3, 0, none⟩ = some (.iface t2 d2)) (h3 : w.cell? ⟨6, 0, none⟩ = some (.iface t3 d3)) (hk : ¬ kind (seenOf f c i) = 1) :
    Calls Tryd.prog 52 #[.pointer (some ⟨p, 0, none⟩), .int .i64 i] w fun e w' => e = .returned (.int .i64 (cellN (seenOf f c i) : Int)) ∧ Below w.heap.size w w' := by
  rw [cellN_no (fun e => absurd e hk)]
  have HRO := mkHid (read_ok F w p n f c nw i h hcl hi0 hi)
  have HS := mkHid (h.seen_sec i)
  have HE1 := mkHid h1
  have HE2 := mkHid h2
  have HE3 := mkHid h3
  have HK := mkHid hk
  clear h h1 h2 h3 hk
  generalize seenOf f c i = s at *
  go_enter Tryd.func52, Tryd.ntmps52
  go_wp2_with (first
    | (go_at_call 70; refine HRO.out.mono ?_; rintro e w2 ⟨z2, rfl, ho2, hb2⟩; have HO2 := mkHid (Rd.of_owns HS.out.byts ho2); have HB2 := mkHid hb2; clear ho2 hb2)
    | (go_at_call 71; refine (cread_no w2 z2 s t1 t2 d1 d2 HO2.out HK.out ((HB2.out.cell (World.block_lt_of_cell? w _ HE1.out)).trans HE1.out) ((HB2.out.cell (World.block_lt_of_cell? w _ HE2.out)).trans HE2.out)).mono ?_; rintro e w3 ⟨rfl | ⟨t5, d5, rfl⟩, hb3⟩ <;> (have HB3 := mkHid (HB2.out.trans (hb3.mono HB2.out.size)); clear hb3))
    | (go_at_call 72; refine (newReader_any w3 _ [] (rd_nil w3) (by simp)).mono ?_; rintro e w4 ⟨pr, F4, rfl, hr4, hF4, hb4⟩; have HR4 := mkHid hr4; have HF4 := mkHid hF4; have HB4 := mkHid (HB3.out.trans (hb4.mono HB3.out.size)); clear hr4 hF4 hb4)
    | (go_at_call 73; refine (rnum_any F4 w4 pr [] 0 1099511627776 _ HR4.out (by simp) ((HB4.out.cell (World.block_lt_of_cell? w _ HE3.out)).trans HE3.out)).mono ?_; intro e w5 hpost; rcases hpost with ⟨N, r, hd, _, hN, rfl, hr5, hk5⟩ | ⟨hno, rfl, hr5, hk5⟩ <;> (have HB5 := mkHid (HB4.out.trans (hk5.below (fun k e => Nat.le_trans HB3.out.size (HF4.out k e)) HB4.out.size)); clear hr5 hk5)))
  · exfalso
    have h9 := congrArg List.length hd
    have h8 := enc_len_pos N
    simp at h9
    omega
  · go_ret
    exact ⟨rfl, HB5.out⟩
  · go_ret
    exact ⟨rfl, HB3.out⟩
set_option maxHeartbeats 12800000 in
theorem cell_yes (F : Nat → Prop) (w : World) (p n : Nat) (f : Int → List Int) (c : List (Int × List Int)) (nw i : Int) (t3 : TypeId) (d3 : Value) (h : Dk F w p n f c nw false) (hcl : c.length ≤ 1000000000000) (hi0 : 0 ≤ i) (hi : i < (n : Int))
    (h3 : w.cell? ⟨6, 0, none⟩ = some (.iface t3 d3)) (hk : kind (seenOf f c i) = 1) :
    Calls Tryd.prog 52 #[.pointer (some ⟨p, 0, none⟩), .int .i64 i] w fun e w' => e = .returned (.int .i64 (cellN (seenOf f c i) : Int)) ∧ Below w.heap.size w w' := by
  have HRO := mkHid (read_ok F w p n f c nw i h hcl hi0 hi)
  have HS := mkHid (h.seen_sec i)
  have HE3 := mkHid h3
  have HK := mkHid hk
  have hw1 := (kind_one hk).1
  have hl : ((pay (seenOf f c i)).length : Int) ≤ 140737488355328 := by rw [pay_len hk]; omega
  clear h h3 hk hw1
  generalize seenOf f c i = s at *
  obtain ⟨P, hP⟩ : ∃ P, P = pay s := ⟨_, rfl⟩
  rw [← hP] at hl
  have HP := mkHid hP
  clear hP
  obtain ⟨C, hC⟩ : ∃ C, C = cellN s := ⟨_, rfl⟩
  rw [← hC]
  have HCN := mkHid hC
  clear hC
  go_enter Tryd.func52, Tryd.ntmps52
  go_wp2_with (first
    | (go_at_call 70; refine HRO.out.mono ?_; rintro e w2 ⟨z2, rfl, ho2, hb2⟩; have HO2 := mkHid (Rd.of_owns HS.out.byts ho2); have HB2 := mkHid hb2; clear ho2 hb2)
    | (go_at_call 71; refine (cread_yes w2 z2 s HO2.out HK.out).mono ?_; rintro e w3 ⟨v3, rfl, hr3, hb3⟩; rw [← HP.out] at hr3; have HR3 := mkHid hr3; generalize word s + 8 = m; have HB3 := mkHid (HB2.out.trans (hb3.mono HB2.out.size)); clear hb3 hr3)
    | (go_at_call 72; refine (newReader_any w3 v3 P HR3.out hl).mono ?_; rintro e w4 ⟨pr, F4, rfl, hr4, hF4, hb4⟩; have HR4 := mkHid hr4; have HF4 := mkHid hF4; have HB4 := mkHid (HB3.out.trans (hb4.mono HB3.out.size)); clear hr4 hF4 hb4)
    | (go_at_call 73; refine (rnum_any F4 w4 pr P 0 1099511627776 _ HR4.out hl ((HB4.out.cell (World.block_lt_of_cell? w _ HE3.out)).trans HE3.out)).mono ?_; intro e w5 hpost; rcases hpost with ⟨N, r, hd, _, hN, rfl, hr5, hk5⟩ | ⟨hno, rfl, hr5, hk5⟩ <;> (have HB5 := mkHid (HB4.out.trans (hk5.below (fun k e => Nat.le_trans HB3.out.size (HF4.out k e)) HB4.out.size)); have HR5 := mkHid hr5; clear hr5 hk5) <;> (first | (have hdd := hd; clear hdd; rcases (show (0 + (enc N).length = P.length) ∨ (0 + (enc N).length < P.length) from (by have := HR5.out.2.2.1; omega)) with hz | hz <;> (have HZ := mkHid hz; have HD := mkHid hd; clear hz hd)) | skip))
    | (go_at_call 74; first | (refine (end_nil F4 w5 pr P _ HR5.out hl HZ.out).mono ?_; rintro e w7 ⟨rfl, nq, hw7⟩; rw [hw7]; clear hw7) | (refine (end_err F4 w5 pr P _ _ HR5.out hl ((HB5.out.cell (World.block_lt_of_cell? w _ HE3.out)).trans HE3.out) HZ.out).mono ?_; rintro e w7 ⟨rfl, nq, hw7⟩; rw [hw7]; clear hw7)))
  · go_ret
    have hd : P = enc N ++ r := HD.out
    have h9 := congrArg List.length hd
    rw [List.length_append] at h9
    have hz := HZ.out
    obtain rfl : r = [] := List.eq_nil_of_length_eq_zero (by omega)
    rw [List.append_nil] at hd
    exact ⟨by rw [HCN.out, cellN_yes HK.out (by rw [← HP.out]; exact hd) (by omega)]; rfl, HB5.out.trans ((drewN_below w5 nq).mono HB5.out.size)⟩
  · go_ret
    have hd : P = enc N ++ r := HD.out
    have hz := HZ.out
    refine ⟨?_, HB5.out.trans ((drewN_below w5 nq).mono HB5.out.size)⟩
    rw [HCN.out, cellN_no]
    · rfl
    · intro _ M _ hp
      rw [← HP.out, hd] at hp
      obtain ⟨rfl, rfl⟩ := enc_free N M r [] (by rw [List.append_nil]; exact hp)
      rw [hd, List.append_nil] at hz
      omega
  · go_ret
    refine ⟨?_, HB5.out⟩
    rw [HCN.out, cellN_no]
    · rfl
    · intro _ M hM hp
      exact hno M [] (by omega) (by omega) (by rw [List.append_nil, ← hp, ← HP.out]; rfl)
theorem cell_any (F : Nat → Prop) (w : World) (p n : Nat) (f : Int → List Int) (c : List (Int × List Int)) (nw i : Int) (t1 t2 t3 : TypeId) (d1 d2 d3 : Value) (h : Dk F w p n f c nw false) (hcl : c.length ≤ 1000000000000) (hi0 : 0 ≤ i) (hi : i < (n : Int))
    (h1 : w.cell? ⟨5, 0, none⟩ = some (.iface t1 d1)) (h2 : w.cell? ⟨3, 0, none⟩ = some (.iface t2 d2)) (h3 : w.cell? ⟨6, 0, none⟩ = some (.iface t3 d3)) :
    Calls Tryd.prog 52 #[.pointer (some ⟨p, 0, none⟩), .int .i64 i] w fun e w' => e = .returned (.int .i64 (cellN (seenOf f c i) : Int)) ∧ Below w.heap.size w w' := by
  by_cases hk : kind (seenOf f c i) = 1
  · exact cell_yes F w p n f c nw i t3 d3 h hcl hi0 hi h3 hk
  · exact cell_no F w p n f c nw i t1 t2 t3 d1 d2 d3 h hcl hi0 hi h1 h2 h3 hk
end Go.Proofs.YtcbimclgodkflaaDoor
