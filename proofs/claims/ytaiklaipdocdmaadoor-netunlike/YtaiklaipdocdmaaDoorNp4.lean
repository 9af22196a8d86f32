import Derived.Test.YtaiklaipdocdmaaDoorNpA
import Derived.Test.YtaiklaipdocdmaaDoorOwrite
import Derived.Test.YtaiklaipdocdmaaDoorSeal
/- Put of a message in form. -/
namespace Go.Proofs.YtaiklaipdocdmaaDoor
open Go.ChangeShapes Go.WideShapes Go.ChangeAt Go.RowKit
set_option maxRecDepth 100000
attribute [local go_sem] World.cell?_alloc_some frozen_alloc_some

theorem numI (B : Nat) (w : World) (p : Nat) (bs : List Int) (x : Int) (h : WrB B w p bs) (hx : amt x) (hl : (bs.length : Int) ≤ 140737488350000) :
    Calls Tryd.prog 46 #[.pointer (some ⟨p, 0, none⟩), .int .i64 x] w fun e w' => e = .returned (.tuple #[]) ∧ WrB B w' p (bs ++ enc x.toNat) ∧ Below B w w' := by
  obtain ⟨n, rfl⟩ := Int.eq_ofNat_of_zero_le hx.1
  have := hx.2
  exact numB B w p bs n h (by omega) hl
theorem bytesW (B : Nat) (w : World) (p : Nat) (bs xs : List Int) (v : Value) (h : WrB B w p bs) (hX : Byts xs) (hl : (bs.length : Int) + xs.length ≤ 140737488340000) (hr : Rd w v xs) (hv : ∀ k, v.ownBlock = some k → k < B) :
    Calls Tryd.prog 47 #[.pointer (some ⟨p, 0, none⟩), v] w fun e w' => e = .returned (.tuple #[]) ∧ WrB B w' p (bs ++ (enc xs.length ++ xs)) ∧ Below B w w' := by
  obtain ⟨F, h1, h2, h3⟩ := h
  refine (bytes_any F w p bs xs false v h1 hX hl (fun w' hk => hr.kept hk (fun k hk' hF => by have := hv k hk'; have := h2 k hF; omega))).mono ?_
  rintro e w' ⟨rfl, F', q1, q2, q3⟩
  exact ⟨rfl, ⟨F', q1, fun k hk => by rcases q2 k hk with a | a; exact h2 k a; omega, Nat.le_trans h3 q3.size⟩, q3.below h2 h3⟩
theorem mnum_part {m : Mg} (h : inM m) (j : Nat) : ((encL ((mnum m).take j)).length : Int) ≤ 1000 := by
  have := encL_len ((mnum m).take j) (fun n hn => by have := (h.amts n (List.mem_of_mem_take hn)).2; omega)
  rw [List.length_take] at this
  have : (mnum m).length = 8 := rfl
  omega
theorem mnum_take {m : Mg} {j : Nat} {x : Int} (hx : (mnum m)[j]? = some x) : encL ((mnum m).take (j + 1)) = encL ((mnum m).take j) ++ enc x.toNat := encL_take hx
set_option maxHeartbeats 6400000 in
theorem putM_yes (w : World) (m : Mg) (v : Value) (ps : List Ep) (ea : Addr) (h : Ens w v ps) (hls : fs1 ps = m.ls) (he : w.cell? ⟨0, 0, none⟩ = some (vErr ea)) (hf : inM m) :
    Calls Tryd.prog 23 #[vM m v] w fun r w' => ∃ v', r = .returned (.tuple #[v', .nilIface]) ∧ w'.ownsRow w.heap.size 5 1 v' (sealM m).length ((sealM m).map (Value.int .u8)) ∧ Below w.heap.size w w' := by
  have HC := mkHid (fun W (hW : Below w.heap.size w W) => checkM_any W m v ps ea (h.below hW) hls (kc he hW) .nilIface (.inl ⟨hf, rfl⟩))
  have hlen : ps.length ≤ 64 := by have := hf.led.1; rw [← hls] at this; simpa [fs1] using this
  have hall : ∀ t ∈ ps, inF t.1 := fun t ht => hf.led.2 _ (by rw [← hls]; exact List.mem_map.mpr ⟨t, ht, rfl⟩)
  have HWR := mkHid (fun W (hW : Below w.heap.size w W) => write_yes W v ps ea (h.below hW) hlen (kc he hW) hall)
  rw [hls] at HWR
  have HF := mkHid hf
  obtain ⟨a, cap, rfl⟩ : ∃ a cap, v = .slice a ps.length cap := by obtain ⟨a, cap, e, _⟩ := h; exact ⟨a, cap, e⟩
  clear h hls he hlen hall hf
  obtain ⟨kd, fr, to, jb, br, bn, ar, an, ls⟩ := m
  simp only [vM] at HC ⊢
  simp only at HWR
  go_enter Tryd.func23, Tryd.ntmps23
  go_wp2_with (first
    | (go_at_call 22; refine (HC.out _ (ba (Below.refl _ w) _)).mono ?_; rintro r w1 ⟨rfl, b1⟩; obtain ⟨q0, q1, q2, q3, q4, q5, q6, q7, q8⟩ := msg_cells (msg_late ⟨_, _, _, _, _, _, _, _, ls⟩ _ b1); have HB1 : Hid (Below (w.alloc (cM ⟨kd, fr, to, jb, br, bn, ar, an, ls⟩ (.slice a ps.length cap))).heap.size (w.alloc (cM ⟨kd, fr, to, jb, br, bn, ar, an, ls⟩ (.slice a ps.length cap))) w1) := mkHid b1; clear b1)
    | (go_at_call 43; refine (HWR.out _ (bt (ba (Below.refl _ w) _) HB1.out)).mono ?_; rintro r w2 ⟨lv, rfl, hlo, b2⟩; obtain ⟨la, lc, rfl⟩ := own_shape hlo; have HLO := mkHid hlo; have HB2 := mkHid (bt HB1.out b2); clear hlo b2 q0 q1 q2 q3 q4 q5 q6 q7 q8)
    | (go_at_call 44; refine (newB w2.heap.size w2 (Nat.le_refl _)).mono ?_; rintro r w3 ⟨rfl, hw3, b3⟩; have HW3 := mkHid hw3; have HB3 := mkHid b3; obtain ⟨q0, q1, q2, q3, q4, q5, q6, q7, q8⟩ := msg_cells (msg_late ⟨_, _, _, _, _, _, _, _, ls⟩ _ (bt HB2.out b3)); clear hw3 b3)
    | (go_at_call 45; refine (headM_any _ ⟨kd, fr, to, jb, br, bn, ar, an, ls⟩ a ps.length cap).mono ?_; rintro r w4 ⟨rfl, b4⟩; simp only [a8]; have HW4 := mkHid (HW3.out.below b4); have HB4 := mkHid (bt HB3.out b4); clear b4 q0 q1 q2 q3 q4 q5 q6 q7 q8))
  go_loopw [28] (fun iv wr => ∃ j : Nat, iv = .int .i64 (j : Int) ∧ j ≤ 8 ∧ Hid (WrB w2.heap.size wr w2.heap.size (encL ((mnum ⟨kd, fr, to, jb, br, bn, ar, an, ls⟩).take j)) ∧ Below w2.heap.size w2 wr)) (fun iv _ => 8 - (intOf iv).toNat)
  case atStart => exact ⟨0, rfl, Nat.zero_le _, mkHid ⟨by simpa [encL_nil] using HW4.out, HB4.out⟩⟩
  case round =>
    obtain ⟨j, rfl, hj, HB⟩ := hrel
    by_cases hlt : j < 8
    · have hj8 : j = 0 ∨ j = 1 ∨ j = 2 ∨ j = 3 ∨ j = 4 ∨ j = 5 ∨ j = 6 ∨ j = 7 := by omega
      obtain ⟨x, hx⟩ : ∃ x, (mnum ⟨kd, fr, to, jb, br, bn, ar, an, ls⟩)[j]? = some x := ⟨_, List.getElem?_eq_getElem (by show j < 8; exact hlt)⟩
      have HN := mkHid (numI w2.heap.size wr w2.heap.size _ x HB.out.1 (HF.out.amts x (List.mem_of_getElem? hx)) (by have := mnum_part HF.out j; omega))
      rw [← mnum_take hx] at HN
      rcases hj8 with rfl | rfl | rfl | rfl | rfl | rfl | rfl | rfl
      · simp [mnum] at hx
        subst hx
        have i0 : ∀ W, (Instr.index 101 (.agg #[.int .i64 kd, .int .i64 fr, .int .i64 to, .int .i64 jb, .int .i64 br, .int .i64 bn, .int .i64 ar, .int .i64 an]) (.int .i64 0)).run Tryd.prog W = .ok (.int .i64 kd) W := fun _ => by kernel_rfl
        go_wp2_with (go_at_call 46; refine HN.out.mono ?_; rintro r w5 ⟨rfl, hw5, b5⟩; have HW5 := mkHid (And.intro hw5 (HB.out.2.trans b5)); clear hw5 b5)
        go_roundw
        case rel => exact ⟨1, by first | rfl | go_num, by omega, HW5⟩
        case measure => simp [intOf]
      · simp [mnum] at hx
        subst hx
        have i1 : ∀ W, (Instr.index 101 (.agg #[.int .i64 kd, .int .i64 fr, .int .i64 to, .int .i64 jb, .int .i64 br, .int .i64 bn, .int .i64 ar, .int .i64 an]) (.int .i64 1)).run Tryd.prog W = .ok (.int .i64 fr) W := fun _ => by kernel_rfl
        go_wp2_with (go_at_call 46; refine HN.out.mono ?_; rintro r w5 ⟨rfl, hw5, b5⟩; have HW5 := mkHid (And.intro hw5 (HB.out.2.trans b5)); clear hw5 b5)
        go_roundw
        case rel => exact ⟨2, by first | rfl | go_num, by omega, HW5⟩
        case measure => simp [intOf]
      · simp [mnum] at hx
        subst hx
        have i2 : ∀ W, (Instr.index 101 (.agg #[.int .i64 kd, .int .i64 fr, .int .i64 to, .int .i64 jb, .int .i64 br, .int .i64 bn, .int .i64 ar, .int .i64 an]) (.int .i64 2)).run Tryd.prog W = .ok (.int .i64 to) W := fun _ => by kernel_rfl
        go_wp2_with (go_at_call 46; refine HN.out.mono ?_; rintro r w5 ⟨rfl, hw5, b5⟩; have HW5 := mkHid (And.intro hw5 (HB.out.2.trans b5)); clear hw5 b5)
        go_roundw
        case rel => exact ⟨3, by first | rfl | go_num, by omega, HW5⟩
        case measure => simp [intOf]
      · simp [mnum] at hx
        subst hx
        have i3 : ∀ W, (Instr.index 101 (.agg #[.int .i64 kd, .int .i64 fr, .int .i64 to, .int .i64 jb, .int .i64 br, .int .i64 bn, .int .i64 ar, .int .i64 an]) (.int .i64 3)).run Tryd.prog W = .ok (.int .i64 jb) W := fun _ => by kernel_rfl
        go_wp2_with (go_at_call 46; refine HN.out.mono ?_; rintro r w5 ⟨rfl, hw5, b5⟩; have HW5 := mkHid (And.intro hw5 (HB.out.2.trans b5)); clear hw5 b5)
        go_roundw
        case rel => exact ⟨4, by first | rfl | go_num, by omega, HW5⟩
        case measure => simp [intOf]
      · simp [mnum] at hx
        subst hx
        have i4 : ∀ W, (Instr.index 101 (.agg #[.int .i64 kd, .int .i64 fr, .int .i64 to, .int .i64 jb, .int .i64 br, .int .i64 bn, .int .i64 ar, .int .i64 an]) (.int .i64 4)).run Tryd.prog W = .ok (.int .i64 br) W := fun _ => by kernel_rfl
        go_wp2_with (go_at_call 46; refine HN.out.mono ?_; rintro r w5 ⟨rfl, hw5, b5⟩; have HW5 := mkHid (And.intro hw5 (HB.out.2.trans b5)); clear hw5 b5)
        go_roundw
        case rel => exact ⟨5, by first | rfl | go_num, by omega, HW5⟩
        case measure => simp [intOf]
      · simp [mnum] at hx
        subst hx
        have i5 : ∀ W, (Instr.index 101 (.agg #[.int .i64 kd, .int .i64 fr, .int .i64 to, .int .i64 jb, .int .i64 br, .int .i64 bn, .int .i64 ar, .int .i64 an]) (.int .i64 5)).run Tryd.prog W = .ok (.int .i64 bn) W := fun _ => by kernel_rfl
        go_wp2_with (go_at_call 46; refine HN.out.mono ?_; rintro r w5 ⟨rfl, hw5, b5⟩; have HW5 := mkHid (And.intro hw5 (HB.out.2.trans b5)); clear hw5 b5)
        go_roundw
        case rel => exact ⟨6, by first | rfl | go_num, by omega, HW5⟩
        case measure => simp [intOf]
      · simp [mnum] at hx
        subst hx
        have i6 : ∀ W, (Instr.index 101 (.agg #[.int .i64 kd, .int .i64 fr, .int .i64 to, .int .i64 jb, .int .i64 br, .int .i64 bn, .int .i64 ar, .int .i64 an]) (.int .i64 6)).run Tryd.prog W = .ok (.int .i64 ar) W := fun _ => by kernel_rfl
        go_wp2_with (go_at_call 46; refine HN.out.mono ?_; rintro r w5 ⟨rfl, hw5, b5⟩; have HW5 := mkHid (And.intro hw5 (HB.out.2.trans b5)); clear hw5 b5)
        go_roundw
        case rel => exact ⟨7, by first | rfl | go_num, by omega, HW5⟩
        case measure => simp [intOf]
      · simp [mnum] at hx
        subst hx
        have i7 : ∀ W, (Instr.index 101 (.agg #[.int .i64 kd, .int .i64 fr, .int .i64 to, .int .i64 jb, .int .i64 br, .int .i64 bn, .int .i64 ar, .int .i64 an]) (.int .i64 7)).run Tryd.prog W = .ok (.int .i64 an) W := fun _ => by kernel_rfl
        go_wp2_with (go_at_call 46; refine HN.out.mono ?_; rintro r w5 ⟨rfl, hw5, b5⟩; have HW5 := mkHid (And.intro hw5 (HB.out.2.trans b5)); clear hw5 b5)
        go_roundw
        case rel => exact ⟨8, by first | rfl | go_num, by omega, HW5⟩
        case measure => simp [intOf]
    · obtain rfl : j = 8 := by omega
      have hq := HB.out.1
      rw [List.take_of_length_le (by show (8 : Nat) ≤ 8; omega)] at hq
      have HQ := mkHid hq
      have HRD := mkHid ((Rd.of_owns (bytesL_byts ls) HLO.out).later HB.out.2)
      have hll := bytesM_len HF.out
      unfold bytesM at hll
      rw [List.length_append, List.length_append] at hll
      have HLL := mkHid hll
      clear hq hll
      go_wp2_with (first
        | (go_at_call 47; refine (bytesW w2.heap.size wr w2.heap.size _ (bytesL ls) _ HQ.out (bytesL_byts ls) (by have := HLL.out; dsimp only at this; omega) HRD.out (fun k hk => (HLO.out.lt k hk).2)).mono ?_; rintro r w5 ⟨rfl, hw5, b5⟩; rw [show encL (mnum ⟨kd, fr, to, jb, br, bn, ar, an, ls⟩) ++ (enc (bytesL ls).length ++ bytesL ls) = bytesM ⟨kd, fr, to, jb, br, bn, ar, an, ls⟩ from rfl] at hw5; obtain ⟨F5, hF5, _⟩ := hw5; have HD := mkHid (done_ok F5 w5 w2.heap.size (bytesM ⟨kd, fr, to, jb, br, bn, ar, an, ls⟩) hF5 (by have := bytesM_len HF.out; omega)); have HB5 := mkHid (HB.out.2.trans b5); clear hF5 b5)
        | (go_at_call 48; refine HD.out.mono ?_; rintro r w6 ⟨v6, rfl, ho6, b6⟩; obtain ⟨a6, c6, rfl⟩ := own_shape ho6; have HO6 := mkHid (Rd.of_owns (bytesM_byts _) ho6); have HB6 := mkHid (bt HB5.out b6); clear ho6 b6)
        | (go_at_call 49; refine (seal_any w6 _ _ HO6.out (by have := bytesM_len HF.out; omega)).mono ?_; rintro r w7 ⟨v7, rfl, ho7', b7⟩; have ho7 : w7.ownsRow w6.heap.size 5 1 v7 (sealM ⟨kd, fr, to, jb, br, bn, ar, an, ls⟩).length ((sealM ⟨kd, fr, to, jb, br, bn, ar, an, ls⟩).map (Value.int .u8)) := ho7'; clear ho7'; obtain ⟨a7, c7, rfl⟩ := own_shape ho7; have HO7 := mkHid (And.intro ho7 (bt HB6.out b7)); clear ho7 b7))
      go_ret2
      have hsz := (bt (ba (Below.refl _ w) (cM ⟨kd, fr, to, jb, br, bn, ar, an, ls⟩ (.slice a ps.length cap))) HB2.out)
      exact ⟨_, rfl, own_up HO7.out.1 (Nat.le_trans hsz.size HB6.out.size), bt hsz HO7.out.2⟩
end Go.Proofs.YtaiklaipdocdmaaDoor
