/- WireReads: every call in every order on two readers of any bytes. -/
import Derived.Test.YtghpehgefbikeaaDoorReadsB
namespace Go.Proofs.YtghpehgefbikeaaDoor
open Go.ChangeShapes Go.WideShapes Go.ChangeAt Go.RowKit

theorem RS.past {w W w6 w7 : World} {z : Nat} {zs : List Value} {rb mb n : Nat} {v : Nat → Value} {bs : Nat → List Int} {x y : Nat → Value} {p m i j i0 j0 : Nat → Nat} {F : Nat → Nat → Prop} (h0 : RS w W z zs rb mb n v bs x y p m i0 j0 F) (h : RS w w6 z zs rb mb n v bs x y p m i j F) (hk : Kept (fun b => W.heap.size ≤ b) w6 w7) : RS w w7 z zs rb mb n v bs x y p m i j F :=
  h.keep hk (fun b hb => Nat.le_trans h0.bel.size hb) (fun b hR hb => by have := (h0.lo b hR).2; omega) (fun k b hk' hf hb => by have := h0.fl hk' hf; omega) (fun k hk' hb => by have := (h0.md k hk').lt; omega)
theorem rd_two (w : World) : Rd (w.alloc (.cells #[.int .u8 1, .int .u8 2] 5)) (.slice (some ⟨w.heap.size, 0, none⟩) 2 2) [1, 2] := by
  refine ⟨by intro b hb; simp at hb; omega, some ⟨w.heap.size, 0, none⟩, 2, rfl, by simp, fun e => by simp at e, fun _ => ⟨w.heap.size, 0, rfl, by simp, fun k hk => ?_⟩⟩
  have : k = 0 ∨ k = 1 := by simp at hk; omega
  rcases this with rfl | rfl <;> (simp; try go_simp)
theorem upd_le {s : Nat → Nat} {bs : Nat → List Int} {k i' : Nat} (HB : Hid (∀ k, k < 2 → s k ≤ (bs k).length)) (h : i' ≤ (bs k).length) : Hid (∀ j, j < 2 → upd s k i' j ≤ (bs j).length) := mkHid (fun j hj => by
  by_cases e : j = k
  · subst e; rw [upd_same]; exact h
  · rw [upd_other _ _ e]; exact HB.out j hj)
set_option maxRecDepth 5000 in
set_option maxHeartbeats 25600000 in
theorem reads_walk (w : World) (S0 S1 v1 : Value) (b0 b1 : List Int) (xs : List OpD) (a : Nat → Addr) (h0 : Rd w S0 b0) (h1 : Rd w S1 b1) (hl0 : (b0.length : Int) ≤ 140737488355200) (hl1 : (b1.length : Int) ≤ 140737488355200) (hO : Ops w v1 xs) (hsz : (xs.length + 2) * 48 ≤ 140737488355328) (hE : Errs w a) :
    Calls Tryd.prog 4 #[.agg #[S0, S1], v1] w fun e w' => e = .returned (.bool true) ∧ Below w.heap.size w w' := by
  obtain ⟨i0, hi, hz0, hz1, hz2⟩ := info_parts Tryd.info5
  obtain ⟨i1, hj, hy0, hy1, hy2⟩ := info_parts Tryd.info31
  have HL : Hid ((0 + xs.length ≤ maxLen ∧ (0 + xs.length) * 48 ≤ 140737488355328) ∧ xs.length + 2 ≤ maxLen ∧ (xs.length + 2) * 48 ≤ 140737488355328) := mkHid ⟨⟨by unfold maxLen; omega, by omega⟩, by unfold maxLen; omega, by omega⟩
  have hxb : (xs.length : Int) ≤ 140737488355328 := by omega
  obtain ⟨v, hv⟩ : ∃ v : Nat → Value, v = fun k => if k = 0 then S0 else S1 := ⟨_, rfl⟩
  obtain ⟨bs, hbs⟩ : ∃ bs : Nat → List Int, bs = fun k => if k = 0 then b0 else b1 := ⟨_, rfl⟩
  have HV : Hid (∀ k, k < 2 → Rd w (v k) (bs k) ∧ ((bs k).length : Int) ≤ 140737488355200 ∧ [S0, S1][k]? = some (v k)) := mkHid (fun k hk => by
    have : k = 0 ∨ k = 1 := by omega
    subst hv hbs
    rcases this with rfl | rfl
    · exact ⟨h0, hl0, rfl⟩
    · exact ⟨h1, hl1, rfl⟩)
  have HE := mkHid hE
  have HO := mkHid hO
  obtain ⟨oa, oc, hov⟩ : ∃ a c, v1 = .slice a xs.length c := hO.imp fun a h => h.imp fun c h => h.1
  subst hov
  clear hE hsz h0 h1 hl0 hl1 hv hbs hO
  go_enter Tryd.func4, Tryd.ntmps4
  go_wp2_with (go_at_call 9; refine (alive_any _).mono ?_; rintro e w1 ⟨rfl, hb1⟩; have HRS := mkHid (rs_start (v := v) (bs := bs) hb1); clear hb1)
  generalize w1.heap.size = N at *
  go_loopw [30] (fun iv wr => ∃ (k : Nat) (x y : Nat → Value) (p m : Nat → Nat) (F : Nat → Nat → Prop), iv = .int .i64 (k : Int) ∧ k ≤ 2 ∧ RS w wr w.heap.size [S0, S1] N (N + 1) k v bs x y p m (fun _ => 0) (fun _ => 0) F) (fun iv _ => 2 - (intOf iv).toNat)
  case atStart => exact ⟨0, _, _, _, _, _, rfl, by omega, HRS.out⟩
  case round =>
    clear HRS
    obtain ⟨k, x, y, p, m, F, rfl, hk, hRS⟩ := hrel
    have HRS := mkHid hRS
    clear hRS
    by_cases hlt : k < 2
    · obtain ⟨hrd, hbl, hzk⟩ := HV.out k hlt
      have c0 := HRS.out.hz k _ hzk
      have hki : (k : Int) < 2 := by omega
      obtain ⟨sa, sc, hsv⟩ : ∃ a c, v k = .slice a (bs k).length c := hrd.2.imp fun a h => h.imp fun c h => h.1
      have HRD := mkHid hrd
      have HVK := mkHid hsv
      rw [hsv] at c0
      have HC0 := mkHid c0
      clear hrd hsv hzk
      go_wp2_with (first | (go_at_call 15; refine (nbytes_any _ _ (bs k) (by have := HRD.out.later HRS.out.bel; rwa [HVK.out] at this) (by omega)).mono ?_; rintro e w2 ⟨g, cap, rfl, hmk, hb2⟩; have HMK := mkHid hmk; have HB2 := mkHid hb2; clear hmk) | (go_at_call 19; refine (newReader_any _ _ (bs k) (HMK.out.rd HRD.out.1) (by omega)).mono ?_; rintro e w3 ⟨P, G, rfl, hR, hG, hb3⟩; have HR3 := mkHid hR; have HG3 := mkHid hG; have HB3 := mkHid hb3; have hs3 := (HRS.out.late hb2).late hb3; have c3 := hs3.hz k _ (HV.out k hlt).2.2; rw [HVK.out] at c3; obtain ⟨x1, x2, f1, f2⟩ := hs3.cells hlt; have n1 := hs3.dj.1; have n2 := hs3.dj.2.1; have l0 := (hs3.lo _ (.inl rfl)).2; have l1 := (hs3.lo _ (.inr (.inl rfl))).2; have l2 := (hs3.lo _ (.inr (.inr rfl))).2; clear hR hG hs3 hb3 c0) | (go_at_call 17; obtain ⟨U, hU⟩ : ∃ U, U = ((w3.setCell ⟨N, k, none⟩ (.pointer (some ⟨P, 0, none⟩))).setCell ⟨N + 1, k, none⟩ (.pointer (some ⟨w3.heap.size, 0, none⟩))).alloc (.cells #[.slice sa (bs k).length sc, .int .i64 0] 49) := ⟨_, rfl⟩; rw [← hU]; have hm := rs_more HRS.out hlt HMK.out HB2.out HR3.out HG3.out HB3.out U (by rw [HVK.out]; exact hU); have HM := mkHid hm; refine (nkept_any U _ g cap _ (bs k) hm.2.1 (by have := HRD.out.later hm.1.bel; rwa [HVK.out] at this) (by omega)).mono ?_; rintro e w7 ⟨rfl, nq, rfl⟩; clear hU hm))
      clear c3 x1 x2 f1 f2 n1 n2 l0 l1 l2 HMK HB2 HR3 HG3 HB3 HC0 hb2
      generalize upd x k (Value.pointer (some { block := P, off := 0 })) = x' at *
      generalize upd y k (Value.pointer (some { block := w3.heap.size, off := 0 })) = y' at *
      generalize upd p k P = p' at *
      generalize upd m k w3.heap.size = m' at *
      generalize upd F k G = F' at *
      have HG : Hid (wr.heap.size ≤ g ∧ w.heap.size ≤ g ∧ ¬ Rv w.heap.size N (N + 1) g ∧ (∀ j, j < k + 1 → ¬ F' j g) ∧ (∀ j, j < k + 1 → m' j ≠ g)) := mkHid ⟨HM.out.2.1.lt.1, HM.out.2.2⟩
      have HU : Hid ((U.drewN nq).ownsRow wr.heap.size 5 1 (.slice (some ⟨g, 0, none⟩) ((bs k).length + 6) cap) ((bs k).length + 6) ((bs k ++ marks).map (Value.int .u8)) ∧ RS w (U.drewN nq) w.heap.size [S0, S1] N (N + 1) (k + 1) v bs x' y' p' m' (fun _ => 0) (fun _ => 0) F') := mkHid ⟨HM.out.2.1, HM.out.1.late ⟨rfl, rfl, rfl, Nat.le_refl _, fun _ _ => rfl⟩⟩
      have HBB : Hid (Byts (bs k ++ marks)) := mkHid (HRD.out.1.append marks_byts)
      clear HM
      go_loopw [62] (fun jv wq => ∃ (j : Nat) (zs : List Int), jv = .int .i64 (j : Int) ∧ j ≤ (bs k).length ∧ Byts zs ∧ wq.ownsRow wr.heap.size 5 1 (.slice (some ⟨g, 0, none⟩) ((bs k).length + 6) cap) ((bs k).length + 6) (zs.map (Value.int .u8)) ∧ RS w wq w.heap.size [S0, S1] N (N + 1) (k + 1) v bs x' y' p' m' (fun _ => 0) (fun _ => 0) F') (fun jv _ => (bs k).length - (intOf jv).toNat)
      case atStart => exact ⟨0, _, rfl, Nat.zero_le _, HBB.out, HU.out.1, HU.out.2⟩
      case round =>
        clear HU HBB
        obtain ⟨j, zs, rfl, hj', hZ, ho, hW⟩ := hrel
        by_cases hjl : j < (bs k).length
        · have hji : (j : Int) < (bs k).length := by omega
          obtain ⟨c, ec, hc⟩ := xorAny (zs.getD j 0) 55 (hZ.at j) (by omega)
          obtain ⟨r1, r2, r3⟩ := own_set c ho (show j < (bs k).length + 6 by omega)
          have HQ : Hid (_ ∧ _) := mkHid ⟨r1, hW.other (Kept.setCell (F := fun b => b = g) _ (p := ⟨g, j, none⟩) rfl (.int .u8 c)) HG.out.2.1 HG.out.2.2.1 HG.out.2.2.2.1 HG.out.2.2.2.2⟩
          generalize zs.getD j 0 = zz at *
          clear r1 ho hW
          go_wp2
          go_roundw
          case rel => exact ⟨j + 1, zs.set j c, by go_num, by omega, hZ.set j hc, HQ.out.1, HQ.out.2⟩
          case measure => simp [intOf]; omega
        · obtain rfl : j = (bs k).length := by omega
          have HW := mkHid hW
          clear ho hW
          go_wp2
          go_roundw
          case rel => exact ⟨k + 1, x', y', p', m', F', by go_num, by omega, HW.out⟩
          case measure => simp [intOf]; omega
    · obtain rfl : k = 2 := by omega
      have hWb := HRS.out.bel
      have M2 : Hid True := trivial
      go_wp2_with (first | (at_builtin; clear M2; have hm := World.ownsRow_made (base := wr.heap.size) (e := 31) (size := 4) wr #[] 0 (Nat.le_refl _) (by unfold maxLen; omega) rfl; refine wpList_append_src4 _ rfl (.tmp 73) (.tmp 74) 22 22 rfl wr.heap.size 31 i1 Tryd.underlying22 hj _ 48 hy0 rfl hy1 hy2 _ _ _ rfl hm _ _ _ rfl (HO.out.later (hWb.alloc hWb.size _)).src HL.out.1.1 HL.out.1.2 (by simp) ?_; intro v7 w7 ho7 hg7 _; have hb7 := ((Below.refl wr.heap.size wr).alloc (Nat.le_refl _) _).grown hg7 (by simp) (fun k hk => (hm.lt k hk).1); rw [Nat.zero_add, List.nil_append] at ho7; clear hg7 hm) | (at_builtin; refine wpList_append_src4 _ rfl (.tmp 75) (.tmp 78) 22 22 rfl wr.heap.size 31 i1 Tryd.underlying22 hj _ 48 hy0 rfl hy1 hy2 _ _ _ rfl (ho7.alloc _) _ _ _ rfl (src_extra2 w7) HL.out.2.1 HL.out.2.2 (by have := hb7.size; simp; omega) ?_; intro v8 w8 ho8 hg8 _; have hb8 := (hb7.alloc hb7.size _).grown hg8 (by have := hb7.size; simp; omega) (fun k hk => (ho7.lt k hk).1); rw [← opcells_append] at ho8; obtain ⟨q, qc, rfl, hq1, hq2, hqc⟩ := own_at4 ho8 (by omega); have HW8 := mkHid (HRS.out.swap hb8 hq1 hq2 hqc); clear hg8 ho8 ho7 hb7 hb8 hqc))
      clear HL HRS hWb hlt hk
      obtain ⟨ys, hys⟩ : ∃ ys, ys = xs ++ extra2 := ⟨_, rfl⟩
      have hyl : ys.length = xs.length + 2 := by rw [hys]; simp [extra2]
      have HYG : Hid (∀ x ∈ ys, Good w x) := mkHid (fun x hx => by
        rw [hys] at hx
        rcases List.mem_append.mp hx with hx | hx
        · exact HO.out.good x hx
        · simp only [extra2, List.mem_cons, List.not_mem_nil, or_false] at hx
          rcases hx with rfl | rfl <;> exact ⟨⟨Byts.nil, none, 0, rfl, by simp, fun _ => rfl, fun hp => by simp at hp⟩, by simp, by simp, by simp⟩)
      have hyb : (ys.length : Int) ≤ 140737488355330 := by rw [hyl]; omega
      rw [← hys] at HW8
      have hyi : (xs.length : Int) + 2 = (ys.length : Int) := by omega
      rw [← hyl, hyi]
      clear hyi hys HO hq1 hq2 hyl hxb
      go_loopw [81] (fun iv wr => ∃ (i : Nat) (s : Nat → Nat), iv = .int .i64 (i : Int) ∧ i ≤ ys.length ∧ Hid (∀ k, k < 2 → s k ≤ (bs k).length) ∧ RS w wr q (opcells ys) N (N + 1) 2 v bs x y p m s s F) (fun iv _ => ys.length - (intOf iv).toNat)
      case atStart => exact ⟨0, _, rfl, Nat.zero_le _, mkHid (fun _ _ => Nat.zero_le _), HW8.out⟩
      case round =>
        clear HW8
        obtain ⟨i, s, rfl, hi', HB, hWS⟩ := hrel
        have HWS := mkHid hWS
        clear hWS
        by_cases hlt : i < ys.length
        · have hxx : ys[i]? = some ys[i] := by simp [hlt]
          obtain ⟨a0, a1, a2, a3⟩ := opcells_get ys i _ hxx
          have c0 := HWS.out.hz _ _ a0
          have c1 := HWS.out.hz _ _ a1
          have c2 := HWS.out.hz _ _ a2
          have c3 := HWS.out.hz _ _ a3
          obtain ⟨hrd, hbk, hbw, hbn⟩ := HYG.out ys[i] (by simp)
          clear a0 a1 a2 a3 hxx
          generalize ys[i] = o at *
          obtain ⟨xk, xw, xn, xv, xbs⟩ := o
          simp only at c0 c1 c2 c3 hrd hbk hbw hbn
          obtain ⟨xa, xc, rfl⟩ : ∃ a c, xv = .slice a xbs.length c := hrd.2.imp fun a h => h.imp fun c h => h.1
          obtain ⟨k, hk2, ek⟩ := and1_nat xw
          have hki : (k : Int) < 2 := by omega
          have hii : (i : Int) < ys.length := by omega
          obtain ⟨W, hW⟩ : ∃ W, W = wr.alloc (.cells #[.int .i64 xk, .int .i64 xw, .int .i64 xn, .slice xa xbs.length xc] 31) := ⟨_, rfl⟩
          have hbW : Below wr.heap.size wr W := by rw [hW]; exact (Below.refl _ _).alloc (Nat.le_refl _) _
          have HW := mkHid (HWS.out.late hbW)
          have hoW : W.heap[wr.heap.size]? = some (.cells #[.int .i64 xk, .int .i64 xw, .int .i64 xn, .slice xa xbs.length xc] 31 (0, 0)) := by rw [hW]; exact heap_alloc_new wr _
          obtain ⟨d0, d1⟩ := HW.out.ptrs hk2
          have HNF : Hid (¬ F k wr.heap.size ∧ m k ≠ wr.heap.size) := mkHid ⟨fun hf => by have := HWS.out.fl hk2 hf; omega, fun e => by have := (HWS.out.md k hk2).lt; omega⟩
          have q0 : W.cell? ⟨wr.heap.size, 0, none⟩ = some (.int .i64 xk) := cell_of_block hoW rfl
          have q1 : W.cell? ⟨wr.heap.size, 1, none⟩ = some (.int .i64 xw) := cell_of_block hoW rfl
          have q2 : W.cell? ⟨wr.heap.size, 2, none⟩ = some (.int .i64 xn) := cell_of_block hoW rfl
          have q3 : W.cell? ⟨wr.heap.size, 3, none⟩ = some (.slice xa xbs.length xc) := cell_of_block hoW rfl
          have hW2 := hW.symm
          have HBE : Hid (Below w.heap.size w W) := mkHid HW.out.bel
          have hbk2 := (HV.out k hk2).2.1
          have hsk := HB.out k hk2
          have HQ2 := mkHid q2
          clear hoW hbk hbw hW hrd hbW HYG
          by_cases k1 : xk = 1
          · subst k1
            obtain ⟨n, i', err, en, hNB⟩ := num_both w a HE.out (v k) (bs k) (s k) xn (HV.out k hk2).1 hsk (by omega)
            have HNB := mkHid hNB
            have hle := hNB.le
            clear hNB
            go_wp2
            go_region_held3 (fun w' => w'.cell? ⟨N, k, none⟩ = some (.pointer (some ⟨p k, 0, none⟩)) ∧ w'.cell? ⟨wr.heap.size, 2, none⟩ = some (.int .i64 xn)) (go_keep) (first | (go_at_call 20; refine (HNB.out.real (F k) _ (p k) HBE.out.drew (HW.out.dr.rk k hk2)).mono ?_; rintro e w4 ⟨rfl, hr4, hk4⟩; have HW4 := mkHid (HW.out.dr.reader hk2 hk4 hr4); have d14 := (HW4.out.ptrs hk2).2; have d04 := (HW4.out.ptrs hk2).1; have q24 : w4.cell? ⟨wr.heap.size, 2, none⟩ = some (.int .i64 xn) := hk4.cell (show W.drew.cell? ⟨wr.heap.size, 2, none⟩ = some (.int .i64 xn) from q2) HNF.out.1; clear hr4 hk4))
            clear HBE HW HWS q0 q1 q2 q3 d0 d1 HQ2 c0 c1 c2 c3 hW2
            go_wp2
            go_region_held3 (fun w' => w'.cell? ⟨N + 1, k, none⟩ = some (.pointer (some ⟨m k, 0, none⟩)) ∧ w'.cell? ⟨wr.heap.size, 2, none⟩ = some (.int .i64 xn)) (go_keep) (first | (go_at_call 21; refine (HNB.out.ref _ (m k) HW4.out.bel.drew (HW4.out.dr.md k hk2)).mono ?_; rintro e w5 ⟨rfl, hm5, hk5⟩; have HW5 := mkHid (HW4.out.dr.model hk2 hk5 hm5); have d15 := (HW5.out.ptrs hk2).2; have q25 : w5.cell? ⟨wr.heap.size, 2, none⟩ = some (.int .i64 xn) := hk5.cell (show w4.drew.cell? ⟨wr.heap.size, 2, none⟩ = some (.int .i64 xn) from q24) HNF.out.2.symm; clear hm5 hk5))
            clear HW4 q24 d14 d04
            go_wp2_with (go_at_call 22; refine (HNB.out.err _ HW5.out.bel).mono ?_; rintro e w6 ⟨rfl, hb6⟩; have HW6 := mkHid (HW5.out.late hb6); clear hb6)
            go_roundw
            case rel => exact ⟨i + 1, upd s k i', by go_num, by omega, upd_le HB hle, HW6.out⟩
            case measure => simp [intOf]; omega
          · by_cases k2 : xk = 2
            · subst k2
              obtain ⟨zs, i', err, en, hPB⟩ := piece_both w a HE.out (v k) (bs k) (s k) xn (HV.out k hk2).1 hsk (by omega)
              have HPB := mkHid hPB
              have hle := hPB.le
              clear hPB
              go_wp2
              go_region_held3 (fun w' => w'.cell? ⟨N, k, none⟩ = some (.pointer (some ⟨p k, 0, none⟩)) ∧ w'.cell? ⟨wr.heap.size, 2, none⟩ = some (.int .i64 xn)) (go_keep) (first | (go_at_call 23; refine (HPB.out.text (F k) _ (p k) HBE.out.drew (HW.out.dr.rk k hk2)).mono ?_; rintro e w4 ⟨rfl, hr4, hk4⟩; have HW4 := mkHid (HW.out.dr.reader hk2 hk4 hr4); have d14 := (HW4.out.ptrs hk2).2; have d04 := (HW4.out.ptrs hk2).1; have q24 : w4.cell? ⟨wr.heap.size, 2, none⟩ = some (.int .i64 xn) := hk4.cell (show W.drew.cell? ⟨wr.heap.size, 2, none⟩ = some (.int .i64 xn) from q2) HNF.out.1; clear hr4 hk4))
              clear HBE HW HWS q0 q1 q2 q3 d0 d1 HQ2 c0 c1 c2 c3 hW2
              go_wp2
              go_region_held3 (fun w' => w'.cell? ⟨N + 1, k, none⟩ = some (.pointer (some ⟨m k, 0, none⟩)) ∧ w'.cell? ⟨wr.heap.size, 2, none⟩ = some (.int .i64 xn)) (go_keep) (first | (go_at_call 24; refine (HPB.out.ref _ (m k) HW4.out.bel.drew (HW4.out.mr k hk2).1 (HW4.out.dr.md k hk2)).mono ?_; rintro e w5 ⟨z5, rfl, hz5, hm5, hk5⟩; have HW5 := mkHid (HW4.out.dr.model hk2 hk5 hm5); have d15 := (HW5.out.ptrs hk2).2; have cv5 := hz5.conv; have q25 : w5.cell? ⟨wr.heap.size, 2, none⟩ = some (.int .i64 xn) := hk5.cell (show w4.drew.cell? ⟨wr.heap.size, 2, none⟩ = some (.int .i64 xn) from q24) HNF.out.2.symm; clear hm5 hk5 hz5))
              clear HW4 q24 d14 d04
              go_wp2_with (go_at_call 22; refine (HPB.out.err _ HW5.out.bel).mono ?_; rintro e w6 ⟨rfl, hb6⟩; have HW6 := mkHid (HW5.out.late hb6); clear hb6)
              go_roundw
              case rel => exact ⟨i + 1, upd s k i', by go_num, by omega, upd_le HB hle, HW6.out⟩
              case measure => simp [intOf]; omega
            · by_cases k3 : xk = 3
              · subst k3
                obtain ⟨zs, i', err, en, hPB⟩ := piece_both w a HE.out (v k) (bs k) (s k) xn (HV.out k hk2).1 hsk (by omega)
                have HPB := mkHid hPB
                have hle := hPB.le
                have hzl := hPB.zl
                clear hPB
                have HLn : Hid (zs.length + 2 ≤ maxLen ∧ zs.length + 2 ≤ 140737488355328) := mkHid ⟨by unfold maxLen; omega, by omega⟩
                have HMW : Hid (m k < W.heap.size) := mkHid (HW.out.md k hk2).lt
                go_wp2
                go_region_held3 (fun w' => w'.cell? ⟨N, k, none⟩ = some (.pointer (some ⟨p k, 0, none⟩)) ∧ w'.cell? ⟨wr.heap.size, 2, none⟩ = some (.int .i64 xn)) (go_keep) (first | (go_at_call 25; refine (HPB.out.bytes (F k) _ (p k) HBE.out.drew (HW.out.dr.rk k hk2)).mono ?_; rintro e w4 ⟨z4, rfl, hz4, hr4, hk4⟩; have HW4 := mkHid (HW.out.dr.reader hk2 hk4 hr4); have HZ4 : Hid (W.heap.size ≤ w4.heap.size ∧ w4.ownsRow W.heap.size 5 1 z4 zs.length (zs.map (Value.int .u8))) := mkHid ⟨hk4.size, hz4⟩; have d14 := (HW4.out.ptrs hk2).2; have d04 := (HW4.out.ptrs hk2).1; have q24 : w4.cell? ⟨wr.heap.size, 2, none⟩ = some (.int .i64 xn) := hk4.cell (show W.drew.cell? ⟨wr.heap.size, 2, none⟩ = some (.int .i64 xn) from q2) HNF.out.1; clear hr4 hk4 hz4))
                clear HBE HWS q0 q1 q2 q3 d0 d1 HQ2 c0 c1 c2 c3 hW2
                go_wp2
                go_region_held3 (fun w' => w'.cell? ⟨N + 1, k, none⟩ = some (.pointer (some ⟨m k, 0, none⟩)) ∧ w'.cell? ⟨wr.heap.size, 2, none⟩ = some (.int .i64 xn)) (go_keep) (first | (go_at_call 24; refine (HPB.out.ref _ (m k) HW4.out.bel.drew (HW4.out.mr k hk2).1 (HW4.out.dr.md k hk2)).mono ?_; rintro e w5 ⟨z5, rfl, hz5, hm5, hk5⟩; have HW5 := mkHid (HW4.out.dr.model hk2 hk5 hm5); have hs5 := hk5.size; have ho5 := own_keep0 (own_late0 HZ4.out.2 (show Below w4.heap.size w4 w4.drew from ⟨rfl, rfl, rfl, Nat.le_refl _, fun _ _ => rfl⟩)) hk5 (fun j hj e => by have := (HZ4.out.2.lt j hj).1; have := HMW.out; omega); have HZ5 : Hid (W.heap.size ≤ w5.heap.size ∧ w5.ownsRow W.heap.size 5 1 z4 zs.length (zs.map (Value.int .u8))) := mkHid ⟨Nat.le_trans HZ4.out.1 hs5, ho5⟩; have cv4 := (Rd.of_owns HPB.out.zb ho5).conv; have d15 := (HW5.out.ptrs hk2).2; have cv5 := hz5.conv; have q25 : w5.cell? ⟨wr.heap.size, 2, none⟩ = some (.int .i64 xn) := hk5.cell (show w4.drew.cell? ⟨wr.heap.size, 2, none⟩ = some (.int .i64 xn) from q24) HNF.out.2.symm; clear hm5 hk5 hz5 ho5 hs5))
                clear HW4 q24 d14 d04 HZ4
                go_wp2_with (first | (go_at_call 22; refine (HPB.out.err _ HW5.out.bel).mono ?_; rintro e w6 ⟨rfl, hb6⟩; have HW6 := mkHid (HW5.out.late hb6); have HZ6 : Hid (W.heap.size ≤ w6.heap.size ∧ w6.ownsRow W.heap.size 5 1 z4 zs.length (zs.map (Value.int .u8))) := mkHid ⟨Nat.le_trans HZ5.out.1 hb6.size, own_late0 HZ5.out.2 hb6⟩; clear hb6) | (at_builtin; refine wpList_append_src _ rfl (.tmp 180) (.tmp 181) 27 27 rfl W.heap.size 5 i0 Tryd.underlying27 hi hz0 hz1 hz2 _ _ _ rfl (HZ6.out.2.alloc _) _ _ _ rfl (rd_two w6).src HLn.out.1 HLn.out.2 (by have := HZ6.out.1; simp; omega) ?_; intro v7 w7 ho7 hg7 _; have HW7 := mkHid (HW.out.past HW6.out ((Kept.alloc (fun b => W.heap.size ≤ b) w6 (.cells #[.int .u8 1, .int .u8 2] 5)).trans (Kept.grown hg7 (fun j hj => (HZ6.out.2.lt j hj).1)) (fun _ h => .inl h))); rw [← List.map_append] at ho7; obtain ⟨g7, c7, rfl, hg71, hg72, hg73⟩ := own_spot ho7 (by simp <;> omega); have HO7 := mkHid ho7; have HG7 := mkHid hg71; clear hg7 ho7 hg71 hg72))
                have HZB : Hid (Byts (zs ++ [1, 2])) := mkHid (HPB.out.zb.append (by intro z hz; simp at hz; omega))
                clear HZ5 HZ6 HW5 HW6 cv4 cv5 q25 d15
                go_loopw [185] (fun jv wq => ∃ (j : Nat) (us : List Int), jv = .int .i64 (j : Int) ∧ j ≤ zs.length + 2 ∧ Byts us ∧ wq.ownsRow W.heap.size 5 1 (.slice (some ⟨g7, 0, none⟩) (zs.length + 2) c7) (zs.length + 2) (us.map (Value.int .u8)) ∧ RS w wq q (opcells ys) N (N + 1) 2 v bs x y p m (upd s k i') (upd s k i') F) (fun jv _ => zs.length + 2 - (intOf jv).toNat)
                case atStart => exact ⟨0, _, rfl, Nat.zero_le _, HZB.out, HO7.out, HW7.out⟩
                case round =>
                  clear HO7 HW7 HZB
                  obtain ⟨j, us, rfl, hj3, hZ, ho, hRz⟩ := hrel
                  by_cases hjl : j < zs.length + 2
                  · have hji : (j : Int) < zs.length + 2 := by omega
                    obtain ⟨c, ec, hc⟩ := xorAny (us.getD j 0) 99 (hZ.at j) (by omega)
                    obtain ⟨r1, r2, r3⟩ := own_set c ho hjl
                    have HQ : Hid (_ ∧ _) := mkHid ⟨r1, HW.out.past hRz (Kept.setCell (F := fun b => W.heap.size ≤ b) _ (p := ⟨g7, j, none⟩) HG7.out (.int .u8 c))⟩
                    generalize us.getD j 0 = zz at *
                    clear r1 ho hRz
                    go_wp2
                    go_roundw
                    case rel => exact ⟨j + 1, us.set j c, by go_num, by omega, hZ.set j hc, HQ.out.1, HQ.out.2⟩
                    case measure => simp [intOf]; omega
                  · obtain rfl : j = zs.length + 2 := by omega
                    have HRz := mkHid hRz
                    clear ho hRz
                    go_wp2
                    go_roundw
                    case rel => exact ⟨i + 1, upd s k i', by go_num, by omega, upd_le HB hle, HRz.out⟩
                    case measure => simp [intOf]; omega
              · by_cases k4 : xk = 4
                · subst k4
                  obtain ⟨sa, sc, hsv⟩ : ∃ a c, v k = .slice a (bs k).length c := (HV.out k hk2).1.2.imp fun a h => h.imp fun c h => h.1
                  have hMR := HW.out.md k hk2
                  unfold MR at hMR
                  rw [hsv] at hMR
                  have m0 : W.cell? ⟨m k, 0, none⟩ = some (.slice sa (bs k).length sc) := cell_of_block hMR rfl
                  have m1 : W.cell? ⟨m k, 1, none⟩ = some (.int .i64 (s k : Int)) := cell_of_block hMR rfl
                  have hw : wrap64 (((bs k).length : Int) - (s k : Int)) = ((bs k).length : Int) - (s k : Int) := by unfold wrap64; omega
                  have hEW := (HE.out.late HW.out.bel).cell_bytes
                  have hsm := HE.out.2.1.same
                  have HRk := mkHid (HW.out.rk k hk2)
                  clear hMR hsv
                  go_wp2
                  go_quiet (fail)
                  by_cases hz : s k = (bs k).length
                  · have h0 : ((bs k).length : Int) - (s k : Int) = 0 := by omega
                    go_wp2_with (first | (go_at_call 26; refine (end_nil (F k) _ (p k) (bs k) (s k) (HRk.out.drewN _) (by omega) hz).mono ?_; rintro e w4 ⟨rfl, n4, rfl⟩) | (go_at_call 27; refine (left_any (F k) _ (p k) (bs k) (s k) (HRk.out.drewN _) (by omega)).mono ?_; rintro e w5 ⟨rfl, n5, rfl⟩; rw [h0]))
                    go_roundw
                    case rel => exact ⟨i + 1, s, by go_num, by omega, HB, HW.out.late ⟨rfl, rfl, rfl, Nat.le_refl _, fun _ _ => rfl⟩⟩
                    case measure => simp [intOf]; omega
                  · have h0 : ((bs k).length : Int) - (s k : Int) ≠ 0 := by omega
                    have h1 : 0 < ((bs k).length : Int) - (s k : Int) := by omega
                    go_wp2_with (first | (go_at_call 26; refine (end_err (F k) _ (p k) (bs k) (s k) _ (HRk.out.drewN _) (by omega) hEW (by omega)).mono ?_; rintro e w4 ⟨rfl, n4, rfl⟩) | (go_at_call 27; refine (left_any (F k) _ (p k) (bs k) (s k) (HRk.out.drewN _) (by omega)).mono ?_; rintro e w5 ⟨rfl, n5, rfl⟩))
                    go_roundw
                    case rel => exact ⟨i + 1, s, by go_num, by omega, HB, HW.out.late ⟨rfl, rfl, rfl, Nat.le_refl _, fun _ _ => rfl⟩⟩
                    case measure => simp [intOf]; omega
                · go_wp2
                  go_roundw
                  case rel => exact ⟨i + 1, s, by go_num, by omega, HB, HW.out⟩
                  case measure => simp [intOf]; omega
        · obtain rfl : i = ys.length := by omega
          have hbl := HWS.out.bel
          go_wp2
          go_ret
          exact ⟨rfl, hbl⟩
end Go.Proofs.YtghpehgefbikeaaDoor
