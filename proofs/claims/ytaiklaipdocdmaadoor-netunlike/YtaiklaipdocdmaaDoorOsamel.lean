/- The document's SameLedger of ledgers that are the same; its Write. -/
import Derived.Test.YtaiklaipdocdmaaDoorOwrite
namespace Go.Proofs.YtaiklaipdocdmaaDoor
open Go.ChangeShapes Go.WideShapes Go.ChangeAt Go.RowKit
set_option maxRecDepth 100000
attribute [local go_sem] World.cell?_alloc_some frozen_alloc_some

set_option maxHeartbeats 12800000 in
theorem sameL_yes (w : World) (v u : Value) (ps qs : List Ep) (hv : Ens w v ps) (hu : Ens w u qs) (h : fs1 ps = fs1 qs) : Calls Tryd.prog 50 #[v, u] w fun r w' => r = .returned (.bool true) ∧ Below w.heap.size w w' := by
  have hv' := hv
  have hu' := hu
  obtain ⟨a0, cap0, rfl, hl0, _⟩ := hv'
  obtain ⟨a1, cap1, rfl, hl1, _⟩ := hu'
  have hlen : ps.length = qs.length := by have := congrArg List.length h; simpa using this
  have hleni : (ps.length : Int) = (qs.length : Int) := by omega
  have HV := mkHid hv
  have HU := mkHid hu
  have HQ := mkHid h
  have HLN := mkHid hlen
  clear hv hu h hlen
  go_enter Tryd.func50, Tryd.ntmps50
  go_wp2
  go_loopw [5, 13] (fun _ iv wr => ∃ j : Nat, iv = .int .i64 (j : Int) ∧ j ≤ ps.length ∧ Hid (Below w.heap.size w wr)) (fun _ iv _ => ps.length - (intOf iv).toNat)
  case atStart => exact ⟨0, rfl, Nat.zero_le _, mkHid (Below.refl _ _)⟩
  case round =>
    obtain ⟨j, rfl, hj, HB⟩ := hrel
    by_cases hlt : j < ps.length
    · obtain ⟨b0, o0, t, rfl, hx, hat, hew⟩ := HV.out.at HB.out j hlt
      obtain ⟨b1, o1, s, rfl, hy, hbt, hfw⟩ := HU.out.at HB.out j (by have := HLN.out; omega)
      have hji : (j : Int) < ps.length := by omega
      have hji2 : (j : Int) < qs.length := by omega
      have hes : t.1 = s.1 := by
        have h1 := congrArg (fun l => l[j]?) HQ.out
        simp only [fs1, List.getElem?_map, hx, hy] at h1
        simpa using h1
      obtain ⟨e, ta, tc⟩ := t
      obtain ⟨f, ua, uc⟩ := s
      simp only at hes
      subst hes
      have hd : Below wr.heap.size wr wr.drew := (Below.refl _ wr).drew
      have HAT := mkHid (hat.below hd)
      have HBT := mkHid (hbt.below hd)
      have HTW := mkHid (hew.below hd)
      have HUW := mkHid (hfw.below hd)
      clear hx hy hat hbt hew hfw hd
      obtain ⟨p0, p1, p2, p3, p4, p5, p6, p7, p8, p9⟩ := HAT.out.ten
      obtain ⟨q0, q1, q2, q3, q4, q5, q6, q7, q8, q9⟩ := HBT.out.ten
      simp only [tv] at p0 p1 p2 p3 p4 p5 p6 p7 p8 p9 q0 q1 q2 q3 q4 q5 q6 q7 q8 q9
      go_wp2
      refine wp_region_held_drew (S := fun w' => w'.cell? ⟨b0, o0 + j * 10, none⟩ = some (.int .i64 e.cl) ∧ w'.cell? ⟨b0, o0 + j * 10 + 1, none⟩ = some (.int .i64 e.nu) ∧ w'.cell? ⟨b0, o0 + j * 10 + 2, none⟩ = some (.int .i64 e.ki) ∧ w'.cell? ⟨b0, o0 + j * 10 + 3, none⟩ = some (.int .i64 e.id) ∧ w'.cell? ⟨b0, o0 + j * 10 + 4, none⟩ = some (.int .i64 e.sk) ∧ w'.cell? ⟨b0, o0 + j * 10 + 5, none⟩ = some (.int .i64 e.sq) ∧ w'.cell? ⟨b0, o0 + j * 10 + 6, none⟩ = some (.int .i64 e.st) ∧ w'.cell? ⟨b0, o0 + j * 10 + 7, none⟩ = some (.int .i64 e.po) ∧ w'.cell? ⟨b0, o0 + j * 10 + 8, none⟩ = some (.slice ta e.ts.length tc) ∧ w'.cell? ⟨b0, o0 + j * 10 + 9, none⟩ = some (.int .i64 e.tm) ∧ w'.cell? ⟨b1, o1 + j * 10, none⟩ = some (.int .i64 e.cl) ∧ w'.cell? ⟨b1, o1 + j * 10 + 1, none⟩ = some (.int .i64 e.nu) ∧ w'.cell? ⟨b1, o1 + j * 10 + 2, none⟩ = some (.int .i64 e.ki) ∧ w'.cell? ⟨b1, o1 + j * 10 + 3, none⟩ = some (.int .i64 e.id) ∧ w'.cell? ⟨b1, o1 + j * 10 + 4, none⟩ = some (.int .i64 e.sk) ∧ w'.cell? ⟨b1, o1 + j * 10 + 5, none⟩ = some (.int .i64 e.sq) ∧ w'.cell? ⟨b1, o1 + j * 10 + 6, none⟩ = some (.int .i64 e.st) ∧ w'.cell? ⟨b1, o1 + j * 10 + 7, none⟩ = some (.int .i64 e.po) ∧ w'.cell? ⟨b1, o1 + j * 10 + 8, none⟩ = some (.slice ua e.ts.length uc) ∧ w'.cell? ⟨b1, o1 + j * 10 + 9, none⟩ = some (.int .i64 e.tm)) (by kernel_rfl) ⟨p0, p1, p2, p3, p4, p5, p6, p7, p8, p9, q0, q1, q2, q3, q4, q5, q6, q7, q8, q9⟩ (fun hHeld => ?_)
      refine takeD 0 16 (.slice (some ⟨b0, o0, none⟩) ps.length cap0) rfl rfl (by kernel_rfl) (by kernel_rfl) (by kernel_rfl) (fun _ _ _ h => h) (Or.inl ⟨by kernel_rfl, by intro w hSw; (try dsimp only at hSw); go_simp⟩) hHeld ?_
      simp only [List.set_cons_zero, List.set_cons_succ]
      refine takeD 1 17 (.int .i64 (j : Int)) rfl rfl (by kernel_rfl) (by kernel_rfl) (by kernel_rfl) (fun _ _ _ h => h) (Or.inl ⟨by kernel_rfl, by intro w hSw; (try dsimp only at hSw); go_simp⟩) hHeld ?_
      simp only [List.set_cons_zero, List.set_cons_succ]
      refine takeD 2 18 (.pointer (some ⟨b0, o0 + j * 10, none⟩)) rfl rfl (by kernel_rfl) (by kernel_rfl) (by kernel_rfl) (fun _ _ _ h => h) (Or.inl ⟨by kernel_rfl, by intro w hSw; (try dsimp only at hSw); go_simp⟩) hHeld ?_
      simp only [List.set_cons_zero, List.set_cons_succ]
      refine takeD 3 19 (.agg #[.int .i64 e.cl, .int .i64 e.nu, .int .i64 e.ki, .int .i64 e.id, .int .i64 e.sk, .int .i64 e.sq, .int .i64 e.st, .int .i64 e.po, .slice ta e.ts.length tc, .int .i64 e.tm]) rfl rfl (by kernel_rfl) (by kernel_rfl) (by kernel_rfl) (fun _ _ _ h => h) (Or.inl ⟨by kernel_rfl, by intro w hSw; (try dsimp only at hSw); go_simp⟩) hHeld ?_
      simp only [List.set_cons_zero, List.set_cons_succ]
      refine takeD 4 20 (.slice (some ⟨b1, o1, none⟩) qs.length cap1) rfl rfl (by kernel_rfl) (by kernel_rfl) (by kernel_rfl) (fun _ _ _ h => h) (Or.inl ⟨by kernel_rfl, by intro w hSw; (try dsimp only at hSw); go_simp⟩) hHeld ?_
      simp only [List.set_cons_zero, List.set_cons_succ]
      refine takeD 5 21 (.int .i64 (j : Int)) rfl rfl (by kernel_rfl) (by kernel_rfl) (by kernel_rfl) (fun _ _ _ h => h) (Or.inl ⟨by kernel_rfl, by intro w hSw; (try dsimp only at hSw); go_simp⟩) hHeld ?_
      simp only [List.set_cons_zero, List.set_cons_succ]
      refine takeD 6 22 (.pointer (some ⟨b1, o1 + j * 10, none⟩)) rfl rfl (by kernel_rfl) (by kernel_rfl) (by kernel_rfl) (fun _ _ _ h => h) (Or.inl ⟨by kernel_rfl, by intro w hSw; (try dsimp only at hSw); go_simp⟩) hHeld ?_
      simp only [List.set_cons_zero, List.set_cons_succ]
      refine takeD 7 23 (.agg #[.int .i64 e.cl, .int .i64 e.nu, .int .i64 e.ki, .int .i64 e.id, .int .i64 e.sk, .int .i64 e.sq, .int .i64 e.st, .int .i64 e.po, .slice ua e.ts.length uc, .int .i64 e.tm]) rfl rfl (by kernel_rfl) (by kernel_rfl) (by kernel_rfl) (fun _ _ _ h => h) (Or.inl ⟨by kernel_rfl, by intro w hSw; (try dsimp only at hSw); go_simp⟩) hHeld ?_
      simp only [List.set_cons_zero, List.set_cons_succ]
      refine wpAnyH_ready (rs := [8]) (by kernel_rfl) (by simp) (AllReadyH.cons rfl (fun K hK => ?_) AllReadyH.nil)
      go_simp
      refine (refSame_yes _ (e, ta, tc) (e, ua, uc) HTW.out HUW.out rfl).mono ?_
      rintro r w2 ⟨rfl, b2⟩
      have HB2 := mkHid (bt (Below.refl _ wr).drew b2)
      clear hHeld p0 p1 p2 p3 p4 p5 p6 p7 p8 p9 q0 q1 q2 q3 q4 q5 q6 q7 q8 q9
      obtain ⟨p0, p1, p2, p3, p4, p5, p6, p7, p8, p9⟩ := (HAT.out.below b2).ten
      obtain ⟨q0, q1, q2, q3, q4, q5, q6, q7, q8, q9⟩ := (HBT.out.below b2).ten
      simp only [tv] at p0 p1 p2 p3 p4 p5 p6 p7 p8 p9 q0 q1 q2 q3 q4 q5 q6 q7 q8 q9
      clear b2
      refine hK.out _ _ ⟨p0, p1, p2, p3, p4, p5, p6, p7, p8, p9, q0, q1, q2, q3, q4, q5, q6, q7, q8, q9⟩ (fun hHeld => ?_)
      clear hK K
      refine takeD 9 25 (.bool false) rfl rfl (by kernel_rfl) (by kernel_rfl) (by kernel_rfl) (fun _ _ _ h => h) (Or.inl ⟨by kernel_rfl, by intro w hSw; (try dsimp only at hSw); go_simp⟩) hHeld ?_
      simp only [List.set_cons_zero, List.set_cons_succ]
      refine wpAnyH_done (by kernel_rfl) ?_ _
      go_wp2
      go_roundw
      case rel => exact ⟨j + 1, by go_num, by omega, mkHid (bt HB.out HB2.out)⟩
      case measure => simp [intOf]; omega
    · obtain rfl : j = ps.length := by omega
      go_wp2
      go_ret
      exact ⟨rfl, HB.out⟩
theorem rwrite_large (w : World) (v : Value) (ps : List Ep) (h : Ens w v ps) (hl : 64 < ps.length) : Calls Tryd.prog 52 #[v] w fun r w' => r = .returned (.tuple #[.slice none 0 0, .int .i64 8]) ∧ Below w.heap.size w w' := by
  obtain ⟨a, cap, rfl, _, _⟩ := h
  have h1 : (64 : Int) < ps.length := by omega
  go_enter Tryd.func52, Tryd.ntmps52
  go_wp2
  go_ret2
  exact ⟨rfl, Below.refl _ _⟩
set_option maxHeartbeats 12800000 in
theorem rwrite_all (w : World) (v : Value) (ps : List Ep) (h : Ens w v ps) (hl : ps.length ≤ 64) : Calls Tryd.prog 52 #[v] w fun r w' => Below w.heap.size w w' ∧ (((∀ t ∈ ps, inF t.1) ∧ ∃ v', r = .returned (.tuple #[v', .int .i64 0]) ∧ w'.ownsRow w.heap.size 5 1 v' (bytesL (fs1 ps)).length ((bytesL (fs1 ps)).map (Value.int .u8))) ∨ ((¬ ∀ t ∈ ps, inF t.1) ∧ r = .returned (.tuple #[.slice none 0 0, .int .i64 16]))) := by
  obtain ⟨i0, hi, hz0, hz1, hz2⟩ := info_parts Tryd.info5
  have hie := mkHid (And.intro hi (And.intro hz0 (And.intro hz1 hz2)))
  clear hi hz0 hz1 hz2
  have h' := h
  obtain ⟨a, cap, rfl, _, _⟩ := h'
  have h1 : ¬ (64 : Int) < ps.length := by omega
  have HE := mkHid h
  have HL := mkHid hl
  clear h hl
  go_enter Tryd.func52, Tryd.ntmps52
  go_wp2_with (go_at_call 57; refine (refnum_any w ps.length (by omega)).mono ?_; rintro r w1 ⟨v1, rfl, ho1, b1⟩; have HO1 := mkHid ho1; have HB1 := mkHid b1; clear ho1 b1)
  go_loopw [4, 15] (fun bv iv wr => ∃ (j : Nat) (bj : List Int), iv = .int .i64 (j : Int) ∧ j ≤ ps.length ∧ Hid ((∀ t ∈ ps.take j, inF t.1) ∧ wr.ownsRow w.heap.size 5 1 bv bj.length (bj.map (Value.int .u8)) ∧ Below w.heap.size w wr ∧ bj = enc ps.length ++ ((fs1 ps).take j).flatMap chunk)) (fun _ iv _ => ps.length - (intOf iv).toNat)
  case atStart => exact ⟨0, enc ps.length, rfl, Nat.zero_le _, mkHid ⟨by simp, HO1.out, HB1.out, by simp⟩⟩
  case round =>
    obtain ⟨j, bj, rfl, hj, HI⟩ := hrel
    obtain ⟨ba0, bc0, rfl⟩ := own_shape HI.out.2.1
    by_cases hlt : j < ps.length
    · obtain ⟨b, off, t, rfl, hxj, hat, hew⟩ := HE.out.at HI.out.2.2.1 j hlt
      have hji : (j : Int) < ps.length := by omega
      obtain ⟨d0, d1, d2, d3, d4, d5, d6, d7, d8, d9⟩ := hat.ten
      obtain ⟨e, ta, tc⟩ := t
      simp only [tv] at d0 d1 d2 d3 d4 d5 d6 d7 d8 d9
      have HXJ := mkHid hxj
      have HEW := mkHid (hew.below (ba (Below.refl _ wr) (oE e (.slice ta e.ts.length tc))))
      clear hat hew hxj
      by_cases hf : inF e
      · have HF := mkHid hf
        have HLN : Hid (bj.length ≤ 30000 ∧ (chunk e).length ≤ 387 ∧ (bytesE e).length ≤ 378) := mkHid (by
          have q1 := chunks_len ((fs1 ps).take j) (fun x hx => by
            rw [fs1, ← List.map_take] at hx
            obtain ⟨t, ht, rfl⟩ := List.mem_map.mp hx
            exact HI.out.1 t ht)
          have q2 := enc_len9 ps.length (by have := HL.out; omega)
          have q4 := HL.out
          rw [List.length_take] at q1
          refine ⟨?_, chunk_len hf, hf.blen⟩
          rw [HI.out.2.2.2, List.length_append]
          omega)
        obtain ⟨ch, hch⟩ : ∃ ch, chunk e = ch := ⟨_, rfl⟩
        have HCE := mkHid hch
        have HCH := mkHid (chunks_take (l := fs1 ps) (j := j) (e := e) (by rw [fs1, List.getElem?_map, HXJ.out]; rfl))
        rw [hch] at HLN HCH
        clear hf hch
        go_wp2_with (first
          | (go_at_call 78; refine (inForm_yes _ (e, ta, tc) HEW.out HF.out).mono ?_; rintro r w3 ⟨rfl, b3⟩; obtain ⟨p0, p1, p2, p3, p4, p5, p6, p7, p8, p9⟩ := ent_cells ((b3.block wr.heap.size (by simp)).trans (entO wr e (.slice ta e.ts.length tc))); have HB3 := mkHid b3; clear b3)
          | (go_at_call 79; refine (refput_any w3 (e, ta, tc) (HEW.out.below HB3.out) HF.out).mono ?_; rintro r w4 ⟨v4, rfl, ho4, b4⟩; have HO4 : Hid (Rd w4 v4 (bytesE e)) := mkHid (Rd.of_owns (bs := bytesE e) (encL_byts _) ho4); have HB4 := mkHid (bt HB3.out b4); clear ho4 b4 p0 p1 p2 p3 p4 p5 p6 p7 p8 p9)
          | (go_at_call 59; refine (refbytes_any w4 _ (bytesE e) HO4.out (by have := HLN.out; omega)).mono ?_; rintro r w5 ⟨v5, rfl, ho5, b5⟩; rw [show enc (bytesE e).length ++ bytesE e = ch from HCE.out] at ho5; obtain ⟨a5, c5, rfl⟩ := own_shape ho5; have HS5 := mkHid (Rd.of_owns (bs := ch) (by rw [← HCE.out]; exact Byts.append (enc_byts _) (encL_byts _)) ho5).src; have hb5 := bt (ba (Below.refl _ wr) (oE e (.slice ta e.ts.length tc))) (bt HB4.out b5); have HOB := mkHid (ownN_kept HI.out.2.1 (kept_of_below hb5) (fun k e hge => by have := (HI.out.2.1.lt k e).2; omega)); have HB5 := mkHid (bt HI.out.2.2.1 hb5); clear ho5 b5 hb5)
          | (at_builtin; refine wpList_append_src _ rfl (.tmp 22) (.tmp 25) 32 32 rfl w.heap.size 5 i0 Tryd.underlying32 hie.out.1 hie.out.2.1 hie.out.2.2.1 hie.out.2.2.2 _ _ _ rfl HOB.out _ ch.length (ch.map (Value.int .u8)) rfl HS5.out (by have := HLN.out; unfold maxLen; omega) (by have := HLN.out; omega) HB5.out.size ?_; intro v6 w6 ho6 hg6 _; have HO6 : Hid (w6.ownsRow w.heap.size 5 1 v6 (bj ++ ch).length ((bj ++ ch).map (Value.int .u8)) ∧ Below w.heap.size w w6) := mkHid ⟨by rw [List.length_append, List.map_append]; exact ho6, HB5.out.grown hg6 HB5.out.size (fun k hk => (HOB.out.lt k hk).1)⟩; clear ho6 hg6))
        go_roundw
        case rel =>
          refine ⟨j + 1, bj ++ ch, by go_num, by omega, mkHid ⟨fun t ht => ?_, HO6.out.1, HO6.out.2, by rw [HCH.out, HI.out.2.2.2, List.append_assoc]⟩⟩
          rw [List.take_add_one, HXJ.out] at ht
          rcases List.mem_append.mp ht with m | m
          · exact HI.out.1 t m
          · simp at m; subst m; exact HF.out
        case measure => simp [intOf]; omega
      · have HF := mkHid hf
        clear hf
        go_wp2_with (go_at_call 78; refine (inForm_no _ (e, ta, tc) HEW.out HF.out).mono ?_; rintro r w3 ⟨rfl, b3⟩; have HB3 := mkHid (bt (ba HI.out.2.2.1 _) b3); clear b3)
        go_ret2
        exact ⟨HB3.out, .inr ⟨fun hall => HF.out (hall _ (List.mem_of_getElem? HXJ.out)), rfl⟩⟩
    · obtain rfl : j = ps.length := by omega
      have hbl : bj = bytesL (fs1 ps) := by
        rw [HI.out.2.2.2, List.take_of_length_le (by simp), bytesL_eq]
        simp
      have HALL : Hid (∀ t ∈ ps, inF t.1) := mkHid (by have := HI.out.1; rwa [List.take_of_length_le (Nat.le_refl _)] at this)
      have HBL := mkHid hbl
      clear hbl
      go_wp2
      go_ret2
      refine ⟨HI.out.2.2.1, .inl ⟨HALL.out, _, rfl, ?_⟩⟩
      rw [← HBL.out]
      exact HI.out.2.1
end Go.Proofs.YtaiklaipdocdmaaDoor
