/- The law OrderLedgers. -/
import Derived.Test.YtehnimafjgodeaaDoorOsamel
import Derived.Test.YtehnimafjgodeaaDoorOunlike
import Derived.Test.YtehnimafjgodeaaDoorErrNum9
namespace Go.Proofs.YtehnimafjgodeaaDoor
open Go.ChangeShapes Go.WideShapes Go.ChangeAt Go.RowKit
set_option maxRecDepth 100000
attribute [local go_sem] World.cell?_alloc_some frozen_alloc_some

theorem fs_all {qs ps : List Ep} (h : fs1 qs = fs1 ps) (hp : ∀ t ∈ ps, inF t.1) : ∀ t ∈ qs, inF t.1 := by
  intro t ht
  have : t.1 ∈ fs1 ps := by rw [← h]; exact List.mem_map.mpr ⟨t, ht, rfl⟩
  obtain ⟨u, hu, e⟩ := List.mem_map.mp this
  rw [← e]
  exact hp u hu
theorem fs_small {qs ps : List Ep} (h : fs1 qs = fs1 ps) (hp : ∀ t ∈ ps, small t) : ∀ t ∈ qs, (t.1.ts.length : Int) ≤ 9223372036854775807 := by
  intro t ht
  have : t.1 ∈ fs1 ps := by rw [← h]; exact List.mem_map.mpr ⟨t, ht, rfl⟩
  obtain ⟨u, hu, e⟩ := List.mem_map.mp this
  have := hp u hu
  unfold small at this
  rw [← e]
  omega
theorem write_yes2 (w : World) (v : Value) (ps : List Ep) (es : Addr) (h : Ens w v ps) (hl : ps.length ≤ 64) (he : w.cell? ⟨0, 0, none⟩ = some (vErr es)) (hf : ∀ t ∈ ps, inF t.1) : Calls Tryd.prog 24 #[v] w fun r w' => ∃ v', r = .returned (.tuple #[v', .nilIface]) ∧ w'.ownsRow w.heap.size 5 1 v' (bytesL (fs1 ps)).length ((bytesL (fs1 ps)).map (Value.int .u8)) ∧ Below w.heap.size w w' := write_yes w v ps es h hl he hf
theorem write_no2 (w : World) (v : Value) (ps : List Ep) (es : Addr) (h : Ens w v ps) (hl : ps.length ≤ 64) (he : w.cell? ⟨0, 0, none⟩ = some (vErr es)) (hf : ¬ ∀ t ∈ ps, inF t.1) : Calls Tryd.prog 24 #[v] w fun r w' => r = .returned (.tuple #[.slice none 0 0, vErr es]) ∧ Below w.heap.size w w' := by
  refine (write_all w v ps es h hl he).mono ?_
  rintro r w' ⟨hb, ⟨hn, _⟩ | ⟨_, rfl⟩⟩
  · exact absurd hn hf
  · exact ⟨rfl, hb⟩
theorem rwrite_yes (w : World) (v : Value) (ps : List Ep) (h : Ens w v ps) (hl : ps.length ≤ 64) (hf : ∀ t ∈ ps, inF t.1) : Calls Tryd.prog 25 #[v] w fun r w' => ∃ v', r = .returned (.tuple #[v', .int .i64 0]) ∧ w'.ownsRow w.heap.size 5 1 v' (bytesL (fs1 ps)).length ((bytesL (fs1 ps)).map (Value.int .u8)) ∧ Below w.heap.size w w' := by
  refine (rwrite_all w v ps h hl).mono ?_
  rintro r w' ⟨hb, ⟨_, v', rfl, ho⟩ | ⟨hn, _⟩⟩
  · exact ⟨v', rfl, ho, hb⟩
  · exact absurd hf hn
theorem rwrite_no (w : World) (v : Value) (ps : List Ep) (h : Ens w v ps) (hl : ps.length ≤ 64) (hf : ¬ ∀ t ∈ ps, inF t.1) : Calls Tryd.prog 25 #[v] w fun r w' => r = .returned (.tuple #[.slice none 0 0, .int .i64 16]) ∧ Below w.heap.size w w' := by
  refine (rwrite_all w v ps h hl).mono ?_
  rintro r w' ⟨hb, ⟨hn, _⟩ | ⟨_, rfl⟩⟩
  · exact absurd hn hf
  · exact ⟨rfl, hb⟩
set_option maxHeartbeats 12800000 in
theorem ledgers_large (w : World) (v : Value) (ps : List Ep) (a : Nat → Addr) (hE : Errs w a) (h : Ens w v ps) (hl : ps.length * 96 ≤ 140737488355328) (hs : ∀ t ∈ ps, small t) (hc : 64 < ps.length) : Calls Tryd.prog 5 #[v] w fun r w' => r = .returned (.bool true) ∧ Below w.heap.size w w' := by
  have h' := h
  obtain ⟨a0, cap0, rfl, _, _⟩ := h'
  have HE := mkHid h
  have HS := mkHid hs
  have HL := mkHid hl
  have HC := mkHid hc
  have HER := mkHid hE
  clear h hs hl hc hE
  go_enter Tryd.func5, Tryd.ntmps5
  go_wp2_with (first
    | (go_at_call 9; refine (alive_any w).mono ?_; rintro r w1 ⟨rfl, b1⟩; have HB1 := mkHid b1; clear b1)
    | (go_at_call 10; refine (copy_any w1 _ ps (HE.out.below HB1.out) HL.out HS.out).mono ?_; rintro r w2 ⟨v2, qs, rfl, hl2, hq2, b2⟩; obtain ⟨ia, ic, rfl, _⟩ := own_sh hl2.own; have HQF : Hid (fs1 qs = fs1 ps) := mkHid hq2; have HQL : Hid (qs.length = ps.length) := mkHid (by have := congrArg List.length hq2; simpa using this); have HQE : Hid (Ens w2 (.slice ia qs.length ic) qs) := mkHid (hl2.ens (by have := HL.out; have := HQL.out; omega) (fs_small HQF.out HS.out)); have HB2 := mkHid (bt HB1.out b2); clear hl2 hq2 b2)
    | (go_at_call 24; refine (write_large w2 _ qs _ HQE.out (by have := HC.out; have := HQL.out; omega) (HER.out.late HB2.out).cell_large).mono ?_; rintro r w3 ⟨rfl, b3⟩; have HP3 := mkHid b3; have HB3 := mkHid (bt HB2.out b3); clear b3)
    | (go_at_call 25; refine (rwrite_large w3 _ ps (HE.out.below HB3.out) HC.out).mono ?_; rintro r w4 ⟨rfl, b4⟩; have HP4 := mkHid b4; have HB4 := mkHid (bt HB3.out b4); clear b4)
    | (go_at_call 26; refine (errnum_large w4 a (HER.out.late HB4.out)).mono ?_; rintro r w5 ⟨rfl, b5⟩; have cv1 := (rd_nil w5).conv; have HP5 := mkHid b5; have HB5 := mkHid (bt HB4.out b5); clear b5)
    | (go_at_call 22; refine (sameL_yes w5 _ _ qs ps (HQE.out.below (bt (bt HP3.out HP4.out) HP5.out)) (HE.out.below HB5.out) HQF.out).mono ?_; rintro r w6 ⟨rfl, b6⟩; have HP6 := mkHid b6; have HB6 := mkHid (bt HB5.out b6); clear b6))
  go_ret
  exact ⟨rfl, HB6.out⟩
set_option maxHeartbeats 12800000 in
theorem ledgers_no (w : World) (v : Value) (ps : List Ep) (a : Nat → Addr) (hE : Errs w a) (h : Ens w v ps) (hl : ps.length * 96 ≤ 140737488355328) (hs : ∀ t ∈ ps, small t) (hc : ps.length ≤ 64 ∧ ¬ ∀ t ∈ ps, inF t.1) : Calls Tryd.prog 5 #[v] w fun r w' => r = .returned (.bool true) ∧ Below w.heap.size w w' := by
  have h' := h
  obtain ⟨a0, cap0, rfl, _, _⟩ := h'
  have HE := mkHid h
  have HS := mkHid hs
  have HL := mkHid hl
  have HC := mkHid hc
  have HER := mkHid hE
  clear h hs hl hc hE
  go_enter Tryd.func5, Tryd.ntmps5
  go_wp2_with (first
    | (go_at_call 9; refine (alive_any w).mono ?_; rintro r w1 ⟨rfl, b1⟩; have HB1 := mkHid b1; clear b1)
    | (go_at_call 10; refine (copy_any w1 _ ps (HE.out.below HB1.out) HL.out HS.out).mono ?_; rintro r w2 ⟨v2, qs, rfl, hl2, hq2, b2⟩; obtain ⟨ia, ic, rfl, _⟩ := own_sh hl2.own; have HQF : Hid (fs1 qs = fs1 ps) := mkHid hq2; have HQL : Hid (qs.length = ps.length) := mkHid (by have := congrArg List.length hq2; simpa using this); have HQE : Hid (Ens w2 (.slice ia qs.length ic) qs) := mkHid (hl2.ens (by have := HL.out; have := HQL.out; omega) (fs_small HQF.out HS.out)); have HB2 := mkHid (bt HB1.out b2); clear hl2 hq2 b2)
    | (go_at_call 24; refine (write_no2 w2 _ qs _ HQE.out (by have := HC.out.1; have := HQL.out; omega) (HER.out.late HB2.out).cell_state (fun h => HC.out.2 (fs_all HQF.out.symm h))).mono ?_; rintro r w3 ⟨rfl, b3⟩; have HP3 := mkHid b3; have HB3 := mkHid (bt HB2.out b3); clear b3)
    | (go_at_call 25; refine (rwrite_no w3 _ ps (HE.out.below HB3.out) HC.out.1 HC.out.2).mono ?_; rintro r w4 ⟨rfl, b4⟩; have HP4 := mkHid b4; have HB4 := mkHid (bt HB3.out b4); clear b4)
    | (go_at_call 26; refine (errnum_state w4 a (HER.out.late HB4.out)).mono ?_; rintro r w5 ⟨rfl, b5⟩; have cv1 := (rd_nil w5).conv; have HP5 := mkHid b5; have HB5 := mkHid (bt HB4.out b5); clear b5)
    | (go_at_call 22; refine (sameL_yes w5 _ _ qs ps (HQE.out.below (bt (bt HP3.out HP4.out) HP5.out)) (HE.out.below HB5.out) HQF.out).mono ?_; rintro r w6 ⟨rfl, b6⟩; have HP6 := mkHid b6; have HB6 := mkHid (bt HB5.out b6); clear b6))
  go_ret
  exact ⟨rfl, HB6.out⟩
set_option maxHeartbeats 12800000 in
theorem ledgers_yes (w : World) (v : Value) (ps : List Ep) (a : Nat → Addr) (hE : Errs w a) (h : Ens w v ps) (hl : ps.length * 96 ≤ 140737488355328) (hs : ∀ t ∈ ps, small t) (hc : ps.length ≤ 64 ∧ ∀ t ∈ ps, inF t.1) : Calls Tryd.prog 5 #[v] w fun r w' => r = .returned (.bool true) ∧ Below w.heap.size w w' := by
  have h' := h
  obtain ⟨a0, cap0, rfl, _, _⟩ := h'
  have HE := mkHid h
  have HS := mkHid hs
  have HL := mkHid hl
  have HC := mkHid hc
  have HER := mkHid hE
  clear h hs hl hc hE
  go_enter Tryd.func5, Tryd.ntmps5
  go_wp2_with (first
    | (go_at_call 9; refine (alive_any w).mono ?_; rintro r w1 ⟨rfl, b1⟩; have HB1 := mkHid b1; clear b1)
    | (go_at_call 10; refine (copy_any w1 _ ps (HE.out.below HB1.out) HL.out HS.out).mono ?_; rintro r w2 ⟨v2, qs, rfl, hl2, hq2, b2⟩; obtain ⟨ia, ic, rfl, _⟩ := own_sh hl2.own; have HQF : Hid (fs1 qs = fs1 ps) := mkHid hq2; have HQL : Hid (qs.length = ps.length) := mkHid (by have := congrArg List.length hq2; simpa using this); have HQE : Hid (Ens w2 (.slice ia qs.length ic) qs) := mkHid (hl2.ens (by have := HL.out; have := HQL.out; omega) (fs_small HQF.out HS.out)); have HB2 := mkHid (bt HB1.out b2); clear hl2 hq2 b2)
    | (go_at_call 24; refine (write_yes2 w2 _ qs _ HQE.out (by have := HC.out.1; have := HQL.out; omega) (HER.out.late HB2.out).cell_state (fs_all HQF.out HC.out.2)).mono ?_; rintro r w3 ⟨v3, rfl, ho3, b3⟩; rw [HQF.out] at ho3; obtain ⟨oa, oc, rfl⟩ := own_shape ho3; have HO3 := mkHid ho3; clear ho3; have HP3 := mkHid b3; have HB3 := mkHid (bt HB2.out b3); clear b3)
    | (go_at_call 25; refine (rwrite_yes w3 _ ps (HE.out.below HB3.out) HC.out.1 HC.out.2).mono ?_; rintro r w4 ⟨v4, rfl, ho4, b4⟩; obtain ⟨ra, rc, rfl⟩ := own_shape ho4; have HO4 := mkHid ho4; clear ho4; have HP4 := mkHid b4; have HB4 := mkHid (bt HB3.out b4); clear b4)
    | (go_at_call 26; refine (errnum_nil w4).mono ?_; rintro r w5 ⟨rfl, hw5⟩; have b5 : Below w4.heap.size w4 w5 := by { rw [hw5]; exact Below.refl _ _ }; clear hw5; have cv1 := ((Rd.of_owns (bs := bytesL (fs1 ps)) (bytesL_byts _) HO3.out).later (bt HP4.out b5)).conv; have cv2 := ((Rd.of_owns (bs := bytesL (fs1 ps)) (bytesL_byts _) HO4.out).later b5).conv; have HP5 := mkHid b5; have HB5 := mkHid (bt HB4.out b5); clear b5)
    | (go_at_call 22; refine (sameL_yes w5 _ _ qs ps (HQE.out.below (bt (bt HP3.out HP4.out) HP5.out)) (HE.out.below HB5.out) HQF.out).mono ?_; rintro r w6 ⟨rfl, b6⟩; have HP6 := mkHid b6; have HB6 := mkHid (bt HB5.out b6); clear b6))
  have HRD := mkHid (read_yes w6 (.slice oa (bytesL (fs1 ps)).length oc) (fs1 ps) (a 1) (a 0) ((Rd.of_owns (bs := bytesL (fs1 ps)) (bytesL_byts _) HO3.out).later (bt (bt HP4.out HP5.out) HP6.out)) (by rw [fs1, List.length_map]; exact HC.out.1) (fun e he => by obtain ⟨t, ht, rfl⟩ := List.mem_map.mp he; exact HC.out.2 t ht) (HER.out.late HB6.out).cell_bytes (HER.out.late HB6.out).cell_state)
  clear cv1 cv2
  go_wp2_with (first
    | (go_at_call 20; refine HRD.out.mono ?_; rintro r w7 ⟨v7, rs, rfl, hl7, hq7, b7⟩; obtain ⟨ja, jc, rfl, _⟩ := own_sh hl7.own; have HRL : Hid ((rs.length : Int) ≤ 9223372036854775807) := mkHid (by have h7 := congrArg List.length hq7; rw [fs1, fs1, List.length_map, List.length_map] at h7; have := HL.out; omega); have HRE : Hid (Ens w7 (.slice ja rs.length jc) rs) := mkHid (hl7.ens HRL.out (fs_small hq7 HS.out)); have HRF := mkHid hq7; have HB7 := mkHid (bt HB6.out b7); clear hl7 hq7 b7)
    | (go_at_call 22; refine (sameL_yes w7 _ _ rs ps HRE.out (HE.out.below HB7.out) HRF.out).mono ?_; rintro r w8 ⟨rfl, b8⟩; have HB8 := mkHid (bt HB7.out b8); clear b8))
  go_ret
  exact ⟨rfl, HB8.out⟩
theorem ledgers_any (w : World) (v : Value) (ps : List Ep) (a : Nat → Addr) (hE : Errs w a) (h : Ens w v ps) (hl : ps.length * 96 ≤ 140737488355328) (hs : ∀ t ∈ ps, small t) : Calls Tryd.prog 5 #[v] w fun r w' => r = .returned (.bool true) ∧ Below w.heap.size w w' := by
  by_cases h64 : 64 < ps.length
  · exact ledgers_large w v ps a hE h hl hs h64
  · by_cases hf : ∀ t ∈ ps, inF t.1
    · exact ledgers_yes w v ps a hE h hl hs ⟨by omega, hf⟩
    · exact ledgers_no w v ps a hE h hl hs ⟨by omega, hf⟩
end Go.Proofs.YtehnimafjgodeaaDoor
