/- An epoch is claimed: its cell is written and flushed. -/
import Derived.Test.YtcbimclgodkflaaDoorWanew
namespace Go.Proofs.YtcbimclgodkflaaDoor
open Go.ChangeShapes Go.WideShapes Go.ChangeAt Go.RowKit
set_option maxRecDepth 100000

/-- The sector of a cell that tells an epoch. -/
def cellS (ep : Nat) : List Int := frame (enc ep) ++ List.replicate (64 - (frame (enc ep)).length) 0
theorem cellS_len {ep : Nat} (h : ep ≤ 1099511627776) : (frame (enc ep)).length ≤ 14 ∧ (cellS ep).length = 64 := by
  have h1 := frame_len (enc ep)
  have h2 := enc_len6 h
  refine ⟨by omega, ?_⟩
  unfold cellS
  rw [List.length_append, List.length_replicate]
  omega
theorem cellS_sec {ep : Nat} (h : ep ≤ 1099511627776) : Sec (cellS ep) := by
  refine ⟨(cellS_len h).2, ?_⟩
  exact (frame_byts (enc_byts _)).append (fun x hx => by have := (List.mem_replicate.mp hx).2; omega)
theorem splice_cell {ep : Nat} (h : ep ≤ 1099511627776) : splice (scells zeros) 0 (((frame (enc ep)).take 64).map (Value.int .u8)) = scells (cellS ep) := by
  have h1 := (cellS_len h).1
  rw [List.take_of_length_le (by omega)]
  unfold splice scells cellS zeros
  simp only [List.map_append, List.map_replicate, List.take_zero, List.nil_append, Nat.zero_add, List.length_map, List.drop_replicate]
theorem cellN_cellS {ep : Nat} (h : ep ≤ 1099511627776) : cellN (cellS ep) = ep := by
  have h2 := enc_len6 h
  obtain ⟨k1, k2, _⟩ := frame_read (enc ep) (List.replicate (64 - (frame (enc ep)).length) 0) (by omega) (enc_byts _)
  exact cellN_yes k1 k2 h
set_option maxHeartbeats 12800000 in
theorem claim_ok (F : Nat → Prop) (w : World) (p n ep : Nat) (f : Int → List Int) (c : List (Int × List Int)) (nw : Int) (h : Dk F w p n f c nw false) (hn4 : 4 ≤ n) (hn2 : (n : Int) ≤ 1024) (hep : ep ≤ 1099511627776) (hcl : c.length ≤ 100000000) (hnw : 0 ≤ nw ∧ nw ≤ 100000000) :
    Calls Tryd.prog 31 #[.pointer (some ⟨p, 0, none⟩), .int .i64 (ep : Int)] w fun e w' => e = .returned .nilIface ∧ ∃ F', Dk F' w' p n (flushed f (c ++ [(((n - 2 + ep % 2 : Nat) : Int), cellS ep)])) [] (nw + 1) false ∧ (∀ k, F' k → F k ∨ w.heap.size ≤ k) ∧ Kept F w w' := by
  have HD := mkHid h
  have hepi : (ep : Int) ≤ 1099511627776 := by omega
  have HEP := mkHid hep
  obtain ⟨PL, hPL⟩ : ∃ PL : Int, PL = ((n - 2 + ep % 2 : Nat) : Int) := ⟨_, rfl⟩
  have HPL : Hid (PL = ((n - 2 + ep % 2 : Nat) : Int) ∧ 0 ≤ PL ∧ PL < n) := mkHid ⟨hPL, by omega, by omega⟩
  have hmod : (ep : Int).tmod 2 = ((ep % 2 : Nat) : Int) := by rw [Int.tmod_eq_emod_of_nonneg (by omega)]; omega
  have hplw : IntKind.i64.wrap ((n : Int) - 2 + (ep : Int) % 2) = PL := by rw [IntKind.wrap_i64, hPL]; omega
  have hsubw : IntKind.i64.wrap ((n : Int) - 2) = (n : Int) - 2 := by rw [IntKind.wrap_i64]; omega
  rw [← hPL]
  clear h hep hPL
  go_enter Tryd.func31, Tryd.ntmps31
  go_wp2_with (first
    | (go_at_call 54; refine (new_any w).mono ?_; rintro e w1 ⟨rfl, hw1, b1⟩; have HW1 := mkHid hw1; have HB1 := mkHid b1; clear hw1 b1)
    | (go_at_call 55; refine (num_any _ w1 w.heap.size [] false ep HW1.out (by omega) (by simp)).mono ?_; rintro e w2 ⟨rfl, F2, hw2, _, hk2⟩; rw [List.nil_append] at hw2; have HW2 := mkHid hw2; have HB2 : Hid (Below w.heap.size w w2) := mkHid (HB1.out.trans (hk2.below (fun k e => by omega) HB1.out.size)); clear hw2 hk2)
    | (go_at_call 56; refine (done_ok F2 w2 w.heap.size (enc ep) HW2.out (by have := enc_len6 HEP.out; omega)).mono ?_; rintro e w3 ⟨v3, rfl, ho3, b3⟩; obtain ⟨a3, c3, rfl⟩ := own_shape ho3; have HR3 := mkHid (Rd.of_owns (enc_byts ep) ho3); have HB3 : Hid (Below w.heap.size w w3) := mkHid (HB2.out.trans (b3.mono HB2.out.size)); clear ho3 b3)
    | (go_at_call 57; refine (frame_any w3 _ (enc ep) HR3.out (by have := enc_len6 HEP.out; omega)).mono ?_; rintro e w4 ⟨v4, rfl, ho4, b4⟩; obtain ⟨a4, c4, rfl⟩ := own_shape ho4; have HB4 : Hid (Below w.heap.size w w4) := mkHid (HB3.out.trans (b4.mono HB3.out.size)); obtain ⟨W2, hrun, hg2, hk2⟩ := copy_min (w := w4.alloc (.cells (scells zeros).toArray 96)) 3 w4.heap.size 0 64 64 (scells zeros) 96 (heap_alloc_new w4 _) (.slice a4 ((enc ep).length + 8) c4) (frame (enc ep)) ((Rd.of_owns (frame_byts (enc_byts ep)) (by rw [frame_len]; exact ho4)).alloc _) (by rw [frame_len]; omega) (by simp [scells, zeros]); rw [splice_cell HEP.out] at hg2; have HRS := mkHid (rd_block (cellS_sec HEP.out) hg2); have HBW : Hid (Below w.heap.size w W2) := mkHid ((HB4.out.alloc HB4.out.size _).trans (hk2.below (fun k e => by have := HB4.out.size; omega) (by have := HB4.out.size; simp; omega))); clear ho4 b4 hg2 hk2)
    | (refine wpList_alloc_z rfl 96 rfl (scells zeros).toArray (zero64 _) ?_))
  have HD2 : Hid (Dk F W2.drew p n f c nw false) := mkHid (HD.out.below (HBW.out.drew))
  have HRS2 : Hid (Rd W2.drew (.slice (some ⟨w4.heap.size, 0, none⟩) 64 64) (cellS ep)) := mkHid (HRS.out.later (Below.refl _ _).drew)
  have HBW2 : Hid (Below w.heap.size w W2.drew) := mkHid HBW.out.drew
  clear hrun
  refine wp_region_held_drew (S := fun _ => True) (by kernel_rfl) trivial (fun hHeld => ?_)
  generalize W2.drew = W3 at *
  refine takeD 0 34 (.pointer (some ⟨p, 0, none⟩)) rfl rfl (by kernel_rfl) (by kernel_rfl) (by kernel_rfl) (fun _ _ _ h => h) (Or.inl ⟨by kernel_rfl, by intro w hSw; (try dsimp only at hSw); go_simp⟩) hHeld ?_
  simp only [List.set_cons_zero, List.set_cons_succ]
  refine takeD 1 35 (.pointer (some ⟨p, 0, none⟩)) rfl rfl (by kernel_rfl) (by kernel_rfl) (by kernel_rfl) (fun _ _ _ h => h) (Or.inl ⟨by kernel_rfl, by intro w hSw; (try dsimp only at hSw); go_simp⟩) hHeld ?_
  simp only [List.set_cons_zero, List.set_cons_succ]
  refine takeD 4 38 (.int .i64 (ep : Int)) rfl rfl (by kernel_rfl) (by kernel_rfl) (by kernel_rfl) (fun _ _ _ h => h) (Or.inl ⟨by kernel_rfl, by intro w hSw; (try dsimp only at hSw); go_simp⟩) hHeld ?_
  simp only [List.set_cons_zero, List.set_cons_succ]
  refine takeD 5 39 (.int .i64 ((ep % 2 : Nat) : Int)) rfl rfl (by kernel_rfl) (by kernel_rfl) (by kernel_rfl) (fun _ _ _ h => h) (Or.inl ⟨by kernel_rfl, by intro w hSw; (try dsimp only at hSw); go_simp⟩) hHeld ?_
  simp only [List.set_cons_zero, List.set_cons_succ]
  refine takeD 7 41 (.slice (some ⟨w4.heap.size, 0, none⟩) 64 64) rfl rfl (by kernel_rfl) (by kernel_rfl) (by kernel_rfl) (fun _ _ _ h => h) (Or.inl ⟨by kernel_rfl, by intro w hSw; (try dsimp only at hSw); go_simp⟩) hHeld ?_
  simp only [List.set_cons_zero, List.set_cons_succ]
  refine wpAnyH_ready (rs := [2]) (by kernel_rfl) (by simp) (AllReadyH.cons rfl (fun K hK => ?_) AllReadyH.nil)
  go_simp
  refine (sectors_is F W3 p n f c nw false HD2.out).mono ?_
  rintro e w5 ⟨rfl, hw5⟩
  rw [hw5]
  clear hw5
  refine hK.out _ _ trivial (fun hHeld => ?_)
  clear hK K
  refine takeD 3 37 (.int .i64 ((n : Int) - 2)) rfl rfl (by kernel_rfl) (by kernel_rfl) (by kernel_rfl) (fun _ _ _ h => h) (Or.inl ⟨by kernel_rfl, by intro w hSw; (try dsimp only at hSw); go_simp⟩) hHeld ?_
  simp only [List.set_cons_zero, List.set_cons_succ]
  refine takeD 6 40 (.int .i64 PL) rfl rfl (by kernel_rfl) (by kernel_rfl) (by kernel_rfl) (fun _ _ _ h => h) (Or.inl ⟨by kernel_rfl, by intro w hSw; (try dsimp only at hSw); go_simp⟩) hHeld ?_
  simp only [List.set_cons_zero, List.set_cons_succ]
  refine wpAnyH_ready (rs := [8]) (by kernel_rfl) (by simp) (AllReadyH.cons rfl (fun K hK => ?_) AllReadyH.nil)
  go_simp
  refine (write_ok F W3 p n f c nw PL _ (cellS ep) HD2.out HPL.out.2.1 HPL.out.2.2 HRS2.out (cellS_len HEP.out).2 (by omega) (by omega)).mono ?_
  rintro e w6 ⟨rfl, F6, hD6, hF6, hk6⟩
  have HD6 := mkHid (And.intro hD6 (And.intro hF6 hk6))
  clear hD6 hF6 hk6
  refine hK.out _ _ trivial (fun hHeld => ?_)
  clear hK K
  (try simp only [Act.put])
  refine takeD 9 10 (.nilIface) rfl rfl (by kernel_rfl) (by kernel_rfl) (by kernel_rfl) (fun _ _ _ h => h) (Or.inl ⟨by kernel_rfl, by intro w hSw; (try dsimp only at hSw); go_simp⟩) hHeld ?_
  simp only [List.set_cons_zero, List.set_cons_succ]
  refine wpAnyH_done (by kernel_rfl) ?_ _
  go_wp2_with (go_at_call 44; refine (flush_ok F6 w6 p n f _ _ HD6.out.1 (by rw [List.length_append]; simp; omega)).mono ?_; rintro e w7 ⟨rfl, hD7, hk7⟩; have HD7 := mkHid (And.intro hD7 hk7); clear hD7 hk7)
  go_ret
  have hs := HBW2.out.size
  have hb : Kept F w W3 := ⟨HBW2.out.os, HBW2.out.tape, HBW2.out.output, HBW2.out.size, fun k hk _ => HBW2.out.block k hk⟩
  have hF6 : ∀ k, F6 k → F k ∨ w.heap.size ≤ k := fun k hk => by
    rcases HD6.out.2.1 k hk with a | a
    · exact .inl a
    · exact .inr (by omega)
  exact ⟨rfl, F6, HD7.out.1, hF6, (hb.trans HD6.out.2.2 (fun k e => .inl e)).trans HD7.out.2 hF6⟩
end Go.Proofs.YtcbimclgodkflaaDoor
