import Derived.Test.YtcbimclgodkflaaDoorWrec
import Derived.Test.YtcbimclgodkflaaDoorBaseG
/- crc.Read of any bytes, and the record that stands at a sector. -/
namespace Go.Proofs.YtcbimclgodkflaaDoor
open Go.ChangeShapes Go.WideShapes Go.ChangeAt Go.RowKit
set_option maxRecDepth 100000

theorem cread_no (w : World) (v : Value) (bs : List Int) (t1 t2 : TypeId) (d1 d2 : Value) (h : Rd w v bs) (hk : ¬ kind bs = 1) (h1 : w.cell? ⟨5, 0, none⟩ = some (.iface t1 d1)) (h2 : w.cell? ⟨3, 0, none⟩ = some (.iface t2 d2)) :
    Calls Tryd.prog 71 #[v] w fun e w' => (e = .returned (.tuple #[.slice none 0 0, .int .i64 0, .nilIface]) ∨ ∃ t d, e = .returned (.tuple #[.slice none 0 0, .int .i64 0, .iface t d])) ∧ Below w.heap.size w w' := by
  rcases kind_cases bs with k | k | k | k
  · rcases kind_zero k with k1 | ⟨k1, k2, k3⟩
    · refine (read_short1 w v bs h (by omega)).mono ?_
      rintro e w' ⟨rfl, hb⟩
      exact ⟨.inl rfl, hb⟩
    · refine (read_short2 w v bs h k1 k2 k3).mono ?_
      rintro e w' ⟨rfl, hb⟩
      exact ⟨.inl rfl, hb⟩
  · exact absurd k hk
  · obtain ⟨k1, k2, k3⟩ := kind_four k
    refine (read_bad w v bs _ (word bs) h rfl (by omega) (by omega) k3 h1).mono ?_
    rintro e w' ⟨rfl, hb⟩
    exact ⟨.inr ⟨_, _, rfl⟩, hb⟩
  · obtain ⟨k1, k2⟩ := kind_eight k
    refine (read_large w v bs _ h k1 k2 h2).mono ?_
    rintro e w' ⟨rfl, hb⟩
    exact ⟨.inr ⟨_, _, rfl⟩, hb⟩
theorem cread_yes (w : World) (v : Value) (bs : List Int) (h : Rd w v bs) (hk : kind bs = 1) :
    Calls Tryd.prog 71 #[v] w fun e w' => ∃ v', e = .returned (.tuple #[v', .int .i64 ((word bs + 8 : Nat) : Int), .nilIface]) ∧ Rd w' v' (pay bs) ∧ Below w.heap.size w w' := by
  obtain ⟨k1, k2, k3⟩ := kind_one hk
  refine (read_good w v bs (word bs) h rfl (by omega) (by omega) k3).mono ?_
  rintro e w' ⟨v', rfl, ho, hb⟩
  have hp : Byts (pay bs) := (h.1.drop 4).take (word bs)
  exact ⟨v', rfl, Rd.of_owns hp (by rw [pay_len hk]; exact ho), hb⟩
theorem results_cell_tmp2 {fn : Func} {p u x : Tmp} {ty : TypeId} (h : fn.results = #[.cell p ty, .tmp u, .tmp x]) (tmps : Array Value) (P : Program) (w : World) :
    (results fn tmps).run P w =
      ((asAddr (tmps.getD p undef)).run P w).andThen fun a w₁ => ((loadVar ty a).run P w₁).andThen fun v w₂ => .ok (.tuple #[v, tmps.getD u undef, tmps.getD x undef]) w₂ := by
  simp only [results, h]
  simp [Sem.run_bind, Result.andThen]
theorem stand_leaves {W : World} {R : Nat} {a b c d : Value} (hR : W.heap[R]? = some (.cells #[a, b, c, d] 92 (0, 0))) (tmps : Array Value) (h2 : tmps.getD 6 undef = .pointer (some ⟨R, 0, none⟩)) : (results Tryd.f68 tmps).run Tryd.prog W = .ok (.tuple #[.agg #[a, b, c, d], tmps.getD 7 undef, tmps.getD 8 undef]) W := by
  have hl := run_loadVar_row (P := Tryd.prog) W R 92 92 #[a, b, c, d] (0, 0) _ hR Tryd.underlying92 rfl sizeRec
  rw [results_cell_tmp2 (p := 6) (u := 7) (x := 8) (ty := 92) rfl, h2]
  simp [asAddr, Result.andThen, hl]
theorem zero_facts {W : World} {R : Nat} (h : W.heap[R]? = some (.cells #[.int .i64 0, .int .i64 0, .int .i64 0, .slice none 0 0] 92 (0, 0))) :
    W.cell? ⟨R, 0, none⟩ = some (.int .i64 0) ∧ W.cell? ⟨R, 1, none⟩ = some (.int .i64 0) ∧ W.cell? ⟨R, 2, none⟩ = some (.int .i64 0) ∧ W.cell? ⟨R, 3, none⟩ = some (.slice none 0 0) ∧ W.frozen? ⟨R, 0, none⟩ = false ∧ W.frozen? ⟨R, 1, none⟩ = false ∧ W.frozen? ⟨R, 2, none⟩ = false ∧ W.frozen? ⟨R, 3, none⟩ = false :=
  ⟨cell_of_block h rfl, cell_of_block h rfl, cell_of_block h rfl, cell_of_block h rfl, frozen_of_block h, frozen_of_block h, frozen_of_block h, frozen_of_block h⟩
/-- What standing answers. -/
def StandPost (w : World) (o : Option (Rc × Nat)) (e : Ending) (w' : World) : Prop :=
  Below w.heap.size w w' ∧ ((∃ r m a c, o = some (r, m) ∧ e = .returned (.tuple #[.agg #[.int .i64 (r.gen : Int), .int .i64 (r.epoch : Int), .int .i64 (r.index : Int), .slice a r.data.length c], .int .i64 (m : Int), .bool true]) ∧ Rd w' (.slice a r.data.length c) r.data ∧ (∀ k, (Value.slice a r.data.length c).ownBlock = some k → w.heap.size ≤ k ∧ k < w'.heap.size)) ∨
    (o = none ∧ e = .returned (.tuple #[.agg #[.int .i64 0, .int .i64 0, .int .i64 0, .slice none 0 0], .int .i64 0, .bool false])))
theorem zero_leaves {W : World} {R : Nat} (h : W.heap[R]? = some (.cells #[.int .i64 0, .int .i64 0, .int .i64 0, .slice none 0 0] 92 (0, 0))) : ((((W.setCell ⟨R, 0, none⟩ (.int .i64 0)).setCell ⟨R, 1, none⟩ (.int .i64 0)).setCell ⟨R, 2, none⟩ (.int .i64 0)).setCell ⟨R, 3, none⟩ (.slice none 0 0)).heap[R]? = some (.cells #[.int .i64 0, .int .i64 0, .int .i64 0, .slice none 0 0] 92 (0, 0)) := by
  rw [heap_set (heap_set (heap_set (heap_set h)))]
  rfl
theorem below_four {b : Nat} {w W : World} {R : Nat} (h : Below b w W) (hle : b ≤ R) (v0 v1 v2 v3 : Value) : Below b w ((((W.setCell ⟨R, 0, none⟩ v0).setCell ⟨R, 1, none⟩ v1).setCell ⟨R, 2, none⟩ v2).setCell ⟨R, 3, none⟩ v3) :=
  (((h.setCell (p := ⟨R, 0, none⟩) hle _).setCell (p := ⟨R, 1, none⟩) hle _).setCell (p := ⟨R, 2, none⟩) hle _).setCell (p := ⟨R, 3, none⟩) hle _
set_option maxHeartbeats 12800000 in
theorem standing_no (F : Nat → Prop) (w : World) (p n : Nat) (f : Int → List Int) (c : List (Int × List Int)) (nw : Int) (pl N : Nat) (t1 t2 : TypeId) (d1 d2 : Value) (h : Dk F w p n f c nw false) (hN : pl + N ≤ n) (hn2 : (n : Int) ≤ 1024) (hcl : c.length ≤ 1000000000000)
    (h1 : w.cell? ⟨5, 0, none⟩ = some (.iface t1 d1)) (h2 : w.cell? ⟨3, 0, none⟩ = some (.iface t2 d2)) (hk : ¬ kind (rests (seenOf f c) (pl : Int) N) = 1) :
    Calls Tryd.prog 68 #[.pointer (some ⟨p, 0, none⟩), .int .i64 (pl : Int), .int .i64 ((pl : Int) + (N : Int))] w (StandPost w (stand (seenOf f c) (pl : Int) N)) := by
  have HO : Hid (stand (seenOf f c) (pl : Int) N = none) := mkHid (by unfold stand; rw [if_neg hk])
  have HBy : Hid (Byts (rests (seenOf f c) (pl : Int) N)) := mkHid (rests_byts (seenOf f c) (fun i => (h.seen_sec i).byts) _ _)
  have HD := mkHid h
  have HE1 := mkHid h1
  have HE2 := mkHid h2
  have HK := mkHid hk
  clear h h1 h2 hk
  obtain ⟨W1, hW1⟩ : ∃ W1, W1 = w.alloc (.cells #[.int .i64 0, .int .i64 0, .int .i64 0, .slice none 0 0] 92) := ⟨_, rfl⟩
  have hb1 : Below w.heap.size w W1 := by rw [hW1]; exact (Below.refl _ w).alloc (Nat.le_refl _) _
  have hr1 : W1.heap[w.heap.size]? = some (.cells #[.int .i64 0, .int .i64 0, .int .i64 0, .slice none 0 0] 92 (0, 0)) := by rw [hW1]; exact heap_alloc_new w _
  have H1 := mkHid (And.intro hb1 hr1)
  clear hb1 hr1
  go_enter Tryd.func68, Tryd.ntmps68
  go_wp2_with (first
    | (go_at_call 85; rw [← hW1]; clear hW1; refine (rests_any F W1 p n f c nw pl N (HD.out.below H1.out.1) hN hn2 hcl).mono ?_; rintro e w2 ⟨z2, rfl, ho2, hb2⟩; have HO2 := mkHid (Rd.of_owns HBy.out ho2); have HB2 := mkHid hb2; clear ho2 hb2)
    | (go_at_call 71; have hbw := H1.out.1.trans (HB2.out.mono H1.out.1.size); refine (cread_no w2 z2 _ t1 t2 d1 d2 HO2.out HK.out ((hbw.cell (World.block_lt_of_cell? w _ HE1.out)).trans HE1.out) ((hbw.cell (World.block_lt_of_cell? w _ HE2.out)).trans HE2.out)).mono ?_; rintro e w3 ⟨rfl | ⟨t5, d5, rfl⟩, hb3⟩ <;> (have hr3 : w3.heap[w.heap.size]? = some (.cells #[.int .i64 0, .int .i64 0, .int .i64 0, .slice none 0 0] 92 (0, 0)) := (by have l1 := (Array.getElem?_eq_some_iff.1 H1.out.2).1; rw [hb3.block w.heap.size (Nat.lt_of_lt_of_le l1 HB2.out.size), HB2.out.block w.heap.size l1]; exact H1.out.2); obtain ⟨z0, z1, z2, z3, y0, y1, y2, y3⟩ := zero_facts hr3; have HR3 := mkHid hr3; have HB3 := mkHid (hbw.trans (hb3.mono hbw.size)); clear hr3 hb3 hbw)))
  all_goals exact bodyPost_ret (stand_leaves (zero_leaves HR3.out) _ rfl) rfl ⟨below_four HB3.out (Nat.le_refl _) _ _ _ _, .inr ⟨HO.out, rfl⟩⟩
theorem four_leaves {W : World} {R : Nat} (h : W.heap[R]? = some (.cells #[.int .i64 0, .int .i64 0, .int .i64 0, .slice none 0 0] 92 (0, 0))) (v0 v1 v2 v3 : Value) : ((((W.setCell ⟨R, 0, none⟩ v0).setCell ⟨R, 1, none⟩ v1).setCell ⟨R, 2, none⟩ v2).setCell ⟨R, 3, none⟩ v3).heap[R]? = some (.cells #[v0, v1, v2, v3] 92 (0, 0)) := by
  rw [heap_set (heap_set (heap_set (heap_set h)))]
  rfl
theorem kept_four {F : Nat → Prop} {w W : World} {R : Nat} (h : Kept F w W) (hF : F R) (v0 v1 v2 v3 : Value) : Kept F w ((((W.setCell ⟨R, 0, none⟩ v0).setCell ⟨R, 1, none⟩ v1).setCell ⟨R, 2, none⟩ v2).setCell ⟨R, 3, none⟩ v3) :=
  kept_setc (kept_setc (kept_setc (kept_setc h (p := ⟨R, 0, none⟩) hF _) (p := ⟨R, 1, none⟩) hF _) (p := ⟨R, 2, none⟩) hF _) (p := ⟨R, 3, none⟩) hF _
set_option maxHeartbeats 12800000 in
theorem standing_yes (F : Nat → Prop) (w : World) (p n : Nat) (f : Int → List Int) (c : List (Int × List Int)) (nw : Int) (pl N : Nat) (t3 : TypeId) (d3 : Value) (h : Dk F w p n f c nw false) (hN : pl + N ≤ n) (hn2 : (n : Int) ≤ 1024) (hcl : c.length ≤ 1000000000000)
    (h3 : w.cell? ⟨6, 0, none⟩ = some (.iface t3 d3)) (hk : kind (rests (seenOf f c) (pl : Int) N) = 1) :
    Calls Tryd.prog 68 #[.pointer (some ⟨p, 0, none⟩), .int .i64 (pl : Int), .int .i64 ((pl : Int) + (N : Int))] w (StandPost w (stand (seenOf f c) (pl : Int) N)) := by
  have HBy : Hid (Byts (rests (seenOf f c) (pl : Int) N)) := mkHid (rests_byts (seenOf f c) (fun i => (h.seen_sec i).byts) _ _)
  have HO : Hid (stand (seenOf f c) (pl : Int) N = (recOf (pay (rests (seenOf f c) (pl : Int) N))).map (fun r => (r, npc (word (rests (seenOf f c) (pl : Int) N) + 8)))) := mkHid (by unfold stand; rw [if_pos hk])
  have HD := mkHid h
  have HE3 := mkHid h3
  have HK := mkHid hk
  have hpl := pay_len hk
  obtain ⟨hwd, _, _⟩ := kind_one hk
  have HRA := mkHid (fun (W1 : World) (hb : Below w.heap.size w W1) => rests_any F W1 p n f c nw pl N (h.below hb) hN hn2 hcl)
  generalize stand (seenOf f c) (pl : Int) N = o at *
  generalize rests (seenOf f c) (pl : Int) N = bs at *
  obtain ⟨m, hm⟩ : ∃ m, m = word bs + 8 := ⟨_, rfl⟩
  have hm0 : ¬ (m : Int) = 0 := by omega
  have hm9 : (m : Int) ≤ 1000000000 := by omega
  have HM := mkHid hm
  have HL : Hid (((pay bs).length : Int) ≤ 140737488355328) := mkHid (by omega)
  clear h h3 hk hm hpl hwd
  obtain ⟨W1, hW1⟩ : ∃ W1, W1 = w.alloc (.cells #[.int .i64 0, .int .i64 0, .int .i64 0, .slice none 0 0] 92) := ⟨_, rfl⟩
  have hb1 : Below w.heap.size w W1 := by rw [hW1]; exact (Below.refl _ w).alloc (Nat.le_refl _) _
  have hr1 : W1.heap[w.heap.size]? = some (.cells #[.int .i64 0, .int .i64 0, .int .i64 0, .slice none 0 0] 92 (0, 0)) := by rw [hW1]; exact heap_alloc_new w _
  have H1 := mkHid (And.intro hb1 hr1)
  clear hb1 hr1
  go_enter Tryd.func68, Tryd.ntmps68
  go_wp2_with (first
    | (go_at_call 85; rw [← hW1]; clear hW1; refine (HRA.out W1 H1.out.1).mono ?_; rintro e w2 ⟨z2, rfl, ho2, hb2⟩; have HO2 := mkHid (Rd.of_owns HBy.out ho2); have HB2 := mkHid hb2; clear ho2 hb2)
    | (go_at_call 71; refine (cread_yes w2 z2 bs HO2.out HK.out).mono ?_; rintro e w3 ⟨v3, rfl, hr3, hb3⟩; rw [← HM.out]; have HR3 := mkHid hr3; have HB3 := mkHid (HB2.out.trans (hb3.mono HB2.out.size)); clear hr3 hb3 HB2 HO2)
    | (go_at_call 86; have hbw := H1.out.1.trans (HB3.out.mono H1.out.1.size); refine (recordOf_any w3 v3 (pay bs) _ t3 d3 rfl HR3.out HL.out ((hbw.cell (World.block_lt_of_cell? w _ HE3.out)).trans HE3.out)).mono ?_; rintro e w4 ⟨hb4, ⟨r, ra, rc, hrec, rfl, hrd, hown⟩ | ⟨hrec, rfl⟩⟩ <;> (have hr4 : w4.heap[w.heap.size]? = some (.cells #[.int .i64 0, .int .i64 0, .int .i64 0, .slice none 0 0] 92 (0, 0)) := (by have l1 := (Array.getElem?_eq_some_iff.1 H1.out.2).1; rw [hb4.block w.heap.size (Nat.lt_of_lt_of_le l1 HB3.out.size), HB3.out.block w.heap.size l1]; exact H1.out.2); have HA : Hid (∀ ob : Obj, (w4.alloc ob).heap[w.heap.size]? = some (.cells #[.int .i64 0, .int .i64 0, .int .i64 0, .slice none 0 0] 92 (0, 0))) := mkHid (fun ob => (by rw [heap_alloc_old _ _ (Array.getElem?_eq_some_iff.1 hr4).1]; exact hr4)); obtain ⟨z0, z1, z2, z3, y0, y1, y2, y3⟩ := zero_facts (HA.out (.cells #[.int .i64 0, .int .i64 0, .int .i64 0, .slice none 0 0] 92)); have HB4 := mkHid (hbw.trans (hb4.mono hbw.size)); have HREC := mkHid hrec; clear hr4 hb4 hrec) <;> (first | (have HRD := mkHid hrd; have HOWN := mkHid hown; have HBW := mkHid hbw; clear hrd hown hbw) | skip))
    | (go_at_call 67; refine (pieces_is _ m hm9).mono ?_; rintro e w6 ⟨rfl, hw6⟩; rw [hw6]; clear hw6))
  · clear z0 z1 z2 z3 y0 y1 y2 y3
    obtain ⟨w5, hw5⟩ : ∃ w5, w5 = w4.alloc (.cells #[.int .i64 (r.gen : Int), .int .i64 (r.epoch : Int), .int .i64 (r.index : Int), .slice ra r.data.length rc] 92) := ⟨_, rfl⟩
    have hb5 : Below w4.heap.size w4 w5 := by rw [hw5]; exact (Below.refl _ w4).alloc (Nat.le_refl _) _
    have hr5 : w5.heap[w.heap.size]? = some (.cells #[.int .i64 0, .int .i64 0, .int .i64 0, .slice none 0 0] 92 (0, 0)) := by rw [hw5]; exact HA.out _
    have hn5 : w5.heap[w4.heap.size]? = some (.cells #[.int .i64 (r.gen : Int), .int .i64 (r.epoch : Int), .int .i64 (r.index : Int), .slice ra r.data.length rc] 92 (0, 0)) := by rw [hw5]; exact heap_alloc_new w4 _
    obtain ⟨z0, z1, z2, z3, y0, y1, y2, y3⟩ := zero_facts hr5
    have q0 : w5.cell? ⟨w4.heap.size, 0, none⟩ = some (.int .i64 (r.gen : Int)) := cell_of_block hn5 rfl
    have q1 : w5.cell? ⟨w4.heap.size, 1, none⟩ = some (.int .i64 (r.epoch : Int)) := cell_of_block hn5 rfl
    have q2 : w5.cell? ⟨w4.heap.size, 2, none⟩ = some (.int .i64 (r.index : Int)) := cell_of_block hn5 rfl
    have q3 : w5.cell? ⟨w4.heap.size, 3, none⟩ = some (.slice ra r.data.length rc) := cell_of_block hn5 rfl
    have H5 := mkHid (And.intro hb5 hr5)
    rw [← hw5]
    clear hw5 hb5 hr5 hn5
    go_region_with (go_at_call 67; refine (pieces_is _ m hm9).mono ?_; rintro e w6 ⟨rfl, hw6⟩; rw [hw6]; clear hw6)
    all_goals go_wp2
    all_goals
      have hle := HB4.out.size
      have hb5 := H5.out.1
      have hs5 := hb5.size
      refine bodyPost_ret (stand_leaves (R := w.heap.size) (a := .int .i64 (r.gen : Int)) (b := .int .i64 (r.epoch : Int)) (c := .int .i64 (r.index : Int)) (d := .slice ra r.data.length rc) ?_ _ rfl) rfl ⟨?_, .inl ⟨r, npc m, ra, rc, ?_, rfl, ?_, fun k hk => ?_⟩⟩
      · exact four_leaves H5.out.2 _ _ _ _
      · exact (below_four (HB4.out.trans (hb5.mono hle)) (Nat.le_refl _) _ _ _ _).drew
      · rw [HO.out, HREC.out, HM.out]; rfl
      · refine ((HRD.out.later hb5).kept (kept_four (F := fun k => k = w.heap.size) (drewN_kept _ w5 0) rfl _ _ _ _) (fun k hk e => ?_)).dr
        have h1 := (HOWN.out k hk).1
        have h2 := (Array.getElem?_eq_some_iff.1 H1.out.2).1
        have h3 := HB3.out.size
        omega
      · have h1 := HOWN.out k hk
        have h2 := HBW.out.size
        have h3 := (kept_four (F := fun k => k = w.heap.size) (R := w.heap.size) (drewN_kept _ w5 0) rfl (.int .i64 (r.gen : Int)) (.int .i64 (r.epoch : Int)) (.int .i64 (r.index : Int)) (.slice ra r.data.length rc)).size
        exact ⟨by omega, Nat.lt_of_lt_of_le h1.2 (Nat.le_trans hs5 h3)⟩
  · exact bodyPost_ret (stand_leaves (zero_leaves (HA.out _)) _ rfl) rfl ⟨below_four (HB4.out.alloc HB4.out.size _) (Nat.le_refl _) _ _ _ _, .inr ⟨by rw [HO.out, HREC.out]; rfl, rfl⟩⟩
theorem standing_any (F : Nat → Prop) (w : World) (p n : Nat) (f : Int → List Int) (c : List (Int × List Int)) (nw : Int) (pl N : Nat) (t1 t2 t3 : TypeId) (d1 d2 d3 : Value) (h : Dk F w p n f c nw false) (hN : pl + N ≤ n) (hn2 : (n : Int) ≤ 1024) (hcl : c.length ≤ 1000000000000)
    (h1 : w.cell? ⟨5, 0, none⟩ = some (.iface t1 d1)) (h2 : w.cell? ⟨3, 0, none⟩ = some (.iface t2 d2)) (h3 : w.cell? ⟨6, 0, none⟩ = some (.iface t3 d3)) :
    Calls Tryd.prog 68 #[.pointer (some ⟨p, 0, none⟩), .int .i64 (pl : Int), .int .i64 ((pl : Int) + (N : Int))] w (StandPost w (stand (seenOf f c) (pl : Int) N)) := by
  by_cases hk : kind (rests (seenOf f c) (pl : Int) N) = 1
  · exact standing_yes F w p n f c nw pl N t3 d3 h hN hn2 hcl h3 hk
  · exact standing_no F w p n f c nw pl N t1 t2 d1 d2 h hN hn2 hcl h1 h2 hk
end Go.Proofs.YtcbimclgodkflaaDoor
