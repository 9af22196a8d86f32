/- DiskApart: a sector that isn't written again stays. -/
import Derived.Test.YtcglonefifldnaaDoorFlushes
namespace Go.Proofs.YtcglonefifldnaaDoor
open Go.ChangeShapes Go.WideShapes Go.ChangeAt Go.RowKit

theorem rd_two (w : World) (a b : Int) (ha : 0 ≤ a ∧ a ≤ 255) (hb : 0 ≤ b ∧ b ≤ 255) : Rd (w.alloc (.cells #[.int .u8 a, .int .u8 b] 5)) (.slice (some ⟨w.heap.size, 0, none⟩) 2 2) [a, b] := by
  refine ⟨by intro x hx; simp at hx; rcases hx with rfl | rfl <;> assumption, some ⟨w.heap.size, 0, none⟩, 2, rfl, by simp, fun e => by simp at e, fun _ => ⟨w.heap.size, 0, rfl, by simp, fun k hk => ?_⟩⟩
  have : k = 0 ∨ k = 1 := by simp at hk; omega
  rcases this with rfl | rfl
  · rw [Nat.zero_add, cell_of_row _ w.heap.size 0 _ _ _ (heap_alloc_new w _)]; rfl
  · rw [Nat.zero_add, cell_of_row _ w.heap.size 1 _ _ _ (heap_alloc_new w _)]; rfl
theorem byts12 : Byts [1, 2] := by intro b hb; simp at hb; omega
/-- The disk of six sectors; sector 5 is as it was, and nothing that waits touches it. -/
structure AP (w wr : World) (p : Nat) (F : Nat → Prop) (f : Int → List Int) (c : List (Int × List Int)) (nw : Int) (s : List Int) (j : Nat) : Prop where
  ds : DS w wr p 6 f c nw F
  at5 : f 5 = s
  cn : ∀ x ∈ c, x.1 ≠ 5
  cl : c.length ≤ j
  nn : 0 ≤ nw ∧ nw ≤ j + 1
theorem AP.late {w wr w' : World} {p : Nat} {F : Nat → Prop} {f : Int → List Int} {c : List (Int × List Int)} {nw : Int} {s : List Int} {j : Nat} (h : AP w wr p F f c nw s j) (hb : Below wr.heap.size wr w') : AP w w' p F f c nw s j := ⟨h.ds.late hb, h.at5, h.cn, h.cl, h.nn⟩
theorem AP.up {w wr : World} {p : Nat} {F : Nat → Prop} {f : Int → List Int} {c : List (Int × List Int)} {nw : Int} {s : List Int} {j : Nat} (h : AP w wr p F f c nw s j) : AP w wr p F f c nw s (j + 1) := ⟨h.ds, h.at5, h.cn, by have := h.cl; omega, by have := h.nn; omega⟩
theorem AP.seen {w wr : World} {p : Nat} {F : Nat → Prop} {f : Int → List Int} {c : List (Int × List Int)} {nw : Int} {s : List Int} {j : Nat} (h : AP w wr p F f c nw s j) : seenOf f c 5 = s := by rw [seenOf_other f c 5 h.cn]; exact h.at5
theorem AP.flush {w wr w' : World} {p : Nat} {F : Nat → Prop} {f : Int → List Int} {c : List (Int × List Int)} {nw : Int} {s : List Int} {j : Nat} (h : AP w wr p F f c nw s j) (hD : Dk F w' p 6 (flushed f c) [] nw false) (hk : Kept F wr w') : AP w w' p F (flushed f c) [] nw s j :=
  ⟨h.ds.next hD (fun _ h => .inl h) hk, by rw [flushed_other f c 5 h.cn]; exact h.at5, by simp, by simp, h.nn⟩
theorem AP.crash {w wr w' : World} {p : Nat} {F : Nat → Prop} {f : Int → List Int} {c : List (Int × List Int)} {nw : Int} {s : List Int} {j n : Nat} {kb : Nat → Bool} {t : Int} (h : AP w wr p F f c nw s j) (hD : Dk F w' p 6 (crashedTo kb t f c n) [] nw false) (hk : Kept F wr w') : AP w w' p F (crashedTo kb t f c n) [] nw s j :=
  ⟨h.ds.next hD (fun _ h => .inl h) hk, by rw [crashedTo_other kb t f c 5 h.cn]; exact h.at5, by simp, by simp, h.nn⟩
theorem AP.write {w wr w' : World} {p : Nat} {F F' : Nat → Prop} {f : Int → List Int} {c c' : List (Int × List Int)} {nw nw' i : Int} {s bs : List Int} {j : Nat} (h : AP w wr p F f c nw s j) (hi : i ≠ 5) (hD : Dk F' w' p 6 f c' nw' false) (hc : c' = c ∨ (0 ≤ i ∧ i < 6 ∧ c' = c ++ [(i, bs)])) (hl : c'.length ≤ c.length + 1) (hn : 0 ≤ nw' ∧ nw' ≤ nw + 1) (hF : ∀ k, F' k → F k ∨ wr.heap.size ≤ k) (hk : Kept F wr w') : AP w w' p F' f c' nw' s (j + 1) := by
  refine ⟨h.ds.next hD hF hk, h.at5, ?_, by have := h.cl; omega, by have := h.nn; omega⟩
  rcases hc with rfl | ⟨_, _, rfl⟩
  · exact h.cn
  · intro x hx
    rcases List.mem_append.mp hx with hx | hx
    · exact h.cn x hx
    · simp at hx
      subst hx
      exact hi
set_option maxHeartbeats 6400000 in
theorem apart_walk (w : World) (v : Value) (xs : List OpD) (a : Addr) (h' : Ops w v xs) (E : Err w 0 text0 a) :
    Calls Tryd.prog 5 #[v] w fun e w' => e = .returned (.bool true) ∧ Below w.heap.size w w' := by
  obtain ⟨av, cap, rfl⟩ : ∃ a c, v = .slice a xs.length c := h'.imp fun a h => h.imp fun c h => h.1
  have hxl : (xs.length : Int) ≤ 9223372036854775807 := by obtain ⟨_, _, e, h, _⟩ := h'; exact h
  have HE := mkHid E
  have HOps := mkHid h'
  clear E h'
  go_enter Tryd.func5, Tryd.ntmps5
  go_wp2_with (first
    | (go_at_call 7; refine (alive_d _).mono ?_; rintro e w1 ⟨rfl, hb1⟩)
    | (go_at_call 8; refine (dnew_ok _ 6 (by omega) (by omega)).mono ?_; rintro e w2 ⟨p, F, rfl, hD2, hF2, hb2⟩; have HS2 : Hid (DS w w2 p 6 (fun _ => zeros) [] 0 F) := mkHid ⟨hD2, hb1.trans (hb2.mono hb1.size), fun k hk => Nat.le_trans hb1.size (hF2 k hk)⟩; clear hD2 hF2 hb1 hb2)
    | (go_at_call 16; refine (filled_any _ _ [1, 2] (rd_two w2 1 2 (by omega) (by omega)) (by simp)).mono ?_; rintro e w3 ⟨g3, rfl, ho3, hb3⟩; have HR3 := mkHid (filled_rd byts12 ho3); have HS3 := mkHid (HS2.out.late (((Below.refl _ w2).alloc (Nat.le_refl _) _).trans (hb3.mono (by simp)))); clear ho3 hb3)
    | (go_at_call 17; refine (write_ok F w3 p 6 _ [] 0 5 _ (filledB [1, 2]) HS3.out.dk (by omega) (by omega) HR3.out (filledB_sec byts12).len (by simp) (by omega)).mono ?_; rintro e w4 ⟨rfl, F4, hD4, hF4, hk4⟩; have HS4 := mkHid (HS3.out.next hD4 hF4 hk4); clear hD4 hF4 hk4 HR3)
    | (go_at_call 18; refine (flush_ok F4 w4 p 6 _ _ _ HS4.out.dk (by simp)).mono ?_; rintro e w5 ⟨rfl, hD5, hk5⟩; have HS5 := mkHid (HS4.out.next hD5 (fun _ h => .inl h) hk5); clear hD5 hk5))
  have HA : Hid (AP w w5 p F4 (flushed (fun _ => zeros) ([] ++ [(5, filledB [1, 2])])) [] 1 (filledB [1, 2]) 0) := mkHid ⟨HS5.out, by have := laid_full zeros_sec (filledB_sec byts12); simp [flushed, lay1, updI, this], by simp, by simp, by omega⟩
  have HSB : Hid (Sec (filledB [1, 2])) := mkHid (filledB_sec byts12)
  generalize flushed (fun _ => zeros) ([] ++ [(5, filledB [1, 2])]) = f0 at *
  generalize hs5 : filledB [1, 2] = s5 at *
  clear HS5 HS4 HS3 HS2
  go_loopw [35] (fun iv wr => ∃ (j : Nat) (F : Nat → Prop) (f : Int → List Int) (c : List (Int × List Int)) (nw : Int), iv = .int .i64 (j : Int) ∧ j ≤ xs.length ∧ j ≤ 301 ∧ AP w wr p F f c nw s5 j) (fun iv _ => xs.length - (intOf iv).toNat)
  case atStart => exact ⟨0, F4, f0, [], 1, rfl, Nat.zero_le _, by omega, HA.out⟩
  case round =>
    clear HA
    obtain ⟨j, G, f, c, nw, rfl, hj, hj3, hA⟩ := hrel
    have HA := mkHid hA
    clear hA
    have hcase : ¬ (j : Int) < xs.length ∨ (j : Int) < xs.length := by omega
    rcases hcase with hji | hji
    · go_wp2
      go_ret
      exact ⟨rfl, HA.out.ds.bel⟩
    · obtain ⟨b, off, rfl, hblt, hat⟩ := HOps.out.at (by omega : j < xs.length)
      obtain ⟨c0, c1, c2, c3, c4, hrd, hbl, hba, hbt, hbk⟩ := hat.later HA.out.ds.bel
      generalize xs[j] = x at *
      obtain ⟨xk, xa, xt, xkeep, xv, xbs⟩ := x
      simp only at c0 c1 c2 c3 c4 hrd hbl
      obtain ⟨xsa, xsc, rfl⟩ : ∃ a c, xv = .slice a xbs.length c := hrd.2.imp fun a h => h.imp fun c h => h.1
      have HR := mkHid hrd
      have HBL := mkHid hbl
      clear hrd hbl hba hbt hbk hat
      by_cases hj0 : (300 : Int) < j
      · go_wp2
        go_ret
        exact ⟨rfl, HA.out.ds.bel.alloc HA.out.ds.bel.size _⟩
      · have q1 : (wr.alloc (.cells #[.int .i64 xk, .int .i64 xa, .int .i64 xt, .int .u64 xkeep, .slice xsa xbs.length xsc] 35)).cell? ⟨wr.heap.size, 1, none⟩ = some (.int .i64 xa) := by go_simp
        have q4 : (wr.alloc (.cells #[.int .i64 xk, .int .i64 xa, .int .i64 xt, .int .u64 xkeep, .slice xsa xbs.length xsc] 35)).cell? ⟨wr.heap.size, 4, none⟩ = some (.slice xsa xbs.length xsc) := by go_simp
        have HA1 := mkHid (HA.out.late ((Below.refl _ wr).alloc (Nat.le_refl _) (.cells #[.int .i64 xk, .int .i64 xa, .int .i64 xt, .int .u64 xkeep, .slice xsa xbs.length xsc] 35)))
        have HR1 := mkHid (HR.out.later ((Below.refl _ wr).alloc (Nat.le_refl _) (.cells #[.int .i64 xk, .int .i64 xa, .int .i64 xt, .int .u64 xkeep, .slice xsa xbs.length xsc] 35)))
        have HG : Hid (¬ G wr.heap.size) := mkHid (fun hg => by have := HA.out.ds.dk.1 _ hg; omega)
        have hz1 : (wr.alloc (.cells #[.int .i64 xk, .int .i64 xa, .int .i64 xt, .int .u64 xkeep, .slice xsa xbs.length xsc] 35)).heap.size = wr.heap.size + 1 := by simp
        clear HA HR
        have hk : (xk = 1 ∧ xa ≠ 5) ∨ (xk = 2 ∧ xa ≠ 5) ∨ (xk = 1 ∧ xa = 5) ∨ (xk = 2 ∧ xa = 5) ∨ xk = 4 ∨ xk = 5 ∨ (xk ≠ 1 ∧ xk ≠ 2 ∧ xk ≠ 4 ∧ xk ≠ 5) := by omega
        rcases hk with ⟨rfl, hx5⟩ | ⟨rfl, hx5⟩ | ⟨rfl, rfl⟩ | ⟨rfl, rfl⟩ | rfl | rfl | ⟨hn1, hn2, hn4, hn5⟩
        all_goals
          first | (have hx5' := hx5; clear hx5') | (have HA9 := mkHid HA1.out.up)
          go_wp2_with (first
            | (go_at_call 18; clear HA9; refine (flush_ok _ _ p 6 _ _ _ HA1.out.ds.dk (by have := HA1.out.cl; omega)).mono ?_; rintro e w6 ⟨rfl, hD6, hk6⟩; have HA9 := mkHid (HA1.out.flush hD6 hk6).up; clear hD6 hk6)
            | (go_at_call 19; clear HA9; refine (crash_any _ _ p 6 _ _ _ false _ _ HA1.out.ds.dk (by have := HA1.out.cl; omega)).mono ?_; rintro e w6 ⟨rfl, hD6, hk6⟩; have HA9 := mkHid (HA1.out.crash hD6 hk6).up; clear hD6 hk6)
            | (go_at_call 20; refine (read_ok _ _ p 6 _ _ _ 5 HA9.out.ds.dk (by have := HA9.out.cl; omega) (by omega) (by omega)).mono ?_; rintro e w10 ⟨z10, rfl, ho10, hb10⟩; rw [HA9.out.seen] at ho10; have HO10 := mkHid ho10; have HA10 := mkHid (HA9.out.late hb10); clear ho10 hb10))
          first
            | (have hx5' := hx5
               clear hx5'
               generalize wr.alloc (.cells #[.int .i64 _, .int .i64 xa, .int .i64 xt, .int .u64 xkeep, .slice xsa xbs.length xsc] 35) = W1 at *
               have HAd := mkHid (HA1.out.late (show Below W1.heap.size W1 W1.drew from ⟨rfl, rfl, rfl, Nat.le_refl _, fun _ _ => rfl⟩))
               have HRd := mkHid (HR1.out.later (show Below W1.heap.size W1 W1.drew from ⟨rfl, rfl, rfl, Nat.le_refl _, fun _ _ => rfl⟩))
               clear c0 c1 c2 c3 c4
               go_region_held3 (fun w' => w'.cell? ⟨wr.heap.size, 1, none⟩ = some (.int .i64 xa) ∧ w'.cell? ⟨wr.heap.size, 4, none⟩ = some (.slice xsa xbs.length xsc)) (go_keep) (first
                 | (go_at_call 16; refine (filled_any _ _ xbs HRd.out HBL.out).mono ?_; rintro e w2 ⟨g2, rfl, ho2, hb2⟩; have HR2 := mkHid (filled_rd HR1.out.1 ho2); have HB2 := mkHid hb2; have r1 : w2.cell? ⟨wr.heap.size, 1, none⟩ = some (.int .i64 xa) := (hb2.cell (p := ⟨wr.heap.size, 1, none⟩) (by show wr.heap.size < W1.heap.size; omega)).trans q1; have r4 : w2.cell? ⟨wr.heap.size, 4, none⟩ = some (.slice xsa xbs.length xsc) := (hb2.cell (p := ⟨wr.heap.size, 4, none⟩) (by show wr.heap.size < W1.heap.size; omega)).trans q4; clear ho2 hb2)
                 | (go_at_call 17; refine (write_some G w2 p 6 _ c nw xa _ (filledB xbs) a (HE.out.late (HAd.out.late HB2.out).ds.bel) (HAd.out.late HB2.out).ds.dk HR2.out (filledB_sec HR1.out.1).len (by have := HAd.out.cl; omega) (by have := HAd.out.nn; omega)).mono ?_; rintro e w6 ⟨ev6, rfl, F6, c6, nw6, hD6, hc6, hl6, hn6, hF6, hk6⟩; have s1 := hk6.cell r1 HG.out; have s4 := hk6.cell r4 HG.out; have HA9 := mkHid ((HAd.out.late HB2.out).write hx5 hD6 hc6 hl6 hn6 hF6 hk6); clear hD6 hF6 hk6 hn6 hc6 hl6))
               clear q1 q4 r1 r4 s1 s4
               go_wp2_with (go_at_call 20; refine (read_ok _ _ p 6 _ _ _ 5 HA9.out.ds.dk (by have := HA9.out.cl; omega) (by omega) (by omega)).mono ?_; rintro e w10 ⟨z10, rfl, ho10, hb10⟩; rw [HA9.out.seen] at ho10; have HO10 := mkHid ho10; have HA10 := mkHid (HA9.out.late hb10); clear ho10 hb10))
            | (clear q1 q4 c0 c1 c2 c3 c4)
          have hR10 : Rd w10 z10 s5 := Rd.of_owns HSB.out.byts HO10.out
          have hcv := (hR10.later (show Below w10.heap.size w10 w10.drew from ⟨rfl, rfl, rfl, Nat.le_refl _, fun _ _ => rfl⟩)).conv
          have HRD := mkHid hR10
          have hcvd : ∀ W : World, Below w10.heap.size w10 W → (convert 33 9 z10).run Tryd.prog W = .ok (.string (strOfNums s5)) W := fun W hW => (HRD.out.later hW).conv
          have HCVD := mkHid hcvd
          have hcva : (convert 33 9 z10).run Tryd.prog (w10.drew.alloc (.cells #[.int .u8 1, .int .u8 2] 5)) = .ok (.string (strOfNums s5)) (w10.drew.alloc (.cells #[.int .u8 1, .int .u8 2] 5)) := hcvd _ (((Below.refl _ w10).drew).alloc (Nat.le_refl _) _)
          have HS5 := mkHid hs5
          clear hR10 hcvd HO10 HA1 HR1 HG hz1
          go_region_held (fun w' => (convert 33 9 z10).run Tryd.prog w' = .ok (.string (strOfNums s5)) w') (first | assumption) (first | (go_at_call 16; refine (filled_any _ _ [1, 2] (rd_two w10.drew 1 2 (by omega) (by omega)) (by simp)).mono ?_; rintro e w11 ⟨g11, rfl, ho11, hb11⟩; have cv11 := (filled_rd byts12 ho11).conv; rw [HS5.out] at cv11; have hb11' : Below w10.heap.size w10 w11 := (((Below.refl _ w10).drew).alloc (Nat.le_refl _) _).trans (hb11.mono (by simp)); have cvz := HCVD.out w11 hb11'; have HB11 := mkHid hb11'; clear ho11 hb11 hb11'))
          go_wp2
          go_roundw
          case rel => exact ⟨j + 1, _, _, _, _, by go_num, by omega, by omega, HA10.out.late HB11.out⟩
          case measure => simp [intOf]; omega
end Go.Proofs.YtcglonefifldnaaDoor
