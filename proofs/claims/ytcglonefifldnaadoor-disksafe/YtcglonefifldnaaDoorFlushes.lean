/- DiskFlushes: behind a Flush a crash changes nothing. -/
import Derived.Test.YtcglonefifldnaaDoorDany
namespace Go.Proofs.YtcglonefifldnaaDoor
open Go.ChangeShapes Go.WideShapes Go.ChangeAt Go.RowKit

/-- A disk, its writes so far, all that is told of the world since w. -/
structure DS (w wr : World) (p : Nat) (n : Int) (f : Int → List Int) (c : List (Int × List Int)) (nw : Int) (F : Nat → Prop) : Prop where
  dk : Dk F wr p n f c nw false
  bel : Below w.heap.size w wr
  new : ∀ k, F k → w.heap.size ≤ k
theorem DS.late {w wr w' : World} {p : Nat} {n : Int} {f : Int → List Int} {c : List (Int × List Int)} {nw : Int} {F : Nat → Prop} (h : DS w wr p n f c nw F) (hb : Below wr.heap.size wr w') : DS w w' p n f c nw F :=
  ⟨h.dk.below hb, h.bel.trans (hb.mono h.bel.size), h.new⟩
theorem DS.next {w wr w' : World} {p : Nat} {n : Int} {f f' : Int → List Int} {c c' : List (Int × List Int)} {nw nw' : Int} {F F' : Nat → Prop} (h : DS w wr p n f c nw F) (hD : Dk F' w' p n f' c' nw' false) (hF : ∀ k, F' k → F k ∨ wr.heap.size ≤ k) (hk : Kept F wr w') : DS w w' p n f' c' nw' F' :=
  ⟨hD, h.bel.trans (hk.below h.new h.bel.size), fun k hf => (hF k hf).elim (h.new k) (fun g => Nat.le_trans h.bel.size g)⟩
theorem DS.drew {w wr : World} {p : Nat} {n : Int} {f : Int → List Int} {c : List (Int × List Int)} {nw : Int} {F : Nat → Prop} (h : DS w wr p n f c nw F) : DS w wr.drew p n f c nw F :=
  h.late ⟨rfl, rfl, rfl, Nat.le_refl _, fun _ _ => rfl⟩
/-- The list of what was read: the first j are there. -/
def wasL (g : Int → List Int) (j : Nat) : List Value := (List.range 5).map (fun k => .string (if k < j then strOfNums (g (k : Int)) else ⟨#[]⟩))
theorem wasL_at (g : Int → List Int) (j k : Nat) (hk : k < 5) : (wasL g j)[k]? = some (.string (if k < j then strOfNums (g (k : Int)) else ⟨#[]⟩)) := by simp [wasL, hk]
theorem was_put {W : World} {q j : Nat} {g : Int → List Int} {t : TypeId} (h : W.heap[q]? = some (.cells (wasL g j).toArray t (0, 0))) (_ : j < 5) : (W.setCell ⟨q, j, none⟩ (.string (strOfNums (g (j : Int))))).heap[q]? = some (.cells (wasL g (j + 1)).toArray t (0, 0)) := by
  rw [heap_set h]
  have : (wasL g j).set j (.string (strOfNums (g (j : Int)))) = wasL g (j + 1) := by
    apply List.ext_getElem
    · simp [wasL]
    · intro k h1 h2
      have hk : k < 5 := by simpa [wasL] using h2
      rw [List.getElem_set]
      by_cases e : j = k
      · subst e; simp [wasL]
      · have : (k < j + 1) = (k < j) := by simp; omega
        simp [wasL, e, this]
  simp [this]
/-- The disk, and what was read so far at block q. -/
structure DW (w wr : World) (p q : Nat) (g : Int → List Int) (nw : Int) (F : Nat → Prop) (j : Nat) : Prop where
  ds : DS w wr p 5 g [] nw F
  hq : wr.heap[q]? = some (.cells (wasL g j).toArray 53 (0, 0))
  nf : ¬ F q
  lo : w.heap.size ≤ q
theorem DW.late {w wr w' : World} {p q j : Nat} {g : Int → List Int} {nw : Int} {F : Nat → Prop} (h : DW w wr p q g nw F j) (hb : Below wr.heap.size wr w') : DW w w' p q g nw F j :=
  ⟨h.ds.late hb, by rw [hb.block q (Array.getElem?_eq_some_iff.1 h.hq).1]; exact h.hq, h.nf, h.lo⟩
theorem DW.put {w wr : World} {p q j : Nat} {g : Int → List Int} {nw : Int} {F : Nat → Prop} (h : DW w wr p q g nw F j) (hj : j < 5) :
    (wr.cell? ⟨q, j, none⟩ = some (.string ⟨#[]⟩) ∧ wr.frozen? ⟨q, j, none⟩ = false) ∧ DW w (wr.setCell ⟨q, j, none⟩ (.string (strOfNums (g (j : Int))))) p q g nw F (j + 1) := by
  have k2 : Kept (fun k => k = q) wr (wr.setCell ⟨q, j, none⟩ (.string (strOfNums (g (j : Int))))) := Kept.setCell (F := fun k => k = q) wr (p := ⟨q, j, none⟩) rfl _
  refine ⟨⟨cell_of_block h.hq (by have := wasL_at g j j hj; simpa using this), frozen_of_block h.hq⟩, ⟨h.ds.dk.kept k2 (fun k hf e => h.nf (e ▸ hf)), h.ds.bel.trans (k2.below (fun k e => by rw [e]; exact h.lo) h.ds.bel.size), h.ds.new⟩, was_put h.hq hj, h.nf, h.lo⟩
theorem DW.get {w wr : World} {p q : Nat} {g : Int → List Int} {nw : Int} {F : Nat → Prop} (h : DW w wr p q g nw F 5) (j : Nat) (hj : j < 5) : wr.cell? ⟨q, j, none⟩ = some (.string (strOfNums (g (j : Int)))) :=
  cell_of_block h.hq (by have := wasL_at g 5 j hj; simpa [hj] using this)
set_option maxHeartbeats 6400000 in
theorem flushes_walk (w : World) (v : Value) (xs : List OpD) (keep torn : Int) (a : Addr) (h' : Ops w v xs) (E : Err w 0 text0 a) :
    Calls Tryd.prog 6 #[v, .int .u64 keep, .int .i64 torn] w fun e w' => e = .returned (.bool true) ∧ Below w.heap.size w w' := by
  obtain ⟨av, cap, rfl⟩ : ∃ a c, v = .slice a xs.length c := h'.imp fun a h => h.imp fun c h => h.1
  have hxl : (xs.length : Int) ≤ 9223372036854775807 := by obtain ⟨_, _, e, h, _⟩ := h'; exact h
  have HE := mkHid E
  have HOps := mkHid h'
  clear E h'
  go_enter Tryd.func6, Tryd.ntmps6
  go_wp2_with (first
    | (go_at_call 7; refine (alive_d _).mono ?_; rintro e w1 ⟨rfl, hb1⟩)
    | (go_at_call 8; refine (dnew_ok _ 5 (by omega) (by omega)).mono ?_; rintro e w2 ⟨p, F, rfl, hD2, hF2, hb2⟩; have HS2 : Hid (DS w w2 p 5 (fun _ => zeros) [] 0 F) := mkHid ⟨hD2, hb1.trans (hb2.mono hb1.size), fun k hk => Nat.le_trans hb1.size (hF2 k hk)⟩; clear hD2 hF2 hb1 hb2))
  go_loopw [32] (fun iv wr => ∃ (j : Nat) (F : Nat → Prop) (c : List (Int × List Int)) (nw : Int), iv = .int .i64 (j : Int) ∧ j ≤ xs.length ∧ j ≤ 301 ∧ DS w wr p 5 (fun _ => zeros) c nw F ∧ c.length ≤ j ∧ 0 ≤ nw ∧ nw ≤ j) (fun iv _ => xs.length - (intOf iv).toNat)
  case atStart => exact ⟨0, F, [], 0, rfl, Nat.zero_le _, by omega, HS2.out, by simp, by omega, by simp⟩
  case round =>
    clear HS2
    obtain ⟨j, G, c, nw, rfl, hj, hj3, hS, hcl, hn0, hn1⟩ := hrel
    have HS := mkHid hS
    have HC := mkHid hcl
    clear hS hcl
    by_cases hlt : j < xs.length ∧ j ≤ 300
    · obtain ⟨b, off, rfl, hblt, hat⟩ := HOps.out.at hlt.1
      obtain ⟨c0, c1, c2, c3, c4, hrd, hbl, hba, hbt, hbk⟩ := hat.later HS.out.bel
      generalize xs[j] = x at *
      obtain ⟨xk, xa, xt, xkeep, xv, xbs⟩ := x
      simp only at c0 c1 c2 c3 c4 hrd hbl
      obtain ⟨xsa, xsc, rfl⟩ : ∃ a c, xv = .slice a xbs.length c := hrd.2.imp fun a h => h.imp fun c h => h.1
      have hji : (j : Int) < xs.length := by omega
      have hj0 : ¬ (300 : Int) < j := by omega
      have HR := mkHid hrd
      have HBL := mkHid hbl
      clear hrd hbl hba hbt hbk hat
      have q1 : (wr.alloc (.cells #[.int .i64 xk, .int .i64 xa, .int .i64 xt, .int .u64 xkeep, .slice xsa xbs.length xsc] 35)).cell? ⟨wr.heap.size, 1, none⟩ = some (.int .i64 xa) := by go_simp
      have q4 : (wr.alloc (.cells #[.int .i64 xk, .int .i64 xa, .int .i64 xt, .int .u64 xkeep, .slice xsa xbs.length xsc] 35)).cell? ⟨wr.heap.size, 4, none⟩ = some (.slice xsa xbs.length xsc) := by go_simp
      go_wp2
      obtain ⟨W1, hW1⟩ : ∃ W1, W1 = wr.alloc (.cells #[.int .i64 xk, .int .i64 xa, .int .i64 xt, .int .u64 xkeep, .slice xsa xbs.length xsc] 35) := ⟨_, rfl⟩
      have hb1 : Below wr.heap.size wr W1 := by rw [hW1]; exact (Below.refl _ wr).alloc (Nat.le_refl _) _
      have hz1 : W1.heap.size = wr.heap.size + 1 := by rw [hW1]; simp
      have HS1 := mkHid (HS.out.late hb1).drew
      have HR1 := mkHid ((HR.out.later hb1).later (show Below W1.heap.size W1 W1.drew from ⟨rfl, rfl, rfl, Nat.le_refl _, fun _ _ => rfl⟩))
      rw [← hW1] at q1 q4 ⊢
      have HG : Hid (¬ G wr.heap.size) := mkHid (fun hg => by have := HS.out.dk.1 _ hg; omega)
      clear hW1 hb1 c0 c1 c2 c3 c4
      go_region_held3 (fun w' => w'.cell? ⟨wr.heap.size, 1, none⟩ = some (.int .i64 xa) ∧ w'.cell? ⟨wr.heap.size, 4, none⟩ = some (.slice xsa xbs.length xsc)) (go_keep) (first
        | (go_at_call 16; refine (filled_any _ _ xbs HR1.out HBL.out).mono ?_; rintro e w2 ⟨g2, rfl, ho2, hb2⟩; have HR2 := mkHid (filled_rd HR1.out.1 ho2); have HB2 := mkHid hb2; have r1 : w2.cell? ⟨wr.heap.size, 1, none⟩ = some (.int .i64 xa) := (hb2.cell (p := ⟨wr.heap.size, 1, none⟩) (by show wr.heap.size < W1.heap.size; omega)).trans q1; have r4 : w2.cell? ⟨wr.heap.size, 4, none⟩ = some (.slice xsa xbs.length xsc) := (hb2.cell (p := ⟨wr.heap.size, 4, none⟩) (by show wr.heap.size < W1.heap.size; omega)).trans q4; clear ho2 hb2)
        | (go_at_call 17; refine (write_some G w2 p 5 _ c nw xa _ (filledB xbs) a (HE.out.late (HS1.out.late HB2.out).bel) (HS1.out.late HB2.out).dk HR2.out (filledB_sec HR1.out.1).len (by have := HC.out; omega) (by omega)).mono ?_; rintro e w3 ⟨ev3, rfl, F3, c3, nw3, hD3, _, hc3, hn3, hF3, hk3⟩; have s1 := hk3.cell r1 HG.out; have s4 := hk3.cell r4 HG.out; have HS3 := mkHid ((HS1.out.late HB2.out).next hD3 hF3 hk3); have HN3 := mkHid hn3; have HC3 := mkHid hc3; clear hD3 hF3 hk3 hn3 hc3))
      go_wp2
      go_roundw
      case rel => exact ⟨j + 1, F3, c3, nw3, by go_num, by omega, by omega, HS3.out, by have := HC.out; have := HC3.out; omega, HN3.out.1, by have := HN3.out.2; omega⟩
      case measure => simp [intOf]; omega
    · have hcase : ¬ (j : Int) < xs.length ∨ ((j : Int) < xs.length ∧ (300 : Int) < j) := by omega
      rcases hcase with hji | ⟨hji, hj0⟩
      rotate_left
      obtain ⟨b, off, rfl, hblt, hat⟩ := HOps.out.at (by omega : j < xs.length)
      obtain ⟨c0, c1, c2, c3, c4, hrd, hbl, hba, hbt, hbk⟩ := hat.later HS.out.bel
      generalize xs[j] = x at *
      obtain ⟨xk, xa, xt, xkeep, xv, xbs⟩ := x
      simp only at c0 c1 c2 c3 c4 hrd hbl
      obtain ⟨xsa, xsc, rfl⟩ : ∃ a c, xv = .slice a xbs.length c := hrd.2.imp fun a h => h.imp fun c h => h.1
      clear hrd hbl hba hbt hbk hat
      all_goals
        go_wp2_with (first
          | (go_at_call 18; refine (flush_ok G _ p 5 (fun _ => zeros) c nw (by first | exact HS.out.dk | exact (HS.out.late ((Below.refl _ wr).alloc (Nat.le_refl _) _)).dk) (by have := HC.out; omega)).mono ?_; rintro e w4 ⟨rfl, hD4, hk4⟩; have HS4 : Hid (DS w w4 p 5 (flushed (fun _ => zeros) c) [] nw G) := (by first | exact mkHid (HS.out.next hD4 (fun k h => .inl h) hk4) | exact mkHid ((HS.out.late ((Below.refl _ wr).alloc (Nat.le_refl _) _)).next hD4 (fun k h => .inl h) hk4)); clear hD4 hk4)
          | (go_at_call 12; refine (waiting_any G w4 p 5 _ [] nw false HS4.out.dk).mono ?_; rintro e w5 ⟨rfl, rfl⟩))
        have HW : Hid (DW w (w5.alloc (.cells #[.string ⟨#[]⟩, .string ⟨#[]⟩, .string ⟨#[]⟩, .string ⟨#[]⟩, .string ⟨#[]⟩] 53)) p w5.heap.size (flushed (fun _ => zeros) c) nw G 0) := mkHid ⟨HS4.out.late ((Below.refl _ w5).alloc (Nat.le_refl _) _), heap_alloc_new w5 _, fun hg => by have := HS4.out.dk.1 _ hg; omega, HS4.out.bel.size⟩
        generalize flushed (fun _ => zeros) c = g at *
        generalize w5.heap.size = q at *
        clear HS4
        go_loopw [56] (fun iv wr => ∃ j : Nat, iv = .int .i64 (j : Int) ∧ j ≤ 5 ∧ DW w wr p q g nw G j) (fun iv _ => 5 - (intOf iv).toNat)
        case atStart => exact ⟨0, rfl, by omega, HW.out⟩
        case round =>
          clear HW
          obtain ⟨k, rfl, hk, hW⟩ := hrel
          have HW := mkHid hW
          clear hW
          by_cases hk5 : k < 5
          · have hki : (k : Int) < 5 := by omega
            go_wp2_with (go_at_call 20; refine (read_ok G wr p 5 g [] nw k HW.out.ds.dk (by simp) (by omega) (by omega)).mono ?_; rintro e w8 ⟨z8, rfl, ho8, hb8⟩; have hsec := HW.out.ds.dk.seen_sec (k : Int); rw [seenOf_nil] at ho8 hsec; have hcv := (Rd.of_owns hsec.byts ho8).conv; have hput := (HW.out.late hb8).put hk5; have p1 := hput.1.1; have p2 := hput.1.2; have HP := mkHid hput.2; clear ho8 hb8 hsec hput)
            go_roundw
            case rel => exact ⟨k + 1, by go_num, by omega, HP.out⟩
            case measure => simp [intOf]; omega
          · obtain rfl : k = 5 := by omega
            go_wp2_with (go_at_call 19; refine (crash_any G wr p 5 g [] nw false keep torn HW.out.ds.dk (by simp)).mono ?_; rintro e w9 ⟨rfl, hD9, hk9⟩; rw [crashedTo_nil] at hD9; have HW9 : Hid (DW w w9 p q g nw G 5) := mkHid ⟨HW.out.ds.next hD9 (fun k h => .inl h) hk9, by rw [hk9.block q (Array.getElem?_eq_some_iff.1 HW.out.hq).1 HW.out.nf]; exact HW.out.hq, HW.out.nf, HW.out.lo⟩; clear hD9 hk9)
            go_loopw [76] (fun iv wr => ∃ j : Nat, iv = .int .i64 (j : Int) ∧ j ≤ 5 ∧ DW w wr p q g nw G 5) (fun iv _ => 5 - (intOf iv).toNat)
            case atStart => exact ⟨0, rfl, by omega, HW9.out⟩
            case round =>
              clear HW HW9
              obtain ⟨k, rfl, hk, hW⟩ := hrel
              have HW := mkHid hW
              clear hW
              by_cases hk5 : k < 5
              · have hki : (k : Int) < 5 := by omega
                go_wp2_with (go_at_call 20; refine (read_ok G wr p 5 g [] nw k HW.out.ds.dk (by simp) (by omega) (by omega)).mono ?_; rintro e w8 ⟨z8, rfl, ho8, hb8⟩; have hsec := HW.out.ds.dk.seen_sec (k : Int); rw [seenOf_nil] at ho8 hsec; have hcv := (Rd.of_owns hsec.byts ho8).conv; have hcd0 := ((Rd.of_owns hsec.byts ho8).later (show Below w8.heap.size w8 w8.drew from ⟨rfl, rfl, rfl, Nat.le_refl _, fun _ _ => rfl⟩)).conv; have hget := (HW.out.late hb8).get k hk5; have HP := mkHid (HW.out.late hb8); clear ho8 hb8 hsec)
                have hcd : (convert 33 9 z8).run Tryd.prog w8.drew = .ok (.string (strOfNums (g (k : Int)))) w8.drew := hcd0
                have hgd : w8.drew.cell? ⟨q, k, none⟩ = some (.string (strOfNums (g (k : Int)))) := hget
                clear hcv
                go_region_held3 (fun w' => (convert 33 9 z8).run Tryd.prog w' = .ok (.string (strOfNums (g (k : Int)))) w' ∧ w'.cell? ⟨q, k, none⟩ = some (.string (strOfNums (g (k : Int))))) (go_keep) (fail)
                go_wp2
                go_roundw
                case rel => exact ⟨k + 1, by go_num, by omega, HP.out.late ⟨rfl, rfl, rfl, Nat.le_refl _, fun _ _ => rfl⟩⟩
                case measure => simp [intOf]; omega
              · obtain rfl : k = 5 := by omega
                go_wp2
                go_ret
                exact ⟨rfl, HW.out.ds.bel⟩
end Go.Proofs.YtcglonefifldnaaDoor
