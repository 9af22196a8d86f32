import Derived.Test.YtaiklaipdocdmaaDoorNpA
import Derived.Test.YtaiklaipdocdmaaDoorOsamel
/- The document's SameLedger, SameMessage, Legal. -/
namespace Go.Proofs.YtaiklaipdocdmaaDoor
open Go.ChangeShapes Go.WideShapes Go.ChangeAt Go.RowKit
set_option maxRecDepth 100000
attribute [local go_sem] World.cell?_alloc_some frozen_alloc_some

theorem fs_ext {ps qs : List Ep} (hl : ps.length = qs.length) (h : ∀ (i : Nat) (t s : Ep), i < ps.length → ps[i]? = some t → qs[i]? = some s → t.1 = s.1) : fs1 ps = fs1 qs := by
  apply List.ext_getElem?
  intro i
  by_cases hi : i < ps.length
  · have h1 : ps[i]? = some ps[i] := List.getElem?_eq_getElem hi
    have h2 : qs[i]? = some (qs[i]'(by omega)) := List.getElem?_eq_getElem (by omega)
    simp only [fs1, List.getElem?_map, h1, h2, Option.map_some]
    rw [h i _ _ hi h1 h2]
  · rw [List.getElem?_eq_none (by simp; omega), List.getElem?_eq_none (by simp; omega)]
theorem fs_step {ps qs : List Ep} {j : Nat} {t s : Ep} (h : ∀ (i : Nat) (t s : Ep), i < j → ps[i]? = some t → qs[i]? = some s → t.1 = s.1) (hx : ps[j]? = some t) (hy : qs[j]? = some s) (he : t.1 = s.1) : ∀ (i : Nat) (t s : Ep), i < j + 1 → ps[i]? = some t → qs[i]? = some s → t.1 = s.1 := by
  intro i t' s' hi h1 h2
  by_cases e : i = j
  · subst e
    rw [hx] at h1; rw [hy] at h2
    simp at h1 h2
    rw [← h1, ← h2]
    exact he
  · exact h i t' s' (by omega) h1 h2
theorem fs_at_ne {ps qs : List Ep} {j : Nat} {t s : Ep} (hx : ps[j]? = some t) (hy : qs[j]? = some s) (he : ¬ t.1 = s.1) : ¬ fs1 ps = fs1 qs := fun h => he (by
  have h1 := congrArg (fun l => l[j]?) h
  simp only [fs1, List.getElem?_map, hx, hy] at h1
  simpa using h1)
set_option maxHeartbeats 12800000 in
theorem sameL_no (w : World) (v u : Value) (ps qs : List Ep) (hv : Ens w v ps) (hu : Ens w u qs) (hlen : ps.length = qs.length) (h : ¬ fs1 ps = fs1 qs) : Calls Tryd.prog 50 #[v, u] w fun r w' => r = .returned (.bool false) ∧ Below w.heap.size w w' := by
  have hv' := hv
  have hu' := hu
  obtain ⟨a0, cap0, rfl, hl0, _⟩ := hv'
  obtain ⟨a1, cap1, rfl, hl1, _⟩ := hu'
  have hleni : (ps.length : Int) = (qs.length : Int) := by omega
  have HV := mkHid hv
  have HU := mkHid hu
  have HQ := mkHid h
  have HLN := mkHid hlen
  clear hv hu h hlen
  go_enter Tryd.func50, Tryd.ntmps50
  go_wp2
  go_loopw [5, 13] (fun _ iv wr => ∃ j : Nat, iv = .int .i64 (j : Int) ∧ j ≤ ps.length ∧ Hid (Below w.heap.size w wr) ∧ Hid (∀ (i : Nat) (t s : Ep), i < j → ps[i]? = some t → qs[i]? = some s → t.1 = s.1)) (fun _ iv _ => ps.length - (intOf iv).toNat)
  case atStart => exact ⟨0, rfl, Nat.zero_le _, mkHid (Below.refl _ _), mkHid (fun i t s hi => by omega)⟩
  case round =>
    obtain ⟨j, rfl, hj, HB, HO⟩ := hrel
    by_cases hlt : j < ps.length
    · obtain ⟨b0, o0, t, rfl, hx, hat, hew⟩ := HV.out.at HB.out j hlt
      obtain ⟨b1, o1, s, rfl, hy, hbt, hfw⟩ := HU.out.at HB.out j (by have := HLN.out; omega)
      have hji : (j : Int) < ps.length := by omega
      have hji2 : (j : Int) < qs.length := by omega
      obtain ⟨e, ta, tc⟩ := t
      obtain ⟨f, ua, uc⟩ := s
      have hd : Below wr.heap.size wr wr.drew := (Below.refl _ wr).drew
      have HAT := mkHid (hat.below hd)
      have HBT := mkHid (hbt.below hd)
      have HTW := mkHid (hew.below hd)
      have HUW := mkHid (hfw.below hd)
      have HXY := mkHid (And.intro hx hy)
      clear hx hy hat hbt hew hfw hd
      obtain ⟨p0, p1, p2, p3, p4, p5, p6, p7, p8, p9⟩ := HAT.out.ten
      obtain ⟨q0, q1, q2, q3, q4, q5, q6, q7, q8, q9⟩ := HBT.out.ten
      simp only [tv] at p0 p1 p2 p3 p4 p5 p6 p7 p8 p9 q0 q1 q2 q3 q4 q5 q6 q7 q8 q9
      by_cases hef : e = f
      · have HEF := mkHid hef
        clear hef
        go_wp2
        refine wp_region_held_drew (S := fun w' => w'.cell? ⟨b0, o0 + j * 10, none⟩ = some (.int .i64 e.cl) ∧ w'.cell? ⟨b0, o0 + j * 10 + 1, none⟩ = some (.int .i64 e.nu) ∧ w'.cell? ⟨b0, o0 + j * 10 + 2, none⟩ = some (.int .i64 e.ki) ∧ w'.cell? ⟨b0, o0 + j * 10 + 3, none⟩ = some (.int .i64 e.id) ∧ w'.cell? ⟨b0, o0 + j * 10 + 4, none⟩ = some (.int .i64 e.sk) ∧ w'.cell? ⟨b0, o0 + j * 10 + 5, none⟩ = some (.int .i64 e.sq) ∧ w'.cell? ⟨b0, o0 + j * 10 + 6, none⟩ = some (.int .i64 e.st) ∧ w'.cell? ⟨b0, o0 + j * 10 + 7, none⟩ = some (.int .i64 e.po) ∧ w'.cell? ⟨b0, o0 + j * 10 + 8, none⟩ = some (.slice ta e.ts.length tc) ∧ w'.cell? ⟨b0, o0 + j * 10 + 9, none⟩ = some (.int .i64 e.tm) ∧ w'.cell? ⟨b1, o1 + j * 10, none⟩ = some (.int .i64 f.cl) ∧ w'.cell? ⟨b1, o1 + j * 10 + 1, none⟩ = some (.int .i64 f.nu) ∧ w'.cell? ⟨b1, o1 + j * 10 + 2, none⟩ = some (.int .i64 f.ki) ∧ w'.cell? ⟨b1, o1 + j * 10 + 3, none⟩ = some (.int .i64 f.id) ∧ w'.cell? ⟨b1, o1 + j * 10 + 4, none⟩ = some (.int .i64 f.sk) ∧ w'.cell? ⟨b1, o1 + j * 10 + 5, none⟩ = some (.int .i64 f.sq) ∧ w'.cell? ⟨b1, o1 + j * 10 + 6, none⟩ = some (.int .i64 f.st) ∧ w'.cell? ⟨b1, o1 + j * 10 + 7, none⟩ = some (.int .i64 f.po) ∧ w'.cell? ⟨b1, o1 + j * 10 + 8, none⟩ = some (.slice ua f.ts.length uc) ∧ w'.cell? ⟨b1, o1 + j * 10 + 9, none⟩ = some (.int .i64 f.tm)) (by kernel_rfl) ⟨p0, p1, p2, p3, p4, p5, p6, p7, p8, p9, q0, q1, q2, q3, q4, q5, q6, q7, q8, q9⟩ (fun hHeld => ?_)
        refine takeD 0 16 (.slice (some ⟨b0, o0, none⟩) ps.length cap0) rfl rfl (by kernel_rfl) (by kernel_rfl) (by kernel_rfl) (fun _ _ _ h => h) (Or.inl ⟨by kernel_rfl, by intro w hSw; (try dsimp only at hSw); go_simp⟩) hHeld ?_
        simp only [List.set_cons_zero, List.set_cons_succ]
        refine takeD 1 17 (.int .i64 (j : Int)) rfl rfl (by kernel_rfl) (by kernel_rfl) (by kernel_rfl) (fun _ _ _ h => h) (Or.inl ⟨by kernel_rfl, by intro w hSw; (try dsimp only at hSw); go_simp⟩) hHeld ?_
        simp only [List.set_cons_zero, List.set_cons_succ]
        refine takeD 2 18 (.pointer (some ⟨b0, o0 + j * 10, none⟩)) rfl rfl (by kernel_rfl) (by kernel_rfl) (by kernel_rfl) (fun _ _ _ h => h) (Or.inl ⟨by kernel_rfl, by intro w hSw; (try dsimp only at hSw); go_simp⟩) hHeld ?_
        simp only [List.set_cons_zero, List.set_cons_succ]
        refine takeD 3 19 (.agg #[.int .i64 e.cl, .int .i64 e.nu, .int .i64 e.ki, .int .i64 e.id, .int .i64 e.sk, .int .i64 e.sq, .int .i64 e.st, .int .i64 e.po, .slice ta e.ts.length tc, .int .i64 e.tm]) rfl rfl (by kernel_rfl) (by kernel_rfl) (by kernel_rfl) (fun _ _ _ h => h) (Or.inl ⟨by kernel_rfl, by intro w hSw; (try dsimp only at hSw); go_simp⟩) hHeld ?_
        simp only [List.set_cons_zero, List.set_cons_succ]
        refine takeD 4 20 (.slice (some ⟨b1, o1, none⟩) qs.length cap1) rfl rfl (by kernel_rfl) (by kernel_rfl) (by kernel_rfl) (fun _ _ _ h => h) (Or.inl ⟨by kernel_rfl, by intro w hSw; (try dsimp only at hSw); go_simp⟩) hHeld ?_
        simp only [List.set_cons_zero, List.set_cons_succ]
        refine takeD 5 21 (.int .i64 (j : Int)) rfl rfl (by kernel_rfl) (by kernel_rfl) (by kernel_rfl) (fun _ _ _ h => h) (Or.inl ⟨by kernel_rfl, by intro w hSw; (try dsimp only at hSw); go_simp⟩) hHeld ?_
        simp only [List.set_cons_zero, List.set_cons_succ]
        refine takeD 6 22 (.pointer (some ⟨b1, o1 + j * 10, none⟩)) rfl rfl (by kernel_rfl) (by kernel_rfl) (by kernel_rfl) (fun _ _ _ h => h) (Or.inl ⟨by kernel_rfl, by intro w hSw; (try dsimp only at hSw); go_simp⟩) hHeld ?_
        simp only [List.set_cons_zero, List.set_cons_succ]
        refine takeD 7 23 (.agg #[.int .i64 f.cl, .int .i64 f.nu, .int .i64 f.ki, .int .i64 f.id, .int .i64 f.sk, .int .i64 f.sq, .int .i64 f.st, .int .i64 f.po, .slice ua f.ts.length uc, .int .i64 f.tm]) rfl rfl (by kernel_rfl) (by kernel_rfl) (by kernel_rfl) (fun _ _ _ h => h) (Or.inl ⟨by kernel_rfl, by intro w hSw; (try dsimp only at hSw); go_simp⟩) hHeld ?_
        simp only [List.set_cons_zero, List.set_cons_succ]
        refine wpAnyH_ready (rs := [8]) (by kernel_rfl) (by simp) (AllReadyH.cons rfl (fun K hK => ?_) AllReadyH.nil)
        go_simp
        refine (refSame_yes _ (e, ta, tc) (f, ua, uc) HTW.out HUW.out HEF.out).mono ?_
        rintro r w2 ⟨rfl, b2⟩
        have HB2 := mkHid (bt (Below.refl _ wr).drew b2)
        clear hHeld p0 p1 p2 p3 p4 p5 p6 p7 p8 p9 q0 q1 q2 q3 q4 q5 q6 q7 q8 q9
        obtain ⟨p0, p1, p2, p3, p4, p5, p6, p7, p8, p9⟩ := (HAT.out.below b2).ten
        obtain ⟨q0, q1, q2, q3, q4, q5, q6, q7, q8, q9⟩ := (HBT.out.below b2).ten
        simp only [tv] at p0 p1 p2 p3 p4 p5 p6 p7 p8 p9 q0 q1 q2 q3 q4 q5 q6 q7 q8 q9
        clear b2
        refine hK.out _ _ ⟨p0, p1, p2, p3, p4, p5, p6, p7, p8, p9, q0, q1, q2, q3, q4, q5, q6, q7, q8, q9⟩ (fun hHeld => ?_)
        clear hK K
        refine takeD 9 25 (.bool false) rfl rfl (by kernel_rfl) (by kernel_rfl) (by kernel_rfl) (fun _ _ _ h => h) (Or.inl ⟨by kernel_rfl, by intro w hSw; (try dsimp only at hSw); go_simp⟩) hHeld ?_
        simp only [List.set_cons_zero, List.set_cons_succ]
        refine wpAnyH_done (by kernel_rfl) ?_ _
        go_wp2
        go_roundw
        case rel => exact ⟨j + 1, by go_num, by omega, mkHid (bt HB.out HB2.out), mkHid (fs_step HO.out HXY.out.1 HXY.out.2 HEF.out)⟩
        case measure => simp [intOf]; omega
      · have HEF := mkHid hef
        clear hef
        go_wp2
        refine wp_region_held_drew (S := fun w' => w'.cell? ⟨b0, o0 + j * 10, none⟩ = some (.int .i64 e.cl) ∧ w'.cell? ⟨b0, o0 + j * 10 + 1, none⟩ = some (.int .i64 e.nu) ∧ w'.cell? ⟨b0, o0 + j * 10 + 2, none⟩ = some (.int .i64 e.ki) ∧ w'.cell? ⟨b0, o0 + j * 10 + 3, none⟩ = some (.int .i64 e.id) ∧ w'.cell? ⟨b0, o0 + j * 10 + 4, none⟩ = some (.int .i64 e.sk) ∧ w'.cell? ⟨b0, o0 + j * 10 + 5, none⟩ = some (.int .i64 e.sq) ∧ w'.cell? ⟨b0, o0 + j * 10 + 6, none⟩ = some (.int .i64 e.st) ∧ w'.cell? ⟨b0, o0 + j * 10 + 7, none⟩ = some (.int .i64 e.po) ∧ w'.cell? ⟨b0, o0 + j * 10 + 8, none⟩ = some (.slice ta e.ts.length tc) ∧ w'.cell? ⟨b0, o0 + j * 10 + 9, none⟩ = some (.int .i64 e.tm) ∧ w'.cell? ⟨b1, o1 + j * 10, none⟩ = some (.int .i64 f.cl) ∧ w'.cell? ⟨b1, o1 + j * 10 + 1, none⟩ = some (.int .i64 f.nu) ∧ w'.cell? ⟨b1, o1 + j * 10 + 2, none⟩ = some (.int .i64 f.ki) ∧ w'.cell? ⟨b1, o1 + j * 10 + 3, none⟩ = some (.int .i64 f.id) ∧ w'.cell? ⟨b1, o1 + j * 10 + 4, none⟩ = some (.int .i64 f.sk) ∧ w'.cell? ⟨b1, o1 + j * 10 + 5, none⟩ = some (.int .i64 f.sq) ∧ w'.cell? ⟨b1, o1 + j * 10 + 6, none⟩ = some (.int .i64 f.st) ∧ w'.cell? ⟨b1, o1 + j * 10 + 7, none⟩ = some (.int .i64 f.po) ∧ w'.cell? ⟨b1, o1 + j * 10 + 8, none⟩ = some (.slice ua f.ts.length uc) ∧ w'.cell? ⟨b1, o1 + j * 10 + 9, none⟩ = some (.int .i64 f.tm)) (by kernel_rfl) ⟨p0, p1, p2, p3, p4, p5, p6, p7, p8, p9, q0, q1, q2, q3, q4, q5, q6, q7, q8, q9⟩ (fun hHeld => ?_)
        refine takeD 0 16 (.slice (some ⟨b0, o0, none⟩) ps.length cap0) rfl rfl (by kernel_rfl) (by kernel_rfl) (by kernel_rfl) (fun _ _ _ h => h) (Or.inl ⟨by kernel_rfl, by intro w hSw; (try dsimp only at hSw); go_simp⟩) hHeld ?_
        simp only [List.set_cons_zero, List.set_cons_succ]
        refine takeD 1 17 (.int .i64 (j : Int)) rfl rfl (by kernel_rfl) (by kernel_rfl) (by kernel_rfl) (fun _ _ _ h => h) (Or.inl ⟨by kernel_rfl, by intro w hSw; (try dsimp only at hSw); go_simp⟩) hHeld ?_
        simp only [List.set_cons_zero, List.set_cons_succ]
        refine takeD 2 18 (.pointer (some ⟨b0, o0 + j * 10, none⟩)) rfl rfl (by kernel_rfl) (by kernel_rfl) (by kernel_rfl) (fun _ _ _ h => h) (Or.inl ⟨by kernel_rfl, by intro w hSw; (try dsimp only at hSw); go_simp⟩) hHeld ?_
        simp only [List.set_cons_zero, List.set_cons_succ]
        refine takeD 3 19 (.agg #[.int .i64 e.cl, .int .i64 e.nu, .int .i64 e.ki, .int .i64 e.id, .int .i64 e.sk, .int .i64 e.sq, .int .i64 e.st, .int .i64 e.po, .slice ta e.ts.length tc, .int .i64 e.tm]) rfl rfl (by kernel_rfl) (by kernel_rfl) (by kernel_rfl) (fun _ _ _ h => h) (Or.inl ⟨by kernel_rfl, by intro w hSw; (try dsimp only at hSw); go_simp⟩) hHeld ?_
        simp only [List.set_cons_zero, List.set_cons_succ]
        refine takeD 4 20 (.slice (some ⟨b1, o1, none⟩) qs.length cap1) rfl rfl (by kernel_rfl) (by kernel_rfl) (by kernel_rfl) (fun _ _ _ h => h) (Or.inl ⟨by kernel_rfl, by intro w hSw; (try dsimp only at hSw); go_simp⟩) hHeld ?_
        simp only [List.set_cons_zero, List.set_cons_succ]
        refine takeD 5 21 (.int .i64 (j : Int)) rfl rfl (by kernel_rfl) (by kernel_rfl) (by kernel_rfl) (fun _ _ _ h => h) (Or.inl ⟨by kernel_rfl, by intro w hSw; (try dsimp only at hSw); go_simp⟩) hHeld ?_
        simp only [List.set_cons_zero, List.set_cons_succ]
        refine takeD 6 22 (.pointer (some ⟨b1, o1 + j * 10, none⟩)) rfl rfl (by kernel_rfl) (by kernel_rfl) (by kernel_rfl) (fun _ _ _ h => h) (Or.inl ⟨by kernel_rfl, by intro w hSw; (try dsimp only at hSw); go_simp⟩) hHeld ?_
        simp only [List.set_cons_zero, List.set_cons_succ]
        refine takeD 7 23 (.agg #[.int .i64 f.cl, .int .i64 f.nu, .int .i64 f.ki, .int .i64 f.id, .int .i64 f.sk, .int .i64 f.sq, .int .i64 f.st, .int .i64 f.po, .slice ua f.ts.length uc, .int .i64 f.tm]) rfl rfl (by kernel_rfl) (by kernel_rfl) (by kernel_rfl) (fun _ _ _ h => h) (Or.inl ⟨by kernel_rfl, by intro w hSw; (try dsimp only at hSw); go_simp⟩) hHeld ?_
        simp only [List.set_cons_zero, List.set_cons_succ]
        refine wpAnyH_ready (rs := [8]) (by kernel_rfl) (by simp) (AllReadyH.cons rfl (fun K hK => ?_) AllReadyH.nil)
        go_simp
        refine (refSame_no _ (e, ta, tc) (f, ua, uc) HTW.out HUW.out HEF.out).mono ?_
        rintro r w2 ⟨rfl, b2⟩
        have HB2 := mkHid (bt (Below.refl _ wr).drew b2)
        clear hHeld p0 p1 p2 p3 p4 p5 p6 p7 p8 p9 q0 q1 q2 q3 q4 q5 q6 q7 q8 q9
        obtain ⟨p0, p1, p2, p3, p4, p5, p6, p7, p8, p9⟩ := (HAT.out.below b2).ten
        obtain ⟨q0, q1, q2, q3, q4, q5, q6, q7, q8, q9⟩ := (HBT.out.below b2).ten
        simp only [tv] at p0 p1 p2 p3 p4 p5 p6 p7 p8 p9 q0 q1 q2 q3 q4 q5 q6 q7 q8 q9
        clear b2
        refine hK.out _ _ ⟨p0, p1, p2, p3, p4, p5, p6, p7, p8, p9, q0, q1, q2, q3, q4, q5, q6, q7, q8, q9⟩ (fun hHeld => ?_)
        clear hK K
        refine takeD 9 25 (.bool true) rfl rfl (by kernel_rfl) (by kernel_rfl) (by kernel_rfl) (fun _ _ _ h => h) (Or.inl ⟨by kernel_rfl, by intro w hSw; (try dsimp only at hSw); go_simp⟩) hHeld ?_
        simp only [List.set_cons_zero, List.set_cons_succ]
        refine wpAnyH_done (by kernel_rfl) ?_ _
        go_wp2
        go_ret
        exact ⟨rfl, bt HB.out HB2.out⟩
    · exfalso
      obtain rfl : j = ps.length := by omega
      exact HQ.out (fs_ext HLN.out HO.out)
theorem sameL_any (w : World) (v u : Value) (ps qs : List Ep) (hv : Ens w v ps) (hu : Ens w u qs) (hlen : ps.length = qs.length) (b : Bool) (hb : b = true ↔ fs1 ps = fs1 qs) : Calls Tryd.prog 50 #[v, u] w fun r w' => r = .returned (.bool b) ∧ Below w.heap.size w w' := by
  cases b with
  | true => exact sameL_yes w v u ps qs hv hu (hb.mp rfl)
  | false => exact sameL_no w v u ps qs hv hu hlen (fun h => by have := hb.mpr h; simp at this)
theorem sameL_len (w : World) (v u : Value) (ps qs : List Ep) (hv : Ens w v ps) (hu : Ens w u qs) (hlen : ¬ ps.length = qs.length) : Calls Tryd.prog 50 #[v, u] w fun r w' => r = .returned (.bool false) ∧ Below w.heap.size w w' := by
  obtain ⟨a, cap, rfl, _⟩ := hv
  obtain ⟨a2, cap2, rfl, _⟩ := hu
  have h1 : ((ps.length : Int) == (qs.length : Int)) = false := by simp; omega
  have h2 : ¬ (ps.length : Int) = (qs.length : Int) := by omega
  go_enter Tryd.func50, Tryd.ntmps50
  go_wp2
  go_ret
  exact ⟨rfl, Below.refl _ _⟩
theorem sameL_b (w : World) (v u : Value) (ps qs : List Ep) (hv : Ens w v ps) (hu : Ens w u qs) (b : Bool) (hb : b = true ↔ fs1 ps = fs1 qs) : Calls Tryd.prog 50 #[v, u] w fun r w' => r = .returned (.bool b) ∧ Below w.heap.size w w' := by
  by_cases hlen : ps.length = qs.length
  · exact sameL_any w v u ps qs hv hu hlen b hb
  · have hf : b = false := by
      rw [← Bool.not_eq_true, hb]
      intro e
      apply hlen
      have := congrArg List.length e
      simpa [fs1] using this
    subst hf
    exact sameL_len w v u ps qs hv hu hlen
theorem legal_any (w : World) (r n : Int) : Calls Tryd.prog 51 #[.agg #[.int .i64 r, .int .i64 n]] w fun e w' => e = .returned (.bool (balB r n)) ∧ Below w.heap.size w w' := by
  obtain ⟨b, hb⟩ : ∃ b, b = balB r n := ⟨_, rfl⟩
  rw [← hb]
  unfold balB nodeB at hb
  have HB := mkHid hb
  clear hb
  by_cases h0 : 1 ≤ r
  · by_cases h1 : r ≤ 1099511627776
    · by_cases h2 : 0 ≤ n
      · by_cases h3 : n ≤ 6
        all_goals
          go_enter Tryd.func51, Tryd.ntmps51
          go_wp2
          go_ret
        · exact ⟨by rw [HB.out, decide_eq_true h0, decide_eq_true h1, decide_eq_true h2, decide_eq_true h3]; rfl, ba (Below.refl _ _) _⟩
        · exact ⟨by rw [HB.out, decide_eq_true h0, decide_eq_true h1, decide_eq_true h2, decide_eq_false (show ¬ n ≤ 6 by omega)]; rfl, ba (Below.refl _ _) _⟩
      · have h2' : ¬ (0 : Int) ≤ n := h2
        go_enter Tryd.func51, Tryd.ntmps51
        go_wp2
        go_ret
        exact ⟨by rw [HB.out, decide_eq_true h0, decide_eq_true h1, decide_eq_false (show ¬ 0 ≤ n by omega)]; rfl, ba (Below.refl _ _) _⟩
    · go_enter Tryd.func51, Tryd.ntmps51
      go_wp2
      go_ret
      exact ⟨by rw [HB.out, decide_eq_true h0, decide_eq_false (show ¬ r ≤ 1099511627776 by omega)]; rfl, ba (Below.refl _ _) _⟩
  · go_enter Tryd.func51, Tryd.ntmps51
    go_wp2
    go_ret
    exact ⟨by rw [HB.out, decide_eq_false (show ¬ 1 ≤ r by omega)]; rfl, ba (Below.refl _ _) _⟩
theorem msg_two {w w' : World} (a b : Mg) (lv lu : Value) (hb : Below ((w.alloc (cM a lv)).alloc (cM b lu)).heap.size ((w.alloc (cM a lv)).alloc (cM b lu)) w') : Below w.heap.size w w' := bt (ba (ba (Below.refl _ w) _) _) hb
set_option maxHeartbeats 12800000 in
theorem sameM_any (w : World) (a b : Mg) (v u : Value) (ps qs : List Ep) (hv : Ens w v ps) (hu : Ens w u qs) (ha : fs1 ps = a.ls) (hb : fs1 qs = b.ls) (c : Bool) (hc : c = true ↔ a = b) :
    Calls Tryd.prog 24 #[vM a v, vM b u] w fun e w' => e = .returned (.bool c) ∧ Below w.heap.size w w' := by
  obtain ⟨lb, hlb⟩ := ex_bool (fs1 ps = fs1 qs)
  have HL := mkHid (fun W (hW : Below w.heap.size w W) => sameL_b W v u ps qs (hv.below hW) (hu.below hW) lb hlb)
  rw [ha, hb] at hlb
  obtain ⟨av, ac, rfl⟩ : ∃ a cap, v = .slice a ps.length cap := by obtain ⟨a, cap, e, _⟩ := hv; exact ⟨a, cap, e⟩
  obtain ⟨uv, uc, rfl⟩ : ∃ a cap, u = .slice a qs.length cap := by obtain ⟨a, cap, e, _⟩ := hu; exact ⟨a, cap, e⟩
  obtain ⟨a0, a1, a2, a3, a4, a5, a6, a7, al⟩ := a
  obtain ⟨b0, b1, b2, b3, b4, b5, b6, b7, bl⟩ := b
  simp only [vM] at ⊢
  simp only at hlb
  clear hv hu ha hb
  have hcs : (a0 = b0 ∧ a1 = b1 ∧ a2 = b2 ∧ a3 = b3 ∧ a4 = b4 ∧ a5 = b5 ∧ a6 = b6 ∧ a7 = b7) ∨ (c = false ∧ ((a0 == b0) = false ∨ (a0 = b0 ∧ (a1 == b1) = false) ∨ (a0 = b0 ∧ a1 = b1 ∧ (a2 == b2) = false) ∨ (a0 = b0 ∧ a1 = b1 ∧ a2 = b2 ∧ (a3 == b3) = false) ∨ (a0 = b0 ∧ a1 = b1 ∧ a2 = b2 ∧ a3 = b3 ∧ (a4 == b4) = false) ∨ (a0 = b0 ∧ a1 = b1 ∧ a2 = b2 ∧ a3 = b3 ∧ a4 = b4 ∧ (a5 == b5) = false) ∨ (a0 = b0 ∧ a1 = b1 ∧ a2 = b2 ∧ a3 = b3 ∧ a4 = b4 ∧ a5 = b5 ∧ (a6 == b6) = false) ∨ (a0 = b0 ∧ a1 = b1 ∧ a2 = b2 ∧ a3 = b3 ∧ a4 = b4 ∧ a5 = b5 ∧ a6 = b6 ∧ (a7 == b7) = false))) := by
    by_cases h : a0 = b0 ∧ a1 = b1 ∧ a2 = b2 ∧ a3 = b3 ∧ a4 = b4 ∧ a5 = b5 ∧ a6 = b6 ∧ a7 = b7
    · exact .inl h
    · refine .inr ⟨by rw [← Bool.not_eq_true, hc]; simp only [Mg.mk.injEq]; rintro ⟨h0, h1, h2, h3, h4, h5, h6, h7, _⟩; exact h ⟨h0, h1, h2, h3, h4, h5, h6, h7⟩, ?_⟩
      by_cases e0 : a0 = b0
      case neg => exact .inl (by simpa using e0)
      by_cases e1 : a1 = b1
      case neg => exact .inr <| .inl ⟨e0, by simpa using e1⟩
      by_cases e2 : a2 = b2
      case neg => exact .inr <| .inr <| .inl ⟨e0, e1, by simpa using e2⟩
      by_cases e3 : a3 = b3
      case neg => exact .inr <| .inr <| .inr <| .inl ⟨e0, e1, e2, by simpa using e3⟩
      by_cases e4 : a4 = b4
      case neg => exact .inr <| .inr <| .inr <| .inr <| .inl ⟨e0, e1, e2, e3, by simpa using e4⟩
      by_cases e5 : a5 = b5
      case neg => exact .inr <| .inr <| .inr <| .inr <| .inr <| .inl ⟨e0, e1, e2, e3, e4, by simpa using e5⟩
      by_cases e6 : a6 = b6
      case neg => exact .inr <| .inr <| .inr <| .inr <| .inr <| .inr <| .inl ⟨e0, e1, e2, e3, e4, e5, by simpa using e6⟩
      by_cases e7 : a7 = b7
      case neg => exact .inr <| .inr <| .inr <| .inr <| .inr <| .inr <| .inr <| ⟨e0, e1, e2, e3, e4, e5, e6, by simpa using e7⟩
      exact absurd ⟨e0, e1, e2, e3, e4, e5, e6, e7⟩ h
  rcases hcs with ⟨rfl, rfl, rfl, rfl, rfl, rfl, rfl, rfl⟩ | ⟨rfl, hd⟩
  · obtain rfl : c = lb := by rw [Bool.eq_iff_iff, hc, hlb]; simp
    clear hc hlb
    go_enter Tryd.func24, Tryd.ntmps24
    go_wp2_with (go_at_call 50; refine (HL.out _ (ba (ba (Below.refl _ w) _) _)).mono ?_; rintro r w2 ⟨rfl, b2⟩; have HB2 := mkHid (bt (ba (ba (Below.refl _ w) _) _) b2); clear b2)
    go_ret
    exact ⟨rfl, HB2.out⟩
  · clear hc hlb HL
    rcases hd with h | ⟨rfl, h⟩ | ⟨rfl, rfl, h⟩ | ⟨rfl, rfl, rfl, h⟩ | ⟨rfl, rfl, rfl, rfl, h⟩ | ⟨rfl, rfl, rfl, rfl, rfl, h⟩ | ⟨rfl, rfl, rfl, rfl, rfl, rfl, h⟩ | ⟨rfl, rfl, rfl, rfl, rfl, rfl, rfl, h⟩
    all_goals
      go_enter Tryd.func24, Tryd.ntmps24
      go_wp2
    all_goals go_ret
    all_goals exact ⟨rfl, ba (ba (Below.refl _ _) _) _⟩
end Go.Proofs.YtaiklaipdocdmaaDoor

/- The document's InForm. -/
namespace Go.Proofs.YtaiklaipdocdmaaDoor
open Go.ChangeShapes Go.WideShapes Go.ChangeAt Go.RowKit
set_option maxRecDepth 100000
attribute [local go_sem] World.cell?_alloc_some frozen_alloc_some

/-- Write, as far as InForm asks: does it answer 0? -/
theorem rwriteE (w : World) (v : Value) (ps : List Ep) (h : Ens w v ps) (lf : Bool) (hlf : lf = true ↔ ledF (fs1 ps)) : Calls Tryd.prog 52 #[v] w fun r w' => ∃ (a : Option Addr) (n c : Nat) (e : Int), r = .returned (.tuple #[.slice a n c, .int .i64 e]) ∧ (e == 0) = lf ∧ Below w.heap.size w w' := by
  by_cases hl : ps.length ≤ 64
  · refine (rwrite_all w v ps h hl).mono ?_
    rintro r w' ⟨hb, ⟨hf, v', rfl, ho⟩ | ⟨hf, rfl⟩⟩
    · obtain ⟨a, c, rfl⟩ := own_shape ho
      refine ⟨a, _, c, 0, rfl, ?_, hb⟩
      have : lf = true := hlf.mpr ⟨by simpa [fs1] using hl, fun e he => by obtain ⟨t, ht, rfl⟩ := List.mem_map.mp he; exact hf t ht⟩
      rw [this]; rfl
    · refine ⟨none, 0, 0, 16, rfl, ?_, hb⟩
      have : lf = false := by
        rw [← Bool.not_eq_true, hlf]
        rintro ⟨_, h2⟩
        exact hf (fun t ht => h2 _ (List.mem_map.mpr ⟨t, ht, rfl⟩))
      rw [this]; rfl
  · refine (rwrite_large w v ps h (by omega)).mono ?_
    rintro r w' ⟨rfl, hb⟩
    refine ⟨none, 0, 0, 8, rfl, ?_, hb⟩
    have : lf = false := by
      rw [← Bool.not_eq_true, hlf]
      rintro ⟨h1, _⟩
      simp [fs1] at h1
      omega
    rw [this]; rfl
set_option maxHeartbeats 12800000 in
/-- A message whose head is out of form. -/
theorem inFM_head (w : World) (m : Mg) (v : Value) (ps : List Ep) (h : Ens w v ps) (hn : ¬ headM m) : Calls Tryd.prog 25 #[vM m v] w fun e w' => e = .returned (.bool false) ∧ Below w.heap.size w w' := by
  obtain ⟨lb, hlb⟩ : ∃ lb, lb = balB m.br m.bn := ⟨_, rfl⟩
  have HI := fun W => mkHid (legal_any W m.br m.bn)
  rw [← hlb] at HI
  obtain ⟨a, cap, rfl⟩ : ∃ a cap, v = .slice a ps.length cap := by obtain ⟨a, cap, e, _⟩ := h; exact ⟨a, cap, e⟩
  have hc : m.fr < 0 ∨ (¬ m.fr < 0 ∧ 6 < m.fr) ∨ ((¬ m.fr < 0 ∧ ¬ 6 < m.fr) ∧ (m.to < 0 ∨ (¬ m.to < 0 ∧ 6 < m.to) ∨ ((¬ m.to < 0 ∧ ¬ 6 < m.to) ∧ (m.jb < 0 ∨ (¬ m.jb < 0 ∧ 1099511627776 < m.jb) ∨ ((¬ m.jb < 0 ∧ ¬ 1099511627776 < m.jb) ∧ lb = false))))) := by
    by_cases h1 : m.fr < 0
    · exact .inl h1
    by_cases h2 : 6 < m.fr
    · exact .inr (.inl ⟨h1, h2⟩)
    refine .inr (.inr ⟨⟨h1, h2⟩, ?_⟩)
    by_cases h3 : m.to < 0
    · exact .inl h3
    by_cases h4 : 6 < m.to
    · exact .inr (.inl ⟨h3, h4⟩)
    refine .inr (.inr ⟨⟨h3, h4⟩, ?_⟩)
    by_cases h5 : m.jb < 0
    · exact .inl h5
    by_cases h6 : 1099511627776 < m.jb
    · exact .inr (.inl ⟨h5, h6⟩)
    refine .inr (.inr ⟨⟨h5, h6⟩, ?_⟩)
    rw [← Bool.not_eq_true, hlb, balB_iff]
    intro hb
    exact hn ⟨⟨by omega, by omega⟩, ⟨by omega, by omega⟩, ⟨by omega, by omega⟩, hb⟩
  clear hn h hlb
  obtain ⟨kd, fr, to, jb, br, bn, ar, an, ls⟩ := m
  simp only [vM] at HI ⊢
  simp only at hc
  rcases hc with h1 | ⟨h1, h2⟩ | ⟨⟨h1, h2⟩, h3 | ⟨h3, h4⟩ | ⟨⟨h3, h4⟩, h5 | ⟨h5, h6⟩ | ⟨⟨h5, h6⟩, rfl⟩⟩⟩
  all_goals
    go_enter Tryd.func25, Tryd.ntmps25
    go_wp2_with (go_at_call 51; refine (HI _).out.mono ?_; rintro e w1 ⟨rfl, b1⟩; have HB1 := mkHid (bt (ba (Below.refl _ w) _) b1); clear b1)
  all_goals go_ret
  all_goals exact ⟨rfl, by first | exact HB1.out | exact ba (Below.refl _ _) _⟩
set_option maxHeartbeats 25600000 in
theorem inFM_kind (w : World) (m : Mg) (v : Value) (ps : List Ep) (h : Ens w v ps) (hls : fs1 ps = m.ls) (hh : headM m) (b : Bool) (hb : b = true ↔ kindM m) : Calls Tryd.prog 25 #[vM m v] w fun e w' => e = .returned (.bool b) ∧ Below w.heap.size w w' := by
  obtain ⟨lf, hlf⟩ := ex_bool (ledF (fs1 ps))
  have HL := mkHid (fun W (hW : Below w.heap.size w W) => rwriteE W v ps (h.below hW) lf hlf)
  have HI := fun W => mkHid (legal_any W m.br m.bn)
  rw [balB_iff.mpr hh.2.2.2] at HI
  obtain ⟨lb, hlb⟩ : ∃ lb, lb = balB m.ar m.an := ⟨_, rfl⟩
  have HJ := fun W => mkHid (legal_any W m.ar m.an)
  rw [← hlb] at HJ
  have hlb2 : lb = true ↔ balF m.ar m.an := by rw [hlb, balB_iff]
  have hps : (((ps.length : Int) == 0) = true) ↔ m.ls = [] := by rw [← hls]; simp [fs1]
  rw [hls] at hlf
  have HB := mkHid (And.intro hb (And.intro hlf (And.intro hlb2 hps)))
  obtain ⟨a, cap, rfl⟩ : ∃ a cap, v = .slice a ps.length cap := by obtain ⟨a, cap, e, _⟩ := h; exact ⟨a, cap, e⟩
  obtain ⟨⟨x0, x1⟩, ⟨y0, y1⟩, ⟨z0, z1⟩, _⟩ := hh
  obtain ⟨kd, fr, to, jb, br, bn, ar, an, ls⟩ := m
  simp only [vM] at HI HJ ⊢
  simp only at HB HI HJ x0 x1 y0 y1 z0 z1
  have x0' : ¬ fr < 0 := by omega
  have x1' : ¬ 6 < fr := by omega
  have y0' : ¬ to < 0 := by omega
  have y1' : ¬ 6 < to := by omega
  have z0' : ¬ jb < 0 := by omega
  have z1' : ¬ 1099511627776 < jb := by omega
  clear hb hlf hlb2 hps hlb h hls x0 x1 y0 y1 z0 z1
  have hk : kd = 1 ∨ kd = 2 ∨ kd = 3 ∨ kd = 4 ∨ kd = 5 ∨ ((kd == 1) = false ∧ (kd == 2) = false ∧ (kd == 3) = false ∧ (kd == 4) = false ∧ (kd == 5) = false) := by simp; omega
  have hn : (ar = 0 ∧ an = 0) ∨ (ar = 0 ∧ (an == 0) = false) ∨ (ar == 0) = false := by simp; omega
  obtain ⟨le, hle⟩ : ∃ le, le = ((ps.length : Int) == 0) := ⟨_, rfl⟩
  rw [← hle] at HB
  have hle' : ((ps.length : Int) == 0) = le := hle.symm
  clear hle
  go_enter Tryd.func25, Tryd.ntmps25
  go_wp2_with (first
    | (go_at_call 51; (with_reducible refine (HI _).out.mono ?_); rintro e w1 ⟨rfl, b1⟩; obtain ⟨q0, q1, q2, q3, q4, q5, q6, q7, q8⟩ := msg_cells (msg_late ⟨_, _, _, _, _, _, _, _, ls⟩ _ b1); have HB1 : Hid (Below (w.alloc (cM ⟨kd, fr, to, jb, br, bn, ar, an, ls⟩ (.slice a ps.length cap))).heap.size (w.alloc (cM ⟨kd, fr, to, jb, br, bn, ar, an, ls⟩ (.slice a ps.length cap))) w1) := mkHid b1; clear b1)
    | (go_at_call 52; refine (HL.out _ (bt (ba (Below.refl _ w) _) HB1.out)).mono ?_; rintro r w2 ⟨la, ln, lc, le2, rfl, hle2, b2⟩; clear q0 q1 q2 q3 q4 q5 q6 q7 q8; obtain ⟨q0, q1, q2, q3, q4, q5, q6, q7, q8⟩ := msg_cells (msg_late ⟨_, _, _, _, _, _, _, _, ls⟩ _ (bt HB1.out b2)); have HB2 := mkHid (bt (bt (ba (Below.refl _ w) (cM ⟨kd, fr, to, jb, br, bn, ar, an, ls⟩ (.slice a ps.length cap))) HB1.out) b2); clear b2; rcases hk with rfl | rfl | rfl | rfl | rfl | ⟨h1, h2, h3, h4, h5⟩ <;> rcases hn with ⟨rfl, rfl⟩ | ⟨rfl, hn1⟩ | hn1 <;> cases le <;> cases lf <;> cases lb)
    | (go_at_call 51; refine (HJ _).out.mono ?_; rintro e w3 ⟨rfl, b3⟩; have q8' := kc q8 b3; clear q0 q1 q2 q3 q4 q5 q6 q7; have HB3 := mkHid (bt HB2.out b3); clear b3))
  all_goals go_ret
  all_goals refine ⟨?_, by first | exact HB3.out | exact HB2.out⟩
  all_goals
    obtain ⟨hb, hlf, hlb, hle⟩ := HB.out
    refine ret_bool ?_
    rw [Bool.eq_iff_iff, hb]
    clear HB HL HI HJ
    unfold kindM noB
    simp only at hlf hlb hle ⊢
    first
    | (exfalso; obtain ⟨⟨hz, _⟩, _⟩ := (true_iff _).mp hlb; omega)
    | (exfalso; have hz := (true_iff _).mp hle; subst hz; have hq := hlf.mpr ledF_nil; simp at hq; done)
    | (simp only [← hlf, ← hlb, ← hle]; clear hlf hlb hle hb hle' hle2 HB1 HB2; (try clear q0 q1 q2 q3 q4 q5 q6 q7); (try clear q8'); (try clear q8); (try clear HB3); simp_all)
end Go.Proofs.YtaiklaipdocdmaaDoor

