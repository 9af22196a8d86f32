/- Beginnings of ledgers: slices.EqualFunc, Begins, the document's SameLedger and Begins. -/
import Derived.Test.YtehnimafjgodeaaDoorOledgers
namespace Go.Proofs.YtehnimafjgodeaaDoor
open Go.ChangeShapes Go.WideShapes Go.ChangeAt Go.RowKit
set_option maxRecDepth 100000
attribute [local go_sem] World.cell?_alloc_some frozen_alloc_some

theorem fs_ext {ps qs : List Ep} (hl : ps.length = qs.length) (h : ∀ (i : Nat) (t s : Ep), i < ps.length → ps[i]? = some t → qs[i]? = some s → t.1 = s.1) : fs1 ps = fs1 qs := by
  apply List.ext_getElem?
  intro i
  by_cases hi : i < ps.length
  · have h1 : ps[i]? = some ps[i] := List.getElem?_eq_getElem hi
    have h2 : qs[i]? = some (qs[i]'(by omega)) := List.getElem?_eq_getElem (by omega)
    simp only [fs1, List.getElem?_map, h1, h2, Option.map_some]
    rw [h i _ _ hi h1 h2]
  · rw [List.getElem?_eq_none (by simp; omega), List.getElem?_eq_none (by simp; omega)]
theorem fs_step {ps qs : List Ep} {j : Nat} {t s : Ep} (h : ∀ (i : Nat) (t s : Ep), i < j → ps[i]? = some t → qs[i]? = some s → t.1 = s.1) (hx : ps[j]? = some t) (hy : qs[j]? = some s) (he : t.1 = s.1) : ∀ (i : Nat) (t s : Ep), i < j + 1 → ps[i]? = some t → qs[i]? = some s → t.1 = s.1 := by
  intro i t' s' hi h1 h2
  by_cases e : i = j
  · subst e
    rw [hx] at h1; rw [hy] at h2
    simp at h1 h2
    rw [← h1, ← h2]
    exact he
  · exact h i t' s' (by omega) h1 h2
theorem fs_at_ne {ps qs : List Ep} {j : Nat} {t s : Ep} (hx : ps[j]? = some t) (hy : qs[j]? = some s) (he : ¬ t.1 = s.1) : ¬ fs1 ps = fs1 qs := fun h => he (by
  have h1 := congrArg (fun l => l[j]?) h
  simp only [fs1, List.getElem?_map, hx, hy] at h1
  simpa using h1)
set_option maxHeartbeats 12800000 in
theorem sameL_no (w : World) (v u : Value) (ps qs : List Ep) (hv : Ens w v ps) (hu : Ens w u qs) (hlen : ps.length = qs.length) (h : ¬ fs1 ps = fs1 qs) : Calls Tryd.prog 22 #[v, u] w fun r w' => r = .returned (.bool false) ∧ Below w.heap.size w w' := by
  have hv' := hv
  have hu' := hu
  obtain ⟨a0, cap0, rfl, hl0, _⟩ := hv'
  obtain ⟨a1, cap1, rfl, hl1, _⟩ := hu'
  have hleni : (ps.length : Int) = (qs.length : Int) := by omega
  have HV := mkHid hv
  have HU := mkHid hu
  have HQ := mkHid h
  have HLN := mkHid hlen
  clear hv hu h hlen
  go_enter Tryd.func22, Tryd.ntmps22
  go_wp2
  go_loopw [5, 13] (fun _ iv wr => ∃ j : Nat, iv = .int .i64 (j : Int) ∧ j ≤ ps.length ∧ Hid (Below w.heap.size w wr) ∧ Hid (∀ (i : Nat) (t s : Ep), i < j → ps[i]? = some t → qs[i]? = some s → t.1 = s.1)) (fun _ iv _ => ps.length - (intOf iv).toNat)
  case atStart => exact ⟨0, rfl, Nat.zero_le _, mkHid (Below.refl _ _), mkHid (fun i t s hi => by omega)⟩
  case round =>
    obtain ⟨j, rfl, hj, HB, HO⟩ := hrel
    by_cases hlt : j < ps.length
    · obtain ⟨b0, o0, t, rfl, hx, hat, hew⟩ := HV.out.at HB.out j hlt
      obtain ⟨b1, o1, s, rfl, hy, hbt, hfw⟩ := HU.out.at HB.out j (by have := HLN.out; omega)
      have hji : (j : Int) < ps.length := by omega
      have hji2 : (j : Int) < qs.length := by omega
      obtain ⟨e, ta, tc⟩ := t
      obtain ⟨f, ua, uc⟩ := s
      have hd : Below wr.heap.size wr wr.drew := (Below.refl _ wr).drew
      have HAT := mkHid (hat.below hd)
      have HBT := mkHid (hbt.below hd)
      have HTW := mkHid (hew.below hd)
      have HUW := mkHid (hfw.below hd)
      have HXY := mkHid (And.intro hx hy)
      clear hx hy hat hbt hew hfw hd
      obtain ⟨p0, p1, p2, p3, p4, p5, p6, p7, p8, p9⟩ := HAT.out.ten
      obtain ⟨q0, q1, q2, q3, q4, q5, q6, q7, q8, q9⟩ := HBT.out.ten
      simp only [tv] at p0 p1 p2 p3 p4 p5 p6 p7 p8 p9 q0 q1 q2 q3 q4 q5 q6 q7 q8 q9
      by_cases hef : e = f
      · have HEF := mkHid hef
        clear hef
        go_wp2
        refine wp_region_held_drew (S := fun w' => w'.cell? ⟨b0, o0 + j * 10, none⟩ = some (.int .i64 e.cl) ∧ w'.cell? ⟨b0, o0 + j * 10 + 1, none⟩ = some (.int .i64 e.nu) ∧ w'.cell? ⟨b0, o0 + j * 10 + 2, none⟩ = some (.int .i64 e.ki) ∧ w'.cell? ⟨b0, o0 + j * 10 + 3, none⟩ = some (.int .i64 e.id) ∧ w'.cell? ⟨b0, o0 + j * 10 + 4, none⟩ = some (.int .i64 e.sk) ∧ w'.cell? ⟨b0, o0 + j * 10 + 5, none⟩ = some (.int .i64 e.sq) ∧ w'.cell? ⟨b0, o0 + j * 10 + 6, none⟩ = some (.int .i64 e.st) ∧ w'.cell? ⟨b0, o0 + j * 10 + 7, none⟩ = some (.int .i64 e.po) ∧ w'.cell? ⟨b0, o0 + j * 10 + 8, none⟩ = some (.slice ta e.ts.length tc) ∧ w'.cell? ⟨b0, o0 + j * 10 + 9, none⟩ = some (.int .i64 e.tm) ∧ w'.cell? ⟨b1, o1 + j * 10, none⟩ = some (.int .i64 f.cl) ∧ w'.cell? ⟨b1, o1 + j * 10 + 1, none⟩ = some (.int .i64 f.nu) ∧ w'.cell? ⟨b1, o1 + j * 10 + 2, none⟩ = some (.int .i64 f.ki) ∧ w'.cell? ⟨b1, o1 + j * 10 + 3, none⟩ = some (.int .i64 f.id) ∧ w'.cell? ⟨b1, o1 + j * 10 + 4, none⟩ = some (.int .i64 f.sk) ∧ w'.cell? ⟨b1, o1 + j * 10 + 5, none⟩ = some (.int .i64 f.sq) ∧ w'.cell? ⟨b1, o1 + j * 10 + 6, none⟩ = some (.int .i64 f.st) ∧ w'.cell? ⟨b1, o1 + j * 10 + 7, none⟩ = some (.int .i64 f.po) ∧ w'.cell? ⟨b1, o1 + j * 10 + 8, none⟩ = some (.slice ua f.ts.length uc) ∧ w'.cell? ⟨b1, o1 + j * 10 + 9, none⟩ = some (.int .i64 f.tm)) (by kernel_rfl) ⟨p0, p1, p2, p3, p4, p5, p6, p7, p8, p9, q0, q1, q2, q3, q4, q5, q6, q7, q8, q9⟩ (fun hHeld => ?_)
        refine takeD 0 16 (.slice (some ⟨b0, o0, none⟩) ps.length cap0) rfl rfl (by kernel_rfl) (by kernel_rfl) (by kernel_rfl) (fun _ _ _ h => h) (Or.inl ⟨by kernel_rfl, by intro w hSw; (try dsimp only at hSw); go_simp⟩) hHeld ?_
        simp only [List.set_cons_zero, List.set_cons_succ]
        refine takeD 1 17 (.int .i64 (j : Int)) rfl rfl (by kernel_rfl) (by kernel_rfl) (by kernel_rfl) (fun _ _ _ h => h) (Or.inl ⟨by kernel_rfl, by intro w hSw; (try dsimp only at hSw); go_simp⟩) hHeld ?_
        simp only [List.set_cons_zero, List.set_cons_succ]
        refine takeD 2 18 (.pointer (some ⟨b0, o0 + j * 10, none⟩)) rfl rfl (by kernel_rfl) (by kernel_rfl) (by kernel_rfl) (fun _ _ _ h => h) (Or.inl ⟨by kernel_rfl, by intro w hSw; (try dsimp only at hSw); go_simp⟩) hHeld ?_
        simp only [List.set_cons_zero, List.set_cons_succ]
        refine takeD 3 19 (.agg #[.int .i64 e.cl, .int .i64 e.nu, .int .i64 e.ki, .int .i64 e.id, .int .i64 e.sk, .int .i64 e.sq, .int .i64 e.st, .int .i64 e.po, .slice ta e.ts.length tc, .int .i64 e.tm]) rfl rfl (by kernel_rfl) (by kernel_rfl) (by kernel_rfl) (fun _ _ _ h => h) (Or.inl ⟨by kernel_rfl, by intro w hSw; (try dsimp only at hSw); go_simp⟩) hHeld ?_
        simp only [List.set_cons_zero, List.set_cons_succ]
        refine takeD 4 20 (.slice (some ⟨b1, o1, none⟩) qs.length cap1) rfl rfl (by kernel_rfl) (by kernel_rfl) (by kernel_rfl) (fun _ _ _ h => h) (Or.inl ⟨by kernel_rfl, by intro w hSw; (try dsimp only at hSw); go_simp⟩) hHeld ?_
        simp only [List.set_cons_zero, List.set_cons_succ]
        refine takeD 5 21 (.int .i64 (j : Int)) rfl rfl (by kernel_rfl) (by kernel_rfl) (by kernel_rfl) (fun _ _ _ h => h) (Or.inl ⟨by kernel_rfl, by intro w hSw; (try dsimp only at hSw); go_simp⟩) hHeld ?_
        simp only [List.set_cons_zero, List.set_cons_succ]
        refine takeD 6 22 (.pointer (some ⟨b1, o1 + j * 10, none⟩)) rfl rfl (by kernel_rfl) (by kernel_rfl) (by kernel_rfl) (fun _ _ _ h => h) (Or.inl ⟨by kernel_rfl, by intro w hSw; (try dsimp only at hSw); go_simp⟩) hHeld ?_
        simp only [List.set_cons_zero, List.set_cons_succ]
        refine takeD 7 23 (.agg #[.int .i64 f.cl, .int .i64 f.nu, .int .i64 f.ki, .int .i64 f.id, .int .i64 f.sk, .int .i64 f.sq, .int .i64 f.st, .int .i64 f.po, .slice ua f.ts.length uc, .int .i64 f.tm]) rfl rfl (by kernel_rfl) (by kernel_rfl) (by kernel_rfl) (fun _ _ _ h => h) (Or.inl ⟨by kernel_rfl, by intro w hSw; (try dsimp only at hSw); go_simp⟩) hHeld ?_
        simp only [List.set_cons_zero, List.set_cons_succ]
        refine wpAnyH_ready (rs := [8]) (by kernel_rfl) (by simp) (AllReadyH.cons rfl (fun K hK => ?_) AllReadyH.nil)
        go_simp
        refine (refSame_yes _ (e, ta, tc) (f, ua, uc) HTW.out HUW.out HEF.out).mono ?_
        rintro r w2 ⟨rfl, b2⟩
        have HB2 := mkHid (bt (Below.refl _ wr).drew b2)
        clear hHeld p0 p1 p2 p3 p4 p5 p6 p7 p8 p9 q0 q1 q2 q3 q4 q5 q6 q7 q8 q9
        obtain ⟨p0, p1, p2, p3, p4, p5, p6, p7, p8, p9⟩ := (HAT.out.below b2).ten
        obtain ⟨q0, q1, q2, q3, q4, q5, q6, q7, q8, q9⟩ := (HBT.out.below b2).ten
        simp only [tv] at p0 p1 p2 p3 p4 p5 p6 p7 p8 p9 q0 q1 q2 q3 q4 q5 q6 q7 q8 q9
        clear b2
        refine hK.out _ _ ⟨p0, p1, p2, p3, p4, p5, p6, p7, p8, p9, q0, q1, q2, q3, q4, q5, q6, q7, q8, q9⟩ (fun hHeld => ?_)
        clear hK K
        refine takeD 9 25 (.bool false) rfl rfl (by kernel_rfl) (by kernel_rfl) (by kernel_rfl) (fun _ _ _ h => h) (Or.inl ⟨by kernel_rfl, by intro w hSw; (try dsimp only at hSw); go_simp⟩) hHeld ?_
        simp only [List.set_cons_zero, List.set_cons_succ]
        refine wpAnyH_done (by kernel_rfl) ?_ _
        go_wp2
        go_roundw
        case rel => exact ⟨j + 1, by go_num, by omega, mkHid (bt HB.out HB2.out), mkHid (fs_step HO.out HXY.out.1 HXY.out.2 HEF.out)⟩
        case measure => simp [intOf]; omega
      · have HEF := mkHid hef
        clear hef
        go_wp2
        refine wp_region_held_drew (S := fun w' => w'.cell? ⟨b0, o0 + j * 10, none⟩ = some (.int .i64 e.cl) ∧ w'.cell? ⟨b0, o0 + j * 10 + 1, none⟩ = some (.int .i64 e.nu) ∧ w'.cell? ⟨b0, o0 + j * 10 + 2, none⟩ = some (.int .i64 e.ki) ∧ w'.cell? ⟨b0, o0 + j * 10 + 3, none⟩ = some (.int .i64 e.id) ∧ w'.cell? ⟨b0, o0 + j * 10 + 4, none⟩ = some (.int .i64 e.sk) ∧ w'.cell? ⟨b0, o0 + j * 10 + 5, none⟩ = some (.int .i64 e.sq) ∧ w'.cell? ⟨b0, o0 + j * 10 + 6, none⟩ = some (.int .i64 e.st) ∧ w'.cell? ⟨b0, o0 + j * 10 + 7, none⟩ = some (.int .i64 e.po) ∧ w'.cell? ⟨b0, o0 + j * 10 + 8, none⟩ = some (.slice ta e.ts.length tc) ∧ w'.cell? ⟨b0, o0 + j * 10 + 9, none⟩ = some (.int .i64 e.tm) ∧ w'.cell? ⟨b1, o1 + j * 10, none⟩ = some (.int .i64 f.cl) ∧ w'.cell? ⟨b1, o1 + j * 10 + 1, none⟩ = some (.int .i64 f.nu) ∧ w'.cell? ⟨b1, o1 + j * 10 + 2, none⟩ = some (.int .i64 f.ki) ∧ w'.cell? ⟨b1, o1 + j * 10 + 3, none⟩ = some (.int .i64 f.id) ∧ w'.cell? ⟨b1, o1 + j * 10 + 4, none⟩ = some (.int .i64 f.sk) ∧ w'.cell? ⟨b1, o1 + j * 10 + 5, none⟩ = some (.int .i64 f.sq) ∧ w'.cell? ⟨b1, o1 + j * 10 + 6, none⟩ = some (.int .i64 f.st) ∧ w'.cell? ⟨b1, o1 + j * 10 + 7, none⟩ = some (.int .i64 f.po) ∧ w'.cell? ⟨b1, o1 + j * 10 + 8, none⟩ = some (.slice ua f.ts.length uc) ∧ w'.cell? ⟨b1, o1 + j * 10 + 9, none⟩ = some (.int .i64 f.tm)) (by kernel_rfl) ⟨p0, p1, p2, p3, p4, p5, p6, p7, p8, p9, q0, q1, q2, q3, q4, q5, q6, q7, q8, q9⟩ (fun hHeld => ?_)
        refine takeD 0 16 (.slice (some ⟨b0, o0, none⟩) ps.length cap0) rfl rfl (by kernel_rfl) (by kernel_rfl) (by kernel_rfl) (fun _ _ _ h => h) (Or.inl ⟨by kernel_rfl, by intro w hSw; (try dsimp only at hSw); go_simp⟩) hHeld ?_
        simp only [List.set_cons_zero, List.set_cons_succ]
        refine takeD 1 17 (.int .i64 (j : Int)) rfl rfl (by kernel_rfl) (by kernel_rfl) (by kernel_rfl) (fun _ _ _ h => h) (Or.inl ⟨by kernel_rfl, by intro w hSw; (try dsimp only at hSw); go_simp⟩) hHeld ?_
        simp only [List.set_cons_zero, List.set_cons_succ]
        refine takeD 2 18 (.pointer (some ⟨b0, o0 + j * 10, none⟩)) rfl rfl (by kernel_rfl) (by kernel_rfl) (by kernel_rfl) (fun _ _ _ h => h) (Or.inl ⟨by kernel_rfl, by intro w hSw; (try dsimp only at hSw); go_simp⟩) hHeld ?_
        simp only [List.set_cons_zero, List.set_cons_succ]
        refine takeD 3 19 (.agg #[.int .i64 e.cl, .int .i64 e.nu, .int .i64 e.ki, .int .i64 e.id, .int .i64 e.sk, .int .i64 e.sq, .int .i64 e.st, .int .i64 e.po, .slice ta e.ts.length tc, .int .i64 e.tm]) rfl rfl (by kernel_rfl) (by kernel_rfl) (by kernel_rfl) (fun _ _ _ h => h) (Or.inl ⟨by kernel_rfl, by intro w hSw; (try dsimp only at hSw); go_simp⟩) hHeld ?_
        simp only [List.set_cons_zero, List.set_cons_succ]
        refine takeD 4 20 (.slice (some ⟨b1, o1, none⟩) qs.length cap1) rfl rfl (by kernel_rfl) (by kernel_rfl) (by kernel_rfl) (fun _ _ _ h => h) (Or.inl ⟨by kernel_rfl, by intro w hSw; (try dsimp only at hSw); go_simp⟩) hHeld ?_
        simp only [List.set_cons_zero, List.set_cons_succ]
        refine takeD 5 21 (.int .i64 (j : Int)) rfl rfl (by kernel_rfl) (by kernel_rfl) (by kernel_rfl) (fun _ _ _ h => h) (Or.inl ⟨by kernel_rfl, by intro w hSw; (try dsimp only at hSw); go_simp⟩) hHeld ?_
        simp only [List.set_cons_zero, List.set_cons_succ]
        refine takeD 6 22 (.pointer (some ⟨b1, o1 + j * 10, none⟩)) rfl rfl (by kernel_rfl) (by kernel_rfl) (by kernel_rfl) (fun _ _ _ h => h) (Or.inl ⟨by kernel_rfl, by intro w hSw; (try dsimp only at hSw); go_simp⟩) hHeld ?_
        simp only [List.set_cons_zero, List.set_cons_succ]
        refine takeD 7 23 (.agg #[.int .i64 f.cl, .int .i64 f.nu, .int .i64 f.ki, .int .i64 f.id, .int .i64 f.sk, .int .i64 f.sq, .int .i64 f.st, .int .i64 f.po, .slice ua f.ts.length uc, .int .i64 f.tm]) rfl rfl (by kernel_rfl) (by kernel_rfl) (by kernel_rfl) (fun _ _ _ h => h) (Or.inl ⟨by kernel_rfl, by intro w hSw; (try dsimp only at hSw); go_simp⟩) hHeld ?_
        simp only [List.set_cons_zero, List.set_cons_succ]
        refine wpAnyH_ready (rs := [8]) (by kernel_rfl) (by simp) (AllReadyH.cons rfl (fun K hK => ?_) AllReadyH.nil)
        go_simp
        refine (refSame_no _ (e, ta, tc) (f, ua, uc) HTW.out HUW.out HEF.out).mono ?_
        rintro r w2 ⟨rfl, b2⟩
        have HB2 := mkHid (bt (Below.refl _ wr).drew b2)
        clear hHeld p0 p1 p2 p3 p4 p5 p6 p7 p8 p9 q0 q1 q2 q3 q4 q5 q6 q7 q8 q9
        obtain ⟨p0, p1, p2, p3, p4, p5, p6, p7, p8, p9⟩ := (HAT.out.below b2).ten
        obtain ⟨q0, q1, q2, q3, q4, q5, q6, q7, q8, q9⟩ := (HBT.out.below b2).ten
        simp only [tv] at p0 p1 p2 p3 p4 p5 p6 p7 p8 p9 q0 q1 q2 q3 q4 q5 q6 q7 q8 q9
        clear b2
        refine hK.out _ _ ⟨p0, p1, p2, p3, p4, p5, p6, p7, p8, p9, q0, q1, q2, q3, q4, q5, q6, q7, q8, q9⟩ (fun hHeld => ?_)
        clear hK K
        refine takeD 9 25 (.bool true) rfl rfl (by kernel_rfl) (by kernel_rfl) (by kernel_rfl) (fun _ _ _ h => h) (Or.inl ⟨by kernel_rfl, by intro w hSw; (try dsimp only at hSw); go_simp⟩) hHeld ?_
        simp only [List.set_cons_zero, List.set_cons_succ]
        refine wpAnyH_done (by kernel_rfl) ?_ _
        go_wp2
        go_ret
        exact ⟨rfl, bt HB.out HB2.out⟩
    · exfalso
      obtain rfl : j = ps.length := by omega
      exact HQ.out (fs_ext HLN.out HO.out)
abbrev sameFn : Value := .func (.func 17) #[] #[]
set_option maxHeartbeats 12800000 in
theorem eqF_any (w : World) (v u : Value) (ps qs : List Ep) (hv : Ens w v ps) (hu : Ens w u qs) (hlen : ps.length = qs.length) (b : Bool) (hb : b = true ↔ fs1 ps = fs1 qs) : Calls Tryd.prog 59 #[v, u, sameFn] w fun r w' => r = .returned (.bool b) ∧ Below w.heap.size w w' := by
  have hv' := hv
  have hu' := hu
  obtain ⟨a0, cap0, rfl, hl0, _⟩ := hv'
  obtain ⟨a1, cap1, rfl, hl1, _⟩ := hu'
  have hleni : (ps.length : Int) = (qs.length : Int) := by omega
  have HV := mkHid hv
  have HU := mkHid hu
  have HQ := mkHid hb
  have HLN := mkHid hlen
  clear hv hu hb hlen
  simp only [sameFn]
  go_enter Tryd.func59, Tryd.ntmps59
  go_wp2
  go_loopw [17] (fun iv wr => ∃ j : Nat, iv = .int .i64 (j : Int) ∧ j ≤ ps.length ∧ Hid (Below w.heap.size w wr) ∧ Hid (∀ (i : Nat) (t s : Ep), i < j → ps[i]? = some t → qs[i]? = some s → t.1 = s.1)) (fun iv _ => ps.length - (intOf iv).toNat)
  case atStart => exact ⟨0, rfl, Nat.zero_le _, mkHid (Below.refl _ _), mkHid (fun i t s hi => by omega)⟩
  case round =>
    obtain ⟨j, rfl, hj, HB, HO⟩ := hrel
    by_cases hlt : j < ps.length
    · obtain ⟨b0, o0, t, rfl, hx, hat, hew⟩ := HV.out.at HB.out j hlt
      obtain ⟨b1, o1, s, rfl, hy, hbt, hfw⟩ := HU.out.at HB.out j (by have := HLN.out; omega)
      have hji : (j : Int) < ps.length := by omega
      have hji2 : (j : Int) < qs.length := by omega
      obtain ⟨e, ta, tc⟩ := t
      obtain ⟨f, ua, uc⟩ := s
      have HTW := mkHid (hew.below (ba (ba (Below.refl _ wr) (oE e (.slice ta e.ts.length tc))) (oE f (.slice ua f.ts.length uc))))
      have HUW := mkHid (hfw.below (ba (ba (Below.refl _ wr) (oE e (.slice ta e.ts.length tc))) (oE f (.slice ua f.ts.length uc))))
      have HXY := mkHid (And.intro hx hy)
      obtain ⟨p0, p1, p2, p3, p4, p5, p6, p7, p8, p9⟩ := hat.ten
      obtain ⟨q0, q1, q2, q3, q4, q5, q6, q7, q8, q9⟩ := hbt.ten
      simp only [tv] at p0 p1 p2 p3 p4 p5 p6 p7 p8 p9 q0 q1 q2 q3 q4 q5 q6 q7 q8 q9
      clear hx hy hat hbt hew hfw
      by_cases hef : e = f
      · have HEF := mkHid hef
        clear hef
        go_wp2_with (go_at_call 17; refine (oSame_yes _ (e, ta, tc) (f, ua, uc) HTW.out HUW.out HEF.out).mono ?_; rintro r w2 ⟨rfl, b2⟩; have HB2 := mkHid (bt (ba (ba HB.out _) _) b2); clear b2)
        go_roundw
        case rel => exact ⟨j + 1, by go_num, by omega, HB2, mkHid (fs_step HO.out HXY.out.1 HXY.out.2 HEF.out)⟩
        case measure => simp [intOf]; omega
      · have HEF := mkHid hef
        clear hef
        go_wp2_with (go_at_call 17; refine (oSame_no _ (e, ta, tc) (f, ua, uc) HTW.out HUW.out HEF.out).mono ?_; rintro r w2 ⟨rfl, b2⟩; have HB2 := mkHid (bt (ba (ba HB.out _) _) b2); clear b2)
        go_ret
        refine ⟨?_, HB2.out⟩
        have hbf : b = false := by
          cases b with
          | false => rfl
          | true => exact absurd (HQ.out.mp rfl) (fs_at_ne HXY.out.1 HXY.out.2 HEF.out)
        rw [hbf]
        rfl
    · obtain rfl : j = ps.length := by omega
      go_wp2
      go_ret
      exact ⟨by rw [HQ.out.mpr (fs_ext HLN.out HO.out)]; rfl, HB.out⟩
theorem ens_zero (w : World) (a : Option Addr) (c : Nat) : Ens w (.slice a 0 c) [] := ⟨a, c, rfl, by simp, fun hp => by simp at hp, fun t ht => by simp at ht⟩
theorem ens_head {w : World} {a : Option Addr} {cap n : Nat} {qs : List Ep} (h : Ens w (.slice a qs.length cap) qs) (hn : n ≤ qs.length) : Ens w (.slice a n cap) (qs.take n) := by
  have hl : (qs.take n).length = n := by rw [List.length_take]; omega
  obtain ⟨a', c', e, hL, hr, ht⟩ := h
  simp only [Value.slice.injEq] at e
  obtain ⟨rfl, _, rfl⟩ := e
  refine ⟨a, cap, by rw [hl], by rw [hl]; omega, fun hp => ?_, fun t hm => ht t (List.mem_of_mem_take hm)⟩
  obtain ⟨b, off, rfl, hc2⟩ := hr (by omega)
  refine ⟨b, off, rfl, fun i x hi => hc2 i x ?_⟩
  rw [List.getElem?_take] at hi
  split at hi
  · exact hi
  · cases hi
/-- The first ledger is the beginning of the other one. -/
def bgn (ps qs : List Ep) : Prop := ps.length ≤ qs.length ∧ fs1 ps = fs1 (qs.take ps.length)
def BgP (w : World) (f : Nat) (v u : Value) (b : Bool) : Prop := Calls Tryd.prog f #[v, u] w fun r w' => r = .returned (.bool b) ∧ Below w.heap.size w w'
set_option maxHeartbeats 6400000 in
theorem begins_any (w : World) (v : Value) (a : Option Addr) (cap : Nat) (ps qs : List Ep) (hv : Ens w v ps) (hu : Ens w (.slice a qs.length cap) qs) (hc : qs.length ≤ cap) (b : Bool) (hb : b = true ↔ bgn ps qs) : BgP w 31 v (.slice a qs.length cap) b := by
  unfold BgP
  obtain ⟨a0, cap0, rfl, hl0, _⟩ := id hv
  obtain ⟨_, _, _, hl1, _⟩ := id hu
  by_cases hle : ps.length ≤ qs.length
  · have hlei : (ps.length : Int) ≤ qs.length := by omega
    have hlec : (ps.length : Int) ≤ cap := by omega
    have hq : b = true ↔ fs1 ps = fs1 (qs.take ps.length) := hb.trans ⟨fun h => h.2, fun h => ⟨hle, h⟩⟩
    have HL : Hid (ps.length = (qs.take ps.length).length) := mkHid (by rw [List.length_take]; omega)
    by_cases h0 : ps.length = 0
    · have hps : ps = [] := List.length_eq_zero_iff.mp h0
      subst hps
      have hbt : b = true := hq.mpr (by simp)
      subst hbt
      have HE := mkHid (fun W a1 c1 a2 c2 => eqF_any W (.slice a1 0 c1) (.slice a2 0 c2) [] [] (ens_zero W a1 c1) (ens_zero W a2 c2) rfl true (by simp))
      clear hb hq hv hu HL h0
      simp only [List.length_nil] at *
      simp only [sameFn] at HE
      cases a with
      | none =>
        go_enter Tryd.func31, Tryd.ntmps31
        go_wp2_with (go_at_call 59; refine (HE.out _ _ _ _ _).mono ?_; rintro r w2 ⟨rfl, b2⟩; have HB2 := mkHid b2; clear b2)
        all_goals go_ret
        all_goals exact ⟨rfl, HB2.out⟩
      | some ad =>
        go_enter Tryd.func31, Tryd.ntmps31
        go_wp2_with (go_at_call 59; refine (HE.out _ _ _ _ _).mono ?_; rintro r w2 ⟨rfl, b2⟩; have HB2 := mkHid b2; clear b2)
        all_goals go_ret
        all_goals exact ⟨rfl, HB2.out⟩
    · obtain ⟨b1, o1, _, rfl, _, _, _⟩ := hu.at (Below.refl _ w) 0 (by omega)
      have hc0 : ¬ cap = 0 := by omega
      have HE := mkHid (eqF_any w (.slice a0 ps.length cap0) (.slice (some ⟨b1, o1, none⟩) ps.length cap) ps (qs.take ps.length) hv (ens_head hu hle) HL.out b hq)
      clear hb hq hv hu HL h0
      simp only [sameFn] at HE
      go_enter Tryd.func31, Tryd.ntmps31
      go_wp2_with (go_at_call 59; refine HE.out.mono ?_; rintro r w2 ⟨rfl, b2⟩; have HB2 := mkHid b2; clear b2)
      go_ret
      exact ⟨rfl, HB2.out⟩
  · have hlei : ¬ (ps.length : Int) ≤ qs.length := by omega
    have hbf : b = false := by
      cases b with
      | false => rfl
      | true => exact absurd (hb.mp rfl).1 hle
    subst hbf
    clear hb hv hu
    go_enter Tryd.func31, Tryd.ntmps31
    go_wp2
    go_ret
    exact ⟨rfl, Below.refl _ _⟩
theorem sameL_any (w : World) (v u : Value) (ps qs : List Ep) (hv : Ens w v ps) (hu : Ens w u qs) (hlen : ps.length = qs.length) (b : Bool) (hb : b = true ↔ fs1 ps = fs1 qs) : Calls Tryd.prog 22 #[v, u] w fun r w' => r = .returned (.bool b) ∧ Below w.heap.size w w' := by
  cases b with
  | true => exact sameL_yes w v u ps qs hv hu (hb.mp rfl)
  | false => exact sameL_no w v u ps qs hv hu hlen (fun h => by have := hb.mpr h; simp at this)
set_option maxHeartbeats 6400000 in
theorem rbegins_any (w : World) (v : Value) (a : Option Addr) (cap : Nat) (ps qs : List Ep) (hv : Ens w v ps) (hu : Ens w (.slice a qs.length cap) qs) (hc : qs.length ≤ cap) (b : Bool) (hb : b = true ↔ bgn ps qs) : BgP w 32 v (.slice a qs.length cap) b := by
  unfold BgP
  obtain ⟨a0, cap0, rfl, hl0, _⟩ := id hv
  obtain ⟨_, _, _, hl1, _⟩ := id hu
  by_cases hle : ps.length ≤ qs.length
  · have hlei : (ps.length : Int) ≤ qs.length := by omega
    have hlec : (ps.length : Int) ≤ cap := by omega
    have hq : b = true ↔ fs1 ps = fs1 (qs.take ps.length) := hb.trans ⟨fun h => h.2, fun h => ⟨hle, h⟩⟩
    have HL : Hid (ps.length = (qs.take ps.length).length) := mkHid (by rw [List.length_take]; omega)
    by_cases h0 : ps.length = 0
    · have hps : ps = [] := List.length_eq_zero_iff.mp h0
      subst hps
      have hbt : b = true := hq.mpr (by simp)
      subst hbt
      have HE := mkHid (fun W a1 c1 a2 c2 => sameL_yes W (.slice a1 0 c1) (.slice a2 0 c2) [] [] (ens_zero W a1 c1) (ens_zero W a2 c2) rfl)
      clear hb hq hv hu HL h0
      simp only [List.length_nil] at *
      cases a with
      | none =>
        go_enter Tryd.func32, Tryd.ntmps32
        go_wp2_with (go_at_call 22; refine (HE.out _ _ _ _ _).mono ?_; rintro r w2 ⟨rfl, b2⟩; have HB2 := mkHid b2; clear b2)
        all_goals go_ret
        all_goals exact ⟨rfl, HB2.out⟩
      | some ad =>
        go_enter Tryd.func32, Tryd.ntmps32
        go_wp2_with (go_at_call 22; refine (HE.out _ _ _ _ _).mono ?_; rintro r w2 ⟨rfl, b2⟩; have HB2 := mkHid b2; clear b2)
        all_goals go_ret
        all_goals exact ⟨rfl, HB2.out⟩
    · obtain ⟨b1, o1, _, rfl, _, _, _⟩ := hu.at (Below.refl _ w) 0 (by omega)
      have hc0 : ¬ cap = 0 := by omega
      have HE := mkHid (sameL_any w (.slice a0 ps.length cap0) (.slice (some ⟨b1, o1, none⟩) ps.length cap) ps (qs.take ps.length) hv (ens_head hu hle) HL.out b hq)
      clear hb hq hv hu HL h0
      go_enter Tryd.func32, Tryd.ntmps32
      go_wp2_with (go_at_call 22; refine HE.out.mono ?_; rintro r w2 ⟨rfl, b2⟩; have HB2 := mkHid b2; clear b2)
      go_ret
      exact ⟨rfl, HB2.out⟩
  · have hlei : ¬ (ps.length : Int) ≤ qs.length := by omega
    have hbf : b = false := by
      cases b with
      | false => rfl
      | true => exact absurd (hb.mp rfl).1 hle
    subst hbf
    clear hb hv hu
    go_enter Tryd.func32, Tryd.ntmps32
    go_wp2
    go_ret
    exact ⟨rfl, Below.refl _ _⟩
end Go.Proofs.YtehnimafjgodeaaDoor
