/- The document's SameLedger of ledgers that are the same; its Write. -/
import Derived.Test.YtjocjkfllicjdaaDoorOwrite
namespace Go.Proofs.YtjocjkfllicjdaaDoor
open Go.ChangeShapes Go.WideShapes Go.ChangeAt Go.RowKit
set_option maxRecDepth 100000
attribute [local go_sem] World.cell?_alloc_some frozen_alloc_some

set_option maxHeartbeats 12800000 in
theorem sameL_yes (w : World) (v u : Value) (ps qs : List Ep) (hv : Ens w v ps) (hu : Ens w u qs) (h : fs1 ps = fs1 qs) : Calls Tryd.prog 21 #[v, u] w fun r w' => r = .returned (.bool true) ∧ Below w.heap.size w w' := by
  have hv' := hv
  have hu' := hu
  obtain ⟨a0, cap0, rfl, hl0, _⟩ := hv'
  obtain ⟨a1, cap1, rfl, hl1, _⟩ := hu'
  have hlen : ps.length = qs.length := by have := congrArg List.length h; simpa using this
  have hleni : (ps.length : Int) = (qs.length : Int) := by omega
  have HV := mkHid hv
  have HU := mkHid hu
  have HQ := mkHid h
  have HLN := mkHid hlen
  clear hv hu h hlen
  go_enter Tryd.func21, Tryd.ntmps21
  go_wp2
  go_loopw [5, 13] (fun _ iv wr => ∃ j : Nat, iv = .int .i64 (j : Int) ∧ j ≤ ps.length ∧ Hid (Below w.heap.size w wr)) (fun _ iv _ => ps.length - (intOf iv).toNat)
  case atStart => exact ⟨0, rfl, Nat.zero_le _, mkHid (Below.refl _ _)⟩
  case round =>
    obtain ⟨j, rfl, hj, HB⟩ := hrel
    by_cases hlt : j < ps.length
    · obtain ⟨b0, o0, t, rfl, hx, hat, hew⟩ := HV.out.at HB.out j hlt
      obtain ⟨b1, o1, s, rfl, hy, hbt, hfw⟩ := HU.out.at HB.out j (by have := HLN.out; omega)
      have hji : (j : Int) < ps.length := by omega
      have hji2 : (j : Int) < qs.length := by omega
      have hes : t.1 = s.1 := by
        have h1 := congrArg (fun l => l[j]?) HQ.out
        simp only [fs1, List.getElem?_map, hx, hy] at h1
        simpa using h1
      obtain ⟨e, ta, tc⟩ := t
      obtain ⟨f, ua, uc⟩ := s
      simp only at hes
      subst hes
      have hd : Below wr.heap.size wr wr.drew := (Below.refl _ wr).drew
      have HAT := mkHid (hat.below hd)
      have HBT := mkHid (hbt.below hd)
      have HTW := mkHid (hew.below hd)
      have HUW := mkHid (hfw.below hd)
      clear hx hy hat hbt hew hfw hd
      obtain ⟨p0, p1, p2, p3, p4, p5, p6, p7, p8, p9⟩ := HAT.out.ten
      obtain ⟨q0, q1, q2, q3, q4, q5, q6, q7, q8, q9⟩ := HBT.out.ten
      simp only [tv] at p0 p1 p2 p3 p4 p5 p6 p7 p8 p9 q0 q1 q2 q3 q4 q5 q6 q7 q8 q9
      go_wp2
      refine wp_region_held_drew (S := fun w' => w'.cell? ⟨b0, o0 + j * 10, none⟩ = some (.int .i64 e.cl) ∧ w'.cell? ⟨b0, o0 + j * 10 + 1, none⟩ = some (.int .i64 e.nu) ∧ w'.cell? ⟨b0, o0 + j * 10 + 2, none⟩ = some (.int .i64 e.ki) ∧ w'.cell? ⟨b0, o0 + j * 10 + 3, none⟩ = some (.int .i64 e.id) ∧ w'.cell? ⟨b0, o0 + j * 10 + 4, none⟩ = some (.int .i64 e.sk) ∧ w'.cell? ⟨b0, o0 + j * 10 + 5, none⟩ = some (.int .i64 e.sq) ∧ w'.cell? ⟨b0, o0 + j * 10 + 6, none⟩ = some (.int .i64 e.st) ∧ w'.cell? ⟨b0, o0 + j * 10 + 7, none⟩ = some (.int .i64 e.po) ∧ w'.cell? ⟨b0, o0 + j * 10 + 8, none⟩ = some (.slice ta e.ts.length tc) ∧ w'.cell? ⟨b0, o0 + j * 10 + 9, none⟩ = some (.int .i64 e.tm) ∧ w'.cell? ⟨b1, o1 + j * 10, none⟩ = some (.int .i64 e.cl) ∧ w'.cell? ⟨b1, o1 + j * 10 + 1, none⟩ = some (.int .i64 e.nu) ∧ w'.cell? ⟨b1, o1 + j * 10 + 2, none⟩ = some (.int .i64 e.ki) ∧ w'.cell? ⟨b1, o1 + j * 10 + 3, none⟩ = some (.int .i64 e.id) ∧ w'.cell? ⟨b1, o1 + j * 10 + 4, none⟩ = some (.int .i64 e.sk) ∧ w'.cell? ⟨b1, o1 + j * 10 + 5, none⟩ = some (.int .i64 e.sq) ∧ w'.cell? ⟨b1, o1 + j * 10 + 6, none⟩ = some (.int .i64 e.st) ∧ w'.cell? ⟨b1, o1 + j * 10 + 7, none⟩ = some (.int .i64 e.po) ∧ w'.cell? ⟨b1, o1 + j * 10 + 8, none⟩ = some (.slice ua e.ts.length uc) ∧ w'.cell? ⟨b1, o1 + j * 10 + 9, none⟩ = some (.int .i64 e.tm)) (by kernel_rfl) ⟨p0, p1, p2, p3, p4, p5, p6, p7, p8, p9, q0, q1, q2, q3, q4, q5, q6, q7, q8, q9⟩ (fun hHeld => ?_)
      refine takeD 0 16 (.slice (some ⟨b0, o0, none⟩) ps.length cap0) rfl rfl (by kernel_rfl) (by kernel_rfl) (by kernel_rfl) (fun _ _ _ h => h) (Or.inl ⟨by kernel_rfl, by intro w hSw; (try dsimp only at hSw); go_simp⟩) hHeld ?_
      simp only [List.set_cons_zero, List.set_cons_succ]
      refine takeD 1 17 (.int .i64 (j : Int)) rfl rfl (by kernel_rfl) (by kernel_rfl) (by kernel_rfl) (fun _ _ _ h => h) (Or.inl ⟨by kernel_rfl, by intro w hSw; (try dsimp only at hSw); go_simp⟩) hHeld ?_
      simp only [List.set_cons_zero, List.set_cons_succ]
      refine takeD 2 18 (.pointer (some ⟨b0, o0 + j * 10, none⟩)) rfl rfl (by kernel_rfl) (by kernel_rfl) (by kernel_rfl) (fun _ _ _ h => h) (Or.inl ⟨by kernel_rfl, by intro w hSw; (try dsimp only at hSw); go_simp⟩) hHeld ?_
      simp only [List.set_cons_zero, List.set_cons_succ]
      refine takeD 3 19 (.agg #[.int .i64 e.cl, .int .i64 e.nu, .int .i64 e.ki, .int .i64 e.id, .int .i64 e.sk, .int .i64 e.sq, .int .i64 e.st, .int .i64 e.po, .slice ta e.ts.length tc, .int .i64 e.tm]) rfl rfl (by kernel_rfl) (by kernel_rfl) (by kernel_rfl) (fun _ _ _ h => h) (Or.inl ⟨by kernel_rfl, by intro w hSw; (try dsimp only at hSw); go_simp⟩) hHeld ?_
      simp only [List.set_cons_zero, List.set_cons_succ]
      refine takeD 4 20 (.slice (some ⟨b1, o1, none⟩) qs.length cap1) rfl rfl (by kernel_rfl) (by kernel_rfl) (by kernel_rfl) (fun _ _ _ h => h) (Or.inl ⟨by kernel_rfl, by intro w hSw; (try dsimp only at hSw); go_simp⟩) hHeld ?_
      simp only [List.set_cons_zero, List.set_cons_succ]
      refine takeD 5 21 (.int .i64 (j : Int)) rfl rfl (by kernel_rfl) (by kernel_rfl) (by kernel_rfl) (fun _ _ _ h => h) (Or.inl ⟨by kernel_rfl, by intro w hSw; (try dsimp only at hSw); go_simp⟩) hHeld ?_
      simp only [List.set_cons_zero, List.set_cons_succ]
      refine takeD 6 22 (.pointer (some ⟨b1, o1 + j * 10, none⟩)) rfl rfl (by kernel_rfl) (by kernel_rfl) (by kernel_rfl) (fun _ _ _ h => h) (Or.inl ⟨by kernel_rfl, by intro w hSw; (try dsimp only at hSw); go_simp⟩) hHeld ?_
      simp only [List.set_cons_zero, List.set_cons_succ]
      refine takeD 7 23 (.agg #[.int .i64 e.cl, .int .i64 e.nu, .int .i64 e.ki, .int .i64 e.id, .int .i64 e.sk, .int .i64 e.sq, .int .i64 e.st, .int .i64 e.po, .slice ua e.ts.length uc, .int .i64 e.tm]) rfl rfl (by kernel_rfl) (by kernel_rfl) (by kernel_rfl) (fun _ _ _ h => h) (Or.inl ⟨by kernel_rfl, by intro w hSw; (try dsimp only at hSw); go_simp⟩) hHeld ?_
      simp only [List.set_cons_zero, List.set_cons_succ]
      refine wpAnyH_ready (rs := [8]) (by kernel_rfl) (by simp) (AllReadyH.cons rfl (fun K hK => ?_) AllReadyH.nil)
      go_simp
      refine (refSame_yes _ (e, ta, tc) (e, ua, uc) HTW.out HUW.out rfl).mono ?_
      rintro r w2 ⟨rfl, b2⟩
      have HB2 := mkHid (bt (Below.refl _ wr).drew b2)
      clear hHeld p0 p1 p2 p3 p4 p5 p6 p7 p8 p9 q0 q1 q2 q3 q4 q5 q6 q7 q8 q9
      obtain ⟨p0, p1, p2, p3, p4, p5, p6, p7, p8, p9⟩ := (HAT.out.below b2).ten
      obtain ⟨q0, q1, q2, q3, q4, q5, q6, q7, q8, q9⟩ := (HBT.out.below b2).ten
      simp only [tv] at p0 p1 p2 p3 p4 p5 p6 p7 p8 p9 q0 q1 q2 q3 q4 q5 q6 q7 q8 q9
      clear b2
      refine hK.out _ _ ⟨p0, p1, p2, p3, p4, p5, p6, p7, p8, p9, q0, q1, q2, q3, q4, q5, q6, q7, q8, q9⟩ (fun hHeld => ?_)
      clear hK K
      refine takeD 9 25 (.bool false) rfl rfl (by kernel_rfl) (by kernel_rfl) (by kernel_rfl) (fun _ _ _ h => h) (Or.inl ⟨by kernel_rfl, by intro w hSw; (try dsimp only at hSw); go_simp⟩) hHeld ?_
      simp only [List.set_cons_zero, List.set_cons_succ]
      refine wpAnyH_done (by kernel_rfl) ?_ _
      go_wp2
      go_roundw
      case rel => exact ⟨j + 1, by go_num, by omega, mkHid (bt HB.out HB2.out)⟩
      case measure => simp [intOf]; omega
    · obtain rfl : j = ps.length := by omega
      go_wp2
      go_ret
      exact ⟨rfl, HB.out⟩
end Go.Proofs.YtjocjkfllicjdaaDoor
