/- The law OrderRows. -/
import Derived.Test.YtehnimafjgodeaaDoorOrows1
import Derived.Test.YtehnimafjgodeaaDoorOrows2
import Derived.Test.YtehnimafjgodeaaDoorOrows3
namespace Go.Proofs.YtehnimafjgodeaaDoor
open Go.ChangeShapes Go.WideShapes Go.ChangeAt Go.RowKit
set_option maxRecDepth 100000

theorem fs_smalls {qs ps : List Ep} (h : fs1 qs = fs1 ps) (hp : ∀ t ∈ ps, small t) : ∀ t ∈ qs, small t := by
  intro t ht
  have : t.1 ∈ fs1 ps := by rw [← h]; exact List.mem_map.mpr ⟨t, ht, rfl⟩
  obtain ⟨u, hu, e⟩ := List.mem_map.mp this
  have := hp u hu
  unfold small at this ⊢
  rw [← e]
  exact this
theorem fs_lens {qs ps : List Ep} (h : fs1 qs = fs1 ps) : qs.length = ps.length := by have := congrArg List.length h; simpa using this
theorem fs_take (rs : List Ep) (n : Nat) : fs1 (rs.take n) = (fs1 rs).take n := by simp [fs1, List.map_take]
theorem bgn_same {qs ps ms : List Ep} (h : fs1 qs = fs1 ps) : bgn qs ms ↔ bgn ps ms := by
  unfold bgn
  rw [h, fs_lens h]
theorem rows_any (w : World) (v : Value) (ma : Option Addr) (mc : Nat) (ps ms : List Ep) (t : Ep) (a : Nat → Addr) (hE : Errs w a) (h : Ens w v ps) (hl : ps.length * 96 ≤ 140737488355328) (hs : ∀ t ∈ ps, small t) (hm : Ens w (.slice ma ms.length mc) ms) (hmc : ms.length ≤ mc) (ht : EnW w t) (hst : small t) :
    Calls Tryd.prog 6 #[v, .slice ma ms.length mc, vP t] w fun r w' => r = .returned (.bool true) ∧ Below w.heap.size w w' := by
  obtain ⟨bb, hbb⟩ := ex_bool (bgn ps ms)
  have hbg : ∀ qs : List Ep, fs1 qs = fs1 ps → (bb = true ↔ bgn qs ms) := fun qs hq => hbb.trans (bgn_same hq).symm
  obtain ⟨k, hk⟩ := plis_ex (fs1 ps) t.1.cl t.1.nu
  have hlen : (ps.length : Int) ≤ 9223372036854775806 := by omega
  by_cases hk0 : k = 0
  · subst hk0
    have h3 : ∀ W V (qs : List Ep), Ens W V qs → fs1 qs = fs1 ps → Below w.heap.size w W → Calls Tryd.prog 29 #[V, .int .i64 t.1.cl, .int .i64 t.1.nu] W fun r W' => r = .returned (.tuple #[.int .i64 0, vErr (a 2)]) ∧ Below W.heap.size W W' := fun W V qs hV hq hW => Place_no W V qs _ _ (a 2) hV (by rw [fs_lens hq]; omega) (by rw [hq]; exact hk) (hE.late hW).cell_gone
    have h4 : ∀ W, Below w.heap.size w W → Calls Tryd.prog 30 #[v, .int .i64 t.1.cl, .int .i64 t.1.nu] W fun r W' => r = .returned (.int .i64 0) ∧ Below W.heap.size W W' := fun W hW => rplace_any W v ps _ _ 0 (h.below hW) hlen hk
    by_cases h64 : 64 ≤ ps.length
    · refine rows_full w v ma mc ps ms t a 0 [] bb hE h hl hs hm hmc (fun W V qs hV hq hW => (add_full W V qs t (a 8) hV (by rw [fs_lens hq]; omega) (by rw [hq]; exact hk) (by rw [fs_lens hq]; exact h64) (hE.late hW).cell_full).mono ?_) (fun W hW => (radd_full W v ps t (h.below hW) hlen hk h64).mono ?_) h3 h4 (fun W V rs hL hq => ?_) hbg
      · rintro r w' ⟨rfl, hb⟩
        exact ⟨none, 0, [], rfl, ⟨World.ownsRow_nil _ _ _ _, fun t ht => by simp at ht, fun t ht => by simp at ht⟩, rfl, by simp, hb⟩
      · rintro r w' ⟨rfl, hb⟩
        exact ⟨none, 0, [], rfl, ens_zero w' none 0, rfl, hb⟩
      · obtain ⟨B, hL⟩ := hL
        have h0 : rs = [] := by simpa using hq
        subst h0
        exact hL.ens (by simp) (fun t ht => by simp at ht)
    · have hall : ∀ u ∈ ps ++ [t], small u := fun u hu => by
        rcases List.mem_append.mp hu with m | m
        · exact hs u m
        · simp at m; subst m; exact hst
      have hfs : fs1 (ps ++ [t]) = fs1 ps ++ [t.1] := by simp
      refine rows_new w v ma mc ps ms t a ((ps.length : Int) + 1) (fs1 (ps ++ [t])) bb hE h hl hs hm hmc (fun W V qs hV hq hW => (add_new W V qs t hV (fs_smalls hq hs) (EnW.below ht hW) hst (by rw [hq]; exact hk) (by rw [fs_lens hq]; omega)).mono ?_) (fun W hW => (radd_new W v ps t (h.below hW) hs (EnW.below ht hW) hk (by omega)).mono ?_) h3 h4 (fun W V rs hL hq => ?_) hbg (fun qs rs hq hr => ?_)
      · rintro r w' ⟨v', rs, rfl, hL, hr, hb⟩
        obtain ⟨oa, oc, rfl, hoc⟩ := own_sh hL.own
        exact ⟨oa, oc, rs, by rw [fs_lens hq], hL, by rw [hr, hq, hfs], hoc, hb⟩
      · rintro r w' ⟨ua, uc, us, rfl, hu, hr, hb⟩
        exact ⟨ua, uc, us, rfl, hu, by rw [hr, hfs], hb⟩
      · obtain ⟨B, hL⟩ := hL
        exact hL.ens (by rw [fs_lens hq]; simp; omega) (fs_small hq hall)
      · have e1 := fs_lens hq
        have e2 := fs_lens hr
        refine ⟨by rw [e1, e2]; simp, ?_⟩
        rw [fs_take, hr, hfs, hq, e1, List.take_left' (by simp)]
  · obtain ⟨j, rfl⟩ : ∃ j, k = j + 1 := ⟨k - 1, by omega⟩
    have h3 : ∀ W V (qs : List Ep), Ens W V qs → fs1 qs = fs1 ps → Below w.heap.size w W → Calls Tryd.prog 29 #[V, .int .i64 t.1.cl, .int .i64 t.1.nu] W fun r W' => r = .returned (.tuple #[.int .i64 ((j : Int) + 1), .nilIface]) ∧ Below W.heap.size W W' := fun W V qs hV hq hW => Place_yes W V qs _ _ j hV (by rw [fs_lens hq]; omega) (by rw [hq]; exact hk)
    have h4 : ∀ W, Below w.heap.size w W → Calls Tryd.prog 30 #[v, .int .i64 t.1.cl, .int .i64 t.1.nu] W fun r W' => r = .returned (.int .i64 ((j : Int) + 1)) ∧ Below W.heap.size W W' := fun W hW => by have := rplace_any W v ps _ _ (j + 1) (h.below hW) hlen hk; simpa using this
    obtain ⟨a0, cap0, rfl, _⟩ := id h
    refine rows_there w _ ma mc ps ms t a ((j : Int) + 1) j (fs1 ps) bb hE h hl hs hm hmc (fun W V qs hV hq hW => (add_there W V qs t j hV (by rw [fs_lens hq]; exact hl) (fs_smalls hq hs) (by rw [hq]; exact hk)).mono ?_) (fun W hW => (radd_there W _ ps t j (h.below hW) hlen hk).mono ?_) h3 h4 (fun W V rs hL hq => ?_) hbg (fun qs rs hq hr => ?_)
    · rintro r w' ⟨v', rs, rfl, hL, hr, hb⟩
      obtain ⟨oa, oc, rfl, hoc⟩ := own_sh hL.own
      exact ⟨oa, oc, rs, rfl, hL, hr.trans hq, hoc, hb⟩
    · rintro r w' ⟨rfl, hb⟩
      exact ⟨a0, cap0, ps, rfl, h.below (bt hW hb), rfl, hb⟩
    · obtain ⟨B, hL⟩ := hL
      exact hL.ens (by rw [fs_lens hq]; omega) (fs_small hq hs)
    · have e1 := fs_lens hq
      have e2 := fs_lens hr
      refine ⟨by omega, ?_⟩
      rw [fs_take, hr, hq, e1, List.take_of_length_le (by simp)]
end Go.Proofs.YtehnimafjgodeaaDoor
