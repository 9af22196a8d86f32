/- take. -/
import Derived.Test.YtjlmkmhggkcbhaaDoorPput
namespace Go.Proofs.YtjlmkmhggkcbhaaDoor
open Go.ChangeShapes Go.WideShapes Go.ChangeAt Go.RowKit
set_option maxRecDepth 100000

theorem Pv.cut {F : Nat → Prop} {w : World} {p : Nat} {T : TypeId} {xs : List Th} {m : Int → Option Nat} {mb g cap : Nat} (h : Pv F w p T xs m mb g cap) (n : Nat) (hn : n ≤ xs.length) :
    Rp F (w.setCell ⟨p, 0, none⟩ (.slice (some ⟨g, 0, none⟩) n cap)) p T (xs.take n) m ∧ Kept F w (w.setCell ⟨p, 0, none⟩ (.slice (some ⟨g, 0, none⟩) n cap)) := by
  have k6 : Kept (fun k => k = p) w (w.setCell ⟨p, 0, none⟩ (.slice (some ⟨g, 0, none⟩) n cap)) := Kept.setCell (F := fun k => k = p) w (p := ⟨p, 0, none⟩) rfl _
  refine ⟨⟨fun k hk => Nat.lt_of_lt_of_le (h.hF k hk) k6.size, h.fp, mb, .slice (some ⟨g, 0, none⟩) n cap, h.fm, h.pm, ?_, h.mi.kept k6 (fun e => h.pm e.symm), fun k hk => ?_, ?_⟩, k6.mono (fun k e => by rw [e]; exact h.fp)⟩
  · rw [heap_set h.hd]
    simp
  · simp [Value.ownBlock] at hk
    subst hk
    exact ⟨h.fg, h.gp, h.gm⟩
  · have hl : (xs.take n).length = n := by rw [List.length_take]; omega
    have e : tcs (xs.take n) = (tcs xs).take (n * 2) := by
      have e0 : tcs xs = tcs (xs.take n) ++ tcs (xs.drop n) := by rw [← tcs_append, List.take_append_drop]
      rw [e0]
      exact (List.take_left' (by rw [tcs_len, hl])).symm
    rw [hl]
    rcases h.ho.2 with ⟨h0, _⟩ | ⟨g', cap', cur, h0, hb, hg, hnc, hcm, hcs, ht⟩
    · simp at h0
    · simp at h0
      obtain ⟨rfl, rfl⟩ := h0
      refine ⟨by rw [tcs_len, hl], .inr ⟨g, cap, cur, rfl, hb, ?_, by omega, hcm, hcs, ?_⟩⟩
      · rw [k6.block g (Array.getElem?_eq_some_iff.1 hg).1 h.gp]
        exact hg
      · rw [e, ← ht, List.take_take]
        congr 1
        omega
set_option maxHeartbeats 1600000 in
theorem take_is (F : Nat → Prop) (w : World) (p : Nat) (T : TypeId) (V : List Th) (i : Nat) (h : Pq F w p T V) (hi : i < V.length) (hl : V.length ≤ 1000000000000) :
    Calls Tryd.prog 39 #[.pointer (some ⟨p, 0, none⟩), .int .i64 (i : Int)] w fun e w' => e = .returned (.tuple #[]) ∧ ∃ V', Pq F w' p T V' ∧ (∀ y, y ∈ V' ↔ y ∈ V ∧ y.1 ≠ (gt V i).1) ∧ V'.length + 1 = V.length ∧ Kept F w w' := by
  obtain ⟨m, hR, hH, hI⟩ := h
  obtain ⟨mb, g, cap, hP⟩ := hR.view (by omega)
  obtain ⟨n, hn⟩ : ∃ n, V.length = n + 1 := ⟨V.length - 1, by omega⟩
  have HN := mkHid hn
  have HI := mkHid hI
  have HH := mkHid hH
  have HL := mkHid hl
  have HIL := mkHid hi
  have p0 : w.cell? ⟨p, 0, none⟩ = some (.slice (some ⟨g, 0, none⟩) V.length cap) := cell_of_block hP.hd rfl
  obtain ⟨z0, z1⟩ := hP.at n (by omega)
  obtain ⟨W, hW⟩ : ∃ W, W = w.alloc (.cells #[.int .i64 (gt V n).1, .int .i64 (gt V n).2] 52) := ⟨_, rfl⟩
  have hb : Below w.heap.size w W := by rw [hW]; exact (Below.refl _ w).alloc (Nat.le_refl _) _
  have hPW := hP.below hb
  have HPW := mkHid hPW
  have HB := mkHid hb
  have HF := mkHid hP.hF
  have e1 : wrap64 ((V.length : Int) - 1) = (n : Int) := by unfold wrap64; omega
  have hni : (n : Int) < V.length := by omega
  have hii : (i : Int) < V.length := by omega
  obtain ⟨x, hx⟩ : ∃ x, x = gt V n := ⟨_, rfl⟩
  have HX := mkHid hx
  rw [← hx] at z0 z1 hW
  clear hR hH hI hP hi hl hn hPW hb hx
  go_enter Tryd.func39, Tryd.ntmps39
  go_wp2
  rw [← hW]
  (try simp only [e1])
  have q0 : W.cell? ⟨p, 0, none⟩ = some (.slice (some ⟨g, 0, none⟩) V.length cap) := cell_of_block HPW.out.hd rfl
  have q1 : W.cell? ⟨p, 1, none⟩ = some (.map (some mb)) := cell_of_block HPW.out.hd rfl
  have x0 : W.cell? ⟨w.heap.size, 0, none⟩ = some (.int .i64 x.1) := by rw [hW]; simp
  have x1 : W.cell? ⟨w.heap.size, 1, none⟩ = some (.int .i64 x.2) := by rw [hW]; simp
  obtain ⟨y0, _⟩ := HPW.out.at i HIL.out
  clear hW p0 z0 z1
  have hPd : Pv F W.drew p T V m mb g cap := HPW.out.below ⟨rfl, rfl, rfl, Nat.le_refl _, fun _ _ => rfl⟩
  obtain ⟨W3, hdel, hM3, hk3⟩ := hPd.mi.drop (gt V i).1 0
  have HP3 := mkHid (hPd.mapped hM3 hk3)
  have r0 : W3.cell? ⟨p, 0, none⟩ = some (.slice (some ⟨g, 0, none⟩) V.length cap) := hk3.cell (w := W.drew) q0 hPd.pm
  have r1 : W3.cell? ⟨p, 1, none⟩ = some (.map (some mb)) := hk3.cell (w := W.drew) q1 hPd.pm
  have r2 : W3.cell? ⟨g, i * 2, none⟩ = some (.int .i64 (gt V i).1) := hk3.cell (w := W.drew) y0 hPd.gm
  have nmb : ¬ w.heap.size = mb := fun e => by have := HF.out _ hPd.fm; omega
  have u0 : W3.cell? ⟨w.heap.size, 0, none⟩ = some (.int .i64 x.1) := hk3.cell (w := W.drew) x0 nmb
  have u1 : W3.cell? ⟨w.heap.size, 1, none⟩ = some (.int .i64 x.2) := hk3.cell (w := W.drew) x1 nmb
  have HK3 : Hid (Kept F w W3) := mkHid (((kept_below F HB.out).trans (Kept.drew F _) (fun _ h => .inl h)).trans hk3 (fun k e => .inl (by rw [e]; exact hPd.fm)))
  clear hPd hM3 hk3 nmb
  go_region_held3 (fun w' => w'.cell? ⟨p, 0, none⟩ = some (.slice (some ⟨g, 0, none⟩) V.length cap) ∧ w'.cell? ⟨p, 1, none⟩ = some (.map (some mb)) ∧ w'.cell? ⟨g, i * 2, none⟩ = some (.int .i64 (gt V i).1)) (go_keep) (fail)
  clear q0 q1 x0 x1 y0 hdel
  have hcap : (n : Int) ≤ cap := by
    have hn := HN.out
    rcases HP3.out.ho.2 with ⟨h0, _⟩ | ⟨g', cap', cur, h0, hb, hg, hnc, _⟩
    · simp at h0
    · simp at h0
      omega
  have f0 : W3.frozen? ⟨p, 0, none⟩ = false := frozen_of_block HP3.out.hd
  obtain ⟨hR4, hK4⟩ := HP3.out.cut n (by have := HN.out; omega)
  obtain ⟨W4, hW4⟩ : ∃ W4, W4 = W3.setCell ⟨p, 0, none⟩ (.slice (some ⟨g, 0, none⟩) n cap) := ⟨_, rfl⟩
  have nF : ¬ F w.heap.size := fun f => absurd (HF.out _ f) (Nat.lt_irrefl _)
  have v0 : (W3.setCell ⟨p, 0, none⟩ (.slice (some ⟨g, 0, none⟩) n cap)).cell? ⟨w.heap.size, 0, none⟩ = some (.int .i64 x.1) := hK4.cell u0 nF
  have v1 : (W3.setCell ⟨p, 0, none⟩ (.slice (some ⟨g, 0, none⟩) n cap)).cell? ⟨w.heap.size, 1, none⟩ = some (.int .i64 x.2) := hK4.cell u1 nF
  rw [← hW4] at hR4 hK4
  have HR4 := mkHid hR4
  have HK4 : Hid (Kept F w W4) := mkHid (HK3.out.trans hK4 (fun _ h => .inl h))
  have HW4 := mkHid hW4
  clear hR4 hK4 nF hW4
  by_cases hin : (i : Int) < n
  · have HS4 : Hid (Sg F W4 W4 p T ((V.take n).set i x) x ((V.take n).set i x) i) := mkHid (by
      have hn := HN.out
      have hl : (V.take n).length = n := by rw [List.length_take]; omega
      have hi : i < (V.take n).length := by omega
      have hx := HX.out
      refine ⟨⟨V.take n, del m (gt V i).1, HR4.out, ⟨by simp, fun j hj => by rw [gt_set _ _ _ _ hi, if_neg (fun e => hj e.symm)]⟩, ?_⟩, HeapEx.of_heap (HH.out.take n (by omega)) i _ hi, by rw [List.length_set]; exact hi, by rw [gt_set _ _ _ _ hi, if_pos rfl], fun _ => Iff.rfl, rfl, Kept.refl _ _⟩
      rw [hx]
      exact IdxEx.of_take HI.out i n hn (by omega))
    go_wp2_with (first
      | (go_at_call 48; (try rw [← HW4.out]); refine (settle_is F W4 p T _ x i HS4.out (by have := HL.out; simp; omega)).mono ?_; rintro e w5 ⟨rfl, hQ⟩; have HQ := mkHid hQ; clear hQ))
    go_end0
    obtain ⟨V', h1, h2, h3, h4⟩ := HQ.out
    have hn := HN.out
    refine ⟨rfl, V', h1, fun y => (h2 y).trans ?_, ?_, HK4.out.trans h4 (fun _ h => .inl h)⟩
    · rw [HX.out]
      exact mem_taken HI.out i n hn (by omega) y
    · rw [h3, List.length_set, List.length_take]
      omega
  · go_wp2
    go_end0
    have hn := HN.out
    have hi : i = n := by have := HIL.out; omega
    subst hi
    rw [← HW4.out]
    refine ⟨rfl, V.take i, ⟨_, HR4.out, HH.out.take i (by omega), Idx.of_last HI.out i hn⟩, fun a b => mem_last HI.out i hn (a, b), by rw [List.length_take]; omega, HK4.out⟩
end Go.Proofs.YtjlmkmhggkcbhaaDoor
