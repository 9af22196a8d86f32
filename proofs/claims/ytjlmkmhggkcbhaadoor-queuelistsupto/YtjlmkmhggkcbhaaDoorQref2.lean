/- The document's queue: First, Push, Pop, Turn, Drop. -/
import Derived.Test.YtjlmkmhggkcbhaaDoorQout
namespace Go.Proofs.YtjlmkmhggkcbhaaDoor
open Go.ChangeShapes Go.WideShapes Go.ChangeAt Go.RowKit
set_option maxRecDepth 100000

/-- A place of the least thing. -/
def IsFst (L : List Th) (b : Nat) : Prop := b < L.length ∧ ∀ i, i < L.length → ¬ Ahd (gt L i) (gt L b)
set_option maxHeartbeats 3200000 in
theorem first_some (G : Nat → Prop) (w : World) (q : Nat) (L : List Th) (h : Rq G w q L) (hp : 0 < L.length) (hl : L.length ≤ 4096) :
    Calls Tryd.prog 30 #[.pointer (some ⟨q, 0, none⟩)] w fun e w' => ∃ b : Nat, e = .returned (.int .i64 (b : Int)) ∧ Hid (IsFst L b ∧ Below w.heap.size w w') := by
  obtain ⟨a, cap, q0, _, hv⟩ := h.view
  obtain ⟨g, rfl, _, _, _, hc⟩ := hv hp
  have HC := mkHid hc
  have hli : (L.length : Int) ≤ 4096 := by omega
  have HP := mkHid hp
  have HQ0 := mkHid q0
  clear hv h hl hc hp
  go_enter Tryd.func30, Tryd.ntmps30
  go_wp2
  go_loopw [3, 11] (fun bv iv wr => ∃ j : Nat, iv = .int .i64 (j : Int) ∧ j ≤ L.length ∧ Below w.heap.size w wr ∧ ((j = 0 ∧ bv = .int .i64 (-1)) ∨ ∃ b : Nat, bv = .int .i64 (b : Int) ∧ b < j ∧ ∀ i, i < j → ¬ Ahd (gt L i) (gt L b))) (fun _ iv _ => L.length - (intOf iv).toNat)
  case atStart => exact ⟨0, rfl, Nat.zero_le _, Below.refl _ _, .inl ⟨rfl, rfl⟩⟩
  case round =>
    clear q0
    obtain ⟨j, rfl, hj, hb, hbv⟩ := hrel
    have HB := mkHid hb
    clear hb
    by_cases hlt : j < L.length
    · obtain ⟨⟨c0, c1⟩, _⟩ := HC.out j hlt
      have d0 := bcell HB.out c0
      have d1 := bcell HB.out c1
      obtain ⟨x, hx⟩ : ∃ x, x = gt L j := ⟨_, rfl⟩
      rw [← hx] at d0 d1
      have HX := mkHid hx
      have hji : (j : Int) < L.length := by omega
      have HA := mkHid (HB.out.alloc HB.out.size (.cells #[.int .i64 x.1, .int .i64 x.2] 52))
      clear c0 c1 hx
      rcases hbv with ⟨rfl, rfl⟩ | ⟨b, rfl, hbj, hbm⟩
      · go_wp2
        go_quiet (fail)
        go_wp2
        go_roundw
        case rel => exact ⟨1, rfl, by omega, HA.out.trans ⟨rfl, rfl, rfl, Nat.le_refl _, fun _ _ => rfl⟩, .inr ⟨0, rfl, by omega, fun i hi => by rw [show i = 0 by omega]; exact Ahd.irrefl _⟩⟩
        case measure => simp [intOf]; omega
      · have HBM := mkHid hbm
        obtain ⟨⟨e0, e1⟩, _⟩ := HC.out b (by omega)
        obtain ⟨W, hW⟩ : ∃ W, W = wr.alloc (.cells #[.int .i64 x.1, .int .i64 x.2] 52) := ⟨_, rfl⟩
        rw [← hW] at HA
        have f0 := bcell HA.out e0
        have f1 := bcell HA.out e1
        have q0 := bcell HA.out HQ0.out
        have s0 : W.cell? ⟨wr.heap.size, 0, none⟩ = some (.int .i64 x.1) := by rw [hW]; simp
        have s1 : W.cell? ⟨wr.heap.size, 1, none⟩ = some (.int .i64 x.2) := by rw [hW]; simp
        obtain ⟨y, hy⟩ : ∃ y, y = gt L b := ⟨_, rfl⟩
        rw [← hy] at f0 f1
        have HY := mkHid hy
        have hbi : (b : Int) < L.length := by omega
        have hbn : ¬ (b : Int) < 0 := by omega
        have HREST : Hid (∀ W5, Below W.heap.size W W5 → W5.cell? ⟨wr.heap.size, 0, none⟩ = some (.int .i64 x.1) ∧ W5.cell? ⟨wr.heap.size, 1, none⟩ = some (.int .i64 x.2) ∧ W5.cell? ⟨q, 0, none⟩ = some (.slice (some ⟨g, 0, none⟩) L.length cap) ∧ W5.cell? ⟨g, b * 2, none⟩ = some (.int .i64 y.1) ∧ W5.cell? ⟨g, b * 2 + 1, none⟩ = some (.int .i64 y.2)) := mkHid (fun W5 hb => ⟨bcell hb s0, bcell hb s1, bcell hb q0, bcell hb f0, bcell hb f1⟩)
        clear e0 e1 hy hbm
        go_wp2
        rw [← hW]
        clear hW d0 d1
        by_cases ha : Ahd x y
        · have hd : ahb x y = true := ahb_true ha
          go_region_held3 (fun w' => w'.cell? ⟨wr.heap.size, 0, none⟩ = some (.int .i64 x.1) ∧ w'.cell? ⟨wr.heap.size, 1, none⟩ = some (.int .i64 x.2) ∧ w'.cell? ⟨q, 0, none⟩ = some (.slice (some ⟨g, 0, none⟩) L.length cap) ∧ w'.cell? ⟨g, b * 2, none⟩ = some (.int .i64 y.1) ∧ w'.cell? ⟨g, b * 2 + 1, none⟩ = some (.int .i64 y.2)) (go_keep) (first | (go_at_call 22; refine (ref_ahead x y _).mono ?_; rintro e W5 ⟨rfl, hb⟩; have hb5 : Below W.heap.size W W5 := ((Below.refl _ W).drew).trans hb; obtain ⟨v0, v1, v2, v3, v4⟩ := HREST.out W5 hb5; have HB5 := mkHid hb5; clear hb hb5))
          go_wp2
          go_roundw
          case rel =>
            refine ⟨j + 1, by go_num, by omega, HA.out.trans (HB5.out.mono HA.out.size), .inr ⟨j, rfl, by omega, fun i hi => ?_⟩⟩
            rw [← HX.out]
            by_cases e : i = j
            · subst e; rw [← HX.out]; exact Ahd.irrefl _
            · have h1 := HBM.out i (by omega)
              rw [← HY.out] at h1
              exact not_ahd_trans h1 ha.asymm
          case measure => simp [intOf]; omega
        · have hd : ahb x y = false := ahb_false ha
          go_region_held3 (fun w' => w'.cell? ⟨wr.heap.size, 0, none⟩ = some (.int .i64 x.1) ∧ w'.cell? ⟨wr.heap.size, 1, none⟩ = some (.int .i64 x.2) ∧ w'.cell? ⟨q, 0, none⟩ = some (.slice (some ⟨g, 0, none⟩) L.length cap) ∧ w'.cell? ⟨g, b * 2, none⟩ = some (.int .i64 y.1) ∧ w'.cell? ⟨g, b * 2 + 1, none⟩ = some (.int .i64 y.2)) (go_keep) (first | (go_at_call 22; refine (ref_ahead x y _).mono ?_; rintro e W5 ⟨rfl, hb⟩; have hb5 : Below W.heap.size W W5 := ((Below.refl _ W).drew).trans hb; obtain ⟨v0, v1, v2, v3, v4⟩ := HREST.out W5 hb5; have HB5 := mkHid hb5; clear hb hb5))
          go_wp2
          go_roundw
          case rel =>
            refine ⟨j + 1, by go_num, by omega, HA.out.trans (HB5.out.mono HA.out.size), .inr ⟨b, rfl, by omega, fun i hi => ?_⟩⟩
            by_cases e : i = j
            · subst e; rw [← HX.out, ← HY.out]; exact ha
            · exact HBM.out i (by omega)
          case measure => simp [intOf]; omega
    · obtain rfl : j = L.length := by omega
      rcases hbv with ⟨h0, _⟩ | ⟨b, rfl, hbj, hbm⟩
      · exact absurd h0 (by have := HP.out; omega)
      · have HBM := mkHid (And.intro hbj hbm)
        clear hbm
        go_wp2
        go_ret
        exact ⟨b, rfl, HBM.out, HB.out⟩
theorem first_none (G : Nat → Prop) (w : World) (q : Nat) (h : Rq G w q []) :
    Calls Tryd.prog 30 #[.pointer (some ⟨q, 0, none⟩)] w fun e w' => e = .returned (.int .i64 (-1)) ∧ w' = w := by
  obtain ⟨a, cap, q0, _, hv⟩ := h.view
  clear hv h
  simp only [List.length_nil] at q0
  go_enter Tryd.func30, Tryd.ntmps30
  go_wp2
  go_loopw [3, 11] (fun bv iv wr => iv = .int .i64 0 ∧ bv = .int .i64 (-1) ∧ wr = w) (fun _ _ _ => 0)
  case atStart => exact ⟨rfl, rfl, rfl⟩
  case round =>
    obtain ⟨rfl, rfl, rfl⟩ := hrel
    go_wp2
    go_ret
    exact ⟨rfl, rfl⟩
theorem Rq.pushed {G : Nat → Prop} {w : World} {q : Nat} {L : List Th} (h : Rq G w q L) (x : Th) :
    ∃ sv, w.heap[q]? = some (.cells #[sv] 30 (0, 0)) ∧ w.ownsRow 0 52 2 sv L.length (tcs L) ∧ (∀ k, sv.ownBlock = some k → k < w.heap.size) ∧
      ∀ (w4 w5 : World) (v5 : Value), Below w.heap.size w w4 → w4.grownBy w5 sv.ownBlock → (v5.ownBlock = sv.ownBlock ∨ v5.ownBlock = some w4.heap.size) → w5.ownsRow 0 52 2 v5 (L.length + 1) (tcs L ++ tc x) →
        w5.heap[q]? = some (.cells #[sv] 30 (0, 0)) ∧ ∃ G', Rq G' (w5.setCell ⟨q, 0, none⟩ v5) q (L ++ [x]) ∧ (∀ k, G' k → G k ∨ w.heap.size ≤ k) ∧ Kept G w (w5.setCell ⟨q, 0, none⟩ v5) := by
  obtain ⟨hG, hq, cv, hd, hcv, ho⟩ := h
  refine ⟨cv, hd, ho, fun k hk => hG k (hcv k hk).1, fun w4 w5 v5 hb4 hg hv ho5 => ?_⟩
  have hk5 : Kept (fun k => cv.ownBlock = some k) w w5 := (kept_below _ hb4).trans (Kept.grown hg (fun k hk => hk)) (fun _ h => .inl h)
  have hd5 : w5.heap[q]? = some (.cells #[cv] 30 (0, 0)) := by
    rw [hk5.block q (hG q hq) (fun e => (hcv q e).2 rfl)]
    exact hd
  have k6 : Kept (fun k => k = q) w5 (w5.setCell ⟨q, 0, none⟩ v5) := Kept.setCell (F := fun k => k = q) w5 (p := ⟨q, 0, none⟩) rfl v5
  have hs4 := hb4.size
  have hs5 := hg.size
  have hs7 := k6.size
  have hpl := hG q hq
  have hv5 : ∀ k, v5.ownBlock = some k → (G k ∨ w.heap.size ≤ k) ∧ k ≠ q ∧ k < w5.heap.size := by
    intro k hk
    have hlt := (ho5.lt k hk).2
    rcases hv with e | e
    · rw [e] at hk
      obtain ⟨a1, a2⟩ := hcv k hk
      exact ⟨.inl a1, a2, hlt⟩
    · rw [e] at hk
      simp at hk
      exact ⟨.inr (by omega), by omega, hlt⟩
  refine ⟨hd5, fun k => G k ∨ v5.ownBlock = some k, ⟨fun k hk => ?_, .inl hq, v5, ?_, fun k hk => ⟨.inr hk, (hv5 k hk).2.1⟩, ?_⟩, fun k hk => ?_, ?_⟩
  · rcases hk with hk | hk
    · have := hG k hk; omega
    · have := (hv5 k hk).2.2; omega
  · rw [heap_set hd5]
    rfl
  · rw [tcs_append, List.length_append]
    have : tcs [x] = tc x := by simp [tcs]
    rw [this]
    exact own_keep ho5 k6 (fun k hk => (hv5 k hk).2.1)
  · rcases hk with hk | hk
    · exact .inl hk
    · exact (hv5 k hk).1
  · exact (hk5.mono (fun k hk => (hcv k hk).1)).trans k6 (fun k hk => .inl (by rw [hk]; exact hq))
/-- What Push answers: the error's number. -/
def pcode (L : List Th) (id : Int) : Int := if 0 ≤ fnd L id then 6 else if 4096 ≤ L.length then 7 else 0
def pushL (L : List Th) (id r : Int) : List Th := if pcode L id = 0 then L ++ [(id, r)] else L
set_option maxHeartbeats 1600000 in
theorem rpush_is (G : Nat → Prop) (w : World) (q : Nat) (L : List Th) (id r : Int) (h : Rq G w q L) (hl : L.length ≤ 4096) :
    Calls Tryd.prog 28 #[.pointer (some ⟨q, 0, none⟩), .int .i64 id, .int .i64 r] w fun e w' => e = .returned (.int .i64 (pcode L id)) ∧ Hid (∃ G', Rq G' w' q (pushL L id r) ∧ (∀ k, G' k → G k ∨ w.heap.size ≤ k) ∧ Kept G w w') := by
  have HF := mkHid (find_is G w q L id h hl)
  obtain ⟨f, hf⟩ : ∃ f, f = fnd L id := ⟨_, rfl⟩
  rw [← hf] at HF
  have HFD := mkHid hf
  have HR := mkHid h
  by_cases h1 : 0 ≤ f
  · have hc : pcode L id = 6 := by unfold pcode; rw [← hf, if_pos h1]
    have hp : pushL L id r = L := by unfold pushL; rw [hc]; rfl
    rw [hc, hp]
    clear h hl hf hc hp
    go_enter Tryd.func28, Tryd.ntmps28
    go_wp2_with (first | (go_at_call 42; refine HF.out.mono ?_; rintro e w1 ⟨rfl, hb⟩; have HB := mkHid hb; clear hb))
    go_ret
    exact ⟨rfl, G, HR.out.below HB.out, fun k hk => .inl hk, kept_below G HB.out⟩
  · by_cases h2 : (4096 : Int) ≤ L.length
    · have hc : pcode L id = 7 := by unfold pcode; rw [← hf, if_neg h1, if_pos (by omega)]
      have hp : pushL L id r = L := by unfold pushL; rw [hc]; rfl
      rw [hc, hp]
      obtain ⟨a, cap, q0, _, hv⟩ := h.view
      have HQ0 := mkHid q0
      clear h hl hf hc hp hv q0
      go_enter Tryd.func28, Tryd.ntmps28
      go_wp2_with (first | (go_at_call 42; refine HF.out.mono ?_; rintro e w1 ⟨rfl, hb⟩; have HB := mkHid hb; have q1 := bcell hb HQ0.out; clear hb))
      go_ret
      exact ⟨rfl, G, HR.out.below HB.out, fun k hk => .inl hk, kept_below G HB.out⟩
    · have hc : pcode L id = 0 := by unfold pcode; rw [← hf, if_neg h1, if_neg (by omega)]
      have hp : pushL L id r = L ++ [(id, r)] := by unfold pushL; rw [hc]; rfl
      rw [hc, hp]
      have HLN : Hid (L.length + 1 ≤ maxLen ∧ (L.length + 1) * 16 ≤ 140737488355328) := mkHid ⟨by unfold maxLen; omega, by omega⟩
      obtain ⟨ie, hie⟩ : ∃ ie, Hid (Tryd.prog.info? 52 = some ie ∧ ie.zero = some zth ∧ ie.size = 2 ∧ ie.bytes = 16) := by
        obtain ⟨ie, h1, h2, h3, h4⟩ := info_parts infoTh
        exact ⟨ie, mkHid ⟨h1, h2, h3, h4⟩⟩
      clear h hl hf hc hp
      go_enter Tryd.func28, Tryd.ntmps28
      go_wp2_with (first
        | (go_at_call 42; refine HF.out.mono ?_; rintro e w1 ⟨rfl, hb⟩; obtain ⟨sv, hd, ho, hsz, hfin⟩ := (HR.out.below hb).pushed (id, r); obtain ⟨sa, sc, rfl⟩ := own_shape ho; have p0 : w1.cell? ⟨q, 0, none⟩ = some (.slice sa L.length sc) := cell_of_block hd rfl; have HB := mkHid hb; have HO := mkHid ho; have HFIN := mkHid hfin; clear hb hd ho hsz hfin)
        | (at_builtin; refine wpList_append_src2 _ rfl (.tmp 21) (.tmp 25) 28 28 rfl 0 52 ie Tryd.underlying28 hie.out.1 zth 16 hie.out.2.1 rfl hie.out.2.2.1 hie.out.2.2.2 (.slice sa L.length sc) L.length (tcs L) rfl (HO.out.alloc _) (.slice (some ⟨w1.heap.size, 0, none⟩) 1 1) 1 (tc (id, r)) rfl (srcTh w1 (id, r)) HLN.out.1 HLN.out.2 (Nat.zero_le _) ?_; intro v5 w5 ho5 hg5 hat5; obtain ⟨hd5, hfin⟩ := HFIN.out _ w5 v5 ((Below.refl _ w1).alloc (Nat.le_refl _) _) hg5 hat5 ho5; have e0 : w5.cell? ⟨q, 0, none⟩ = some (.slice sa L.length sc) := cell_of_block hd5 rfl; have f0 : w5.frozen? ⟨q, 0, none⟩ = false := frozen_of_block hd5; obtain ⟨a5, c5, rfl⟩ := own_shape ho5; have HE := mkHid hfin; clear hd5 hfin ho5 hg5 hat5))
      go_ret
      obtain ⟨G', g1, g2, g3⟩ := HE.out
      have hs := HB.out.size
      exact ⟨rfl, G', g1, fun k hk => (g2 k hk).imp (fun h => h) (fun h => by omega), (kept_below G HB.out).trans g3 (fun _ h => .inl h)⟩
end Go.Proofs.YtjlmkmhggkcbhaaDoor
