/- area.read. -/
import Derived.Test.YtcbimclgodkflaaDoorWread
namespace Go.Proofs.YtcbimclgodkflaaDoor
open Go.ChangeShapes Go.WideShapes Go.ChangeAt Go.RowKit
set_option maxRecDepth 100000

set_option maxHeartbeats 12800000 in
theorem aread_any (F : Nat → Prop) (w : World) (p n : Nat) (f : Int → List Int) (c : List (Int × List Int)) (nw : Int) (fr N : Nat) (t1 t2 t3 : TypeId) (d1 d2 d3 : Value) (h : Dk F w p n f c nw false) (hN : fr + N ≤ n) (hn2 : (n : Int) ≤ 1024) (hcl : c.length ≤ 1000000000000)
    (h1 : w.cell? ⟨5, 0, none⟩ = some (.iface t1 d1)) (h2 : w.cell? ⟨3, 0, none⟩ = some (.iface t2 d2)) (h3 : w.cell? ⟨6, 0, none⟩ = some (.iface t3 d3)) :
    Calls Tryd.prog 51 #[.agg #[.int .i64 (fr : Int), .int .i64 ((fr : Int) + (N : Int)), .slice none 0 0, .int .i64 (fr : Int)], .pointer (some ⟨p, 0, none⟩)] w (AreaPost w fr N (areaGo (seenOf f c) (N + 1) [] (fr : Int) N)) := by
  obtain ⟨ie, hie, hz1, hz2, hz3⟩ := info_parts infoRec
  have HI := mkHid (And.intro hie (And.intro hz1 (And.intro hz2 hz3)))
  have HG : Hid (∀ i, (seenOf f c i).length = 64) := mkHid (fun i => (h.seen_sec i).len)
  have HST : Hid (∀ (wr : World) (nx rem : Nat), Below w.heap.size w wr → nx + rem = fr + N → Calls Tryd.prog 68 #[.pointer (some ⟨p, 0, none⟩), .int .i64 (nx : Int), .int .i64 ((fr : Int) + (N : Int))] wr (StandPost wr (stand (seenOf f c) (nx : Int) rem))) := mkHid (fun wr nx rem hb hs => by
    have := standing_any F wr p n f c nw nx rem t1 t2 t3 d1 d2 d3 (h.below hb) (by omega) hn2 hcl ((hb.cell (World.block_lt_of_cell? w _ h1)).trans h1) ((hb.cell (World.block_lt_of_cell? w _ h2)).trans h2) ((hb.cell (World.block_lt_of_cell? w _ h3)).trans h3)
    rw [show (fr : Int) + (N : Int) = (nx : Int) + (rem : Int) by omega]
    exact this)
  clear h h1 h2 h3 hie hz1 hz2 hz3
  generalize seenOf f c = g at *
  have hN1 : (fr : Int) + (N : Int) ≤ 1024 := by omega
  go_enter Tryd.func51, Tryd.ntmps51
  go_wp2
  go_loopw [] (fun wr => ∃ v ts F k nx rem, Hid (AR w wr fr N g v ts F k nx rem)) (fun wr => fr + N - nxOf wr w.heap.size)
  case atStart => exact ⟨_, _, _, _, _, _, mkHid (AR.start w fr N g)⟩
  case round =>
    obtain ⟨v, ts, F1, k, nx, rem, HA⟩ := hrel
    obtain ⟨va, vc, rfl⟩ := HA.out.recs.shape
    obtain ⟨q0, q1, q2, q3, _, _, y2, y3⟩ := four_facts HA.out.box
    have hsum := HA.out.sum
    have htl := HA.out.tl
    have HC := mkHid (HST.out wr nx rem HA.out.bel hsum)
    cases hst : stand g (nx : Int) rem with
    | none =>
      rw [hst] at HC
      have HE := mkHid (areaGo_end (k := k) (rs := ts.map (·.1)) hst)
      clear hst
      go_wp2_with (go_at_call 68; refine HC.out.mono ?_; rintro e w2 ⟨hb2, ⟨r, m, a, c, ho, _⟩ | ⟨_, rfl⟩⟩ <;> first | (exfalso; simp at ho; done) | (have hb3 := hb2.alloc hb2.size (.cells #[.int .i64 0, .int .i64 0, .int .i64 0, .slice none 0 0] 92); clear q0 q1 q2 q3 y2 y3; obtain ⟨q0, q1, q2, q3, _, _, _, _⟩ := four_facts (HA.out.box' hb3); obtain ⟨z0, z1, z2, z3, x0, x1, x2, x3⟩ := four_facts (HA.out.res' hb3); have HB3 := mkHid hb3; clear hb2 hb3))
      all_goals exact bodyPost_ret (area_leaves rfl (afour_leaves (HA.out.res' HB3.out) _ _ _ _) _ rfl) rfl (HA.out.end HE.out HB3.out _ _ _ _)
    | some rm =>
      obtain ⟨r, m⟩ := rm
      rw [hst] at HC
      have HS := mkHid hst
      cases hgo : goesOn (ts.map (·.1)) r with
      | false =>
        have HE := mkHid (areaGo_stop (k := k) hst hgo)
        have HGO := mkHid hgo
        clear hst hgo
        go_wp2_with (first
          | (go_at_call 68; refine HC.out.mono ?_; rintro e w2 ⟨hb2, ⟨r2, m2, a2, c2, ho, rfl, hrd, hown⟩ | ⟨ho, _⟩⟩ <;> first | (exfalso; simp at ho; done) | (simp at ho; obtain ⟨rfl, rfl⟩ := ho; have hb3 := hb2.alloc hb2.size (.cells #[.int .i64 (r.gen : Int), .int .i64 (r.epoch : Int), .int .i64 (r.index : Int), .slice a2 r.data.length c2] 92); clear q0 q1 q2 q3 y2 y3; obtain ⟨q0, q1, q2, q3, _, _, _, _⟩ := four_facts (HA.out.box' hb3); have hn := heap_alloc_new w2 (.cells #[.int .i64 (r.gen : Int), .int .i64 (r.epoch : Int), .int .i64 (r.index : Int), .slice a2 r.data.length c2] 92); obtain ⟨z0, z1, z2, z3, _, _, _, _⟩ := four_facts hn; have HB3 := mkHid hb3; clear hb2 hb3 hn hrd hown))
          | (go_at_call 69; refine (goes_any _ _ _ _ _ _ ts r (HA.out.recs.below HB3.out) (by omega)).mono ?_; rintro e w4 ⟨rfl, hb4⟩; rw [HGO.out]; have hb4' := HB3.out.trans (hb4.mono HB3.out.size); clear q0 q1 q2 q3 z0 z1 z2 z3; obtain ⟨q0, q1, q2, q3, _, _, _, _⟩ := four_facts (HA.out.box' hb4'); obtain ⟨z0, z1, z2, z3, x0, x1, x2, x3⟩ := four_facts (HA.out.res' hb4'); have HB4 := mkHid hb4'; clear hb4 hb4'))
        all_goals exact bodyPost_ret (area_leaves rfl (afour_leaves (HA.out.res' HB4.out) _ _ _ _) _ rfl) rfl (HA.out.end HE.out HB4.out _ _ _ _)
      | true =>
        obtain ⟨_, hm1, hmr⟩ := stand_fits HG.out hst
        have hw1 : IntKind.i64.wrap ((nx : Int) + (m : Int)) = (nx : Int) + (m : Int) := by rw [IntKind.wrap_i64]; omega
        have HGO := mkHid hgo
        have HL : Hid (ts.length + 1 ≤ 1025) := mkHid (by omega)
        clear hst hgo
        go_wp2_with (first
          | (go_at_call 68; refine HC.out.mono ?_; rintro e w2 ⟨hb2, ⟨r2, m2, a2, c2, ho, rfl, hrd, hown⟩ | ⟨ho, _⟩⟩ <;> first | (exfalso; simp at ho; done) | (simp at ho; obtain ⟨rfl, rfl⟩ := ho; have hb3 := hb2.alloc hb2.size (.cells #[.int .i64 (r.gen : Int), .int .i64 (r.epoch : Int), .int .i64 (r.index : Int), .slice a2 r.data.length c2] 92); have hb23 := (Below.refl w2.heap.size w2).alloc (Nat.le_refl _) (.cells #[.int .i64 (r.gen : Int), .int .i64 (r.epoch : Int), .int .i64 (r.index : Int), .slice a2 r.data.length c2] 92); clear q0 q1 q2 q3 y2 y3; obtain ⟨q0, q1, q2, q3, _, _, _, _⟩ := four_facts (HA.out.box' hb3); have hn := heap_alloc_new w2 (.cells #[.int .i64 (r.gen : Int), .int .i64 (r.epoch : Int), .int .i64 (r.index : Int), .slice a2 r.data.length c2] 92); obtain ⟨z0, z1, z2, z3, _, _, _, _⟩ := four_facts hn; have HN := mkHid hn; have HB3 := mkHid hb3; have HB23 := mkHid hb23; have HRD := mkHid hrd; have HOW := mkHid hown; have HS2 := mkHid hb2.size; clear hb2 hb3 hb23 hn hrd hown))
          | (go_at_call 69; refine (goes_any _ _ _ _ _ _ ts r (HA.out.recs.below HB3.out) (by omega)).mono ?_; rintro e w4 ⟨rfl, hb4⟩; rw [HGO.out]; have hb4' := HB3.out.trans (hb4.mono HB3.out.size); clear q0 q1 q2 q3 z0 z1 z2 z3; obtain ⟨q0, q1, q2, q3, _, _, y2, y3⟩ := four_facts (HA.out.box' hb4'); have hn4 := HN.out; rw [← hb4.block _ (lt_of_heap hn4)] at hn4; obtain ⟨z0, z1, z2, z3, _, _, _, _⟩ := four_facts hn4; have HB4 := mkHid hb4'; have HB24 := mkHid (HB23.out.trans (hb4.mono HB23.out.size)); clear hb4 hb4' hn4)
          | (at_builtin; have hbU := HB4.out.alloc HB4.out.size (.cells #[.int .i64 (r.gen : Int), .int .i64 (r.epoch : Int), .int .i64 (r.index : Int), .slice a2 r.data.length c2] 92); have hb2U := HB24.out.alloc HB24.out.size (.cells #[.int .i64 (r.gen : Int), .int .i64 (r.epoch : Int), .int .i64 (r.index : Int), .slice a2 r.data.length c2] 92); refine wpList_append_src4 _ rfl (.tmp 28) (.tmp 30) 67 67 rfl 0 92 ie Tryd.underlying67 HI.out.1 (.agg #[.int .i64 0, .int .i64 0, .int .i64 0, .slice none 0 0]) 48 HI.out.2.1 rfl HI.out.2.2.1 HI.out.2.2.2 _ ts.length (ts.flatMap rcl) rfl (HA.out.recs.below hbU).own _ 1 (rcl (r, a2, c2)) rfl (src_rec w4 (r, a2, c2)) (by have := HL.out; unfold maxLen; omega) (by have := HL.out; omega) (Nat.zero_le _) ?_; intro v5 w5 ho5 hg5 hat5; obtain ⟨e5, F5, hA5⟩ := HA.out.push (t := (r, a2, c2)) (m := m) HG.out HS.out HGO.out hbU (HRD.out.later hb2U) (fun i hi => ⟨(HOW.out i hi).1, Nat.lt_of_lt_of_le (HOW.out i hi).2 hb2U.size⟩) ho5 hg5 hat5; obtain ⟨va5, vc5, rfl⟩ := own_shape ho5; clear q0 q1 q2 q3 y2 y3 z0 z1 z2 z3; obtain ⟨q0, q1, q2, q3, _, _, y2, y3⟩ := four_facts e5; have HA5 := mkHid hA5; clear hbU hb2U ho5 hg5 hat5 e5 hA5))
        go_roundw
        case rel => exact ⟨_, _, _, _, _, _, HA5⟩
        case measure => rw [HA5.out.nx, HA.out.nx]; omega
end Go.Proofs.YtcbimclgodkflaaDoor
