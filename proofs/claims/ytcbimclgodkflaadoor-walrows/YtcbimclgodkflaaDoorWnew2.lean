/- newest. -/
import Derived.Test.YtcbimclgodkflaaDoorWnew
import Derived.BigQuiet
import Derived.Deep.RegionHeld3
namespace Go.Proofs.YtcbimclgodkflaaDoor
open Go.ChangeShapes Go.WideShapes Go.ChangeAt Go.RowKit
set_option maxRecDepth 100000

/-- An operation of a drawn region is taken first; its slot is written out. -/
theorem takeD {P : Program} {md : Region.Mode} {ops : Array Oper} {Q : Exit → Act → World → Prop} {S : World → Prop} {fuel : Nat} {listed : Array Bool} {l : List Value} {df : List Deferred} {w : World} {oi : Oper} (i d : Nat) (v : Value) (hi : ops[i]? = some oi) (hd : oi.dst = some d)
    (hs : Region.noSelect ops = true) (hf : Region.free md ops listed i = true) (hr : (Region.ready md ops listed).contains i = true)
    (hQ : ∀ c a w, Q (.panic c) (a.put oi.dst v) w → Q (.panic c) a w) (hy : YieldsIf P ops S oi v ⟨l.toArray, df⟩) (hS : S w)
    (h : wpAnyH P md ops Q S fuel (listed.setIfInBounds i true) ⟨(l.set d v).toArray, df⟩ w) : wpAnyH P md ops Q S (fuel + 1) listed ⟨l.toArray, df⟩ w := by
  refine wpAnyH_take hi hs hf hr hQ hy hS ?_
  rw [hd]
  simpa [Act.put] using h
theorem field_gen (a b c : Int) (d : Option Addr) (n m : Nat) (w : World) : (Instr.field 92 (.agg #[.int .i64 a, .int .i64 b, .int .i64 c, .slice d n m]) 0).run Tryd.prog w = .ok (.int .i64 a) w := by kernel_rfl
theorem three_new (w5 : World) (o1 o2 : Obj) : ((w5.alloc o1).alloc o2).heap[w5.heap.size]? = some o1 ∧ ((w5.alloc o1).alloc o2).heap[w5.heap.size + 1]? = some o2 ∧ Below w5.heap.size w5 ((w5.alloc o1).alloc o2) := by
  refine ⟨?_, ?_, ((Below.refl _ w5).alloc (Nat.le_refl _) _).alloc (by simp) _⟩
  · rw [heap_alloc_old _ _ (by simp)]; exact heap_alloc_new w5 o1
  · have := heap_alloc_new (w5.alloc o1) o2
    rw [show (w5.alloc o1).heap.size = w5.heap.size + 1 by simp] at this
    exact this
set_option maxHeartbeats 12800000 in
theorem newest_any (F : Nat → Prop) (w : World) (p n s : Nat) (f : Int → List Int) (c : List (Int × List Int)) (nw : Int) (t1 t2 t3 : TypeId) (d1 d2 d3 : Value) (h : Dk F w p n f c nw false) (hn4 : 4 ≤ n) (hn2 : (n : Int) ≤ 1024) (hs : s = (n - 2) / 2) (hcl : c.length ≤ 1000000000000)
    (h1 : w.cell? ⟨5, 0, none⟩ = some (.iface t1 d1)) (h2 : w.cell? ⟨3, 0, none⟩ = some (.iface t2 d2)) (h3 : w.cell? ⟨6, 0, none⟩ = some (.iface t3 d3)) :
    Calls Tryd.prog 27 #[.pointer (some ⟨p, 0, none⟩)] w (NewPost w s (newA (seenOf f c) s)) := by
  have hq1 : ((n : Int) - 2).tdiv 2 = (s : Int) := by rw [Int.tdiv_eq_ediv_of_nonneg (by omega), hs]; omega
  have hq2 : ((n : Int) - 2) / 2 = (s : Int) := by rw [hs]; omega
  have hq3 : IntKind.i64.wrap ((n : Int) - 2) = (n : Int) - 2 := by rw [IntKind.wrap_i64]; omega
  have hsn : s + s ≤ n := by omega
  have hs2 : (s : Int) ≤ 1024 := by omega
  have HA : Hid (∀ (W : World) (fr : Nat), Below w.heap.size w W → fr + s ≤ n → Calls Tryd.prog 51 #[.agg #[.int .i64 (fr : Int), .int .i64 ((fr : Int) + (s : Int)), .slice none 0 0, .int .i64 (fr : Int)], .pointer (some ⟨p, 0, none⟩)] W (AreaPost W fr s (areaGo (seenOf f c) (s + 1) [] (fr : Int) s))) := mkHid (fun W fr hb hf =>
    aread_any F W p n f c nw fr s t1 t2 t3 d1 d2 d3 (h.below hb) hf hn2 hcl ((hb.cell (World.block_lt_of_cell? w _ h1)).trans h1) ((hb.cell (World.block_lt_of_cell? w _ h2)).trans h2) ((hb.cell (World.block_lt_of_cell? w _ h3)).trans h3))
  have HD := mkHid h
  generalize seenOf f c = g at *
  have HS := mkHid hs
  clear h h1 h2 h3 hs
  have HA0 : Hid (∀ (W : World), Below w.heap.size w W → Calls Tryd.prog 51 #[.agg #[.int .i64 0, .int .i64 (s : Int), .slice none 0 0, .int .i64 0], .pointer (some ⟨p, 0, none⟩)] W (AreaPost W 0 s (areaGo g (s + 1) [] 0 s))) := mkHid (fun W hb => by
    have := HA.out W 0 hb (by omega)
    simpa using this)
  obtain ⟨W1, hW1⟩ : ∃ W1, W1 = w.alloc (.cells #[.int .i64 0, .int .i64 0, .slice none 0 0, .int .i64 0] 69) := ⟨_, rfl⟩
  have hb1 : Below w.heap.size w W1 := by rw [hW1]; exact (Below.refl _ w).alloc (Nat.le_refl _) _
  have hr1 : W1.heap[w.heap.size]? = some (.cells #[.int .i64 0, .int .i64 0, .slice none 0 0, .int .i64 0] 69 (0, 0)) := by rw [hW1]; exact heap_alloc_new w _
  have H1 := mkHid (And.intro hb1 hr1)
  clear hb1 hr1
  have M1 : True := trivial
  have M2 : True := trivial
  go_enter Tryd.func27, Tryd.ntmps27
  go_wp2_with (first
    | (go_at_call 49; rw [← hW1]; refine (sectors_is F W1 p n f c nw false (HD.out.below H1.out.1)).mono ?_; rintro e w2 ⟨rfl, hw2⟩; rw [hw2]; clear hw2 hW1)
    | (go_at_call 50; clear M1; refine (empty_is W1 0 s (by omega) (by omega)).mono ?_; rintro e w2 ⟨rfl, hb2⟩; have HB2 := mkHid (H1.out.1.trans (hb2.mono H1.out.1.size)); have HR2 := mkHid ((hb2.block _ (lt_of_heap H1.out.2)).trans H1.out.2); clear hb2)
    | (go_at_call 51; clear M2; refine (HA0.out w2 HB2.out).mono ?_; rintro e w3 ⟨v1, ts1, n1, F1, rfl, ho1, hr1, hf1, hb3, hl1, hm1, hk1⟩; obtain ⟨a1, c1, rfl⟩ := hr1.shape; have HB3 := mkHid (HB2.out.trans (hb3.mono HB2.out.size)); have HR3 := mkHid ((hb3.block _ (lt_of_heap HR2.out)).trans HR2.out); have HO1 := mkHid ho1; have HQ1 := mkHid (And.intro hr1 (And.intro (fun k hk => Nat.lt_of_lt_of_le (lt_of_heap HR2.out) (hf1 k hk)) (And.intro hm1 hk1))); clear ho1 hr1 hf1 hb3 hl1 hm1 hk1)
    | (go_at_call 50; refine (empty_is w3 s s (by omega) (by omega)).mono ?_; rintro e w4 ⟨rfl, hb4⟩; have HB4 := mkHid (HB3.out.trans (hb4.mono HB3.out.size)); have HR4 := mkHid ((hb4.block _ (lt_of_heap HR3.out)).trans HR3.out); have HQ1' := mkHid (HQ1.out.1.below hb4); clear hb4)
    | (go_at_call 51; refine (HA.out w4 s HB4.out hsn).mono ?_; rintro e w5 ⟨v2, ts2, n2, F2, rfl, ho2, hr2, hf2, hb5, hl2, hm2, hk2⟩; obtain ⟨a2, c2, rfl⟩ := hr2.shape; have HB5 := mkHid (HB4.out.trans (hb5.mono HB4.out.size)); have HR5 := mkHid ((hb5.block _ (lt_of_heap HR4.out)).trans HR4.out); have HO2 := mkHid ho2; have HQ2 := mkHid (And.intro hr2 (And.intro (fun k hk => Nat.lt_of_lt_of_le (lt_of_heap HR4.out) (hf2 k hk)) (And.intro hm2 (And.intro hk2 hl2)))); have HQ1'' := mkHid (HQ1'.out.below hb5); clear ho2 hr2 hf2 hb5 hl2 hm2 hk2 HQ1'))
  obtain ⟨U, hU⟩ : ∃ U, U = (w5.alloc (.cells #[.int .i64 0, .int .i64 (s : Int), .slice a1 ts1.length c1, .int .i64 (n1 : Int)] 69)).alloc (.cells #[.int .i64 (s : Int), .int .i64 ((s : Int) + (s : Int)), .slice a2 ts2.length c2, .int .i64 (n2 : Int)] 69) := ⟨_, rfl⟩
  have HN : Hid (NW w U s w5.heap.size (w5.heap.size + 1) (.slice a1 ts1.length c1) (.slice a2 ts2.length c2) ts1 ts2 F1 F2 n1 n2) := mkHid (by
    rw [hU]
    obtain ⟨h1, h2, h3⟩ := three_new w5 (.cells #[.int .i64 0, .int .i64 (s : Int), .slice a1 ts1.length c1, .int .i64 (n1 : Int)] 69) (.cells #[.int .i64 (s : Int), .int .i64 ((s : Int) + (s : Int)), .slice a2 ts2.length c2, .int .i64 (n2 : Int)] 69)
    obtain ⟨r2, f2, m2, k2, l2⟩ := HQ2.out
    obtain ⟨_, f1, m1, k1⟩ := HQ1.out
    exact ⟨h1, h2, (h3.block _ (lt_of_heap HR5.out)).trans HR5.out, HQ1''.out.below h3, r2.below h3, f1, f2, k1, k2, by omega, ⟨l2, m2⟩, HB5.out.trans (h3.mono HB5.out.size)⟩)
  have HT : Hid (ts1.length ≤ s ∧ ts2.length ≤ s) := mkHid ⟨HN.out.l1, HN.out.l2⟩
  rw [← hU]
  clear hU HQ1 HQ2 HQ1'' HB2 HB3 HB4 HB5 HR2 HR3 HR4 HR5 HA HA0 H1
  obtain ⟨q0, q1, q2, q3, _, _, _, _⟩ := four_facts HN.out.one
  obtain ⟨z0, z1, z2, z3, _, _, _, _⟩ := four_facts HN.out.two
  rcases Nat.eq_zero_or_pos ts1.length with hz | hp
  · have hg0 : decide ((0 : Int) < (ts1.length : Int)) = false := decide_eq_false (by omega)
    have HW : Hid (newA g s = (true, (ts2.map (·.1), (n2 : Int)))) := mkHid (by unfold newA; rw [HO1.out, HO2.out, if_neg (by simp; omega)])
    obtain ⟨x0, x1, x2, x3, y0, y1, y2, y3⟩ := four_facts HN.out.res
    go_quiet (fail)
    all_goals go_wp2
    have HND := mkHid (HN.out.below ((drewN_kept (fun _ => False) U nq).below (fun _ h => h.elim) (Nat.le_refl _)))
    exact bodyPost_ret (area_leaves rfl (afour_leaves HND.out.res _ _ _ _) _ rfl) rfl (by rw [HW.out]; exact HND.out.second _ _ _ _)
  · by_cases hle : lgen (ts2.map (·.1)) ≤ lgen (ts1.map (·.1))
    · have HW : Hid (newA g s = (false, (ts1.map (·.1), (n1 : Int)))) := mkHid (by unfold newA; rw [HO1.out, HO2.out, if_pos (by simp; omega)])
      refine wp_region_held_drew (S := fun w' => w'.cell? ⟨w5.heap.size, 0, none⟩ = some (.int .i64 0) ∧ w'.cell? ⟨w5.heap.size, 1, none⟩ = some (.int .i64 (s : Int)) ∧ w'.cell? ⟨w5.heap.size, 2, none⟩ = some (.slice a1 ts1.length c1) ∧ w'.cell? ⟨w5.heap.size, 3, none⟩ = some (.int .i64 (n1 : Int)) ∧ w'.cell? ⟨w5.heap.size + 1, 0, none⟩ = some (.int .i64 (s : Int)) ∧ w'.cell? ⟨w5.heap.size + 1, 1, none⟩ = some (.int .i64 ((s : Int) + (s : Int))) ∧ w'.cell? ⟨w5.heap.size + 1, 2, none⟩ = some (.slice a2 ts2.length c2) ∧ w'.cell? ⟨w5.heap.size + 1, 3, none⟩ = some (.int .i64 (n2 : Int))) (by kernel_rfl) ⟨q0, q1, q2, q3, z0, z1, z2, z3⟩ (fun hHeld => ?_)
      refine takeD 0 19 (.pointer (some ⟨w5.heap.size, 2, none⟩)) rfl rfl (by kernel_rfl) (by kernel_rfl) (by kernel_rfl) (fun _ _ _ h => h) (Or.inl ⟨by kernel_rfl, by intro w hSw; (try dsimp only at hSw); go_simp⟩) hHeld ?_
      simp only [List.set_cons_zero, List.set_cons_succ]
      refine takeD 1 20 (.slice a1 ts1.length c1) rfl rfl (by kernel_rfl) (by kernel_rfl) (by kernel_rfl) (fun _ _ _ h => h) (Or.inl ⟨by kernel_rfl, by intro w hSw; (try dsimp only at hSw); go_simp⟩) hHeld ?_
      simp only [List.set_cons_zero, List.set_cons_succ]
      refine takeD 2 21 (.int .i64 (ts1.length : Int)) rfl rfl (by kernel_rfl) (by kernel_rfl) (by kernel_rfl) (fun _ _ _ h => h) (Or.inl ⟨by kernel_rfl, by intro w hSw; (try dsimp only at hSw); go_simp⟩) hHeld ?_
      simp only [List.set_cons_zero, List.set_cons_succ]
      refine takeD 3 22 (.bool true) rfl rfl (by kernel_rfl) (by kernel_rfl) (by kernel_rfl) (fun _ _ _ h => h) (Or.inl ⟨by kernel_rfl, by intro w hSw; (try dsimp only at hSw); go_simp; (try simp); (try omega)⟩) hHeld ?_
      simp only [List.set_cons_zero, List.set_cons_succ]
      refine takeD 4 23 (.bool true) rfl rfl (by kernel_rfl) (by kernel_rfl) (by kernel_rfl) (fun _ _ _ h => h) (Or.inl ⟨by kernel_rfl, by intro w hSw; (try dsimp only at hSw); go_simp⟩) hHeld ?_
      simp only [List.set_cons_zero, List.set_cons_succ]
      refine takeD 5 24 (.agg #[.int .i64 0, .int .i64 (s : Int), .slice a1 ts1.length c1, .int .i64 (n1 : Int)]) rfl rfl (by kernel_rfl) (by kernel_rfl) (by kernel_rfl) (fun _ _ _ h => h) (Or.inl ⟨by kernel_rfl, by intro w hSw; (try dsimp only at hSw); go_simp⟩) hHeld ?_
      simp only [List.set_cons_zero, List.set_cons_succ]
      refine takeD 8 27 (.agg #[.int .i64 (s : Int), .int .i64 ((s : Int) + (s : Int)), .slice a2 ts2.length c2, .int .i64 (n2 : Int)]) rfl rfl (by kernel_rfl) (by kernel_rfl) (by kernel_rfl) (fun _ _ _ h => h) (Or.inl ⟨by kernel_rfl, by intro w hSw; (try dsimp only at hSw); go_simp⟩) hHeld ?_
      simp only [List.set_cons_zero, List.set_cons_succ]
      have HND := mkHid (HN.out.below ((Kept.drew (fun _ => False) U).below (fun _ h => h.elim) (Nat.le_refl _)))
      refine wpAnyH_ready (rs := [6]) (by kernel_rfl) (by simp) (AllReadyH.cons rfl (fun K hK => ?_) AllReadyH.nil)
      go_simp
      refine (last_any U.drew _ _ _ _ ts1 HND.out.r1 (by have := HT.out; omega)).mono ?_
      rintro e w6 ⟨⟨d6a, d6n, d6c, rfl⟩, hb6⟩
      have HN6 := mkHid (HND.out.below hb6)
      clear hb6 hHeld q0 q1 q2 q3 z0 z1 z2 z3
      obtain ⟨q0, q1, q2, q3, _, _, _, _⟩ := four_facts HN6.out.one
      obtain ⟨z0, z1, z2, z3, _, _, _, _⟩ := four_facts HN6.out.two
      refine hK.out _ _ ⟨q0, q1, q2, q3, z0, z1, z2, z3⟩ (fun hHeld => ?_)
      clear hK K
      refine takeD 7 26 (.int .i64 (lgen (ts1.map (·.1)) : Int)) rfl rfl (by kernel_rfl) (by kernel_rfl) (by kernel_rfl) (fun _ _ _ h => h) (Or.inl ⟨by kernel_rfl, by intro w hSw; (try dsimp only at hSw); go_simp; simp [field_gen]⟩) hHeld ?_
      simp only [List.set_cons_zero, List.set_cons_succ]
      refine wpAnyH_ready (rs := [9]) (by kernel_rfl) (by simp) (AllReadyH.cons rfl (fun K hK => ?_) AllReadyH.nil)
      go_simp
      refine (last_any w6 _ _ _ _ ts2 HN6.out.r2 (by have := HT.out; omega)).mono ?_
      rintro e w7 ⟨⟨d7a, d7n, d7c, rfl⟩, hb6⟩
      have HN7 := mkHid (HN6.out.below hb6)
      clear hb6 hHeld q0 q1 q2 q3 z0 z1 z2 z3
      obtain ⟨q0, q1, q2, q3, _, _, _, _⟩ := four_facts HN7.out.one
      obtain ⟨z0, z1, z2, z3, _, _, _, _⟩ := four_facts HN7.out.two
      refine hK.out _ _ ⟨q0, q1, q2, q3, z0, z1, z2, z3⟩ (fun hHeld => ?_)
      clear hK K
      refine takeD 10 29 (.int .i64 (lgen (ts2.map (·.1)) : Int)) rfl rfl (by kernel_rfl) (by kernel_rfl) (by kernel_rfl) (fun _ _ _ h => h) (Or.inl ⟨by kernel_rfl, by intro w hSw; (try dsimp only at hSw); go_simp; simp [field_gen]⟩) hHeld ?_
      simp only [List.set_cons_zero, List.set_cons_succ]
      refine takeD 11 30 (.bool true) rfl rfl (by kernel_rfl) (by kernel_rfl) (by kernel_rfl) (fun _ _ _ h => h) (Or.inl ⟨by kernel_rfl, by intro w hSw; (try dsimp only at hSw); go_simp; (try simp); (try omega)⟩) hHeld ?_
      simp only [List.set_cons_zero, List.set_cons_succ]
      refine takeD 12 31 (.bool true) rfl rfl (by kernel_rfl) (by kernel_rfl) (by kernel_rfl) (fun _ _ _ h => h) (Or.inl ⟨by kernel_rfl, by intro w hSw; (try dsimp only at hSw); go_simp⟩) hHeld ?_
      simp only [List.set_cons_zero, List.set_cons_succ]
      refine wpAnyH_done (by kernel_rfl) ?_ _
      obtain ⟨x0, x1, x2, x3, y0, y1, y2, y3⟩ := four_facts HN7.out.res
      go_wp2
      exact bodyPost_ret (area_leaves rfl (afour_leaves HN7.out.res _ _ _ _) _ rfl) rfl (by rw [HW.out]; exact HN7.out.first _ _ _ _)
    · have HW : Hid (newA g s = (true, (ts2.map (·.1), (n2 : Int)))) := mkHid (by unfold newA; rw [HO1.out, HO2.out, if_neg (by simp; omega)])
      refine wp_region_held_drew (S := fun w' => w'.cell? ⟨w5.heap.size, 0, none⟩ = some (.int .i64 0) ∧ w'.cell? ⟨w5.heap.size, 1, none⟩ = some (.int .i64 (s : Int)) ∧ w'.cell? ⟨w5.heap.size, 2, none⟩ = some (.slice a1 ts1.length c1) ∧ w'.cell? ⟨w5.heap.size, 3, none⟩ = some (.int .i64 (n1 : Int)) ∧ w'.cell? ⟨w5.heap.size + 1, 0, none⟩ = some (.int .i64 (s : Int)) ∧ w'.cell? ⟨w5.heap.size + 1, 1, none⟩ = some (.int .i64 ((s : Int) + (s : Int))) ∧ w'.cell? ⟨w5.heap.size + 1, 2, none⟩ = some (.slice a2 ts2.length c2) ∧ w'.cell? ⟨w5.heap.size + 1, 3, none⟩ = some (.int .i64 (n2 : Int))) (by kernel_rfl) ⟨q0, q1, q2, q3, z0, z1, z2, z3⟩ (fun hHeld => ?_)
      refine takeD 0 19 (.pointer (some ⟨w5.heap.size, 2, none⟩)) rfl rfl (by kernel_rfl) (by kernel_rfl) (by kernel_rfl) (fun _ _ _ h => h) (Or.inl ⟨by kernel_rfl, by intro w hSw; (try dsimp only at hSw); go_simp⟩) hHeld ?_
      simp only [List.set_cons_zero, List.set_cons_succ]
      refine takeD 1 20 (.slice a1 ts1.length c1) rfl rfl (by kernel_rfl) (by kernel_rfl) (by kernel_rfl) (fun _ _ _ h => h) (Or.inl ⟨by kernel_rfl, by intro w hSw; (try dsimp only at hSw); go_simp⟩) hHeld ?_
      simp only [List.set_cons_zero, List.set_cons_succ]
      refine takeD 2 21 (.int .i64 (ts1.length : Int)) rfl rfl (by kernel_rfl) (by kernel_rfl) (by kernel_rfl) (fun _ _ _ h => h) (Or.inl ⟨by kernel_rfl, by intro w hSw; (try dsimp only at hSw); go_simp⟩) hHeld ?_
      simp only [List.set_cons_zero, List.set_cons_succ]
      refine takeD 3 22 (.bool true) rfl rfl (by kernel_rfl) (by kernel_rfl) (by kernel_rfl) (fun _ _ _ h => h) (Or.inl ⟨by kernel_rfl, by intro w hSw; (try dsimp only at hSw); go_simp; (try simp); (try omega)⟩) hHeld ?_
      simp only [List.set_cons_zero, List.set_cons_succ]
      refine takeD 4 23 (.bool true) rfl rfl (by kernel_rfl) (by kernel_rfl) (by kernel_rfl) (fun _ _ _ h => h) (Or.inl ⟨by kernel_rfl, by intro w hSw; (try dsimp only at hSw); go_simp⟩) hHeld ?_
      simp only [List.set_cons_zero, List.set_cons_succ]
      refine takeD 5 24 (.agg #[.int .i64 0, .int .i64 (s : Int), .slice a1 ts1.length c1, .int .i64 (n1 : Int)]) rfl rfl (by kernel_rfl) (by kernel_rfl) (by kernel_rfl) (fun _ _ _ h => h) (Or.inl ⟨by kernel_rfl, by intro w hSw; (try dsimp only at hSw); go_simp⟩) hHeld ?_
      simp only [List.set_cons_zero, List.set_cons_succ]
      refine takeD 8 27 (.agg #[.int .i64 (s : Int), .int .i64 ((s : Int) + (s : Int)), .slice a2 ts2.length c2, .int .i64 (n2 : Int)]) rfl rfl (by kernel_rfl) (by kernel_rfl) (by kernel_rfl) (fun _ _ _ h => h) (Or.inl ⟨by kernel_rfl, by intro w hSw; (try dsimp only at hSw); go_simp⟩) hHeld ?_
      simp only [List.set_cons_zero, List.set_cons_succ]
      have HND := mkHid (HN.out.below ((Kept.drew (fun _ => False) U).below (fun _ h => h.elim) (Nat.le_refl _)))
      refine wpAnyH_ready (rs := [6]) (by kernel_rfl) (by simp) (AllReadyH.cons rfl (fun K hK => ?_) AllReadyH.nil)
      go_simp
      refine (last_any U.drew _ _ _ _ ts1 HND.out.r1 (by have := HT.out; omega)).mono ?_
      rintro e w6 ⟨⟨d6a, d6n, d6c, rfl⟩, hb6⟩
      have HN6 := mkHid (HND.out.below hb6)
      clear hb6 hHeld q0 q1 q2 q3 z0 z1 z2 z3
      obtain ⟨q0, q1, q2, q3, _, _, _, _⟩ := four_facts HN6.out.one
      obtain ⟨z0, z1, z2, z3, _, _, _, _⟩ := four_facts HN6.out.two
      refine hK.out _ _ ⟨q0, q1, q2, q3, z0, z1, z2, z3⟩ (fun hHeld => ?_)
      clear hK K
      refine takeD 7 26 (.int .i64 (lgen (ts1.map (·.1)) : Int)) rfl rfl (by kernel_rfl) (by kernel_rfl) (by kernel_rfl) (fun _ _ _ h => h) (Or.inl ⟨by kernel_rfl, by intro w hSw; (try dsimp only at hSw); go_simp; simp [field_gen]⟩) hHeld ?_
      simp only [List.set_cons_zero, List.set_cons_succ]
      refine wpAnyH_ready (rs := [9]) (by kernel_rfl) (by simp) (AllReadyH.cons rfl (fun K hK => ?_) AllReadyH.nil)
      go_simp
      refine (last_any w6 _ _ _ _ ts2 HN6.out.r2 (by have := HT.out; omega)).mono ?_
      rintro e w7 ⟨⟨d7a, d7n, d7c, rfl⟩, hb6⟩
      have HN7 := mkHid (HN6.out.below hb6)
      clear hb6 hHeld q0 q1 q2 q3 z0 z1 z2 z3
      obtain ⟨q0, q1, q2, q3, _, _, _, _⟩ := four_facts HN7.out.one
      obtain ⟨z0, z1, z2, z3, _, _, _, _⟩ := four_facts HN7.out.two
      refine hK.out _ _ ⟨q0, q1, q2, q3, z0, z1, z2, z3⟩ (fun hHeld => ?_)
      clear hK K
      refine takeD 10 29 (.int .i64 (lgen (ts2.map (·.1)) : Int)) rfl rfl (by kernel_rfl) (by kernel_rfl) (by kernel_rfl) (fun _ _ _ h => h) (Or.inl ⟨by kernel_rfl, by intro w hSw; (try dsimp only at hSw); go_simp; simp [field_gen]⟩) hHeld ?_
      simp only [List.set_cons_zero, List.set_cons_succ]
      refine takeD 11 30 (.bool false) rfl rfl (by kernel_rfl) (by kernel_rfl) (by kernel_rfl) (fun _ _ _ h => h) (Or.inl ⟨by kernel_rfl, by intro w hSw; (try dsimp only at hSw); go_simp; (try simp); (try omega)⟩) hHeld ?_
      simp only [List.set_cons_zero, List.set_cons_succ]
      refine takeD 12 31 (.bool false) rfl rfl (by kernel_rfl) (by kernel_rfl) (by kernel_rfl) (fun _ _ _ h => h) (Or.inl ⟨by kernel_rfl, by intro w hSw; (try dsimp only at hSw); go_simp⟩) hHeld ?_
      simp only [List.set_cons_zero, List.set_cons_succ]
      refine wpAnyH_done (by kernel_rfl) ?_ _
      obtain ⟨x0, x1, x2, x3, y0, y1, y2, y3⟩ := four_facts HN7.out.res
      go_wp2
      exact bodyPost_ret (area_leaves rfl (afour_leaves HN7.out.res _ _ _ _) _ rfl) rfl (by rw [HW.out]; exact HN7.out.second _ _ _ _)
end Go.Proofs.YtcbimclgodkflaaDoor
