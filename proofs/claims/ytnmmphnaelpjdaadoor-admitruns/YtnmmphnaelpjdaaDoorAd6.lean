import Derived.Test.YtnmmphnaelpjdaaDoorAdB
/- The law AdmitBeyond: what fits fits at every length. -/
namespace Go.Proofs.YtnmmphnaelpjdaaDoor
open Go.ChangeShapes Go.WideShapes Go.ChangeAt Go.RowKit
set_option maxRecDepth 100000
attribute [local go_sem] World.cell?_alloc_some frozen_alloc_some

theorem takeD {P : Program} {md : Region.Mode} {ops : Array Oper} {Q : Exit → Act → World → Prop} {S : World → Prop} {fuel : Nat} {listed : Array Bool} {l : List Value} {df : List Deferred} {w : World} {oi : Oper} (i d : Nat) (v : Value) (hi : ops[i]? = some oi) (hd : oi.dst = some d)
    (hs : Region.noSelect ops = true) (hf : Region.free md ops listed i = true) (hr : (Region.ready md ops listed).contains i = true)
    (hQ : ∀ c a w, Q (.panic c) (a.put oi.dst v) w → Q (.panic c) a w) (hy : YieldsIf P ops S oi v ⟨l.toArray, df⟩) (hS : S w)
    (h : wpAnyH P md ops Q S fuel (listed.setIfInBounds i true) ⟨(l.set d v).toArray, df⟩ w) : wpAnyH P md ops Q S (fuel + 1) listed ⟨l.toArray, df⟩ w := by
  refine wpAnyH_take hi hs hf hr hQ hy hS ?_
  rw [hd]
  simpa [Act.put] using h
theorem and38e (n : Int) : bits .and .i64 n 274877906943 = n % 274877906944 := by
  have h : (BitVec.ofInt 64 274877906943).toNat = 2 ^ 38 - 1 := by decide
  have key : (BitVec.ofInt 64 n &&& BitVec.ofInt 64 274877906943).toNat = (n % ((2 ^ 64 : Nat) : Int)).toNat % 2 ^ 38 := by
    rw [BitVec.toNat_and, BitVec.toNat_ofInt, h, Nat.and_two_pow_sub_one_eq_mod]
  show IntKind.i64.wrap ((BitVec.ofInt 64 n &&& BitVec.ofInt 64 274877906943).toNat : Nat) = _
  rw [key, IntKind.wrap_i64]
  omega
theorem and38 (n : Int) : 0 ≤ bits .and .i64 n 274877906943 ∧ bits .and .i64 n 274877906943 ≤ 274877906943 := by
  rw [and38e]; omega
abbrev vA (s : Sv) (v1 v2 : Value) (n : Int) : Value := .agg #[.int .i64 s.1, .int .i64 s.2.1, .int .i64 s.2.2, v1, v2, .int .i64 n]
abbrev oA (s : Sv) (v1 v2 : Value) (n : Int) : Obj := .cells #[.int .i64 s.1, .int .i64 s.2.1, .int .i64 s.2.2, v1, v2, .int .i64 n] 43
set_option maxHeartbeats 12800000 in
theorem beyond_walk (w : World) (s : Sv) (al at2 : Option Addr) (cl ct : Nat) (n : Int) (xs : List Sv) (ys : List Tk) (a : Nat → Addr) (n1 n2 : Int) (hx : Svs w (.slice al xs.length cl) xs) (hy : Tks w (.slice at2 ys.length ct) ys) (hc : ys.length ≤ ct) (E : Er6 w a) (hT : Err w 1 text1 (a 1)) (h1 : KC s xs n1) (h2 : GC s 1 ys n2) :
    Calls Tryd.prog 6 #[vA s (.slice al xs.length cl) (.slice at2 ys.length ct) n] w fun e w' => e = .returned (.bool true) ∧ Below w.heap.size w w' := by
  obtain ⟨k, q, t⟩ := s
  have HAL : Hid (∀ W, Below w.heap.size w W → Calls Tryd.prog 9 #[] W fun e w' => e = .returned (.bool true) ∧ Below W.heap.size W w') := mkHid (fun W hW => aalive W a (E.late hW) (hT.late hW))
  have HK : Hid (∀ W, Below w.heap.size w W → Calls Tryd.prog 10 #[vS (k, q, t), .slice al xs.length cl] W fun e w' => e = .returned (ev6 a n1) ∧ Below W.heap.size W w') := mkHid (fun W hW => kids_is W (k, q, t) _ xs a n1 (hx.below hW) (E.late hW) h1)
  have HG : Hid (∀ W, Below w.heap.size w W → Calls Tryd.prog 15 #[vS (k, q, t), .int .i64 1, .slice at2 ys.length ct] W fun e w' => e = .returned (ev6 a n2) ∧ Below W.heap.size W w') := mkHid (fun W hW => guestA_is W (k, q, t) 1 at2 ct ys a n2 (hy.below hW) hc (E.late hW) h2)
  obtain ⟨r0, r1⟩ := and38 n
  obtain ⟨r, hr⟩ : ∃ r, bits .and .i64 n 274877906943 = r := ⟨_, rfl⟩
  rw [hr] at r0 r1
  obtain ⟨L, hL⟩ : ∃ L, L = r + 1 := ⟨_, rfl⟩
  have ew : IntKind.i64.wrap (r + 1) = L := by rw [hL]; exact wfit (by omega) (by omega)
  have L0 : 1 ≤ L := by omega
  have L1 : L ≤ 1099511627776 := by omega
  obtain ⟨X, hX⟩ : ∃ X, X = tot (sdem · L) xs := ⟨_, rfl⟩
  obtain ⟨Y, hY⟩ : ∃ Y, Y = tskM ys L := ⟨_, rfl⟩
  obtain ⟨Z, hZ⟩ : ∃ Z, Z = sb (gS (k, q, t)) (dS (k, q, t)) (qS (k, q, t)) L := ⟨_, rfl⟩
  have F1 : n1 = 0 → ¬ Z < X ∧ Hid (∀ W, Below w.heap.size w W → Calls Tryd.prog 19 #[.slice al xs.length cl, .int .i64 L] W fun e w' => e = .returned (.int .i64 X) ∧ Below W.heap.size W w') ∧ Hid (∀ W, Below w.heap.size w W → Calls Tryd.prog 20 #[vS (k, q, t), .int .i64 L] W fun e w' => e = .returned (.int .i64 Z) ∧ Below W.heap.size W w') := fun e => by
    obtain ⟨o1, o2, o3, o4⟩ := h1.zero e
    obtain ⟨m1, m2, m3, m4, m5⟩ := o1.nums
    refine ⟨?_, mkHid (fun W hW => by rw [hX]; exact rtot_sdem W _ xs L (hx.below hW) o2 o3 (by omega) L1), mkHid (fun W hW => by rw [hZ]; exact rbound_yes W (k, q, t) L o1 (by omega) L1)⟩
    have := fitK_all m2 m3 o2 o4 L0
    omega
  have F2 : n2 = 0 → Y ≤ Z ∧ Hid (∀ W, Below w.heap.size w W → Calls Tryd.prog 21 #[.slice at2 ys.length ct, .int .i64 L] W fun e w' => e = .returned (.int .i64 Y) ∧ Below W.heap.size W w') ∧ Hid (∀ W, Below w.heap.size w W → Calls Tryd.prog 20 #[vS (k, q, t), .int .i64 L] W fun e w' => e = .returned (.int .i64 Z) ∧ Below W.heap.size W w') := fun e => by
    obtain ⟨o1, o2, o4⟩ := h2.zero1 e
    obtain ⟨m1, m2, m3, m4, m5⟩ := o1.nums
    refine ⟨?_, mkHid (fun W hW => by rw [hY]; exact rtasks_is W _ ys L (hy.below hW) o2.2.2 (by omega) L1), mkHid (fun W hW => by rw [hZ]; exact rbound_yes W (k, q, t) L o1 (by omega) L1)⟩
    have := fitT_all m2 m3 o2.2.2.2 o4 L0
    omega
  have C1 : n1 = 0 ∨ ∃ e, ev6 a n1 = vE e := by rcases h1.codes with h | h | h | h <;> first | exact .inl h | (rw [h]; exact .inr ⟨_, rfl⟩)
  have C2 : n2 = 0 ∨ ∃ e, ev6 a n2 = vE e := by rcases h2.codes with h | h | h | h <;> first | exact .inl h | (rw [h]; exact .inr ⟨_, rfl⟩)
  clear hX hY hZ hL r0 r1 h1 h2 hx hy E hT
  rcases C1 with e1 | ⟨b1, e1⟩
  · subst e1
    obtain ⟨Hlt, G1, G2⟩ := F1 rfl
    have Hd : decide (Z < X) = false := decide_eq_false Hlt
    rw [ev6_0] at HK
    clear F1
    rcases C2 with e2 | ⟨b2, e2⟩
    · subst e2
      obtain ⟨Hle, G3, G4⟩ := F2 rfl
      have Hd2 : decide (Y ≤ Z) = true := decide_eq_true Hle
      rw [ev6_0] at HG
      clear F2
      go_enter Tryd.func6, Tryd.ntmps6
      go_wp2
      obtain ⟨W, hW⟩ : ∃ W, W = w.alloc (oA (k, q, t) (.slice al xs.length cl) (.slice at2 ys.length ct) n) := ⟨_, rfl⟩
      have HW : Hid (Below w.heap.size w W) := mkHid (by rw [hW]; exact ba (Below.refl _ _) _)
      have x0 : W.cell? ⟨w.heap.size, 0, none⟩ = some (.int .i64 k) := by rw [hW]; simp [go_sem]
      have x1 : W.cell? ⟨w.heap.size, 1, none⟩ = some (.int .i64 q) := by rw [hW]; simp [go_sem]
      have x2 : W.cell? ⟨w.heap.size, 2, none⟩ = some (.int .i64 t) := by rw [hW]; simp [go_sem]
      have x3 : W.cell? ⟨w.heap.size, 3, none⟩ = some (.slice al xs.length cl) := by rw [hW]; simp [go_sem]
      have x4 : W.cell? ⟨w.heap.size, 4, none⟩ = some (.slice at2 ys.length ct) := by rw [hW]; simp [go_sem]
      have x5 : W.cell? ⟨w.heap.size, 5, none⟩ = some (.int .i64 n) := by rw [hW]; simp [go_sem]
      rw [← hW]
      clear hW
      generalize w.heap.size = p0 at x0 x1 x2 x3 x4 x5 ⊢
      go_region_held3 (fun w' => w'.cell? ⟨p0, 0, none⟩ = some (.int .i64 k) ∧ w'.cell? ⟨p0, 1, none⟩ = some (.int .i64 q) ∧ w'.cell? ⟨p0, 2, none⟩ = some (.int .i64 t) ∧ w'.cell? ⟨p0, 3, none⟩ = some (.slice al xs.length cl) ∧ w'.cell? ⟨p0, 4, none⟩ = some (.slice at2 ys.length ct) ∧ w'.cell? ⟨p0, 5, none⟩ = some (.int .i64 n)) (go_keep) (fail)
      obtain ⟨W2, hW2⟩ : ∃ W2, W2 = (W.alloc (oS (k, q, t))).drew := ⟨_, rfl⟩
      have y0 : W2.cell? ⟨W.heap.size, 0, none⟩ = some (.int .i64 k) := by rw [hW2]; simp [go_sem]
      have y1 : W2.cell? ⟨W.heap.size, 1, none⟩ = some (.int .i64 q) := by rw [hW2]; simp [go_sem]
      have y2 : W2.cell? ⟨W.heap.size, 2, none⟩ = some (.int .i64 t) := by rw [hW2]; simp [go_sem]
      have HB2 : Hid (Below w.heap.size w W2) := mkHid (by rw [hW2]; exact (ba HW.out _).drew)
      rw [← hW2]
      clear hW2 x0 x1 x2 x3 x4 x5
      generalize W.heap.size = p1 at y0 y1 y2 ⊢
      clear HW
      go_wp2_with (go_at_call 9; refine (HAL.out _ HB2.out).mono ?_; rintro e w3 ⟨rfl, b3⟩; have z0 := kc y0 b3; have z1 := kc y1 b3; have z2 := kc y2 b3; have HB3 := mkHid (bt HB2.out b3); clear b3 y0 y1 y2)
      refine wp_region_held_drew (S := fun w' => w'.cell? ⟨p1, 0, none⟩ = some (.int .i64 k) ∧ w'.cell? ⟨p1, 1, none⟩ = some (.int .i64 q) ∧ w'.cell? ⟨p1, 2, none⟩ = some (.int .i64 t)) (by kernel_rfl) ⟨z0, z1, z2⟩ (fun hHeld => ?_)
      refine takeD 0 20 (.agg #[.int .i64 k, .int .i64 q, .int .i64 t]) rfl rfl (by kernel_rfl) (by kernel_rfl) (by kernel_rfl) (fun _ _ _ h => h) (Or.inl ⟨by kernel_rfl, by intro w hSw; (try dsimp only at hSw); go_simp⟩) hHeld ?_
      simp only [List.set_cons_zero, List.set_cons_succ]
      refine takeD 1 21 (.slice al xs.length cl) rfl rfl (by kernel_rfl) (by kernel_rfl) (by kernel_rfl) (fun _ _ _ h => h) (Or.inl ⟨by kernel_rfl, by intro w hSw; (try dsimp only at hSw); go_simp⟩) hHeld ?_
      simp only [List.set_cons_zero, List.set_cons_succ]
      refine wpAnyH_ready (rs := [2]) (by kernel_rfl) (by simp) (AllReadyH.cons rfl (fun K hK => ?_) AllReadyH.nil)
      go_simp
      refine (HK.out w3.drew HB3.out.drew).mono ?_
      rintro e w4 ⟨rfl, bw4⟩
      have fw4_0 : w4.cell? ⟨p1, 0, none⟩ = some (.int .i64 k) := kc (show w3.drew.cell? _ = _ from z0) bw4
      have fw4_1 : w4.cell? ⟨p1, 1, none⟩ = some (.int .i64 q) := kc (show w3.drew.cell? _ = _ from z1) bw4
      have fw4_2 : w4.cell? ⟨p1, 2, none⟩ = some (.int .i64 t) := kc (show w3.drew.cell? _ = _ from z2) bw4
      have HB4 := mkHid (bt HB3.out.drew bw4)
      clear bw4 hHeld
      refine hK.out _ _ ⟨fw4_0, fw4_1, fw4_2⟩ (fun hHeld => ?_)
      clear hK K
      refine takeD 3 23 (.bool true) rfl rfl (by kernel_rfl) (by kernel_rfl) (by kernel_rfl) (fun _ _ _ h => h) (Or.inl ⟨by kernel_rfl, by intro w hSw; (try dsimp only at hSw); go_simp⟩) hHeld ?_
      simp only [List.set_cons_zero, List.set_cons_succ]
      refine takeD 4 24 (.bool true) rfl rfl (by kernel_rfl) (by kernel_rfl) (by kernel_rfl) (fun _ _ _ h => h) (Or.inl ⟨by kernel_rfl, by intro w hSw; (try dsimp only at hSw); go_simp⟩) hHeld ?_
      simp only [List.set_cons_zero, List.set_cons_succ]
      refine takeD 5 25 (.slice al xs.length cl) rfl rfl (by kernel_rfl) (by kernel_rfl) (by kernel_rfl) (fun _ _ _ h => h) (Or.inl ⟨by kernel_rfl, by intro w hSw; (try dsimp only at hSw); go_simp⟩) hHeld ?_
      simp only [List.set_cons_zero, List.set_cons_succ]
      refine takeD 6 26 (.int .i64 L) rfl rfl (by kernel_rfl) (by kernel_rfl) (by kernel_rfl) (fun _ _ _ h => h) (Or.inl ⟨by kernel_rfl, by intro w hSw; (try dsimp only at hSw); go_simp⟩) hHeld ?_
      simp only [List.set_cons_zero, List.set_cons_succ]
      refine takeD 8 28 (.agg #[.int .i64 k, .int .i64 q, .int .i64 t]) rfl rfl (by kernel_rfl) (by kernel_rfl) (by kernel_rfl) (fun _ _ _ h => h) (Or.inl ⟨by kernel_rfl, by intro w hSw; (try dsimp only at hSw); go_simp⟩) hHeld ?_
      simp only [List.set_cons_zero, List.set_cons_succ]
      refine takeD 9 29 (.int .i64 L) rfl rfl (by kernel_rfl) (by kernel_rfl) (by kernel_rfl) (fun _ _ _ h => h) (Or.inl ⟨by kernel_rfl, by intro w hSw; (try dsimp only at hSw); go_simp⟩) hHeld ?_
      simp only [List.set_cons_zero, List.set_cons_succ]
      refine wpAnyH_ready (rs := [7]) (by kernel_rfl) (by simp) (AllReadyH.cons rfl (fun K hK => ?_) AllReadyH.nil)
      go_simp
      refine (G1.out w4 HB4.out).mono ?_
      rintro e w5 ⟨rfl, bw5⟩
      have fw5_0 : w5.cell? ⟨p1, 0, none⟩ = some (.int .i64 k) := kc fw4_0 bw5
      have fw5_1 : w5.cell? ⟨p1, 1, none⟩ = some (.int .i64 q) := kc fw4_1 bw5
      have fw5_2 : w5.cell? ⟨p1, 2, none⟩ = some (.int .i64 t) := kc fw4_2 bw5
      have HB5 := mkHid (bt HB4.out bw5)
      clear bw5 hHeld
      refine hK.out _ _ ⟨fw5_0, fw5_1, fw5_2⟩ (fun hHeld => ?_)
      clear hK K
      refine wpAnyH_ready (rs := [10]) (by kernel_rfl) (by simp) (AllReadyH.cons rfl (fun K hK => ?_) AllReadyH.nil)
      go_simp
      refine (G2.out w5 HB5.out).mono ?_
      rintro e w6 ⟨rfl, bw6⟩
      have fw6_0 : w6.cell? ⟨p1, 0, none⟩ = some (.int .i64 k) := kc fw5_0 bw6
      have fw6_1 : w6.cell? ⟨p1, 1, none⟩ = some (.int .i64 q) := kc fw5_1 bw6
      have fw6_2 : w6.cell? ⟨p1, 2, none⟩ = some (.int .i64 t) := kc fw5_2 bw6
      have HB6 := mkHid (bt HB5.out bw6)
      clear bw6 hHeld
      refine hK.out _ _ ⟨fw6_0, fw6_1, fw6_2⟩ (fun hHeld => ?_)
      clear hK K
      refine takeD 11 31 (.bool false) rfl rfl (by kernel_rfl) (by kernel_rfl) (by kernel_rfl) (fun _ _ _ h => h) (Or.inl ⟨by kernel_rfl, by intro w hSw; (try dsimp only at hSw); go_simp⟩) hHeld ?_
      simp only [List.set_cons_zero, List.set_cons_succ]
      refine takeD 12 32 (.bool false) rfl rfl (by kernel_rfl) (by kernel_rfl) (by kernel_rfl) (fun _ _ _ h => h) (Or.inl ⟨by kernel_rfl, by intro w hSw; (try dsimp only at hSw); go_simp⟩) hHeld ?_
      simp only [List.set_cons_zero, List.set_cons_succ]
      refine wpAnyH_done (by kernel_rfl) ?_ _
      go_wp2
      refine wp_region_held_drew (S := fun w' => w'.cell? ⟨p1, 0, none⟩ = some (.int .i64 k) ∧ w'.cell? ⟨p1, 1, none⟩ = some (.int .i64 q) ∧ w'.cell? ⟨p1, 2, none⟩ = some (.int .i64 t)) (by kernel_rfl) ⟨fw6_0, fw6_1, fw6_2⟩ (fun hHeld => ?_)
      refine takeD 0 33 (.agg #[.int .i64 k, .int .i64 q, .int .i64 t]) rfl rfl (by kernel_rfl) (by kernel_rfl) (by kernel_rfl) (fun _ _ _ h => h) (Or.inl ⟨by kernel_rfl, by intro w hSw; (try dsimp only at hSw); go_simp⟩) hHeld ?_
      simp only [List.set_cons_zero, List.set_cons_succ]
      refine takeD 1 34 (.slice at2 ys.length ct) rfl rfl (by kernel_rfl) (by kernel_rfl) (by kernel_rfl) (fun _ _ _ h => h) (Or.inl ⟨by kernel_rfl, by intro w hSw; (try dsimp only at hSw); go_simp⟩) hHeld ?_
      simp only [List.set_cons_zero, List.set_cons_succ]
      refine wpAnyH_ready (rs := [2]) (by kernel_rfl) (by simp) (AllReadyH.cons rfl (fun K hK => ?_) AllReadyH.nil)
      go_simp
      refine (HG.out w6.drew HB6.out.drew).mono ?_
      rintro e w7 ⟨rfl, bw7⟩
      have fw7_0 : w7.cell? ⟨p1, 0, none⟩ = some (.int .i64 k) := kc (show w6.drew.cell? _ = _ from fw6_0) bw7
      have fw7_1 : w7.cell? ⟨p1, 1, none⟩ = some (.int .i64 q) := kc (show w6.drew.cell? _ = _ from fw6_1) bw7
      have fw7_2 : w7.cell? ⟨p1, 2, none⟩ = some (.int .i64 t) := kc (show w6.drew.cell? _ = _ from fw6_2) bw7
      have HB7 := mkHid (bt HB6.out.drew bw7)
      clear bw7 hHeld
      refine hK.out _ _ ⟨fw7_0, fw7_1, fw7_2⟩ (fun hHeld => ?_)
      clear hK K
      refine takeD 3 36 (.bool false) rfl rfl (by kernel_rfl) (by kernel_rfl) (by kernel_rfl) (fun _ _ _ h => h) (Or.inl ⟨by kernel_rfl, by intro w hSw; (try dsimp only at hSw); go_simp⟩) hHeld ?_
      simp only [List.set_cons_zero, List.set_cons_succ]
      refine takeD 4 37 (.bool false) rfl rfl (by kernel_rfl) (by kernel_rfl) (by kernel_rfl) (fun _ _ _ h => h) (Or.inl ⟨by kernel_rfl, by intro w hSw; (try dsimp only at hSw); go_simp⟩) hHeld ?_
      simp only [List.set_cons_zero, List.set_cons_succ]
      refine takeD 5 38 (.slice at2 ys.length ct) rfl rfl (by kernel_rfl) (by kernel_rfl) (by kernel_rfl) (fun _ _ _ h => h) (Or.inl ⟨by kernel_rfl, by intro w hSw; (try dsimp only at hSw); go_simp⟩) hHeld ?_
      simp only [List.set_cons_zero, List.set_cons_succ]
      refine takeD 6 39 (.int .i64 L) rfl rfl (by kernel_rfl) (by kernel_rfl) (by kernel_rfl) (fun _ _ _ h => h) (Or.inl ⟨by kernel_rfl, by intro w hSw; (try dsimp only at hSw); go_simp⟩) hHeld ?_
      simp only [List.set_cons_zero, List.set_cons_succ]
      refine takeD 8 41 (.agg #[.int .i64 k, .int .i64 q, .int .i64 t]) rfl rfl (by kernel_rfl) (by kernel_rfl) (by kernel_rfl) (fun _ _ _ h => h) (Or.inl ⟨by kernel_rfl, by intro w hSw; (try dsimp only at hSw); go_simp⟩) hHeld ?_
      simp only [List.set_cons_zero, List.set_cons_succ]
      refine takeD 9 42 (.int .i64 L) rfl rfl (by kernel_rfl) (by kernel_rfl) (by kernel_rfl) (fun _ _ _ h => h) (Or.inl ⟨by kernel_rfl, by intro w hSw; (try dsimp only at hSw); go_simp⟩) hHeld ?_
      simp only [List.set_cons_zero, List.set_cons_succ]
      refine wpAnyH_ready (rs := [7]) (by kernel_rfl) (by simp) (AllReadyH.cons rfl (fun K hK => ?_) AllReadyH.nil)
      go_simp
      refine (G3.out w7 HB7.out).mono ?_
      rintro e w8 ⟨rfl, bw8⟩
      have fw8_0 : w8.cell? ⟨p1, 0, none⟩ = some (.int .i64 k) := kc fw7_0 bw8
      have fw8_1 : w8.cell? ⟨p1, 1, none⟩ = some (.int .i64 q) := kc fw7_1 bw8
      have fw8_2 : w8.cell? ⟨p1, 2, none⟩ = some (.int .i64 t) := kc fw7_2 bw8
      have HB8 := mkHid (bt HB7.out bw8)
      clear bw8 hHeld
      refine hK.out _ _ ⟨fw8_0, fw8_1, fw8_2⟩ (fun hHeld => ?_)
      clear hK K
      refine wpAnyH_ready (rs := [10]) (by kernel_rfl) (by simp) (AllReadyH.cons rfl (fun K hK => ?_) AllReadyH.nil)
      go_simp
      refine (G4.out w8 HB8.out).mono ?_
      rintro e w9 ⟨rfl, bw9⟩
      have fw9_0 : w9.cell? ⟨p1, 0, none⟩ = some (.int .i64 k) := kc fw8_0 bw9
      have fw9_1 : w9.cell? ⟨p1, 1, none⟩ = some (.int .i64 q) := kc fw8_1 bw9
      have fw9_2 : w9.cell? ⟨p1, 2, none⟩ = some (.int .i64 t) := kc fw8_2 bw9
      have HB9 := mkHid (bt HB8.out bw9)
      clear bw9 hHeld
      refine hK.out _ _ ⟨fw9_0, fw9_1, fw9_2⟩ (fun hHeld => ?_)
      clear hK K
      refine takeD 11 44 (.bool true) rfl rfl (by kernel_rfl) (by kernel_rfl) (by kernel_rfl) (fun _ _ _ h => h) (Or.inl ⟨by kernel_rfl, by intro w hSw; (try dsimp only at hSw); go_simp⟩) hHeld ?_
      simp only [List.set_cons_zero, List.set_cons_succ]
      refine takeD 12 45 (.bool true) rfl rfl (by kernel_rfl) (by kernel_rfl) (by kernel_rfl) (fun _ _ _ h => h) (Or.inl ⟨by kernel_rfl, by intro w hSw; (try dsimp only at hSw); go_simp⟩) hHeld ?_
      simp only [List.set_cons_zero, List.set_cons_succ]
      refine takeD 13 2 (.bool true) rfl rfl (by kernel_rfl) (by kernel_rfl) (by kernel_rfl) (fun _ _ _ h => h) (Or.inl ⟨by kernel_rfl, by intro w hSw; (try dsimp only at hSw); go_simp⟩) hHeld ?_
      simp only [List.set_cons_zero, List.set_cons_succ]
      refine wpAnyH_done (by kernel_rfl) ?_ _
      go_wp2
      go_ret
      exact ⟨rfl, HB9.out⟩
    · rw [e2] at HG
      clear F2
      go_enter Tryd.func6, Tryd.ntmps6
      go_wp2
      obtain ⟨W, hW⟩ : ∃ W, W = w.alloc (oA (k, q, t) (.slice al xs.length cl) (.slice at2 ys.length ct) n) := ⟨_, rfl⟩
      have HW : Hid (Below w.heap.size w W) := mkHid (by rw [hW]; exact ba (Below.refl _ _) _)
      have x0 : W.cell? ⟨w.heap.size, 0, none⟩ = some (.int .i64 k) := by rw [hW]; simp [go_sem]
      have x1 : W.cell? ⟨w.heap.size, 1, none⟩ = some (.int .i64 q) := by rw [hW]; simp [go_sem]
      have x2 : W.cell? ⟨w.heap.size, 2, none⟩ = some (.int .i64 t) := by rw [hW]; simp [go_sem]
      have x3 : W.cell? ⟨w.heap.size, 3, none⟩ = some (.slice al xs.length cl) := by rw [hW]; simp [go_sem]
      have x4 : W.cell? ⟨w.heap.size, 4, none⟩ = some (.slice at2 ys.length ct) := by rw [hW]; simp [go_sem]
      have x5 : W.cell? ⟨w.heap.size, 5, none⟩ = some (.int .i64 n) := by rw [hW]; simp [go_sem]
      rw [← hW]
      clear hW
      generalize w.heap.size = p0 at x0 x1 x2 x3 x4 x5 ⊢
      go_region_held3 (fun w' => w'.cell? ⟨p0, 0, none⟩ = some (.int .i64 k) ∧ w'.cell? ⟨p0, 1, none⟩ = some (.int .i64 q) ∧ w'.cell? ⟨p0, 2, none⟩ = some (.int .i64 t) ∧ w'.cell? ⟨p0, 3, none⟩ = some (.slice al xs.length cl) ∧ w'.cell? ⟨p0, 4, none⟩ = some (.slice at2 ys.length ct) ∧ w'.cell? ⟨p0, 5, none⟩ = some (.int .i64 n)) (go_keep) (fail)
      obtain ⟨W2, hW2⟩ : ∃ W2, W2 = (W.alloc (oS (k, q, t))).drew := ⟨_, rfl⟩
      have y0 : W2.cell? ⟨W.heap.size, 0, none⟩ = some (.int .i64 k) := by rw [hW2]; simp [go_sem]
      have y1 : W2.cell? ⟨W.heap.size, 1, none⟩ = some (.int .i64 q) := by rw [hW2]; simp [go_sem]
      have y2 : W2.cell? ⟨W.heap.size, 2, none⟩ = some (.int .i64 t) := by rw [hW2]; simp [go_sem]
      have HB2 : Hid (Below w.heap.size w W2) := mkHid (by rw [hW2]; exact (ba HW.out _).drew)
      rw [← hW2]
      clear hW2 x0 x1 x2 x3 x4 x5
      generalize W.heap.size = p1 at y0 y1 y2 ⊢
      clear HW
      go_wp2_with (go_at_call 9; refine (HAL.out _ HB2.out).mono ?_; rintro e w3 ⟨rfl, b3⟩; have z0 := kc y0 b3; have z1 := kc y1 b3; have z2 := kc y2 b3; have HB3 := mkHid (bt HB2.out b3); clear b3 y0 y1 y2)
      refine wp_region_held_drew (S := fun w' => w'.cell? ⟨p1, 0, none⟩ = some (.int .i64 k) ∧ w'.cell? ⟨p1, 1, none⟩ = some (.int .i64 q) ∧ w'.cell? ⟨p1, 2, none⟩ = some (.int .i64 t)) (by kernel_rfl) ⟨z0, z1, z2⟩ (fun hHeld => ?_)
      refine takeD 0 20 (.agg #[.int .i64 k, .int .i64 q, .int .i64 t]) rfl rfl (by kernel_rfl) (by kernel_rfl) (by kernel_rfl) (fun _ _ _ h => h) (Or.inl ⟨by kernel_rfl, by intro w hSw; (try dsimp only at hSw); go_simp⟩) hHeld ?_
      simp only [List.set_cons_zero, List.set_cons_succ]
      refine takeD 1 21 (.slice al xs.length cl) rfl rfl (by kernel_rfl) (by kernel_rfl) (by kernel_rfl) (fun _ _ _ h => h) (Or.inl ⟨by kernel_rfl, by intro w hSw; (try dsimp only at hSw); go_simp⟩) hHeld ?_
      simp only [List.set_cons_zero, List.set_cons_succ]
      refine wpAnyH_ready (rs := [2]) (by kernel_rfl) (by simp) (AllReadyH.cons rfl (fun K hK => ?_) AllReadyH.nil)
      go_simp
      refine (HK.out w3.drew HB3.out.drew).mono ?_
      rintro e w4 ⟨rfl, bw4⟩
      have fw4_0 : w4.cell? ⟨p1, 0, none⟩ = some (.int .i64 k) := kc (show w3.drew.cell? _ = _ from z0) bw4
      have fw4_1 : w4.cell? ⟨p1, 1, none⟩ = some (.int .i64 q) := kc (show w3.drew.cell? _ = _ from z1) bw4
      have fw4_2 : w4.cell? ⟨p1, 2, none⟩ = some (.int .i64 t) := kc (show w3.drew.cell? _ = _ from z2) bw4
      have HB4 := mkHid (bt HB3.out.drew bw4)
      clear bw4 hHeld
      refine hK.out _ _ ⟨fw4_0, fw4_1, fw4_2⟩ (fun hHeld => ?_)
      clear hK K
      refine takeD 3 23 (.bool true) rfl rfl (by kernel_rfl) (by kernel_rfl) (by kernel_rfl) (fun _ _ _ h => h) (Or.inl ⟨by kernel_rfl, by intro w hSw; (try dsimp only at hSw); go_simp⟩) hHeld ?_
      simp only [List.set_cons_zero, List.set_cons_succ]
      refine takeD 4 24 (.bool true) rfl rfl (by kernel_rfl) (by kernel_rfl) (by kernel_rfl) (fun _ _ _ h => h) (Or.inl ⟨by kernel_rfl, by intro w hSw; (try dsimp only at hSw); go_simp⟩) hHeld ?_
      simp only [List.set_cons_zero, List.set_cons_succ]
      refine takeD 5 25 (.slice al xs.length cl) rfl rfl (by kernel_rfl) (by kernel_rfl) (by kernel_rfl) (fun _ _ _ h => h) (Or.inl ⟨by kernel_rfl, by intro w hSw; (try dsimp only at hSw); go_simp⟩) hHeld ?_
      simp only [List.set_cons_zero, List.set_cons_succ]
      refine takeD 6 26 (.int .i64 L) rfl rfl (by kernel_rfl) (by kernel_rfl) (by kernel_rfl) (fun _ _ _ h => h) (Or.inl ⟨by kernel_rfl, by intro w hSw; (try dsimp only at hSw); go_simp⟩) hHeld ?_
      simp only [List.set_cons_zero, List.set_cons_succ]
      refine takeD 8 28 (.agg #[.int .i64 k, .int .i64 q, .int .i64 t]) rfl rfl (by kernel_rfl) (by kernel_rfl) (by kernel_rfl) (fun _ _ _ h => h) (Or.inl ⟨by kernel_rfl, by intro w hSw; (try dsimp only at hSw); go_simp⟩) hHeld ?_
      simp only [List.set_cons_zero, List.set_cons_succ]
      refine takeD 9 29 (.int .i64 L) rfl rfl (by kernel_rfl) (by kernel_rfl) (by kernel_rfl) (fun _ _ _ h => h) (Or.inl ⟨by kernel_rfl, by intro w hSw; (try dsimp only at hSw); go_simp⟩) hHeld ?_
      simp only [List.set_cons_zero, List.set_cons_succ]
      refine wpAnyH_ready (rs := [7]) (by kernel_rfl) (by simp) (AllReadyH.cons rfl (fun K hK => ?_) AllReadyH.nil)
      go_simp
      refine (G1.out w4 HB4.out).mono ?_
      rintro e w5 ⟨rfl, bw5⟩
      have fw5_0 : w5.cell? ⟨p1, 0, none⟩ = some (.int .i64 k) := kc fw4_0 bw5
      have fw5_1 : w5.cell? ⟨p1, 1, none⟩ = some (.int .i64 q) := kc fw4_1 bw5
      have fw5_2 : w5.cell? ⟨p1, 2, none⟩ = some (.int .i64 t) := kc fw4_2 bw5
      have HB5 := mkHid (bt HB4.out bw5)
      clear bw5 hHeld
      refine hK.out _ _ ⟨fw5_0, fw5_1, fw5_2⟩ (fun hHeld => ?_)
      clear hK K
      refine wpAnyH_ready (rs := [10]) (by kernel_rfl) (by simp) (AllReadyH.cons rfl (fun K hK => ?_) AllReadyH.nil)
      go_simp
      refine (G2.out w5 HB5.out).mono ?_
      rintro e w6 ⟨rfl, bw6⟩
      have fw6_0 : w6.cell? ⟨p1, 0, none⟩ = some (.int .i64 k) := kc fw5_0 bw6
      have fw6_1 : w6.cell? ⟨p1, 1, none⟩ = some (.int .i64 q) := kc fw5_1 bw6
      have fw6_2 : w6.cell? ⟨p1, 2, none⟩ = some (.int .i64 t) := kc fw5_2 bw6
      have HB6 := mkHid (bt HB5.out bw6)
      clear bw6 hHeld
      refine hK.out _ _ ⟨fw6_0, fw6_1, fw6_2⟩ (fun hHeld => ?_)
      clear hK K
      refine takeD 11 31 (.bool false) rfl rfl (by kernel_rfl) (by kernel_rfl) (by kernel_rfl) (fun _ _ _ h => h) (Or.inl ⟨by kernel_rfl, by intro w hSw; (try dsimp only at hSw); go_simp⟩) hHeld ?_
      simp only [List.set_cons_zero, List.set_cons_succ]
      refine takeD 12 32 (.bool false) rfl rfl (by kernel_rfl) (by kernel_rfl) (by kernel_rfl) (fun _ _ _ h => h) (Or.inl ⟨by kernel_rfl, by intro w hSw; (try dsimp only at hSw); go_simp⟩) hHeld ?_
      simp only [List.set_cons_zero, List.set_cons_succ]
      refine wpAnyH_done (by kernel_rfl) ?_ _
      go_wp2
      refine wp_region_held_drew (S := fun w' => w'.cell? ⟨p1, 0, none⟩ = some (.int .i64 k) ∧ w'.cell? ⟨p1, 1, none⟩ = some (.int .i64 q) ∧ w'.cell? ⟨p1, 2, none⟩ = some (.int .i64 t)) (by kernel_rfl) ⟨fw6_0, fw6_1, fw6_2⟩ (fun hHeld => ?_)
      refine takeD 0 33 (.agg #[.int .i64 k, .int .i64 q, .int .i64 t]) rfl rfl (by kernel_rfl) (by kernel_rfl) (by kernel_rfl) (fun _ _ _ h => h) (Or.inl ⟨by kernel_rfl, by intro w hSw; (try dsimp only at hSw); go_simp⟩) hHeld ?_
      simp only [List.set_cons_zero, List.set_cons_succ]
      refine takeD 1 34 (.slice at2 ys.length ct) rfl rfl (by kernel_rfl) (by kernel_rfl) (by kernel_rfl) (fun _ _ _ h => h) (Or.inl ⟨by kernel_rfl, by intro w hSw; (try dsimp only at hSw); go_simp⟩) hHeld ?_
      simp only [List.set_cons_zero, List.set_cons_succ]
      refine wpAnyH_ready (rs := [2]) (by kernel_rfl) (by simp) (AllReadyH.cons rfl (fun K hK => ?_) AllReadyH.nil)
      go_simp
      refine (HG.out w6.drew HB6.out.drew).mono ?_
      rintro e w7 ⟨rfl, bw7⟩
      have fw7_0 : w7.cell? ⟨p1, 0, none⟩ = some (.int .i64 k) := kc (show w6.drew.cell? _ = _ from fw6_0) bw7
      have fw7_1 : w7.cell? ⟨p1, 1, none⟩ = some (.int .i64 q) := kc (show w6.drew.cell? _ = _ from fw6_1) bw7
      have fw7_2 : w7.cell? ⟨p1, 2, none⟩ = some (.int .i64 t) := kc (show w6.drew.cell? _ = _ from fw6_2) bw7
      have HB7 := mkHid (bt HB6.out.drew bw7)
      clear bw7 hHeld
      refine hK.out _ _ ⟨fw7_0, fw7_1, fw7_2⟩ (fun hHeld => ?_)
      clear hK K
      refine takeD 3 36 (.bool true) rfl rfl (by kernel_rfl) (by kernel_rfl) (by kernel_rfl) (fun _ _ _ h => h) (Or.inl ⟨by kernel_rfl, by intro w hSw; (try dsimp only at hSw); go_simp⟩) hHeld ?_
      simp only [List.set_cons_zero, List.set_cons_succ]
      refine takeD 4 37 (.bool true) rfl rfl (by kernel_rfl) (by kernel_rfl) (by kernel_rfl) (fun _ _ _ h => h) (Or.inl ⟨by kernel_rfl, by intro w hSw; (try dsimp only at hSw); go_simp⟩) hHeld ?_
      simp only [List.set_cons_zero, List.set_cons_succ]
      refine takeD 5 38 (undef) rfl rfl (by kernel_rfl) (by kernel_rfl) (by kernel_rfl) (fun _ _ _ h => h) (Or.inr ⟨by kernel_rfl, rfl⟩) hHeld ?_
      simp only [List.set_cons_zero, List.set_cons_succ]
      refine takeD 6 39 (undef) rfl rfl (by kernel_rfl) (by kernel_rfl) (by kernel_rfl) (fun _ _ _ h => h) (Or.inr ⟨by kernel_rfl, rfl⟩) hHeld ?_
      simp only [List.set_cons_zero, List.set_cons_succ]
      refine takeD 7 40 (undef) rfl rfl (by kernel_rfl) (by kernel_rfl) (by kernel_rfl) (fun _ _ _ h => h) (Or.inr ⟨by kernel_rfl, rfl⟩) hHeld ?_
      simp only [List.set_cons_zero, List.set_cons_succ]
      refine takeD 8 41 (undef) rfl rfl (by kernel_rfl) (by kernel_rfl) (by kernel_rfl) (fun _ _ _ h => h) (Or.inr ⟨by kernel_rfl, rfl⟩) hHeld ?_
      simp only [List.set_cons_zero, List.set_cons_succ]
      refine takeD 9 42 (undef) rfl rfl (by kernel_rfl) (by kernel_rfl) (by kernel_rfl) (fun _ _ _ h => h) (Or.inr ⟨by kernel_rfl, rfl⟩) hHeld ?_
      simp only [List.set_cons_zero, List.set_cons_succ]
      refine takeD 10 43 (undef) rfl rfl (by kernel_rfl) (by kernel_rfl) (by kernel_rfl) (fun _ _ _ h => h) (Or.inr ⟨by kernel_rfl, rfl⟩) hHeld ?_
      simp only [List.set_cons_zero, List.set_cons_succ]
      refine takeD 11 44 (undef) rfl rfl (by kernel_rfl) (by kernel_rfl) (by kernel_rfl) (fun _ _ _ h => h) (Or.inr ⟨by kernel_rfl, rfl⟩) hHeld ?_
      simp only [List.set_cons_zero, List.set_cons_succ]
      refine takeD 12 45 (.bool true) rfl rfl (by kernel_rfl) (by kernel_rfl) (by kernel_rfl) (fun _ _ _ h => h) (Or.inl ⟨by kernel_rfl, by intro w hSw; (try dsimp only at hSw); go_simp⟩) hHeld ?_
      simp only [List.set_cons_zero, List.set_cons_succ]
      refine takeD 13 2 (.bool true) rfl rfl (by kernel_rfl) (by kernel_rfl) (by kernel_rfl) (fun _ _ _ h => h) (Or.inl ⟨by kernel_rfl, by intro w hSw; (try dsimp only at hSw); go_simp⟩) hHeld ?_
      simp only [List.set_cons_zero, List.set_cons_succ]
      refine wpAnyH_done (by kernel_rfl) ?_ _
      go_wp2
      go_ret
      exact ⟨rfl, HB7.out⟩
  · rw [e1] at HK
    clear F1
    rcases C2 with e2 | ⟨b2, e2⟩
    · subst e2
      obtain ⟨Hle, G3, G4⟩ := F2 rfl
      have Hd2 : decide (Y ≤ Z) = true := decide_eq_true Hle
      rw [ev6_0] at HG
      clear F2
      go_enter Tryd.func6, Tryd.ntmps6
      go_wp2
      obtain ⟨W, hW⟩ : ∃ W, W = w.alloc (oA (k, q, t) (.slice al xs.length cl) (.slice at2 ys.length ct) n) := ⟨_, rfl⟩
      have HW : Hid (Below w.heap.size w W) := mkHid (by rw [hW]; exact ba (Below.refl _ _) _)
      have x0 : W.cell? ⟨w.heap.size, 0, none⟩ = some (.int .i64 k) := by rw [hW]; simp [go_sem]
      have x1 : W.cell? ⟨w.heap.size, 1, none⟩ = some (.int .i64 q) := by rw [hW]; simp [go_sem]
      have x2 : W.cell? ⟨w.heap.size, 2, none⟩ = some (.int .i64 t) := by rw [hW]; simp [go_sem]
      have x3 : W.cell? ⟨w.heap.size, 3, none⟩ = some (.slice al xs.length cl) := by rw [hW]; simp [go_sem]
      have x4 : W.cell? ⟨w.heap.size, 4, none⟩ = some (.slice at2 ys.length ct) := by rw [hW]; simp [go_sem]
      have x5 : W.cell? ⟨w.heap.size, 5, none⟩ = some (.int .i64 n) := by rw [hW]; simp [go_sem]
      rw [← hW]
      clear hW
      generalize w.heap.size = p0 at x0 x1 x2 x3 x4 x5 ⊢
      go_region_held3 (fun w' => w'.cell? ⟨p0, 0, none⟩ = some (.int .i64 k) ∧ w'.cell? ⟨p0, 1, none⟩ = some (.int .i64 q) ∧ w'.cell? ⟨p0, 2, none⟩ = some (.int .i64 t) ∧ w'.cell? ⟨p0, 3, none⟩ = some (.slice al xs.length cl) ∧ w'.cell? ⟨p0, 4, none⟩ = some (.slice at2 ys.length ct) ∧ w'.cell? ⟨p0, 5, none⟩ = some (.int .i64 n)) (go_keep) (fail)
      obtain ⟨W2, hW2⟩ : ∃ W2, W2 = (W.alloc (oS (k, q, t))).drew := ⟨_, rfl⟩
      have y0 : W2.cell? ⟨W.heap.size, 0, none⟩ = some (.int .i64 k) := by rw [hW2]; simp [go_sem]
      have y1 : W2.cell? ⟨W.heap.size, 1, none⟩ = some (.int .i64 q) := by rw [hW2]; simp [go_sem]
      have y2 : W2.cell? ⟨W.heap.size, 2, none⟩ = some (.int .i64 t) := by rw [hW2]; simp [go_sem]
      have HB2 : Hid (Below w.heap.size w W2) := mkHid (by rw [hW2]; exact (ba HW.out _).drew)
      rw [← hW2]
      clear hW2 x0 x1 x2 x3 x4 x5
      generalize W.heap.size = p1 at y0 y1 y2 ⊢
      clear HW
      go_wp2_with (go_at_call 9; refine (HAL.out _ HB2.out).mono ?_; rintro e w3 ⟨rfl, b3⟩; have z0 := kc y0 b3; have z1 := kc y1 b3; have z2 := kc y2 b3; have HB3 := mkHid (bt HB2.out b3); clear b3 y0 y1 y2)
      refine wp_region_held_drew (S := fun w' => w'.cell? ⟨p1, 0, none⟩ = some (.int .i64 k) ∧ w'.cell? ⟨p1, 1, none⟩ = some (.int .i64 q) ∧ w'.cell? ⟨p1, 2, none⟩ = some (.int .i64 t)) (by kernel_rfl) ⟨z0, z1, z2⟩ (fun hHeld => ?_)
      refine takeD 0 20 (.agg #[.int .i64 k, .int .i64 q, .int .i64 t]) rfl rfl (by kernel_rfl) (by kernel_rfl) (by kernel_rfl) (fun _ _ _ h => h) (Or.inl ⟨by kernel_rfl, by intro w hSw; (try dsimp only at hSw); go_simp⟩) hHeld ?_
      simp only [List.set_cons_zero, List.set_cons_succ]
      refine takeD 1 21 (.slice al xs.length cl) rfl rfl (by kernel_rfl) (by kernel_rfl) (by kernel_rfl) (fun _ _ _ h => h) (Or.inl ⟨by kernel_rfl, by intro w hSw; (try dsimp only at hSw); go_simp⟩) hHeld ?_
      simp only [List.set_cons_zero, List.set_cons_succ]
      refine wpAnyH_ready (rs := [2]) (by kernel_rfl) (by simp) (AllReadyH.cons rfl (fun K hK => ?_) AllReadyH.nil)
      go_simp
      refine (HK.out w3.drew HB3.out.drew).mono ?_
      rintro e w4 ⟨rfl, bw4⟩
      have fw4_0 : w4.cell? ⟨p1, 0, none⟩ = some (.int .i64 k) := kc (show w3.drew.cell? _ = _ from z0) bw4
      have fw4_1 : w4.cell? ⟨p1, 1, none⟩ = some (.int .i64 q) := kc (show w3.drew.cell? _ = _ from z1) bw4
      have fw4_2 : w4.cell? ⟨p1, 2, none⟩ = some (.int .i64 t) := kc (show w3.drew.cell? _ = _ from z2) bw4
      have HB4 := mkHid (bt HB3.out.drew bw4)
      clear bw4 hHeld
      refine hK.out _ _ ⟨fw4_0, fw4_1, fw4_2⟩ (fun hHeld => ?_)
      clear hK K
      refine takeD 3 23 (.bool false) rfl rfl (by kernel_rfl) (by kernel_rfl) (by kernel_rfl) (fun _ _ _ h => h) (Or.inl ⟨by kernel_rfl, by intro w hSw; (try dsimp only at hSw); go_simp⟩) hHeld ?_
      simp only [List.set_cons_zero, List.set_cons_succ]
      refine takeD 4 24 (.bool false) rfl rfl (by kernel_rfl) (by kernel_rfl) (by kernel_rfl) (fun _ _ _ h => h) (Or.inl ⟨by kernel_rfl, by intro w hSw; (try dsimp only at hSw); go_simp⟩) hHeld ?_
      simp only [List.set_cons_zero, List.set_cons_succ]
      refine takeD 5 25 (undef) rfl rfl (by kernel_rfl) (by kernel_rfl) (by kernel_rfl) (fun _ _ _ h => h) (Or.inr ⟨by kernel_rfl, rfl⟩) hHeld ?_
      simp only [List.set_cons_zero, List.set_cons_succ]
      refine takeD 6 26 (undef) rfl rfl (by kernel_rfl) (by kernel_rfl) (by kernel_rfl) (fun _ _ _ h => h) (Or.inr ⟨by kernel_rfl, rfl⟩) hHeld ?_
      simp only [List.set_cons_zero, List.set_cons_succ]
      refine takeD 7 27 (undef) rfl rfl (by kernel_rfl) (by kernel_rfl) (by kernel_rfl) (fun _ _ _ h => h) (Or.inr ⟨by kernel_rfl, rfl⟩) hHeld ?_
      simp only [List.set_cons_zero, List.set_cons_succ]
      refine takeD 8 28 (undef) rfl rfl (by kernel_rfl) (by kernel_rfl) (by kernel_rfl) (fun _ _ _ h => h) (Or.inr ⟨by kernel_rfl, rfl⟩) hHeld ?_
      simp only [List.set_cons_zero, List.set_cons_succ]
      refine takeD 9 29 (undef) rfl rfl (by kernel_rfl) (by kernel_rfl) (by kernel_rfl) (fun _ _ _ h => h) (Or.inr ⟨by kernel_rfl, rfl⟩) hHeld ?_
      simp only [List.set_cons_zero, List.set_cons_succ]
      refine takeD 10 30 (undef) rfl rfl (by kernel_rfl) (by kernel_rfl) (by kernel_rfl) (fun _ _ _ h => h) (Or.inr ⟨by kernel_rfl, rfl⟩) hHeld ?_
      simp only [List.set_cons_zero, List.set_cons_succ]
      refine takeD 11 31 (undef) rfl rfl (by kernel_rfl) (by kernel_rfl) (by kernel_rfl) (fun _ _ _ h => h) (Or.inr ⟨by kernel_rfl, rfl⟩) hHeld ?_
      simp only [List.set_cons_zero, List.set_cons_succ]
      refine takeD 12 32 (.bool false) rfl rfl (by kernel_rfl) (by kernel_rfl) (by kernel_rfl) (fun _ _ _ h => h) (Or.inl ⟨by kernel_rfl, by intro w hSw; (try dsimp only at hSw); go_simp⟩) hHeld ?_
      simp only [List.set_cons_zero, List.set_cons_succ]
      refine wpAnyH_done (by kernel_rfl) ?_ _
      go_wp2
      refine wp_region_held_drew (S := fun w' => w'.cell? ⟨p1, 0, none⟩ = some (.int .i64 k) ∧ w'.cell? ⟨p1, 1, none⟩ = some (.int .i64 q) ∧ w'.cell? ⟨p1, 2, none⟩ = some (.int .i64 t)) (by kernel_rfl) ⟨fw4_0, fw4_1, fw4_2⟩ (fun hHeld => ?_)
      refine takeD 0 33 (.agg #[.int .i64 k, .int .i64 q, .int .i64 t]) rfl rfl (by kernel_rfl) (by kernel_rfl) (by kernel_rfl) (fun _ _ _ h => h) (Or.inl ⟨by kernel_rfl, by intro w hSw; (try dsimp only at hSw); go_simp⟩) hHeld ?_
      simp only [List.set_cons_zero, List.set_cons_succ]
      refine takeD 1 34 (.slice at2 ys.length ct) rfl rfl (by kernel_rfl) (by kernel_rfl) (by kernel_rfl) (fun _ _ _ h => h) (Or.inl ⟨by kernel_rfl, by intro w hSw; (try dsimp only at hSw); go_simp⟩) hHeld ?_
      simp only [List.set_cons_zero, List.set_cons_succ]
      refine wpAnyH_ready (rs := [2]) (by kernel_rfl) (by simp) (AllReadyH.cons rfl (fun K hK => ?_) AllReadyH.nil)
      go_simp
      refine (HG.out w4.drew HB4.out.drew).mono ?_
      rintro e w5 ⟨rfl, bw5⟩
      have fw5_0 : w5.cell? ⟨p1, 0, none⟩ = some (.int .i64 k) := kc (show w4.drew.cell? _ = _ from fw4_0) bw5
      have fw5_1 : w5.cell? ⟨p1, 1, none⟩ = some (.int .i64 q) := kc (show w4.drew.cell? _ = _ from fw4_1) bw5
      have fw5_2 : w5.cell? ⟨p1, 2, none⟩ = some (.int .i64 t) := kc (show w4.drew.cell? _ = _ from fw4_2) bw5
      have HB5 := mkHid (bt HB4.out.drew bw5)
      clear bw5 hHeld
      refine hK.out _ _ ⟨fw5_0, fw5_1, fw5_2⟩ (fun hHeld => ?_)
      clear hK K
      refine takeD 3 36 (.bool false) rfl rfl (by kernel_rfl) (by kernel_rfl) (by kernel_rfl) (fun _ _ _ h => h) (Or.inl ⟨by kernel_rfl, by intro w hSw; (try dsimp only at hSw); go_simp⟩) hHeld ?_
      simp only [List.set_cons_zero, List.set_cons_succ]
      refine takeD 4 37 (.bool false) rfl rfl (by kernel_rfl) (by kernel_rfl) (by kernel_rfl) (fun _ _ _ h => h) (Or.inl ⟨by kernel_rfl, by intro w hSw; (try dsimp only at hSw); go_simp⟩) hHeld ?_
      simp only [List.set_cons_zero, List.set_cons_succ]
      refine takeD 5 38 (.slice at2 ys.length ct) rfl rfl (by kernel_rfl) (by kernel_rfl) (by kernel_rfl) (fun _ _ _ h => h) (Or.inl ⟨by kernel_rfl, by intro w hSw; (try dsimp only at hSw); go_simp⟩) hHeld ?_
      simp only [List.set_cons_zero, List.set_cons_succ]
      refine takeD 6 39 (.int .i64 L) rfl rfl (by kernel_rfl) (by kernel_rfl) (by kernel_rfl) (fun _ _ _ h => h) (Or.inl ⟨by kernel_rfl, by intro w hSw; (try dsimp only at hSw); go_simp⟩) hHeld ?_
      simp only [List.set_cons_zero, List.set_cons_succ]
      refine takeD 8 41 (.agg #[.int .i64 k, .int .i64 q, .int .i64 t]) rfl rfl (by kernel_rfl) (by kernel_rfl) (by kernel_rfl) (fun _ _ _ h => h) (Or.inl ⟨by kernel_rfl, by intro w hSw; (try dsimp only at hSw); go_simp⟩) hHeld ?_
      simp only [List.set_cons_zero, List.set_cons_succ]
      refine takeD 9 42 (.int .i64 L) rfl rfl (by kernel_rfl) (by kernel_rfl) (by kernel_rfl) (fun _ _ _ h => h) (Or.inl ⟨by kernel_rfl, by intro w hSw; (try dsimp only at hSw); go_simp⟩) hHeld ?_
      simp only [List.set_cons_zero, List.set_cons_succ]
      refine wpAnyH_ready (rs := [7]) (by kernel_rfl) (by simp) (AllReadyH.cons rfl (fun K hK => ?_) AllReadyH.nil)
      go_simp
      refine (G3.out w5 HB5.out).mono ?_
      rintro e w6 ⟨rfl, bw6⟩
      have fw6_0 : w6.cell? ⟨p1, 0, none⟩ = some (.int .i64 k) := kc fw5_0 bw6
      have fw6_1 : w6.cell? ⟨p1, 1, none⟩ = some (.int .i64 q) := kc fw5_1 bw6
      have fw6_2 : w6.cell? ⟨p1, 2, none⟩ = some (.int .i64 t) := kc fw5_2 bw6
      have HB6 := mkHid (bt HB5.out bw6)
      clear bw6 hHeld
      refine hK.out _ _ ⟨fw6_0, fw6_1, fw6_2⟩ (fun hHeld => ?_)
      clear hK K
      refine wpAnyH_ready (rs := [10]) (by kernel_rfl) (by simp) (AllReadyH.cons rfl (fun K hK => ?_) AllReadyH.nil)
      go_simp
      refine (G4.out w6 HB6.out).mono ?_
      rintro e w7 ⟨rfl, bw7⟩
      have fw7_0 : w7.cell? ⟨p1, 0, none⟩ = some (.int .i64 k) := kc fw6_0 bw7
      have fw7_1 : w7.cell? ⟨p1, 1, none⟩ = some (.int .i64 q) := kc fw6_1 bw7
      have fw7_2 : w7.cell? ⟨p1, 2, none⟩ = some (.int .i64 t) := kc fw6_2 bw7
      have HB7 := mkHid (bt HB6.out bw7)
      clear bw7 hHeld
      refine hK.out _ _ ⟨fw7_0, fw7_1, fw7_2⟩ (fun hHeld => ?_)
      clear hK K
      refine takeD 11 44 (.bool true) rfl rfl (by kernel_rfl) (by kernel_rfl) (by kernel_rfl) (fun _ _ _ h => h) (Or.inl ⟨by kernel_rfl, by intro w hSw; (try dsimp only at hSw); go_simp⟩) hHeld ?_
      simp only [List.set_cons_zero, List.set_cons_succ]
      refine takeD 12 45 (.bool true) rfl rfl (by kernel_rfl) (by kernel_rfl) (by kernel_rfl) (fun _ _ _ h => h) (Or.inl ⟨by kernel_rfl, by intro w hSw; (try dsimp only at hSw); go_simp⟩) hHeld ?_
      simp only [List.set_cons_zero, List.set_cons_succ]
      refine takeD 13 2 (.bool true) rfl rfl (by kernel_rfl) (by kernel_rfl) (by kernel_rfl) (fun _ _ _ h => h) (Or.inl ⟨by kernel_rfl, by intro w hSw; (try dsimp only at hSw); go_simp⟩) hHeld ?_
      simp only [List.set_cons_zero, List.set_cons_succ]
      refine wpAnyH_done (by kernel_rfl) ?_ _
      go_wp2
      go_ret
      exact ⟨rfl, HB7.out⟩
    · rw [e2] at HG
      clear F2
      go_enter Tryd.func6, Tryd.ntmps6
      go_wp2
      obtain ⟨W, hW⟩ : ∃ W, W = w.alloc (oA (k, q, t) (.slice al xs.length cl) (.slice at2 ys.length ct) n) := ⟨_, rfl⟩
      have HW : Hid (Below w.heap.size w W) := mkHid (by rw [hW]; exact ba (Below.refl _ _) _)
      have x0 : W.cell? ⟨w.heap.size, 0, none⟩ = some (.int .i64 k) := by rw [hW]; simp [go_sem]
      have x1 : W.cell? ⟨w.heap.size, 1, none⟩ = some (.int .i64 q) := by rw [hW]; simp [go_sem]
      have x2 : W.cell? ⟨w.heap.size, 2, none⟩ = some (.int .i64 t) := by rw [hW]; simp [go_sem]
      have x3 : W.cell? ⟨w.heap.size, 3, none⟩ = some (.slice al xs.length cl) := by rw [hW]; simp [go_sem]
      have x4 : W.cell? ⟨w.heap.size, 4, none⟩ = some (.slice at2 ys.length ct) := by rw [hW]; simp [go_sem]
      have x5 : W.cell? ⟨w.heap.size, 5, none⟩ = some (.int .i64 n) := by rw [hW]; simp [go_sem]
      rw [← hW]
      clear hW
      generalize w.heap.size = p0 at x0 x1 x2 x3 x4 x5 ⊢
      go_region_held3 (fun w' => w'.cell? ⟨p0, 0, none⟩ = some (.int .i64 k) ∧ w'.cell? ⟨p0, 1, none⟩ = some (.int .i64 q) ∧ w'.cell? ⟨p0, 2, none⟩ = some (.int .i64 t) ∧ w'.cell? ⟨p0, 3, none⟩ = some (.slice al xs.length cl) ∧ w'.cell? ⟨p0, 4, none⟩ = some (.slice at2 ys.length ct) ∧ w'.cell? ⟨p0, 5, none⟩ = some (.int .i64 n)) (go_keep) (fail)
      obtain ⟨W2, hW2⟩ : ∃ W2, W2 = (W.alloc (oS (k, q, t))).drew := ⟨_, rfl⟩
      have y0 : W2.cell? ⟨W.heap.size, 0, none⟩ = some (.int .i64 k) := by rw [hW2]; simp [go_sem]
      have y1 : W2.cell? ⟨W.heap.size, 1, none⟩ = some (.int .i64 q) := by rw [hW2]; simp [go_sem]
      have y2 : W2.cell? ⟨W.heap.size, 2, none⟩ = some (.int .i64 t) := by rw [hW2]; simp [go_sem]
      have HB2 : Hid (Below w.heap.size w W2) := mkHid (by rw [hW2]; exact (ba HW.out _).drew)
      rw [← hW2]
      clear hW2 x0 x1 x2 x3 x4 x5
      generalize W.heap.size = p1 at y0 y1 y2 ⊢
      clear HW
      go_wp2_with (go_at_call 9; refine (HAL.out _ HB2.out).mono ?_; rintro e w3 ⟨rfl, b3⟩; have z0 := kc y0 b3; have z1 := kc y1 b3; have z2 := kc y2 b3; have HB3 := mkHid (bt HB2.out b3); clear b3 y0 y1 y2)
      refine wp_region_held_drew (S := fun w' => w'.cell? ⟨p1, 0, none⟩ = some (.int .i64 k) ∧ w'.cell? ⟨p1, 1, none⟩ = some (.int .i64 q) ∧ w'.cell? ⟨p1, 2, none⟩ = some (.int .i64 t)) (by kernel_rfl) ⟨z0, z1, z2⟩ (fun hHeld => ?_)
      refine takeD 0 20 (.agg #[.int .i64 k, .int .i64 q, .int .i64 t]) rfl rfl (by kernel_rfl) (by kernel_rfl) (by kernel_rfl) (fun _ _ _ h => h) (Or.inl ⟨by kernel_rfl, by intro w hSw; (try dsimp only at hSw); go_simp⟩) hHeld ?_
      simp only [List.set_cons_zero, List.set_cons_succ]
      refine takeD 1 21 (.slice al xs.length cl) rfl rfl (by kernel_rfl) (by kernel_rfl) (by kernel_rfl) (fun _ _ _ h => h) (Or.inl ⟨by kernel_rfl, by intro w hSw; (try dsimp only at hSw); go_simp⟩) hHeld ?_
      simp only [List.set_cons_zero, List.set_cons_succ]
      refine wpAnyH_ready (rs := [2]) (by kernel_rfl) (by simp) (AllReadyH.cons rfl (fun K hK => ?_) AllReadyH.nil)
      go_simp
      refine (HK.out w3.drew HB3.out.drew).mono ?_
      rintro e w4 ⟨rfl, bw4⟩
      have fw4_0 : w4.cell? ⟨p1, 0, none⟩ = some (.int .i64 k) := kc (show w3.drew.cell? _ = _ from z0) bw4
      have fw4_1 : w4.cell? ⟨p1, 1, none⟩ = some (.int .i64 q) := kc (show w3.drew.cell? _ = _ from z1) bw4
      have fw4_2 : w4.cell? ⟨p1, 2, none⟩ = some (.int .i64 t) := kc (show w3.drew.cell? _ = _ from z2) bw4
      have HB4 := mkHid (bt HB3.out.drew bw4)
      clear bw4 hHeld
      refine hK.out _ _ ⟨fw4_0, fw4_1, fw4_2⟩ (fun hHeld => ?_)
      clear hK K
      refine takeD 3 23 (.bool false) rfl rfl (by kernel_rfl) (by kernel_rfl) (by kernel_rfl) (fun _ _ _ h => h) (Or.inl ⟨by kernel_rfl, by intro w hSw; (try dsimp only at hSw); go_simp⟩) hHeld ?_
      simp only [List.set_cons_zero, List.set_cons_succ]
      refine takeD 4 24 (.bool false) rfl rfl (by kernel_rfl) (by kernel_rfl) (by kernel_rfl) (fun _ _ _ h => h) (Or.inl ⟨by kernel_rfl, by intro w hSw; (try dsimp only at hSw); go_simp⟩) hHeld ?_
      simp only [List.set_cons_zero, List.set_cons_succ]
      refine takeD 5 25 (undef) rfl rfl (by kernel_rfl) (by kernel_rfl) (by kernel_rfl) (fun _ _ _ h => h) (Or.inr ⟨by kernel_rfl, rfl⟩) hHeld ?_
      simp only [List.set_cons_zero, List.set_cons_succ]
      refine takeD 6 26 (undef) rfl rfl (by kernel_rfl) (by kernel_rfl) (by kernel_rfl) (fun _ _ _ h => h) (Or.inr ⟨by kernel_rfl, rfl⟩) hHeld ?_
      simp only [List.set_cons_zero, List.set_cons_succ]
      refine takeD 7 27 (undef) rfl rfl (by kernel_rfl) (by kernel_rfl) (by kernel_rfl) (fun _ _ _ h => h) (Or.inr ⟨by kernel_rfl, rfl⟩) hHeld ?_
      simp only [List.set_cons_zero, List.set_cons_succ]
      refine takeD 8 28 (undef) rfl rfl (by kernel_rfl) (by kernel_rfl) (by kernel_rfl) (fun _ _ _ h => h) (Or.inr ⟨by kernel_rfl, rfl⟩) hHeld ?_
      simp only [List.set_cons_zero, List.set_cons_succ]
      refine takeD 9 29 (undef) rfl rfl (by kernel_rfl) (by kernel_rfl) (by kernel_rfl) (fun _ _ _ h => h) (Or.inr ⟨by kernel_rfl, rfl⟩) hHeld ?_
      simp only [List.set_cons_zero, List.set_cons_succ]
      refine takeD 10 30 (undef) rfl rfl (by kernel_rfl) (by kernel_rfl) (by kernel_rfl) (fun _ _ _ h => h) (Or.inr ⟨by kernel_rfl, rfl⟩) hHeld ?_
      simp only [List.set_cons_zero, List.set_cons_succ]
      refine takeD 11 31 (undef) rfl rfl (by kernel_rfl) (by kernel_rfl) (by kernel_rfl) (fun _ _ _ h => h) (Or.inr ⟨by kernel_rfl, rfl⟩) hHeld ?_
      simp only [List.set_cons_zero, List.set_cons_succ]
      refine takeD 12 32 (.bool false) rfl rfl (by kernel_rfl) (by kernel_rfl) (by kernel_rfl) (fun _ _ _ h => h) (Or.inl ⟨by kernel_rfl, by intro w hSw; (try dsimp only at hSw); go_simp⟩) hHeld ?_
      simp only [List.set_cons_zero, List.set_cons_succ]
      refine wpAnyH_done (by kernel_rfl) ?_ _
      go_wp2
      refine wp_region_held_drew (S := fun w' => w'.cell? ⟨p1, 0, none⟩ = some (.int .i64 k) ∧ w'.cell? ⟨p1, 1, none⟩ = some (.int .i64 q) ∧ w'.cell? ⟨p1, 2, none⟩ = some (.int .i64 t)) (by kernel_rfl) ⟨fw4_0, fw4_1, fw4_2⟩ (fun hHeld => ?_)
      refine takeD 0 33 (.agg #[.int .i64 k, .int .i64 q, .int .i64 t]) rfl rfl (by kernel_rfl) (by kernel_rfl) (by kernel_rfl) (fun _ _ _ h => h) (Or.inl ⟨by kernel_rfl, by intro w hSw; (try dsimp only at hSw); go_simp⟩) hHeld ?_
      simp only [List.set_cons_zero, List.set_cons_succ]
      refine takeD 1 34 (.slice at2 ys.length ct) rfl rfl (by kernel_rfl) (by kernel_rfl) (by kernel_rfl) (fun _ _ _ h => h) (Or.inl ⟨by kernel_rfl, by intro w hSw; (try dsimp only at hSw); go_simp⟩) hHeld ?_
      simp only [List.set_cons_zero, List.set_cons_succ]
      refine wpAnyH_ready (rs := [2]) (by kernel_rfl) (by simp) (AllReadyH.cons rfl (fun K hK => ?_) AllReadyH.nil)
      go_simp
      refine (HG.out w4.drew HB4.out.drew).mono ?_
      rintro e w5 ⟨rfl, bw5⟩
      have fw5_0 : w5.cell? ⟨p1, 0, none⟩ = some (.int .i64 k) := kc (show w4.drew.cell? _ = _ from fw4_0) bw5
      have fw5_1 : w5.cell? ⟨p1, 1, none⟩ = some (.int .i64 q) := kc (show w4.drew.cell? _ = _ from fw4_1) bw5
      have fw5_2 : w5.cell? ⟨p1, 2, none⟩ = some (.int .i64 t) := kc (show w4.drew.cell? _ = _ from fw4_2) bw5
      have HB5 := mkHid (bt HB4.out.drew bw5)
      clear bw5 hHeld
      refine hK.out _ _ ⟨fw5_0, fw5_1, fw5_2⟩ (fun hHeld => ?_)
      clear hK K
      refine takeD 3 36 (.bool true) rfl rfl (by kernel_rfl) (by kernel_rfl) (by kernel_rfl) (fun _ _ _ h => h) (Or.inl ⟨by kernel_rfl, by intro w hSw; (try dsimp only at hSw); go_simp⟩) hHeld ?_
      simp only [List.set_cons_zero, List.set_cons_succ]
      refine takeD 4 37 (.bool true) rfl rfl (by kernel_rfl) (by kernel_rfl) (by kernel_rfl) (fun _ _ _ h => h) (Or.inl ⟨by kernel_rfl, by intro w hSw; (try dsimp only at hSw); go_simp⟩) hHeld ?_
      simp only [List.set_cons_zero, List.set_cons_succ]
      refine takeD 5 38 (undef) rfl rfl (by kernel_rfl) (by kernel_rfl) (by kernel_rfl) (fun _ _ _ h => h) (Or.inr ⟨by kernel_rfl, rfl⟩) hHeld ?_
      simp only [List.set_cons_zero, List.set_cons_succ]
      refine takeD 6 39 (undef) rfl rfl (by kernel_rfl) (by kernel_rfl) (by kernel_rfl) (fun _ _ _ h => h) (Or.inr ⟨by kernel_rfl, rfl⟩) hHeld ?_
      simp only [List.set_cons_zero, List.set_cons_succ]
      refine takeD 7 40 (undef) rfl rfl (by kernel_rfl) (by kernel_rfl) (by kernel_rfl) (fun _ _ _ h => h) (Or.inr ⟨by kernel_rfl, rfl⟩) hHeld ?_
      simp only [List.set_cons_zero, List.set_cons_succ]
      refine takeD 8 41 (undef) rfl rfl (by kernel_rfl) (by kernel_rfl) (by kernel_rfl) (fun _ _ _ h => h) (Or.inr ⟨by kernel_rfl, rfl⟩) hHeld ?_
      simp only [List.set_cons_zero, List.set_cons_succ]
      refine takeD 9 42 (undef) rfl rfl (by kernel_rfl) (by kernel_rfl) (by kernel_rfl) (fun _ _ _ h => h) (Or.inr ⟨by kernel_rfl, rfl⟩) hHeld ?_
      simp only [List.set_cons_zero, List.set_cons_succ]
      refine takeD 10 43 (undef) rfl rfl (by kernel_rfl) (by kernel_rfl) (by kernel_rfl) (fun _ _ _ h => h) (Or.inr ⟨by kernel_rfl, rfl⟩) hHeld ?_
      simp only [List.set_cons_zero, List.set_cons_succ]
      refine takeD 11 44 (undef) rfl rfl (by kernel_rfl) (by kernel_rfl) (by kernel_rfl) (fun _ _ _ h => h) (Or.inr ⟨by kernel_rfl, rfl⟩) hHeld ?_
      simp only [List.set_cons_zero, List.set_cons_succ]
      refine takeD 12 45 (.bool true) rfl rfl (by kernel_rfl) (by kernel_rfl) (by kernel_rfl) (fun _ _ _ h => h) (Or.inl ⟨by kernel_rfl, by intro w hSw; (try dsimp only at hSw); go_simp⟩) hHeld ?_
      simp only [List.set_cons_zero, List.set_cons_succ]
      refine takeD 13 2 (.bool true) rfl rfl (by kernel_rfl) (by kernel_rfl) (by kernel_rfl) (fun _ _ _ h => h) (Or.inl ⟨by kernel_rfl, by intro w hSw; (try dsimp only at hSw); go_simp⟩) hHeld ?_
      simp only [List.set_cons_zero, List.set_cons_succ]
      refine wpAnyH_done (by kernel_rfl) ?_ _
      go_wp2
      go_ret
      exact ⟨rfl, HB5.out⟩
end Go.Proofs.YtnmmphnaelpjdaaDoor
