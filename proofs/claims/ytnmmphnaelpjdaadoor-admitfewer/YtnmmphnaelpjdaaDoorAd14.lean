/- The law AdmitFewer: of servers that fit fewer fit too, of a guest its first tasks. -/
import Derived.Test.YtnmmphnaelpjdaaDoorAd13
import Derived.Test.YtnmmphnaelpjdaaDoorAd11
namespace Go.Proofs.YtnmmphnaelpjdaaDoor
open Go.ChangeShapes Go.WideShapes Go.ChangeAt Go.RowKit
set_option maxRecDepth 100000
set_option linter.unusedVariables false
attribute [local go_sem] World.cell?_alloc_some frozen_alloc_some

/-- The rest of a division, turned up. -/
theorem rest_up (n L : Int) (L0 : 1 ≤ L) (L1 : L ≤ 8) : ∃ A B K : Int, n.tmod L = A ∧ IntKind.i64.wrap A = A ∧ IntKind.i64.wrap (A + L) = B ∧ B.tmod L = K ∧ IntKind.i64.wrap K = K ∧ 0 ≤ K ∧ K < L := by
  have a1 := Int.tmod_lt_of_pos n (show 0 < L by omega)
  have a2 : -L < n.tmod L := by
    by_cases hn : 0 ≤ n
    · have := Int.tmod_nonneg L hn; omega
    · have e := Int.neg_tmod (a := -n) (b := L)
      rw [Int.neg_neg] at e
      have := Int.tmod_lt_of_pos (-n) (show 0 < L by omega)
      omega
  refine ⟨n.tmod L, n.tmod L + L, (n.tmod L + L).tmod L, rfl, wfit (by omega) (by omega), wfit (by omega) (by omega), rfl, ?_, Int.tmod_nonneg L (by omega), Int.tmod_lt_of_pos _ (by omega)⟩
  have b1 := Int.tmod_lt_of_pos (n.tmod L + L) (show 0 < L by omega)
  have b2 := Int.tmod_nonneg L (show 0 ≤ n.tmod L + L by omega)
  exact wfit (by omega) (by omega)
theorem rest_up2 (n L : Int) (L0 : 1 ≤ L) (L1 : L ≤ 8) : ∃ A C B K : Int, n.tmod L = A ∧ IntKind.i64.wrap A = A ∧ IntKind.i64.wrap (A + (L + 1)) = C ∧ IntKind.i64.wrap (C - 1) = B ∧ B.tmod L = K ∧ IntKind.i64.wrap K = K ∧ IntKind.i64.wrap (1 + K) = 1 + K ∧ 0 ≤ K ∧ K < L := by
  obtain ⟨A, B, K, h1, h2, h3, h4, h5, h6, h7⟩ := rest_up n L L0 L1
  have a1 := Int.tmod_lt_of_pos n (show 0 < L by omega)
  have a2 : -L < n.tmod L := by
    by_cases hn : 0 ≤ n
    · have := Int.tmod_nonneg L hn; omega
    · have e := Int.neg_tmod (a := -n) (b := L)
      rw [Int.neg_neg] at e
      have := Int.tmod_lt_of_pos (-n) (show 0 < L by omega)
      omega
  rw [h1] at a1 a2
  have h3' : B = A + L := by rw [← h3]; exact wfit (by omega) (by omega)
  refine ⟨A, A + (L + 1), B, K, h1, h2, wfit (by omega) (by omega), ?_, h4, h5, wfit (by omega) (by omega), h6, h7⟩
  rw [h3', show A + (L + 1) - 1 = A + L by omega]
  exact wfit (by omega) (by omega)
theorem kc_fewer {s : Sv} {xs : List Sv} (h : KC s xs 0) {k : Nat} (hk : k < xs.length) : KC s (xs.take k ++ xs.drop (k + 1)) 0 := by
  obtain ⟨o1, o2, o3, o4⟩ := h.zero rfl
  obtain ⟨n1, n2, n3, n4, n5⟩ := o1.nums
  refine .fits o1 (fun x hx => ?_) (by rw [List.length_append, List.length_take, List.length_drop]; omega) (fitK_drop n2 n3 o2 o4 hk)
  rcases List.mem_append.mp hx with h | h
  · exact o2 x (List.mem_of_mem_take h)
  · exact o2 x (List.mem_of_mem_drop h)
theorem gc_fewer {s : Sv} {ys : List Tk} (h : GC s 2 ys 0) {k : Nat} (h0 : 0 < k) (hk : k ≤ ys.length) : GC s 2 (ys.take k) 0 := by
  obtain ⟨o1, o2, o4⟩ := h.zero2 rfl
  refine .fitsO o1 ⟨.inr rfl, by rw [List.length_take]; omega, by rw [List.length_take]; have := o2.2.2.1; omega, fun x hx => o2.2.2.2 x (List.mem_of_mem_take hx)⟩ rfl (fitO_take o4 k)
set_option maxHeartbeats 25600000 in
theorem fewer_walk (w : World) (s : Sv) (al at2 : Option Addr) (cl ct : Nat) (n : Int) (xs : List Sv) (ys : List Tk) (a : Nat → Addr) (n1 n2 : Int) (hx : Svs w (.slice al xs.length cl) xs) (hcx : xs.length ≤ cl) (hy : Tks w (.slice at2 ys.length ct) ys) (hc : ys.length ≤ ct) (E : Er6 w a) (hT : Err w 1 text1 (a 1)) (h1 : KC s xs n1) (h2 : GC s 2 ys n2) :
    Calls Tryd.prog 5 #[vA s (.slice al xs.length cl) (.slice at2 ys.length ct) n] w fun e w' => e = .returned (.bool true) ∧ Below w.heap.size w w' := by
  obtain ⟨k, q, t⟩ := s
  obtain ⟨ie, hie⟩ := ie_ex
  have hlx : (xs.length : Int) ≤ 9223372036854775807 := by obtain ⟨_, _, e, h, _⟩ := hx; exact h
  have hly : (ys.length : Int) ≤ 9223372036854775807 := by obtain ⟨_, _, e, h, _⟩ := hy; exact h
  have HAL : Hid (∀ W, Below w.heap.size w W → Calls Tryd.prog 9 #[] W fun e w' => e = .returned (.bool true) ∧ Below W.heap.size W w') := mkHid (fun W hW => aalive W a (E.late hW) (hT.late hW))
  have HK : Hid (∀ W, Below w.heap.size w W → Calls Tryd.prog 10 #[vS (k, q, t), .slice al xs.length cl] W fun e w' => e = .returned (ev6 a n1) ∧ Below W.heap.size W w') := mkHid (fun W hW => kids_is W (k, q, t) _ xs a n1 (hx.below hW) (E.late hW) h1)
  have HG : Hid (∀ W, Below w.heap.size w W → Calls Tryd.prog 15 #[vS (k, q, t), .int .i64 2, .slice at2 ys.length ct] W fun e w' => e = .returned (ev6 a n2) ∧ Below W.heap.size W w') := mkHid (fun W hW => guestA_is W (k, q, t) 2 at2 ct ys a n2 (hy.below hW) hc (E.late hW) h2)
  have CX : (xs = []) ∨ ((0 : Int) < xs.length ∧ ∃ e, ev6 a n1 = vE e) ∨ ((0 : Int) < xs.length ∧ ev6 a n1 = .nilIface ∧ ∃ (A B K : Int) (kk : Nat) (vh vt : Value), n.tmod xs.length = A ∧ IntKind.i64.wrap A = A ∧ IntKind.i64.wrap (A + xs.length) = B ∧ B.tmod xs.length = K ∧ IntKind.i64.wrap K = K ∧ K = kk ∧ kk < xs.length ∧ (xs.length : Int) ≤ 8 ∧ (∀ W, (Instr.slice 24 (.slice al xs.length cl) none (some (.int .i64 K)) none).run Tryd.prog W = .ok vh W) ∧ (∀ W, (Instr.slice 24 (.slice al xs.length cl) (some (.int .i64 (K + 1))) none none).run Tryd.prog W = .ok vt W) ∧ Hid (Svs w vh (xs.take kk)) ∧ Hid (Svs w vt (xs.drop (kk + 1))) ∧ Hid (∀ W v, Below w.heap.size w W → Svs W v (xs.take kk ++ xs.drop (kk + 1)) → Calls Tryd.prog 10 #[vS (k, q, t), v] W fun e w' => e = .returned .nilIface ∧ Below W.heap.size W w')) := by
    by_cases hz : xs.length = 0
    · exact .inl (List.eq_nil_of_length_eq_zero hz)
    · have hp : (0 : Int) < xs.length := by omega
      rcases h1.codes with h | h | h | h
      · subst h
        obtain ⟨o1, o2, o3, o4⟩ := h1.zero rfl
        obtain ⟨A, B, K, e1, e2, e3, e4, e5, e6, e7⟩ := rest_up n xs.length (by omega) (by omega)
        obtain ⟨kk, rfl⟩ := Int.eq_ofNat_of_zero_le e6
        obtain ⟨vh, hh1, hh2⟩ := hx.headS hcx (kk : Int) kk rfl (by omega)
        obtain ⟨vt, ht1, ht2⟩ := hx.tailS hcx ((kk : Int) + 1) (kk + 1) (by omega) (by omega)
        exact .inr (.inr ⟨hp, rfl, A, B, kk, kk, vh, vt, e1, e2, e3, e4, e5, rfl, by omega, by omega, hh1, ht1, hh2, ht2, fun W v hW hv => kids_is W (k, q, t) v _ a 0 hv (E.late hW) (kc_fewer h1 (by omega))⟩)
      · subst h; exact .inr (.inl ⟨hp, _, rfl⟩)
      · subst h; exact .inr (.inl ⟨hp, _, rfl⟩)
      · subst h; exact .inr (.inl ⟨hp, _, rfl⟩)
  have CY : (¬ (1 : Int) < ys.length) ∨ ((1 : Int) < ys.length ∧ ∃ e, ev6 a n2 = vE e) ∨ ((1 : Int) < ys.length ∧ ev6 a n2 = .nilIface ∧ ∃ (L A C B K : Int) (a' : Option Addr) (kn : Nat), IntKind.i64.wrap ((ys.length : Int) - 1) = L ∧ ¬ L = 0 ∧ n.tmod L = A ∧ IntKind.i64.wrap A = A ∧ IntKind.i64.wrap (A + ys.length) = C ∧ IntKind.i64.wrap (C - 1) = B ∧ B.tmod L = K ∧ IntKind.i64.wrap K = K ∧ IntKind.i64.wrap (1 + K) = 1 + K ∧ (∀ W, (Instr.slice 36 (.slice at2 ys.length ct) none (some (.int .i64 (1 + K))) (some (.int .i64 (1 + K)))).run Tryd.prog W = .ok (.slice a' (ys.take kn).length kn) W) ∧ Hid (∀ W, Below w.heap.size w W → Calls Tryd.prog 15 #[vS (k, q, t), .int .i64 2, .slice a' (ys.take kn).length kn] W fun e w' => e = .returned .nilIface ∧ Below W.heap.size W w')) := by
    by_cases hz : (1 : Int) < ys.length
    · rcases h2.codes with h | h | h | h
      · subst h
        obtain ⟨o1, o2, o4⟩ := h2.zero2 rfl
        have h8 := o2.2.2.1
        obtain ⟨A, C, B, K, e1, e2, e3, e4, e5, e6, e7, e8, e9⟩ := rest_up2 n ((ys.length : Int) - 1) (by omega) (by omega)
        obtain ⟨kk, rfl⟩ := Int.eq_ofNat_of_zero_le e8
        obtain ⟨a', hh1, hh2⟩ := hy.head3S hc (1 + (kk : Int)) (1 + kk) (by omega) (by omega) (by omega)
        refine .inr (.inr ⟨hz, rfl, (ys.length : Int) - 1, A, C, B, kk, a', 1 + kk, wfit (by omega) (by omega), by omega, e1, e2, by rw [show A + (ys.length : Int) = A + ((ys.length : Int) - 1 + 1) by omega]; exact e3, e4, e5, e6, e7, hh1, fun W hW => ?_⟩)
        exact guestA_is W (k, q, t) 2 a' (1 + kk) (ys.take (1 + kk)) a 0 (hh2.below hW) (by rw [List.length_take]; omega) (E.late hW) (gc_fewer h2 (by omega) (by omega))
      · subst h; exact .inr (.inl ⟨hz, _, rfl⟩)
      · subst h; exact .inr (.inl ⟨hz, _, rfl⟩)
      · subst h; exact .inr (.inl ⟨hz, _, rfl⟩)
    · exact .inl hz
  have HS := mkHid hx
  have HCX := mkHid hcx
  clear h1 h2 hx hcx hy hc E hT
  rcases CX with rfl | ⟨hp, b1, e1⟩ | ⟨hp, e1, A, B, K, kk, vh, vt, m1, m2, m3, m4, m5, rfl, m6, m7, m8, m9, HVH, HVT, HKF⟩
  · simp only [List.length_nil] at HS HK HCX hlx ⊢
    clear HK
    rcases CY with hq | ⟨hq, b2, e2⟩ | ⟨hq, e2, L2, A2, C2, B2, K2, a9, kn, j1, j2, j3, j4, j5, j6, j7, j8, j9, j10, HGF⟩
    · clear HG
      go_enter Tryd.func5, Tryd.ntmps5
      go_wp2
      obtain ⟨W, hW⟩ : ∃ W, W = w.alloc (oA (k, q, t) (.slice al 0 cl) (.slice at2 ys.length ct) n) := ⟨_, rfl⟩
      have HW : Hid (Below w.heap.size w W) := mkHid (by rw [hW]; exact ba (Below.refl _ _) _)
      have x0 : W.cell? ⟨w.heap.size, 0, none⟩ = some (.int .i64 k) := by rw [hW]; simp [go_sem]
      have x1 : W.cell? ⟨w.heap.size, 1, none⟩ = some (.int .i64 q) := by rw [hW]; simp [go_sem]
      have x2 : W.cell? ⟨w.heap.size, 2, none⟩ = some (.int .i64 t) := by rw [hW]; simp [go_sem]
      have x3 : W.cell? ⟨w.heap.size, 3, none⟩ = some (.slice al 0 cl) := by rw [hW]; simp [go_sem]
      have x4 : W.cell? ⟨w.heap.size, 4, none⟩ = some (.slice at2 ys.length ct) := by rw [hW]; simp [go_sem]
      have x5 : W.cell? ⟨w.heap.size, 5, none⟩ = some (.int .i64 n) := by rw [hW]; simp [go_sem]
      rw [← hW]
      clear hW
      generalize w.heap.size = p0 at x0 x1 x2 x3 x4 x5 ⊢
      go_region_held3 (fun w' => w'.cell? ⟨p0, 0, none⟩ = some (.int .i64 k) ∧ w'.cell? ⟨p0, 1, none⟩ = some (.int .i64 q) ∧ w'.cell? ⟨p0, 2, none⟩ = some (.int .i64 t) ∧ w'.cell? ⟨p0, 3, none⟩ = some (.slice al 0 cl) ∧ w'.cell? ⟨p0, 4, none⟩ = some (.slice at2 ys.length ct) ∧ w'.cell? ⟨p0, 5, none⟩ = some (.int .i64 n)) (go_keep) (fail)
      obtain ⟨W2, hW2⟩ : ∃ W2, W2 = (W.alloc (oS (k, q, t))).drew := ⟨_, rfl⟩
      have y0 : W2.cell? ⟨W.heap.size, 0, none⟩ = some (.int .i64 k) := by rw [hW2]; simp [go_sem]
      have y1 : W2.cell? ⟨W.heap.size, 1, none⟩ = some (.int .i64 q) := by rw [hW2]; simp [go_sem]
      have y2 : W2.cell? ⟨W.heap.size, 2, none⟩ = some (.int .i64 t) := by rw [hW2]; simp [go_sem]
      have HB2 : Hid (Below w.heap.size w W2) := mkHid (by rw [hW2]; exact (ba HW.out _).drew)
      rw [← hW2]
      clear hW2 x0 x1 x2 x3 x4 x5
      generalize W.heap.size = p1 at y0 y1 y2 ⊢
      clear HW
      go_wp2_with (first
        | (go_at_call 9; refine (HAL.out _ HB2.out).mono ?_; rintro e w3 ⟨rfl, b3⟩; have z0 := kc y0 b3; have z1 := kc y1 b3; have z2 := kc y2 b3; have HB3 := mkHid (bt HB2.out b3); clear b3 y0 y1 y2))
      go_ret
      exact ⟨rfl, HB3.out⟩
    · rw [e2] at HG
      clear e2
      go_enter Tryd.func5, Tryd.ntmps5
      go_wp2
      obtain ⟨W, hW⟩ : ∃ W, W = w.alloc (oA (k, q, t) (.slice al 0 cl) (.slice at2 ys.length ct) n) := ⟨_, rfl⟩
      have HW : Hid (Below w.heap.size w W) := mkHid (by rw [hW]; exact ba (Below.refl _ _) _)
      have x0 : W.cell? ⟨w.heap.size, 0, none⟩ = some (.int .i64 k) := by rw [hW]; simp [go_sem]
      have x1 : W.cell? ⟨w.heap.size, 1, none⟩ = some (.int .i64 q) := by rw [hW]; simp [go_sem]
      have x2 : W.cell? ⟨w.heap.size, 2, none⟩ = some (.int .i64 t) := by rw [hW]; simp [go_sem]
      have x3 : W.cell? ⟨w.heap.size, 3, none⟩ = some (.slice al 0 cl) := by rw [hW]; simp [go_sem]
      have x4 : W.cell? ⟨w.heap.size, 4, none⟩ = some (.slice at2 ys.length ct) := by rw [hW]; simp [go_sem]
      have x5 : W.cell? ⟨w.heap.size, 5, none⟩ = some (.int .i64 n) := by rw [hW]; simp [go_sem]
      rw [← hW]
      clear hW
      generalize w.heap.size = p0 at x0 x1 x2 x3 x4 x5 ⊢
      go_region_held3 (fun w' => w'.cell? ⟨p0, 0, none⟩ = some (.int .i64 k) ∧ w'.cell? ⟨p0, 1, none⟩ = some (.int .i64 q) ∧ w'.cell? ⟨p0, 2, none⟩ = some (.int .i64 t) ∧ w'.cell? ⟨p0, 3, none⟩ = some (.slice al 0 cl) ∧ w'.cell? ⟨p0, 4, none⟩ = some (.slice at2 ys.length ct) ∧ w'.cell? ⟨p0, 5, none⟩ = some (.int .i64 n)) (go_keep) (fail)
      obtain ⟨W2, hW2⟩ : ∃ W2, W2 = (W.alloc (oS (k, q, t))).drew := ⟨_, rfl⟩
      have y0 : W2.cell? ⟨W.heap.size, 0, none⟩ = some (.int .i64 k) := by rw [hW2]; simp [go_sem]
      have y1 : W2.cell? ⟨W.heap.size, 1, none⟩ = some (.int .i64 q) := by rw [hW2]; simp [go_sem]
      have y2 : W2.cell? ⟨W.heap.size, 2, none⟩ = some (.int .i64 t) := by rw [hW2]; simp [go_sem]
      have HB2 : Hid (Below w.heap.size w W2) := mkHid (by rw [hW2]; exact (ba HW.out _).drew)
      rw [← hW2]
      clear hW2 x0 x1 x2 x3 x4 x5
      generalize W.heap.size = p1 at y0 y1 y2 ⊢
      clear HW
      go_wp2_with (first
        | (go_at_call 9; refine (HAL.out _ HB2.out).mono ?_; rintro e w3 ⟨rfl, b3⟩; have z0 := kc y0 b3; have z1 := kc y1 b3; have z2 := kc y2 b3; have HB3 := mkHid (bt HB2.out b3); clear b3 y0 y1 y2)
        | (go_at_call 15; refine (HG.out _ HB3.out).mono ?_; rintro e w8 ⟨rfl, b8⟩; have g0 := kc z0 b8; have g1 := kc z1 b8; have g2 := kc z2 b8; have HB8 := mkHid (bt HB3.out b8); clear b8 z0 z1 z2))
      go_ret
      exact ⟨rfl, HB8.out⟩
    · rw [e2] at HG
      clear e2
      go_enter Tryd.func5, Tryd.ntmps5
      go_wp2
      obtain ⟨W, hW⟩ : ∃ W, W = w.alloc (oA (k, q, t) (.slice al 0 cl) (.slice at2 ys.length ct) n) := ⟨_, rfl⟩
      have HW : Hid (Below w.heap.size w W) := mkHid (by rw [hW]; exact ba (Below.refl _ _) _)
      have x0 : W.cell? ⟨w.heap.size, 0, none⟩ = some (.int .i64 k) := by rw [hW]; simp [go_sem]
      have x1 : W.cell? ⟨w.heap.size, 1, none⟩ = some (.int .i64 q) := by rw [hW]; simp [go_sem]
      have x2 : W.cell? ⟨w.heap.size, 2, none⟩ = some (.int .i64 t) := by rw [hW]; simp [go_sem]
      have x3 : W.cell? ⟨w.heap.size, 3, none⟩ = some (.slice al 0 cl) := by rw [hW]; simp [go_sem]
      have x4 : W.cell? ⟨w.heap.size, 4, none⟩ = some (.slice at2 ys.length ct) := by rw [hW]; simp [go_sem]
      have x5 : W.cell? ⟨w.heap.size, 5, none⟩ = some (.int .i64 n) := by rw [hW]; simp [go_sem]
      rw [← hW]
      clear hW
      generalize w.heap.size = p0 at x0 x1 x2 x3 x4 x5 ⊢
      go_region_held3 (fun w' => w'.cell? ⟨p0, 0, none⟩ = some (.int .i64 k) ∧ w'.cell? ⟨p0, 1, none⟩ = some (.int .i64 q) ∧ w'.cell? ⟨p0, 2, none⟩ = some (.int .i64 t) ∧ w'.cell? ⟨p0, 3, none⟩ = some (.slice al 0 cl) ∧ w'.cell? ⟨p0, 4, none⟩ = some (.slice at2 ys.length ct) ∧ w'.cell? ⟨p0, 5, none⟩ = some (.int .i64 n)) (go_keep) (fail)
      obtain ⟨W2, hW2⟩ : ∃ W2, W2 = (W.alloc (oS (k, q, t))).drew := ⟨_, rfl⟩
      have y0 : W2.cell? ⟨W.heap.size, 0, none⟩ = some (.int .i64 k) := by rw [hW2]; simp [go_sem]
      have y1 : W2.cell? ⟨W.heap.size, 1, none⟩ = some (.int .i64 q) := by rw [hW2]; simp [go_sem]
      have y2 : W2.cell? ⟨W.heap.size, 2, none⟩ = some (.int .i64 t) := by rw [hW2]; simp [go_sem]
      have HB2 : Hid (Below w.heap.size w W2) := mkHid (by rw [hW2]; exact (ba HW.out _).drew)
      rw [← hW2]
      clear hW2 x0 x1 x2 x3 x4 x5
      generalize W.heap.size = p1 at y0 y1 y2 ⊢
      clear HW
      go_wp2_with (first
        | (go_at_call 9; refine (HAL.out _ HB2.out).mono ?_; rintro e w3 ⟨rfl, b3⟩; have z0 := kc y0 b3; have z1 := kc y1 b3; have z2 := kc y2 b3; have HB3 := mkHid (bt HB2.out b3); clear b3 y0 y1 y2)
        | (go_at_call 15; refine (HG.out _ HB3.out).mono ?_; rintro e w8 ⟨rfl, b8⟩; have g0 := kc z0 b8; have g1 := kc z1 b8; have g2 := kc z2 b8; have HB8 := mkHid (bt HB3.out b8); clear b8 z0 z1 z2))
      generalize (Value.slice at2 ys.length ct) = VT at j10 ⊢
      generalize (Value.slice a9 (ys.take kn).length kn) = VS9 at j10 HGF
      refine wp_region_held_drew (S := fun w' => w'.cell? ⟨p1, 0, none⟩ = some (.int .i64 k) ∧ w'.cell? ⟨p1, 1, none⟩ = some (.int .i64 q) ∧ w'.cell? ⟨p1, 2, none⟩ = some (.int .i64 t)) (by kernel_rfl) ⟨g0, g1, g2⟩ (fun hHeld => ?_)
      refine takeD 0 74 (.agg #[.int .i64 k, .int .i64 q, .int .i64 t]) rfl rfl (by kernel_rfl) (by kernel_rfl) (by kernel_rfl) (fun _ _ _ h => h) (Or.inl ⟨by kernel_rfl, by intro w hSw; (try dsimp only at hSw); go_simp⟩) hHeld ?_
      simp only [List.set_cons_zero, List.set_cons_succ]
      refine takeD 1 75 (VT) rfl rfl (by kernel_rfl) (by kernel_rfl) (by kernel_rfl) (fun _ _ _ h => h) (Or.inl ⟨by kernel_rfl, by intro w hSw; (try dsimp only at hSw); go_simp⟩) hHeld ?_
      simp only [List.set_cons_zero, List.set_cons_succ]
      refine takeD 2 76 (.int .i64 (1 + K2)) rfl rfl (by kernel_rfl) (by kernel_rfl) (by kernel_rfl) (fun _ _ _ h => h) (Or.inl ⟨by kernel_rfl, by intro w hSw; (try dsimp only at hSw); go_simp⟩) hHeld ?_
      simp only [List.set_cons_zero, List.set_cons_succ]
      refine takeD 3 77 (.int .i64 (1 + K2)) rfl rfl (by kernel_rfl) (by kernel_rfl) (by kernel_rfl) (fun _ _ _ h => h) (Or.inl ⟨by kernel_rfl, by intro w hSw; (try dsimp only at hSw); go_simp⟩) hHeld ?_
      simp only [List.set_cons_zero, List.set_cons_succ]
      refine takeD 4 78 (VS9) rfl rfl (by kernel_rfl) (by kernel_rfl) (by kernel_rfl) (fun _ _ _ h => h) (Or.inl ⟨by kernel_rfl, by intro w _; exact yields_slice (t := 36) rfl elemT.1 (by simpa [Act.eval] using j10) w⟩) hHeld ?_
      simp only [List.set_cons_zero, List.set_cons_succ]
      refine wpAnyH_ready (rs := [5]) (by kernel_rfl) (by simp) (AllReadyH.cons rfl (fun K hK => ?_) AllReadyH.nil)
      go_simp
      refine (HGF.out w8.drew HB8.out.drew).mono ?_
      rintro e w9 ⟨rfl, bw9⟩
      have fw9_0 : w9.cell? ⟨p1, 0, none⟩ = some (.int .i64 k) := kc (show w8.drew.cell? _ = _ from g0) bw9
      have fw9_1 : w9.cell? ⟨p1, 1, none⟩ = some (.int .i64 q) := kc (show w8.drew.cell? _ = _ from g1) bw9
      have fw9_2 : w9.cell? ⟨p1, 2, none⟩ = some (.int .i64 t) := kc (show w8.drew.cell? _ = _ from g2) bw9
      have HB9 := mkHid (bt HB8.out.drew bw9)
      clear bw9 hHeld
      refine hK.out _ _ ⟨fw9_0, fw9_1, fw9_2⟩ (fun hHeld => ?_)
      clear hK K
      refine takeD 6 80 (.bool true) rfl rfl (by kernel_rfl) (by kernel_rfl) (by kernel_rfl) (fun _ _ _ h => h) (Or.inl ⟨by kernel_rfl, by intro w hSw; (try dsimp only at hSw); go_simp⟩) hHeld ?_
      simp only [List.set_cons_zero, List.set_cons_succ]
      refine takeD 7 2 (.bool true) rfl rfl (by kernel_rfl) (by kernel_rfl) (by kernel_rfl) (fun _ _ _ h => h) (Or.inl ⟨by kernel_rfl, by intro w hSw; (try dsimp only at hSw); go_simp⟩) hHeld ?_
      simp only [List.set_cons_zero, List.set_cons_succ]
      refine wpAnyH_done (by kernel_rfl) ?_ _
      go_wp2
      go_ret
      exact ⟨rfl, HB9.out⟩
  · rw [e1] at HK
    clear e1
    rcases CY with hq | ⟨hq, b2, e2⟩ | ⟨hq, e2, L2, A2, C2, B2, K2, a9, kn, j1, j2, j3, j4, j5, j6, j7, j8, j9, j10, HGF⟩
    · clear HG
      go_enter Tryd.func5, Tryd.ntmps5
      go_wp2
      obtain ⟨W, hW⟩ : ∃ W, W = w.alloc (oA (k, q, t) (.slice al xs.length cl) (.slice at2 ys.length ct) n) := ⟨_, rfl⟩
      have HW : Hid (Below w.heap.size w W) := mkHid (by rw [hW]; exact ba (Below.refl _ _) _)
      have x0 : W.cell? ⟨w.heap.size, 0, none⟩ = some (.int .i64 k) := by rw [hW]; simp [go_sem]
      have x1 : W.cell? ⟨w.heap.size, 1, none⟩ = some (.int .i64 q) := by rw [hW]; simp [go_sem]
      have x2 : W.cell? ⟨w.heap.size, 2, none⟩ = some (.int .i64 t) := by rw [hW]; simp [go_sem]
      have x3 : W.cell? ⟨w.heap.size, 3, none⟩ = some (.slice al xs.length cl) := by rw [hW]; simp [go_sem]
      have x4 : W.cell? ⟨w.heap.size, 4, none⟩ = some (.slice at2 ys.length ct) := by rw [hW]; simp [go_sem]
      have x5 : W.cell? ⟨w.heap.size, 5, none⟩ = some (.int .i64 n) := by rw [hW]; simp [go_sem]
      rw [← hW]
      clear hW
      generalize w.heap.size = p0 at x0 x1 x2 x3 x4 x5 ⊢
      go_region_held3 (fun w' => w'.cell? ⟨p0, 0, none⟩ = some (.int .i64 k) ∧ w'.cell? ⟨p0, 1, none⟩ = some (.int .i64 q) ∧ w'.cell? ⟨p0, 2, none⟩ = some (.int .i64 t) ∧ w'.cell? ⟨p0, 3, none⟩ = some (.slice al xs.length cl) ∧ w'.cell? ⟨p0, 4, none⟩ = some (.slice at2 ys.length ct) ∧ w'.cell? ⟨p0, 5, none⟩ = some (.int .i64 n)) (go_keep) (fail)
      obtain ⟨W2, hW2⟩ : ∃ W2, W2 = (W.alloc (oS (k, q, t))).drew := ⟨_, rfl⟩
      have y0 : W2.cell? ⟨W.heap.size, 0, none⟩ = some (.int .i64 k) := by rw [hW2]; simp [go_sem]
      have y1 : W2.cell? ⟨W.heap.size, 1, none⟩ = some (.int .i64 q) := by rw [hW2]; simp [go_sem]
      have y2 : W2.cell? ⟨W.heap.size, 2, none⟩ = some (.int .i64 t) := by rw [hW2]; simp [go_sem]
      have HB2 : Hid (Below w.heap.size w W2) := mkHid (by rw [hW2]; exact (ba HW.out _).drew)
      rw [← hW2]
      clear hW2 x0 x1 x2 x3 x4 x5
      generalize W.heap.size = p1 at y0 y1 y2 ⊢
      clear HW
      go_wp2_with (first
        | (go_at_call 9; refine (HAL.out _ HB2.out).mono ?_; rintro e w3 ⟨rfl, b3⟩; have z0 := kc y0 b3; have z1 := kc y1 b3; have z2 := kc y2 b3; have HB3 := mkHid (bt HB2.out b3); clear b3 y0 y1 y2)
        | (go_at_call 10; refine (HK.out _ HB3.out).mono ?_; rintro e w4 ⟨rfl, b4⟩; have u0 := kc z0 b4; have u1 := kc z1 b4; have u2 := kc z2 b4; have HB4 := mkHid (bt HB3.out b4); clear b4 z0 z1 z2))
      go_ret
      exact ⟨rfl, HB4.out⟩
    · rw [e2] at HG
      clear e2
      go_enter Tryd.func5, Tryd.ntmps5
      go_wp2
      obtain ⟨W, hW⟩ : ∃ W, W = w.alloc (oA (k, q, t) (.slice al xs.length cl) (.slice at2 ys.length ct) n) := ⟨_, rfl⟩
      have HW : Hid (Below w.heap.size w W) := mkHid (by rw [hW]; exact ba (Below.refl _ _) _)
      have x0 : W.cell? ⟨w.heap.size, 0, none⟩ = some (.int .i64 k) := by rw [hW]; simp [go_sem]
      have x1 : W.cell? ⟨w.heap.size, 1, none⟩ = some (.int .i64 q) := by rw [hW]; simp [go_sem]
      have x2 : W.cell? ⟨w.heap.size, 2, none⟩ = some (.int .i64 t) := by rw [hW]; simp [go_sem]
      have x3 : W.cell? ⟨w.heap.size, 3, none⟩ = some (.slice al xs.length cl) := by rw [hW]; simp [go_sem]
      have x4 : W.cell? ⟨w.heap.size, 4, none⟩ = some (.slice at2 ys.length ct) := by rw [hW]; simp [go_sem]
      have x5 : W.cell? ⟨w.heap.size, 5, none⟩ = some (.int .i64 n) := by rw [hW]; simp [go_sem]
      rw [← hW]
      clear hW
      generalize w.heap.size = p0 at x0 x1 x2 x3 x4 x5 ⊢
      go_region_held3 (fun w' => w'.cell? ⟨p0, 0, none⟩ = some (.int .i64 k) ∧ w'.cell? ⟨p0, 1, none⟩ = some (.int .i64 q) ∧ w'.cell? ⟨p0, 2, none⟩ = some (.int .i64 t) ∧ w'.cell? ⟨p0, 3, none⟩ = some (.slice al xs.length cl) ∧ w'.cell? ⟨p0, 4, none⟩ = some (.slice at2 ys.length ct) ∧ w'.cell? ⟨p0, 5, none⟩ = some (.int .i64 n)) (go_keep) (fail)
      obtain ⟨W2, hW2⟩ : ∃ W2, W2 = (W.alloc (oS (k, q, t))).drew := ⟨_, rfl⟩
      have y0 : W2.cell? ⟨W.heap.size, 0, none⟩ = some (.int .i64 k) := by rw [hW2]; simp [go_sem]
      have y1 : W2.cell? ⟨W.heap.size, 1, none⟩ = some (.int .i64 q) := by rw [hW2]; simp [go_sem]
      have y2 : W2.cell? ⟨W.heap.size, 2, none⟩ = some (.int .i64 t) := by rw [hW2]; simp [go_sem]
      have HB2 : Hid (Below w.heap.size w W2) := mkHid (by rw [hW2]; exact (ba HW.out _).drew)
      rw [← hW2]
      clear hW2 x0 x1 x2 x3 x4 x5
      generalize W.heap.size = p1 at y0 y1 y2 ⊢
      clear HW
      go_wp2_with (first
        | (go_at_call 9; refine (HAL.out _ HB2.out).mono ?_; rintro e w3 ⟨rfl, b3⟩; have z0 := kc y0 b3; have z1 := kc y1 b3; have z2 := kc y2 b3; have HB3 := mkHid (bt HB2.out b3); clear b3 y0 y1 y2)
        | (go_at_call 10; refine (HK.out _ HB3.out).mono ?_; rintro e w4 ⟨rfl, b4⟩; have u0 := kc z0 b4; have u1 := kc z1 b4; have u2 := kc z2 b4; have HB4 := mkHid (bt HB3.out b4); clear b4 z0 z1 z2)
        | (go_at_call 15; refine (HG.out _ HB4.out).mono ?_; rintro e w8 ⟨rfl, b8⟩; have g0 := kc u0 b8; have g1 := kc u1 b8; have g2 := kc u2 b8; have HB8 := mkHid (bt HB4.out b8); clear b8 u0 u1 u2))
      go_ret
      exact ⟨rfl, HB8.out⟩
    · rw [e2] at HG
      clear e2
      go_enter Tryd.func5, Tryd.ntmps5
      go_wp2
      obtain ⟨W, hW⟩ : ∃ W, W = w.alloc (oA (k, q, t) (.slice al xs.length cl) (.slice at2 ys.length ct) n) := ⟨_, rfl⟩
      have HW : Hid (Below w.heap.size w W) := mkHid (by rw [hW]; exact ba (Below.refl _ _) _)
      have x0 : W.cell? ⟨w.heap.size, 0, none⟩ = some (.int .i64 k) := by rw [hW]; simp [go_sem]
      have x1 : W.cell? ⟨w.heap.size, 1, none⟩ = some (.int .i64 q) := by rw [hW]; simp [go_sem]
      have x2 : W.cell? ⟨w.heap.size, 2, none⟩ = some (.int .i64 t) := by rw [hW]; simp [go_sem]
      have x3 : W.cell? ⟨w.heap.size, 3, none⟩ = some (.slice al xs.length cl) := by rw [hW]; simp [go_sem]
      have x4 : W.cell? ⟨w.heap.size, 4, none⟩ = some (.slice at2 ys.length ct) := by rw [hW]; simp [go_sem]
      have x5 : W.cell? ⟨w.heap.size, 5, none⟩ = some (.int .i64 n) := by rw [hW]; simp [go_sem]
      rw [← hW]
      clear hW
      generalize w.heap.size = p0 at x0 x1 x2 x3 x4 x5 ⊢
      go_region_held3 (fun w' => w'.cell? ⟨p0, 0, none⟩ = some (.int .i64 k) ∧ w'.cell? ⟨p0, 1, none⟩ = some (.int .i64 q) ∧ w'.cell? ⟨p0, 2, none⟩ = some (.int .i64 t) ∧ w'.cell? ⟨p0, 3, none⟩ = some (.slice al xs.length cl) ∧ w'.cell? ⟨p0, 4, none⟩ = some (.slice at2 ys.length ct) ∧ w'.cell? ⟨p0, 5, none⟩ = some (.int .i64 n)) (go_keep) (fail)
      obtain ⟨W2, hW2⟩ : ∃ W2, W2 = (W.alloc (oS (k, q, t))).drew := ⟨_, rfl⟩
      have y0 : W2.cell? ⟨W.heap.size, 0, none⟩ = some (.int .i64 k) := by rw [hW2]; simp [go_sem]
      have y1 : W2.cell? ⟨W.heap.size, 1, none⟩ = some (.int .i64 q) := by rw [hW2]; simp [go_sem]
      have y2 : W2.cell? ⟨W.heap.size, 2, none⟩ = some (.int .i64 t) := by rw [hW2]; simp [go_sem]
      have HB2 : Hid (Below w.heap.size w W2) := mkHid (by rw [hW2]; exact (ba HW.out _).drew)
      rw [← hW2]
      clear hW2 x0 x1 x2 x3 x4 x5
      generalize W.heap.size = p1 at y0 y1 y2 ⊢
      clear HW
      go_wp2_with (first
        | (go_at_call 9; refine (HAL.out _ HB2.out).mono ?_; rintro e w3 ⟨rfl, b3⟩; have z0 := kc y0 b3; have z1 := kc y1 b3; have z2 := kc y2 b3; have HB3 := mkHid (bt HB2.out b3); clear b3 y0 y1 y2)
        | (go_at_call 10; refine (HK.out _ HB3.out).mono ?_; rintro e w4 ⟨rfl, b4⟩; have u0 := kc z0 b4; have u1 := kc z1 b4; have u2 := kc z2 b4; have HB4 := mkHid (bt HB3.out b4); clear b4 z0 z1 z2)
        | (go_at_call 15; refine (HG.out _ HB4.out).mono ?_; rintro e w8 ⟨rfl, b8⟩; have g0 := kc u0 b8; have g1 := kc u1 b8; have g2 := kc u2 b8; have HB8 := mkHid (bt HB4.out b8); clear b8 u0 u1 u2))
      generalize (Value.slice at2 ys.length ct) = VT at j10 ⊢
      generalize (Value.slice a9 (ys.take kn).length kn) = VS9 at j10 HGF
      refine wp_region_held_drew (S := fun w' => w'.cell? ⟨p1, 0, none⟩ = some (.int .i64 k) ∧ w'.cell? ⟨p1, 1, none⟩ = some (.int .i64 q) ∧ w'.cell? ⟨p1, 2, none⟩ = some (.int .i64 t)) (by kernel_rfl) ⟨g0, g1, g2⟩ (fun hHeld => ?_)
      refine takeD 0 74 (.agg #[.int .i64 k, .int .i64 q, .int .i64 t]) rfl rfl (by kernel_rfl) (by kernel_rfl) (by kernel_rfl) (fun _ _ _ h => h) (Or.inl ⟨by kernel_rfl, by intro w hSw; (try dsimp only at hSw); go_simp⟩) hHeld ?_
      simp only [List.set_cons_zero, List.set_cons_succ]
      refine takeD 1 75 (VT) rfl rfl (by kernel_rfl) (by kernel_rfl) (by kernel_rfl) (fun _ _ _ h => h) (Or.inl ⟨by kernel_rfl, by intro w hSw; (try dsimp only at hSw); go_simp⟩) hHeld ?_
      simp only [List.set_cons_zero, List.set_cons_succ]
      refine takeD 2 76 (.int .i64 (1 + K2)) rfl rfl (by kernel_rfl) (by kernel_rfl) (by kernel_rfl) (fun _ _ _ h => h) (Or.inl ⟨by kernel_rfl, by intro w hSw; (try dsimp only at hSw); go_simp⟩) hHeld ?_
      simp only [List.set_cons_zero, List.set_cons_succ]
      refine takeD 3 77 (.int .i64 (1 + K2)) rfl rfl (by kernel_rfl) (by kernel_rfl) (by kernel_rfl) (fun _ _ _ h => h) (Or.inl ⟨by kernel_rfl, by intro w hSw; (try dsimp only at hSw); go_simp⟩) hHeld ?_
      simp only [List.set_cons_zero, List.set_cons_succ]
      refine takeD 4 78 (VS9) rfl rfl (by kernel_rfl) (by kernel_rfl) (by kernel_rfl) (fun _ _ _ h => h) (Or.inl ⟨by kernel_rfl, by intro w _; exact yields_slice (t := 36) rfl elemT.1 (by simpa [Act.eval] using j10) w⟩) hHeld ?_
      simp only [List.set_cons_zero, List.set_cons_succ]
      refine wpAnyH_ready (rs := [5]) (by kernel_rfl) (by simp) (AllReadyH.cons rfl (fun K hK => ?_) AllReadyH.nil)
      go_simp
      refine (HGF.out w8.drew HB8.out.drew).mono ?_
      rintro e w9 ⟨rfl, bw9⟩
      have fw9_0 : w9.cell? ⟨p1, 0, none⟩ = some (.int .i64 k) := kc (show w8.drew.cell? _ = _ from g0) bw9
      have fw9_1 : w9.cell? ⟨p1, 1, none⟩ = some (.int .i64 q) := kc (show w8.drew.cell? _ = _ from g1) bw9
      have fw9_2 : w9.cell? ⟨p1, 2, none⟩ = some (.int .i64 t) := kc (show w8.drew.cell? _ = _ from g2) bw9
      have HB9 := mkHid (bt HB8.out.drew bw9)
      clear bw9 hHeld
      refine hK.out _ _ ⟨fw9_0, fw9_1, fw9_2⟩ (fun hHeld => ?_)
      clear hK K
      refine takeD 6 80 (.bool true) rfl rfl (by kernel_rfl) (by kernel_rfl) (by kernel_rfl) (fun _ _ _ h => h) (Or.inl ⟨by kernel_rfl, by intro w hSw; (try dsimp only at hSw); go_simp⟩) hHeld ?_
      simp only [List.set_cons_zero, List.set_cons_succ]
      refine takeD 7 2 (.bool true) rfl rfl (by kernel_rfl) (by kernel_rfl) (by kernel_rfl) (fun _ _ _ h => h) (Or.inl ⟨by kernel_rfl, by intro w hSw; (try dsimp only at hSw); go_simp⟩) hHeld ?_
      simp only [List.set_cons_zero, List.set_cons_succ]
      refine wpAnyH_done (by kernel_rfl) ?_ _
      go_wp2
      go_ret
      exact ⟨rfl, HB9.out⟩
  · rw [e1] at HK
    clear e1
    have m6i : (kk : Int) < xs.length := by omega
    have m10 : IntKind.i64.wrap ((kk : Int) + 1) = (kk : Int) + 1 := wfit (by omega) (by omega)
    have m11 : ¬ (xs.length : Int) = 0 := by omega
    rcases CY with hq | ⟨hq, b2, e2⟩ | ⟨hq, e2, L2, A2, C2, B2, K2, a9, kn, j1, j2, j3, j4, j5, j6, j7, j8, j9, j10, HGF⟩
    · clear HG
      go_enter Tryd.func5, Tryd.ntmps5
      go_wp2
      obtain ⟨W, hW⟩ : ∃ W, W = w.alloc (oA (k, q, t) (.slice al xs.length cl) (.slice at2 ys.length ct) n) := ⟨_, rfl⟩
      have HW : Hid (Below w.heap.size w W) := mkHid (by rw [hW]; exact ba (Below.refl _ _) _)
      have x0 : W.cell? ⟨w.heap.size, 0, none⟩ = some (.int .i64 k) := by rw [hW]; simp [go_sem]
      have x1 : W.cell? ⟨w.heap.size, 1, none⟩ = some (.int .i64 q) := by rw [hW]; simp [go_sem]
      have x2 : W.cell? ⟨w.heap.size, 2, none⟩ = some (.int .i64 t) := by rw [hW]; simp [go_sem]
      have x3 : W.cell? ⟨w.heap.size, 3, none⟩ = some (.slice al xs.length cl) := by rw [hW]; simp [go_sem]
      have x4 : W.cell? ⟨w.heap.size, 4, none⟩ = some (.slice at2 ys.length ct) := by rw [hW]; simp [go_sem]
      have x5 : W.cell? ⟨w.heap.size, 5, none⟩ = some (.int .i64 n) := by rw [hW]; simp [go_sem]
      rw [← hW]
      clear hW
      generalize w.heap.size = p0 at x0 x1 x2 x3 x4 x5 ⊢
      go_region_held3 (fun w' => w'.cell? ⟨p0, 0, none⟩ = some (.int .i64 k) ∧ w'.cell? ⟨p0, 1, none⟩ = some (.int .i64 q) ∧ w'.cell? ⟨p0, 2, none⟩ = some (.int .i64 t) ∧ w'.cell? ⟨p0, 3, none⟩ = some (.slice al xs.length cl) ∧ w'.cell? ⟨p0, 4, none⟩ = some (.slice at2 ys.length ct) ∧ w'.cell? ⟨p0, 5, none⟩ = some (.int .i64 n)) (go_keep) (fail)
      obtain ⟨W2, hW2⟩ : ∃ W2, W2 = (W.alloc (oS (k, q, t))).drew := ⟨_, rfl⟩
      have y0 : W2.cell? ⟨W.heap.size, 0, none⟩ = some (.int .i64 k) := by rw [hW2]; simp [go_sem]
      have y1 : W2.cell? ⟨W.heap.size, 1, none⟩ = some (.int .i64 q) := by rw [hW2]; simp [go_sem]
      have y2 : W2.cell? ⟨W.heap.size, 2, none⟩ = some (.int .i64 t) := by rw [hW2]; simp [go_sem]
      have HB2 : Hid (Below w.heap.size w W2) := mkHid (by rw [hW2]; exact (ba HW.out _).drew)
      rw [← hW2]
      clear hW2 x0 x1 x2 x3 x4 x5
      generalize W.heap.size = p1 at y0 y1 y2 ⊢
      clear HW
      go_wp2_with (first
        | (go_at_call 9; refine (HAL.out _ HB2.out).mono ?_; rintro e w3 ⟨rfl, b3⟩; have z0 := kc y0 b3; have z1 := kc y1 b3; have z2 := kc y2 b3; have HB3 := mkHid (bt HB2.out b3); clear b3 y0 y1 y2)
        | (go_at_call 10; refine (HK.out _ HB3.out).mono ?_; rintro e w4 ⟨rfl, b4⟩; have u0 := kc z0 b4; have u1 := kc z1 b4; have u2 := kc z2 b4; have HB4 := mkHid (bt HB3.out b4); clear b4 z0 z1 z2))
      generalize (Value.slice al xs.length cl) = VL at m8 m9 ⊢
      refine wp_region_held_drew (S := fun w' => w'.cell? ⟨p1, 0, none⟩ = some (.int .i64 k) ∧ w'.cell? ⟨p1, 1, none⟩ = some (.int .i64 q) ∧ w'.cell? ⟨p1, 2, none⟩ = some (.int .i64 t)) (by kernel_rfl) ⟨u0, u1, u2⟩ (fun hHeld => ?_)
      refine takeD 0 38 (.agg #[.int .i64 k, .int .i64 q, .int .i64 t]) rfl rfl (by kernel_rfl) (by kernel_rfl) (by kernel_rfl) (fun _ _ _ h => h) (Or.inl ⟨by kernel_rfl, by intro w hSw; (try dsimp only at hSw); go_simp⟩) hHeld ?_
      simp only [List.set_cons_zero, List.set_cons_succ]
      refine takeD 2 40 (VL) rfl rfl (by kernel_rfl) (by kernel_rfl) (by kernel_rfl) (fun _ _ _ h => h) (Or.inl ⟨by kernel_rfl, by intro w hSw; (try dsimp only at hSw); go_simp⟩) hHeld ?_
      simp only [List.set_cons_zero, List.set_cons_succ]
      refine takeD 3 41 (.int .i64 (kk : Int)) rfl rfl (by kernel_rfl) (by kernel_rfl) (by kernel_rfl) (fun _ _ _ h => h) (Or.inl ⟨by kernel_rfl, by intro w hSw; (try dsimp only at hSw); go_simp⟩) hHeld ?_
      simp only [List.set_cons_zero, List.set_cons_succ]
      refine takeD 6 44 (VL) rfl rfl (by kernel_rfl) (by kernel_rfl) (by kernel_rfl) (fun _ _ _ h => h) (Or.inl ⟨by kernel_rfl, by intro w hSw; (try dsimp only at hSw); go_simp⟩) hHeld ?_
      simp only [List.set_cons_zero, List.set_cons_succ]
      refine takeD 7 45 (.int .i64 (kk : Int)) rfl rfl (by kernel_rfl) (by kernel_rfl) (by kernel_rfl) (fun _ _ _ h => h) (Or.inl ⟨by kernel_rfl, by intro w hSw; (try dsimp only at hSw); go_simp⟩) hHeld ?_
      simp only [List.set_cons_zero, List.set_cons_succ]
      refine takeD 8 46 (.int .i64 ((kk : Int) + 1)) rfl rfl (by kernel_rfl) (by kernel_rfl) (by kernel_rfl) (fun _ _ _ h => h) (Or.inl ⟨by kernel_rfl, by intro w hSw; (try dsimp only at hSw); go_simp⟩) hHeld ?_
      simp only [List.set_cons_zero, List.set_cons_succ]
      refine takeD 4 42 (vh) rfl rfl (by kernel_rfl) (by kernel_rfl) (by kernel_rfl) (fun _ _ _ h => h) (Or.inl ⟨by kernel_rfl, by intro w _; exact yields_slice (t := 24) rfl elemS.1 (by simpa [Act.eval] using m8) w⟩) hHeld ?_
      simp only [List.set_cons_zero, List.set_cons_succ]
      refine takeD 9 47 (vt) rfl rfl (by kernel_rfl) (by kernel_rfl) (by kernel_rfl) (fun _ _ _ h => h) (Or.inl ⟨by kernel_rfl, by intro w _; exact yields_slice (t := 24) rfl elemS.1 (by simpa [Act.eval] using m9) w⟩) hHeld ?_
      simp only [List.set_cons_zero, List.set_cons_succ]
      refine wpAnyH_ready (rs := [1]) (by kernel_rfl) (by simp) (AllReadyH.cons rfl (fun K hK => ?_) AllReadyH.nil)
      go_simp
      have ba5 : Below w4.drew.heap.size w4.drew (w4.drew.alloc (.cells #[] 23)) := (Below.refl _ _).alloc (Nat.le_refl _) _
      refine hK.out _ _ ⟨kc (show w4.drew.cell? _ = _ from u0) ba5, kc (show w4.drew.cell? _ = _ from u1) ba5, kc (show w4.drew.cell? _ = _ from u2) ba5⟩ (fun hHeld => ?_)
      clear hK K
      (try simp only [Act.put])
      refine wpAnyH_ready (rs := [5]) (by kernel_rfl) (by simp) (AllReadyH.cons rfl (fun K hK => ?_) AllReadyH.nil)
      have HM : Hid ((w4.drew.alloc (.cells #[] 23)).ownsRow w4.drew.heap.size 23 3 (.slice (some ⟨w4.drew.heap.size, 0, none⟩) 0 0) 0 []) := mkHid (World.ownsRow_made (base := w4.drew.heap.size) (e := 23) (size := 3) w4.drew #[] 0 (Nat.le_refl _) (by unfold maxLen; omega) rfl)
      have HB5 := mkHid (bt HB4.out.drew ba5)
      refine step_append_src3 (w := (w4.drew.alloc (.cells #[] 23))) rfl (.tmp 39) (.tmp 42) 24 24 rfl w4.drew.heap.size 23 ie Tryd.underlying24 hie.out.1 (.agg #[.int .i64 0, .int .i64 0, .int .i64 0]) 24 hie.out.2.1 rfl hie.out.2.2.1 hie.out.2.2.2 (.slice (some ⟨w4.drew.heap.size, 0, none⟩) 0 0) 0 [] (by simp [Act.eval]) HM.out vh (xs.take kk).length ((xs.take kk).flatMap c3) (by simp [Act.eval]) (HVH.out.below HB5.out).src (by rw [List.length_take]; unfold maxLen; omega) (by rw [List.length_take]; omega) (by simp) ?_
      intro v5 w5 ho5 hg5 hat5
      rw [List.nil_append, Nat.zero_add] at ho5
      have b5 : Below w4.drew.heap.size w4.drew w5 := ba5.grown hg5 ba5.size (fun k hk => (HM.out.lt k hk).1)
      refine hK.out _ _ ⟨kc (show w4.drew.cell? _ = _ from u0) b5, kc (show w4.drew.cell? _ = _ from u1) b5, kc (show w4.drew.cell? _ = _ from u2) b5⟩ (fun hHeld => ?_)
      have HO5 := mkHid ho5
      have HB6 := mkHid (bt HB4.out.drew b5)
      have HS5 := mkHid b5.size
      clear hK K ho5 hg5 hat5
      (try simp only [Act.put])
      refine wpAnyH_ready (rs := [10]) (by kernel_rfl) (by simp) (AllReadyH.cons rfl (fun K hK => ?_) AllReadyH.nil)
      refine step_append_src3 (w := w5) rfl (.tmp 43) (.tmp 47) 24 24 rfl w4.drew.heap.size 23 ie Tryd.underlying24 hie.out.1 (.agg #[.int .i64 0, .int .i64 0, .int .i64 0]) 24 hie.out.2.1 rfl hie.out.2.2.1 hie.out.2.2.2 v5 (xs.take kk).length ((xs.take kk).flatMap c3) (by simp [Act.eval]) HO5.out vt (xs.drop (kk + 1)).length ((xs.drop (kk + 1)).flatMap c3) (by simp [Act.eval]) (HVT.out.below HB6.out).src (by rw [List.length_take, List.length_drop]; unfold maxLen; omega) (by rw [List.length_take, List.length_drop]; omega) HS5.out ?_
      intro v6 w6 ho6 hg6 hat6
      rw [← List.flatMap_append, ← List.length_append] at ho6
      have b6 : Below w4.drew.heap.size w4.drew w6 := b5.grown hg6 b5.size (fun k hk => (HO5.out.lt k hk).1)
      refine hK.out _ _ ⟨kc (show w4.drew.cell? _ = _ from u0) b6, kc (show w4.drew.cell? _ = _ from u1) b6, kc (show w4.drew.cell? _ = _ from u2) b6⟩ (fun hHeld => ?_)
      obtain ⟨a6, c6, e6, hv6⟩ := svs_of_owns (xs := xs.take kk ++ xs.drop (kk + 1)) (by rw [List.length_append, List.length_take, List.length_drop]; omega) ho6
      have HV6 : Hid (Svs w6 v6 (xs.take kk ++ xs.drop (kk + 1))) := mkHid (by rw [e6]; exact hv6)
      clear e6
      have HB7 := mkHid (bt HB4.out.drew b6)
      have k0 := kc (show w4.drew.cell? _ = _ from u0) b6
      have k1 := kc (show w4.drew.cell? _ = _ from u1) b6
      have k2 := kc (show w4.drew.cell? _ = _ from u2) b6
      clear hK K ho6 hg6 hat6 hv6 b5 b6 ba5
      (try simp only [Act.put])
      refine wpAnyH_ready (rs := [11]) (by kernel_rfl) (by simp) (AllReadyH.cons rfl (fun K hK => ?_) AllReadyH.nil)
      go_simp
      refine (HKF.out w6 _ HB7.out HV6.out).mono ?_
      rintro e w7 ⟨rfl, b7⟩
      have v0 := kc k0 b7
      have v1 := kc k1 b7
      have v2 := kc k2 b7
      have HB7b := mkHid (bt HB7.out b7)
      clear b7 hHeld
      refine hK.out _ _ ⟨v0, v1, v2⟩ (fun hHeld => ?_)
      clear hK K u0 u1 u2 k0 k1 k2
      refine takeD 12 50 (.bool false) rfl rfl (by kernel_rfl) (by kernel_rfl) (by kernel_rfl) (fun _ _ _ h => h) (Or.inl ⟨by kernel_rfl, by intro w hSw; (try dsimp only at hSw); go_simp⟩) hHeld ?_
      simp only [List.set_cons_zero, List.set_cons_succ]
      refine wpAnyH_done (by kernel_rfl) ?_ _
      clear hHeld
      go_wp2
      go_ret
      exact ⟨rfl, HB7b.out⟩
    · rw [e2] at HG
      clear e2
      go_enter Tryd.func5, Tryd.ntmps5
      go_wp2
      obtain ⟨W, hW⟩ : ∃ W, W = w.alloc (oA (k, q, t) (.slice al xs.length cl) (.slice at2 ys.length ct) n) := ⟨_, rfl⟩
      have HW : Hid (Below w.heap.size w W) := mkHid (by rw [hW]; exact ba (Below.refl _ _) _)
      have x0 : W.cell? ⟨w.heap.size, 0, none⟩ = some (.int .i64 k) := by rw [hW]; simp [go_sem]
      have x1 : W.cell? ⟨w.heap.size, 1, none⟩ = some (.int .i64 q) := by rw [hW]; simp [go_sem]
      have x2 : W.cell? ⟨w.heap.size, 2, none⟩ = some (.int .i64 t) := by rw [hW]; simp [go_sem]
      have x3 : W.cell? ⟨w.heap.size, 3, none⟩ = some (.slice al xs.length cl) := by rw [hW]; simp [go_sem]
      have x4 : W.cell? ⟨w.heap.size, 4, none⟩ = some (.slice at2 ys.length ct) := by rw [hW]; simp [go_sem]
      have x5 : W.cell? ⟨w.heap.size, 5, none⟩ = some (.int .i64 n) := by rw [hW]; simp [go_sem]
      rw [← hW]
      clear hW
      generalize w.heap.size = p0 at x0 x1 x2 x3 x4 x5 ⊢
      go_region_held3 (fun w' => w'.cell? ⟨p0, 0, none⟩ = some (.int .i64 k) ∧ w'.cell? ⟨p0, 1, none⟩ = some (.int .i64 q) ∧ w'.cell? ⟨p0, 2, none⟩ = some (.int .i64 t) ∧ w'.cell? ⟨p0, 3, none⟩ = some (.slice al xs.length cl) ∧ w'.cell? ⟨p0, 4, none⟩ = some (.slice at2 ys.length ct) ∧ w'.cell? ⟨p0, 5, none⟩ = some (.int .i64 n)) (go_keep) (fail)
      obtain ⟨W2, hW2⟩ : ∃ W2, W2 = (W.alloc (oS (k, q, t))).drew := ⟨_, rfl⟩
      have y0 : W2.cell? ⟨W.heap.size, 0, none⟩ = some (.int .i64 k) := by rw [hW2]; simp [go_sem]
      have y1 : W2.cell? ⟨W.heap.size, 1, none⟩ = some (.int .i64 q) := by rw [hW2]; simp [go_sem]
      have y2 : W2.cell? ⟨W.heap.size, 2, none⟩ = some (.int .i64 t) := by rw [hW2]; simp [go_sem]
      have HB2 : Hid (Below w.heap.size w W2) := mkHid (by rw [hW2]; exact (ba HW.out _).drew)
      rw [← hW2]
      clear hW2 x0 x1 x2 x3 x4 x5
      generalize W.heap.size = p1 at y0 y1 y2 ⊢
      clear HW
      go_wp2_with (first
        | (go_at_call 9; refine (HAL.out _ HB2.out).mono ?_; rintro e w3 ⟨rfl, b3⟩; have z0 := kc y0 b3; have z1 := kc y1 b3; have z2 := kc y2 b3; have HB3 := mkHid (bt HB2.out b3); clear b3 y0 y1 y2)
        | (go_at_call 10; refine (HK.out _ HB3.out).mono ?_; rintro e w4 ⟨rfl, b4⟩; have u0 := kc z0 b4; have u1 := kc z1 b4; have u2 := kc z2 b4; have HB4 := mkHid (bt HB3.out b4); clear b4 z0 z1 z2))
      generalize (Value.slice al xs.length cl) = VL at m8 m9 ⊢
      refine wp_region_held_drew (S := fun w' => w'.cell? ⟨p1, 0, none⟩ = some (.int .i64 k) ∧ w'.cell? ⟨p1, 1, none⟩ = some (.int .i64 q) ∧ w'.cell? ⟨p1, 2, none⟩ = some (.int .i64 t)) (by kernel_rfl) ⟨u0, u1, u2⟩ (fun hHeld => ?_)
      refine takeD 0 38 (.agg #[.int .i64 k, .int .i64 q, .int .i64 t]) rfl rfl (by kernel_rfl) (by kernel_rfl) (by kernel_rfl) (fun _ _ _ h => h) (Or.inl ⟨by kernel_rfl, by intro w hSw; (try dsimp only at hSw); go_simp⟩) hHeld ?_
      simp only [List.set_cons_zero, List.set_cons_succ]
      refine takeD 2 40 (VL) rfl rfl (by kernel_rfl) (by kernel_rfl) (by kernel_rfl) (fun _ _ _ h => h) (Or.inl ⟨by kernel_rfl, by intro w hSw; (try dsimp only at hSw); go_simp⟩) hHeld ?_
      simp only [List.set_cons_zero, List.set_cons_succ]
      refine takeD 3 41 (.int .i64 (kk : Int)) rfl rfl (by kernel_rfl) (by kernel_rfl) (by kernel_rfl) (fun _ _ _ h => h) (Or.inl ⟨by kernel_rfl, by intro w hSw; (try dsimp only at hSw); go_simp⟩) hHeld ?_
      simp only [List.set_cons_zero, List.set_cons_succ]
      refine takeD 6 44 (VL) rfl rfl (by kernel_rfl) (by kernel_rfl) (by kernel_rfl) (fun _ _ _ h => h) (Or.inl ⟨by kernel_rfl, by intro w hSw; (try dsimp only at hSw); go_simp⟩) hHeld ?_
      simp only [List.set_cons_zero, List.set_cons_succ]
      refine takeD 7 45 (.int .i64 (kk : Int)) rfl rfl (by kernel_rfl) (by kernel_rfl) (by kernel_rfl) (fun _ _ _ h => h) (Or.inl ⟨by kernel_rfl, by intro w hSw; (try dsimp only at hSw); go_simp⟩) hHeld ?_
      simp only [List.set_cons_zero, List.set_cons_succ]
      refine takeD 8 46 (.int .i64 ((kk : Int) + 1)) rfl rfl (by kernel_rfl) (by kernel_rfl) (by kernel_rfl) (fun _ _ _ h => h) (Or.inl ⟨by kernel_rfl, by intro w hSw; (try dsimp only at hSw); go_simp⟩) hHeld ?_
      simp only [List.set_cons_zero, List.set_cons_succ]
      refine takeD 4 42 (vh) rfl rfl (by kernel_rfl) (by kernel_rfl) (by kernel_rfl) (fun _ _ _ h => h) (Or.inl ⟨by kernel_rfl, by intro w _; exact yields_slice (t := 24) rfl elemS.1 (by simpa [Act.eval] using m8) w⟩) hHeld ?_
      simp only [List.set_cons_zero, List.set_cons_succ]
      refine takeD 9 47 (vt) rfl rfl (by kernel_rfl) (by kernel_rfl) (by kernel_rfl) (fun _ _ _ h => h) (Or.inl ⟨by kernel_rfl, by intro w _; exact yields_slice (t := 24) rfl elemS.1 (by simpa [Act.eval] using m9) w⟩) hHeld ?_
      simp only [List.set_cons_zero, List.set_cons_succ]
      refine wpAnyH_ready (rs := [1]) (by kernel_rfl) (by simp) (AllReadyH.cons rfl (fun K hK => ?_) AllReadyH.nil)
      go_simp
      have ba5 : Below w4.drew.heap.size w4.drew (w4.drew.alloc (.cells #[] 23)) := (Below.refl _ _).alloc (Nat.le_refl _) _
      refine hK.out _ _ ⟨kc (show w4.drew.cell? _ = _ from u0) ba5, kc (show w4.drew.cell? _ = _ from u1) ba5, kc (show w4.drew.cell? _ = _ from u2) ba5⟩ (fun hHeld => ?_)
      clear hK K
      (try simp only [Act.put])
      refine wpAnyH_ready (rs := [5]) (by kernel_rfl) (by simp) (AllReadyH.cons rfl (fun K hK => ?_) AllReadyH.nil)
      have HM : Hid ((w4.drew.alloc (.cells #[] 23)).ownsRow w4.drew.heap.size 23 3 (.slice (some ⟨w4.drew.heap.size, 0, none⟩) 0 0) 0 []) := mkHid (World.ownsRow_made (base := w4.drew.heap.size) (e := 23) (size := 3) w4.drew #[] 0 (Nat.le_refl _) (by unfold maxLen; omega) rfl)
      have HB5 := mkHid (bt HB4.out.drew ba5)
      refine step_append_src3 (w := (w4.drew.alloc (.cells #[] 23))) rfl (.tmp 39) (.tmp 42) 24 24 rfl w4.drew.heap.size 23 ie Tryd.underlying24 hie.out.1 (.agg #[.int .i64 0, .int .i64 0, .int .i64 0]) 24 hie.out.2.1 rfl hie.out.2.2.1 hie.out.2.2.2 (.slice (some ⟨w4.drew.heap.size, 0, none⟩) 0 0) 0 [] (by simp [Act.eval]) HM.out vh (xs.take kk).length ((xs.take kk).flatMap c3) (by simp [Act.eval]) (HVH.out.below HB5.out).src (by rw [List.length_take]; unfold maxLen; omega) (by rw [List.length_take]; omega) (by simp) ?_
      intro v5 w5 ho5 hg5 hat5
      rw [List.nil_append, Nat.zero_add] at ho5
      have b5 : Below w4.drew.heap.size w4.drew w5 := ba5.grown hg5 ba5.size (fun k hk => (HM.out.lt k hk).1)
      refine hK.out _ _ ⟨kc (show w4.drew.cell? _ = _ from u0) b5, kc (show w4.drew.cell? _ = _ from u1) b5, kc (show w4.drew.cell? _ = _ from u2) b5⟩ (fun hHeld => ?_)
      have HO5 := mkHid ho5
      have HB6 := mkHid (bt HB4.out.drew b5)
      have HS5 := mkHid b5.size
      clear hK K ho5 hg5 hat5
      (try simp only [Act.put])
      refine wpAnyH_ready (rs := [10]) (by kernel_rfl) (by simp) (AllReadyH.cons rfl (fun K hK => ?_) AllReadyH.nil)
      refine step_append_src3 (w := w5) rfl (.tmp 43) (.tmp 47) 24 24 rfl w4.drew.heap.size 23 ie Tryd.underlying24 hie.out.1 (.agg #[.int .i64 0, .int .i64 0, .int .i64 0]) 24 hie.out.2.1 rfl hie.out.2.2.1 hie.out.2.2.2 v5 (xs.take kk).length ((xs.take kk).flatMap c3) (by simp [Act.eval]) HO5.out vt (xs.drop (kk + 1)).length ((xs.drop (kk + 1)).flatMap c3) (by simp [Act.eval]) (HVT.out.below HB6.out).src (by rw [List.length_take, List.length_drop]; unfold maxLen; omega) (by rw [List.length_take, List.length_drop]; omega) HS5.out ?_
      intro v6 w6 ho6 hg6 hat6
      rw [← List.flatMap_append, ← List.length_append] at ho6
      have b6 : Below w4.drew.heap.size w4.drew w6 := b5.grown hg6 b5.size (fun k hk => (HO5.out.lt k hk).1)
      refine hK.out _ _ ⟨kc (show w4.drew.cell? _ = _ from u0) b6, kc (show w4.drew.cell? _ = _ from u1) b6, kc (show w4.drew.cell? _ = _ from u2) b6⟩ (fun hHeld => ?_)
      obtain ⟨a6, c6, e6, hv6⟩ := svs_of_owns (xs := xs.take kk ++ xs.drop (kk + 1)) (by rw [List.length_append, List.length_take, List.length_drop]; omega) ho6
      have HV6 : Hid (Svs w6 v6 (xs.take kk ++ xs.drop (kk + 1))) := mkHid (by rw [e6]; exact hv6)
      clear e6
      have HB7 := mkHid (bt HB4.out.drew b6)
      have k0 := kc (show w4.drew.cell? _ = _ from u0) b6
      have k1 := kc (show w4.drew.cell? _ = _ from u1) b6
      have k2 := kc (show w4.drew.cell? _ = _ from u2) b6
      clear hK K ho6 hg6 hat6 hv6 b5 b6 ba5
      (try simp only [Act.put])
      refine wpAnyH_ready (rs := [11]) (by kernel_rfl) (by simp) (AllReadyH.cons rfl (fun K hK => ?_) AllReadyH.nil)
      go_simp
      refine (HKF.out w6 _ HB7.out HV6.out).mono ?_
      rintro e w7 ⟨rfl, b7⟩
      have v0 := kc k0 b7
      have v1 := kc k1 b7
      have v2 := kc k2 b7
      have HB7b := mkHid (bt HB7.out b7)
      clear b7 hHeld
      refine hK.out _ _ ⟨v0, v1, v2⟩ (fun hHeld => ?_)
      clear hK K u0 u1 u2 k0 k1 k2
      refine takeD 12 50 (.bool false) rfl rfl (by kernel_rfl) (by kernel_rfl) (by kernel_rfl) (fun _ _ _ h => h) (Or.inl ⟨by kernel_rfl, by intro w hSw; (try dsimp only at hSw); go_simp⟩) hHeld ?_
      simp only [List.set_cons_zero, List.set_cons_succ]
      refine wpAnyH_done (by kernel_rfl) ?_ _
      clear hHeld
      go_wp2_with (first
        | (go_at_call 15; refine (HG.out _ HB7b.out).mono ?_; rintro e w8 ⟨rfl, b8⟩; have g0 := kc v0 b8; have g1 := kc v1 b8; have g2 := kc v2 b8; have HB8 := mkHid (bt HB7b.out b8); clear b8 v0 v1 v2))
      go_ret
      exact ⟨rfl, HB8.out⟩
    · rw [e2] at HG
      clear e2
      go_enter Tryd.func5, Tryd.ntmps5
      go_wp2
      obtain ⟨W, hW⟩ : ∃ W, W = w.alloc (oA (k, q, t) (.slice al xs.length cl) (.slice at2 ys.length ct) n) := ⟨_, rfl⟩
      have HW : Hid (Below w.heap.size w W) := mkHid (by rw [hW]; exact ba (Below.refl _ _) _)
      have x0 : W.cell? ⟨w.heap.size, 0, none⟩ = some (.int .i64 k) := by rw [hW]; simp [go_sem]
      have x1 : W.cell? ⟨w.heap.size, 1, none⟩ = some (.int .i64 q) := by rw [hW]; simp [go_sem]
      have x2 : W.cell? ⟨w.heap.size, 2, none⟩ = some (.int .i64 t) := by rw [hW]; simp [go_sem]
      have x3 : W.cell? ⟨w.heap.size, 3, none⟩ = some (.slice al xs.length cl) := by rw [hW]; simp [go_sem]
      have x4 : W.cell? ⟨w.heap.size, 4, none⟩ = some (.slice at2 ys.length ct) := by rw [hW]; simp [go_sem]
      have x5 : W.cell? ⟨w.heap.size, 5, none⟩ = some (.int .i64 n) := by rw [hW]; simp [go_sem]
      rw [← hW]
      clear hW
      generalize w.heap.size = p0 at x0 x1 x2 x3 x4 x5 ⊢
      go_region_held3 (fun w' => w'.cell? ⟨p0, 0, none⟩ = some (.int .i64 k) ∧ w'.cell? ⟨p0, 1, none⟩ = some (.int .i64 q) ∧ w'.cell? ⟨p0, 2, none⟩ = some (.int .i64 t) ∧ w'.cell? ⟨p0, 3, none⟩ = some (.slice al xs.length cl) ∧ w'.cell? ⟨p0, 4, none⟩ = some (.slice at2 ys.length ct) ∧ w'.cell? ⟨p0, 5, none⟩ = some (.int .i64 n)) (go_keep) (fail)
      obtain ⟨W2, hW2⟩ : ∃ W2, W2 = (W.alloc (oS (k, q, t))).drew := ⟨_, rfl⟩
      have y0 : W2.cell? ⟨W.heap.size, 0, none⟩ = some (.int .i64 k) := by rw [hW2]; simp [go_sem]
      have y1 : W2.cell? ⟨W.heap.size, 1, none⟩ = some (.int .i64 q) := by rw [hW2]; simp [go_sem]
      have y2 : W2.cell? ⟨W.heap.size, 2, none⟩ = some (.int .i64 t) := by rw [hW2]; simp [go_sem]
      have HB2 : Hid (Below w.heap.size w W2) := mkHid (by rw [hW2]; exact (ba HW.out _).drew)
      rw [← hW2]
      clear hW2 x0 x1 x2 x3 x4 x5
      generalize W.heap.size = p1 at y0 y1 y2 ⊢
      clear HW
      go_wp2_with (first
        | (go_at_call 9; refine (HAL.out _ HB2.out).mono ?_; rintro e w3 ⟨rfl, b3⟩; have z0 := kc y0 b3; have z1 := kc y1 b3; have z2 := kc y2 b3; have HB3 := mkHid (bt HB2.out b3); clear b3 y0 y1 y2)
        | (go_at_call 10; refine (HK.out _ HB3.out).mono ?_; rintro e w4 ⟨rfl, b4⟩; have u0 := kc z0 b4; have u1 := kc z1 b4; have u2 := kc z2 b4; have HB4 := mkHid (bt HB3.out b4); clear b4 z0 z1 z2))
      generalize (Value.slice al xs.length cl) = VL at m8 m9 ⊢
      refine wp_region_held_drew (S := fun w' => w'.cell? ⟨p1, 0, none⟩ = some (.int .i64 k) ∧ w'.cell? ⟨p1, 1, none⟩ = some (.int .i64 q) ∧ w'.cell? ⟨p1, 2, none⟩ = some (.int .i64 t)) (by kernel_rfl) ⟨u0, u1, u2⟩ (fun hHeld => ?_)
      refine takeD 0 38 (.agg #[.int .i64 k, .int .i64 q, .int .i64 t]) rfl rfl (by kernel_rfl) (by kernel_rfl) (by kernel_rfl) (fun _ _ _ h => h) (Or.inl ⟨by kernel_rfl, by intro w hSw; (try dsimp only at hSw); go_simp⟩) hHeld ?_
      simp only [List.set_cons_zero, List.set_cons_succ]
      refine takeD 2 40 (VL) rfl rfl (by kernel_rfl) (by kernel_rfl) (by kernel_rfl) (fun _ _ _ h => h) (Or.inl ⟨by kernel_rfl, by intro w hSw; (try dsimp only at hSw); go_simp⟩) hHeld ?_
      simp only [List.set_cons_zero, List.set_cons_succ]
      refine takeD 3 41 (.int .i64 (kk : Int)) rfl rfl (by kernel_rfl) (by kernel_rfl) (by kernel_rfl) (fun _ _ _ h => h) (Or.inl ⟨by kernel_rfl, by intro w hSw; (try dsimp only at hSw); go_simp⟩) hHeld ?_
      simp only [List.set_cons_zero, List.set_cons_succ]
      refine takeD 6 44 (VL) rfl rfl (by kernel_rfl) (by kernel_rfl) (by kernel_rfl) (fun _ _ _ h => h) (Or.inl ⟨by kernel_rfl, by intro w hSw; (try dsimp only at hSw); go_simp⟩) hHeld ?_
      simp only [List.set_cons_zero, List.set_cons_succ]
      refine takeD 7 45 (.int .i64 (kk : Int)) rfl rfl (by kernel_rfl) (by kernel_rfl) (by kernel_rfl) (fun _ _ _ h => h) (Or.inl ⟨by kernel_rfl, by intro w hSw; (try dsimp only at hSw); go_simp⟩) hHeld ?_
      simp only [List.set_cons_zero, List.set_cons_succ]
      refine takeD 8 46 (.int .i64 ((kk : Int) + 1)) rfl rfl (by kernel_rfl) (by kernel_rfl) (by kernel_rfl) (fun _ _ _ h => h) (Or.inl ⟨by kernel_rfl, by intro w hSw; (try dsimp only at hSw); go_simp⟩) hHeld ?_
      simp only [List.set_cons_zero, List.set_cons_succ]
      refine takeD 4 42 (vh) rfl rfl (by kernel_rfl) (by kernel_rfl) (by kernel_rfl) (fun _ _ _ h => h) (Or.inl ⟨by kernel_rfl, by intro w _; exact yields_slice (t := 24) rfl elemS.1 (by simpa [Act.eval] using m8) w⟩) hHeld ?_
      simp only [List.set_cons_zero, List.set_cons_succ]
      refine takeD 9 47 (vt) rfl rfl (by kernel_rfl) (by kernel_rfl) (by kernel_rfl) (fun _ _ _ h => h) (Or.inl ⟨by kernel_rfl, by intro w _; exact yields_slice (t := 24) rfl elemS.1 (by simpa [Act.eval] using m9) w⟩) hHeld ?_
      simp only [List.set_cons_zero, List.set_cons_succ]
      refine wpAnyH_ready (rs := [1]) (by kernel_rfl) (by simp) (AllReadyH.cons rfl (fun K hK => ?_) AllReadyH.nil)
      go_simp
      have ba5 : Below w4.drew.heap.size w4.drew (w4.drew.alloc (.cells #[] 23)) := (Below.refl _ _).alloc (Nat.le_refl _) _
      refine hK.out _ _ ⟨kc (show w4.drew.cell? _ = _ from u0) ba5, kc (show w4.drew.cell? _ = _ from u1) ba5, kc (show w4.drew.cell? _ = _ from u2) ba5⟩ (fun hHeld => ?_)
      clear hK K
      (try simp only [Act.put])
      refine wpAnyH_ready (rs := [5]) (by kernel_rfl) (by simp) (AllReadyH.cons rfl (fun K hK => ?_) AllReadyH.nil)
      have HM : Hid ((w4.drew.alloc (.cells #[] 23)).ownsRow w4.drew.heap.size 23 3 (.slice (some ⟨w4.drew.heap.size, 0, none⟩) 0 0) 0 []) := mkHid (World.ownsRow_made (base := w4.drew.heap.size) (e := 23) (size := 3) w4.drew #[] 0 (Nat.le_refl _) (by unfold maxLen; omega) rfl)
      have HB5 := mkHid (bt HB4.out.drew ba5)
      refine step_append_src3 (w := (w4.drew.alloc (.cells #[] 23))) rfl (.tmp 39) (.tmp 42) 24 24 rfl w4.drew.heap.size 23 ie Tryd.underlying24 hie.out.1 (.agg #[.int .i64 0, .int .i64 0, .int .i64 0]) 24 hie.out.2.1 rfl hie.out.2.2.1 hie.out.2.2.2 (.slice (some ⟨w4.drew.heap.size, 0, none⟩) 0 0) 0 [] (by simp [Act.eval]) HM.out vh (xs.take kk).length ((xs.take kk).flatMap c3) (by simp [Act.eval]) (HVH.out.below HB5.out).src (by rw [List.length_take]; unfold maxLen; omega) (by rw [List.length_take]; omega) (by simp) ?_
      intro v5 w5 ho5 hg5 hat5
      rw [List.nil_append, Nat.zero_add] at ho5
      have b5 : Below w4.drew.heap.size w4.drew w5 := ba5.grown hg5 ba5.size (fun k hk => (HM.out.lt k hk).1)
      refine hK.out _ _ ⟨kc (show w4.drew.cell? _ = _ from u0) b5, kc (show w4.drew.cell? _ = _ from u1) b5, kc (show w4.drew.cell? _ = _ from u2) b5⟩ (fun hHeld => ?_)
      have HO5 := mkHid ho5
      have HB6 := mkHid (bt HB4.out.drew b5)
      have HS5 := mkHid b5.size
      clear hK K ho5 hg5 hat5
      (try simp only [Act.put])
      refine wpAnyH_ready (rs := [10]) (by kernel_rfl) (by simp) (AllReadyH.cons rfl (fun K hK => ?_) AllReadyH.nil)
      refine step_append_src3 (w := w5) rfl (.tmp 43) (.tmp 47) 24 24 rfl w4.drew.heap.size 23 ie Tryd.underlying24 hie.out.1 (.agg #[.int .i64 0, .int .i64 0, .int .i64 0]) 24 hie.out.2.1 rfl hie.out.2.2.1 hie.out.2.2.2 v5 (xs.take kk).length ((xs.take kk).flatMap c3) (by simp [Act.eval]) HO5.out vt (xs.drop (kk + 1)).length ((xs.drop (kk + 1)).flatMap c3) (by simp [Act.eval]) (HVT.out.below HB6.out).src (by rw [List.length_take, List.length_drop]; unfold maxLen; omega) (by rw [List.length_take, List.length_drop]; omega) HS5.out ?_
      intro v6 w6 ho6 hg6 hat6
      rw [← List.flatMap_append, ← List.length_append] at ho6
      have b6 : Below w4.drew.heap.size w4.drew w6 := b5.grown hg6 b5.size (fun k hk => (HO5.out.lt k hk).1)
      refine hK.out _ _ ⟨kc (show w4.drew.cell? _ = _ from u0) b6, kc (show w4.drew.cell? _ = _ from u1) b6, kc (show w4.drew.cell? _ = _ from u2) b6⟩ (fun hHeld => ?_)
      obtain ⟨a6, c6, e6, hv6⟩ := svs_of_owns (xs := xs.take kk ++ xs.drop (kk + 1)) (by rw [List.length_append, List.length_take, List.length_drop]; omega) ho6
      have HV6 : Hid (Svs w6 v6 (xs.take kk ++ xs.drop (kk + 1))) := mkHid (by rw [e6]; exact hv6)
      clear e6
      have HB7 := mkHid (bt HB4.out.drew b6)
      have k0 := kc (show w4.drew.cell? _ = _ from u0) b6
      have k1 := kc (show w4.drew.cell? _ = _ from u1) b6
      have k2 := kc (show w4.drew.cell? _ = _ from u2) b6
      clear hK K ho6 hg6 hat6 hv6 b5 b6 ba5
      (try simp only [Act.put])
      refine wpAnyH_ready (rs := [11]) (by kernel_rfl) (by simp) (AllReadyH.cons rfl (fun K hK => ?_) AllReadyH.nil)
      go_simp
      refine (HKF.out w6 _ HB7.out HV6.out).mono ?_
      rintro e w7 ⟨rfl, b7⟩
      have v0 := kc k0 b7
      have v1 := kc k1 b7
      have v2 := kc k2 b7
      have HB7b := mkHid (bt HB7.out b7)
      clear b7 hHeld
      refine hK.out _ _ ⟨v0, v1, v2⟩ (fun hHeld => ?_)
      clear hK K u0 u1 u2 k0 k1 k2
      refine takeD 12 50 (.bool false) rfl rfl (by kernel_rfl) (by kernel_rfl) (by kernel_rfl) (fun _ _ _ h => h) (Or.inl ⟨by kernel_rfl, by intro w hSw; (try dsimp only at hSw); go_simp⟩) hHeld ?_
      simp only [List.set_cons_zero, List.set_cons_succ]
      refine wpAnyH_done (by kernel_rfl) ?_ _
      clear hHeld
      go_wp2_with (first
        | (go_at_call 15; refine (HG.out _ HB7b.out).mono ?_; rintro e w8 ⟨rfl, b8⟩; have g0 := kc v0 b8; have g1 := kc v1 b8; have g2 := kc v2 b8; have HB8 := mkHid (bt HB7b.out b8); clear b8 v0 v1 v2))
      generalize (Value.slice at2 ys.length ct) = VT at j10 ⊢
      generalize (Value.slice a9 (ys.take kn).length kn) = VS9 at j10 HGF
      refine wp_region_held_drew (S := fun w' => w'.cell? ⟨p1, 0, none⟩ = some (.int .i64 k) ∧ w'.cell? ⟨p1, 1, none⟩ = some (.int .i64 q) ∧ w'.cell? ⟨p1, 2, none⟩ = some (.int .i64 t)) (by kernel_rfl) ⟨g0, g1, g2⟩ (fun hHeld => ?_)
      refine takeD 0 74 (.agg #[.int .i64 k, .int .i64 q, .int .i64 t]) rfl rfl (by kernel_rfl) (by kernel_rfl) (by kernel_rfl) (fun _ _ _ h => h) (Or.inl ⟨by kernel_rfl, by intro w hSw; (try dsimp only at hSw); go_simp⟩) hHeld ?_
      simp only [List.set_cons_zero, List.set_cons_succ]
      refine takeD 1 75 (VT) rfl rfl (by kernel_rfl) (by kernel_rfl) (by kernel_rfl) (fun _ _ _ h => h) (Or.inl ⟨by kernel_rfl, by intro w hSw; (try dsimp only at hSw); go_simp⟩) hHeld ?_
      simp only [List.set_cons_zero, List.set_cons_succ]
      refine takeD 2 76 (.int .i64 (1 + K2)) rfl rfl (by kernel_rfl) (by kernel_rfl) (by kernel_rfl) (fun _ _ _ h => h) (Or.inl ⟨by kernel_rfl, by intro w hSw; (try dsimp only at hSw); go_simp⟩) hHeld ?_
      simp only [List.set_cons_zero, List.set_cons_succ]
      refine takeD 3 77 (.int .i64 (1 + K2)) rfl rfl (by kernel_rfl) (by kernel_rfl) (by kernel_rfl) (fun _ _ _ h => h) (Or.inl ⟨by kernel_rfl, by intro w hSw; (try dsimp only at hSw); go_simp⟩) hHeld ?_
      simp only [List.set_cons_zero, List.set_cons_succ]
      refine takeD 4 78 (VS9) rfl rfl (by kernel_rfl) (by kernel_rfl) (by kernel_rfl) (fun _ _ _ h => h) (Or.inl ⟨by kernel_rfl, by intro w _; exact yields_slice (t := 36) rfl elemT.1 (by simpa [Act.eval] using j10) w⟩) hHeld ?_
      simp only [List.set_cons_zero, List.set_cons_succ]
      refine wpAnyH_ready (rs := [5]) (by kernel_rfl) (by simp) (AllReadyH.cons rfl (fun K hK => ?_) AllReadyH.nil)
      go_simp
      refine (HGF.out w8.drew HB8.out.drew).mono ?_
      rintro e w9 ⟨rfl, bw9⟩
      have fw9_0 : w9.cell? ⟨p1, 0, none⟩ = some (.int .i64 k) := kc (show w8.drew.cell? _ = _ from g0) bw9
      have fw9_1 : w9.cell? ⟨p1, 1, none⟩ = some (.int .i64 q) := kc (show w8.drew.cell? _ = _ from g1) bw9
      have fw9_2 : w9.cell? ⟨p1, 2, none⟩ = some (.int .i64 t) := kc (show w8.drew.cell? _ = _ from g2) bw9
      have HB9 := mkHid (bt HB8.out.drew bw9)
      clear bw9 hHeld
      refine hK.out _ _ ⟨fw9_0, fw9_1, fw9_2⟩ (fun hHeld => ?_)
      clear hK K
      refine takeD 6 80 (.bool true) rfl rfl (by kernel_rfl) (by kernel_rfl) (by kernel_rfl) (fun _ _ _ h => h) (Or.inl ⟨by kernel_rfl, by intro w hSw; (try dsimp only at hSw); go_simp⟩) hHeld ?_
      simp only [List.set_cons_zero, List.set_cons_succ]
      refine takeD 7 2 (.bool true) rfl rfl (by kernel_rfl) (by kernel_rfl) (by kernel_rfl) (fun _ _ _ h => h) (Or.inl ⟨by kernel_rfl, by intro w hSw; (try dsimp only at hSw); go_simp⟩) hHeld ?_
      simp only [List.set_cons_zero, List.set_cons_succ]
      refine wpAnyH_done (by kernel_rfl) ?_ _
      go_wp2
      go_ret
      exact ⟨rfl, HB9.out⟩
end Go.Proofs.YtnmmphnaelpjdaaDoor
