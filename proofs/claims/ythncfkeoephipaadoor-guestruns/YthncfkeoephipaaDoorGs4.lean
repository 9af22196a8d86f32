/- Which job is next: next, Next; Late; Jobs. -/
import Derived.Test.YthncfkeoephipaaDoorGs3
namespace Go.Proofs.YthncfkeoephipaaDoor
open Go.ChangeShapes Go.WideShapes Go.ChangeAt Go.RowKit
attribute [local go_sem] World.cell?_alloc_some frozen_alloc_some

theorem below_drewN {B : Nat} {W w : World} (h : Below B W w) (n : Nat) : Below B W (w.drewN n) := ⟨h.os, h.tape, h.output, h.size, h.block⟩
theorem ahd2 (a b : Jb) : ahd 2 a b = decide (a.tk < b.tk) := by simp [ahd]
/-- What a policy says of two jobs. -/
theorem rul_is (w : World) (p : Int) (hp : p = 1 ∨ p = 2) (a b : Jb) : Calls Tryd.prog (rul p) #[vJ a, vJ b] w fun e w' => e = .returned (.bool (ahd p a b)) ∧ Below w.heap.size w w' := by
  rcases hp with rfl | rfl
  · exact earlier_is w a b
  · rw [ahd2]; exact before_is w a b
theorem GB.okj {base : Nat} {w : World} {b : Nat} {p : Int} {tv jv : Value} {s : Gt} (_ : GB base w b p tv jv s) (ok : s.Ok p) {i : Nat} {j : Jb} (hj : s.js[i]? = some j) : j.tk < s.xs.length := by
  obtain ⟨x, hx, _⟩ := ok.j i j hj
  exact (List.getElem?_eq_some_iff.mp hx).1
set_option maxHeartbeats 3200000 in
theorem next_1 (base : Nat) (w : World) (b : Nat) (tv jv : Value) (s : Gt) (h : GB base w b 1 tv jv s) (ok : s.Ok 1) (hl : 0 < s.js.length) : Calls Tryd.prog 24 #[.pointer (some ⟨b, 0, none⟩)] w fun e w' => e = .returned (.int .i64 (nx 1 s.ts s.js : Int)) ∧ Below w.heap.size w w' := by
  obtain ⟨x0, hx0⟩ : ∃ x0, s.js[0]? = some x0 := ⟨_, List.getElem?_eq_getElem hl⟩
  obtain ⟨g, c, rfl, _⟩ := own_job h.jown hx0
  have HG := mkHid h
  have HOK := mkHid ok
  have hln : s.js.length ≤ 64 := ok.l
  have c1 := h.c1
  clear h ok hx0
  go_enter Tryd.func24, Tryd.ntmps24
  go_wp2
  go_loopw [3, 11] (fun bv iv wr => ∃ k m : Nat, bv = .int .i64 (m : Int) ∧ iv = .int .i64 (k : Int) ∧ k ≤ s.js.length ∧ m < s.js.length ∧ Hid (m = bst 1 s.js k) ∧ Hid (∀ (i : Nat) (x : Jb), i < k → s.js[i]? = some x → hol s.ts x = false) ∧ Hid (Below w.heap.size w wr)) (fun _ iv _ => s.js.length - (intOf iv).toNat)
  case atStart => exact ⟨0, 0, rfl, rfl, Nat.zero_le _, hl, rfl, mkHid (fun i x hi => by omega), Below.refl _ _⟩
  case round =>
    obtain ⟨k, m, rfl, rfl, hk, hm, HM, HN, HB⟩ := hrel
    clear c1
    have HGR := mkHid (HG.out.below HB.out)
    have c1 := HGR.out.c1
    by_cases hlt : k < s.js.length
    · obtain ⟨x, hx⟩ : ∃ x, s.js[k]? = some x := ⟨_, List.getElem?_eq_getElem hlt⟩
      obtain ⟨y, hy⟩ : ∃ y, s.js[m]? = some y := ⟨_, List.getElem?_eq_getElem hm⟩
      obtain ⟨g', c', e, qx⟩ := own_job HGR.out.jown hx
      simp only [Value.slice.injEq, Option.some.injEq, Addr.mk.injEq] at e
      obtain ⟨⟨rfl, _⟩, _, rfl⟩ := e
      obtain ⟨g', c', e, qy⟩ := own_job HGR.out.jown hy
      simp only [Value.slice.injEq, Option.some.injEq, Addr.mk.injEq] at e
      obtain ⟨⟨rfl, _⟩, _, rfl⟩ := e
      obtain ⟨x0, x1, x2, x3, x4, _⟩ := qx
      obtain ⟨y0, y1, y2, y3, y4, _⟩ := qy
      have hki : (k : Int) < s.js.length := by omega
      have hmi : (m : Int) < s.js.length := by omega
      have HJ := mkHid (HGR.out.okj HOK.out hx)
      have HX := mkHid (And.intro hx hy)
      have c2 : wr.cell? ⟨b, 2, none⟩ = some (.func (.func 31) #[] #[]) := HGR.out.c2
      obtain ⟨H, hH⟩ : ∃ H, H = hol s.ts x := ⟨_, rfl⟩
      obtain ⟨A, hA⟩ : ∃ A, A = ahd 1 x y := ⟨_, rfl⟩
      have HH := mkHid hH
      have HA := mkHid hA
      clear hx hy hH hA
      obtain ⟨tx, rx, dx, lx, ex⟩ := x
      obtain ⟨ty, ry, dy, ly, ey⟩ := y
      simp only at x0 x1 x2 x3 x4 y0 y1 y2 y3 y4
      have HC : Hid (∀ W, Below wr.heap.size wr W → Calls Tryd.prog 33 #[.pointer (some ⟨b, 0, none⟩), vJ ⟨tx, rx, dx, lx, ex⟩] W fun e w' => e = .returned (.bool H) ∧ Below W.heap.size W w') := mkHid (fun W hW => by rw [HH.out]; exact holds_is base W b 1 tv _ s _ (HGR.out.below hW) HJ.out)
      have HD : Hid (∀ W, Calls Tryd.prog 31 #[vJ ⟨tx, rx, dx, lx, ex⟩, vJ ⟨ty, ry, dy, ly, ey⟩] W fun e w' => e = .returned (.bool A) ∧ Below W.heap.size W w') := mkHid (fun W => by rw [HA.out]; exact earlier_is W _ _)
      cases H
      · go_wp2_with (go_at_call 33; refine (HC.out _ (ba (Below.refl _ wr) _)).mono ?_; rintro e w1 ⟨rfl, b1⟩; obtain ⟨hn1, hb1⟩ := new_last b1; have HB1 := mkHid hb1; have HN1 := mkHid hn1; have HB1O := mkHid b1; clear b1 hn1 hb1; have d1 := kc c1 HB1.out; have d2 := kc c2 HB1.out; obtain ⟨z0, z1, z2, z3, z4, _⟩ := J5.of_blk (j := ⟨tx, rx, dx, lx, ex⟩) HN1.out; have v0 := kc y0 HB1.out; have v1 := kc y1 HB1.out; have v2 := kc y2 HB1.out; have v3 := kc y3 HB1.out; have v4 := kc y4 HB1.out; simp only [Nat.zero_add] at z0 z1 z2 z3 z4)
        clear c1 c2 x0 x1 x2 x3 x4 y0 y1 y2 y3 y4
        go_region_held3 (fun w' => w'.cell? ⟨b, 1, none⟩ = some (.slice (some ⟨g, 0, none⟩) s.js.length c) ∧ w'.cell? ⟨b, 2, none⟩ = some (.func (.func 31) #[] #[]) ∧ w'.cell? ⟨wr.heap.size, 0, none⟩ = some (.int .i64 (tx : Int)) ∧ w'.cell? ⟨wr.heap.size, 1, none⟩ = some (.int .i64 rx) ∧ w'.cell? ⟨wr.heap.size, 2, none⟩ = some (.int .i64 dx) ∧ w'.cell? ⟨wr.heap.size, 3, none⟩ = some (.int .i64 lx) ∧ w'.cell? ⟨wr.heap.size, 4, none⟩ = some (.int .i64 ex) ∧ w'.cell? ⟨g, m * 5, none⟩ = some (.int .i64 (ty : Int)) ∧ w'.cell? ⟨g, m * 5 + 1, none⟩ = some (.int .i64 ry) ∧ w'.cell? ⟨g, m * 5 + 2, none⟩ = some (.int .i64 dy) ∧ w'.cell? ⟨g, m * 5 + 3, none⟩ = some (.int .i64 ly) ∧ w'.cell? ⟨g, m * 5 + 4, none⟩ = some (.int .i64 ey)) (go_keep) (first | (go_at_call 31; refine (HD.out _).mono ?_; rintro e w2 ⟨rfl, b2⟩; have HB2 := mkHid (bt (bt (ba HB.out _) HB1O.out).drew b2); have k1 := kc (show w1.drew.cell? _ = _ from d1) b2; have k2 := kc (show w1.drew.cell? _ = _ from d2) b2; have k3 := kc (show w1.drew.cell? _ = _ from z0) b2; have k4 := kc (show w1.drew.cell? _ = _ from z1) b2; have k5 := kc (show w1.drew.cell? _ = _ from z2) b2; have k6 := kc (show w1.drew.cell? _ = _ from z3) b2; have k7 := kc (show w1.drew.cell? _ = _ from z4) b2; have k8 := kc (show w1.drew.cell? _ = _ from v0) b2; have k9 := kc (show w1.drew.cell? _ = _ from v1) b2; have k10 := kc (show w1.drew.cell? _ = _ from v2) b2; have k11 := kc (show w1.drew.cell? _ = _ from v3) b2; have k12 := kc (show w1.drew.cell? _ = _ from v4) b2; clear b2))
        all_goals
          have HS := mkHid (bst_step HX.out.1 (by rw [← HM.out]; exact HX.out.2))
          have HNN : Hid (∀ (i : Nat) (x : Jb), i < k + 1 → s.js[i]? = some x → hol s.ts x = false) := mkHid (fun i x hi hx => by
            by_cases e : i = k
            · subst e
              rw [HX.out.1] at hx
              rw [← Option.some.inj hx]
              exact HH.out.symm
            · exact HN.out i x (by omega) hx)
          cases A
          · go_wp2
            go_roundw
            case rel => exact ⟨k + 1, m, rfl, by go_num, by omega, hm, mkHid (by rw [HS.out, ← HA.out, ← HM.out]; rfl), HNN, HB2⟩
            case measure => simp [intOf]; omega
          · go_wp2
            go_roundw
            case rel => exact ⟨k + 1, k, rfl, by go_num, by omega, hlt, mkHid (by rw [HS.out, ← HA.out]; rfl), HNN, HB2⟩
            case measure => simp [intOf]; omega
      · go_wp2_with (go_at_call 33; refine (HC.out _ (ba (Below.refl _ wr) _)).mono ?_; rintro e w1 ⟨rfl, b1⟩; have HB1 := mkHid (bt (ba HB.out _) b1); clear b1)
        go_ret
        exact ⟨by rw [nx_hol HX.out.1 HH.out.symm HN.out]; rfl, HB1.out⟩
    · obtain rfl : k = s.js.length := by omega
      go_wp2
      go_ret
      exact ⟨by rw [nx_none (fun i x hx => HN.out i x (List.getElem?_eq_some_iff.mp hx).1 hx), ← HM.out]; rfl, HB.out⟩
set_option maxHeartbeats 3200000 in
theorem next_2 (base : Nat) (w : World) (b : Nat) (tv jv : Value) (s : Gt) (h : GB base w b 2 tv jv s) (ok : s.Ok 2) (hl : 0 < s.js.length) : Calls Tryd.prog 24 #[.pointer (some ⟨b, 0, none⟩)] w fun e w' => e = .returned (.int .i64 (nx 2 s.ts s.js : Int)) ∧ Below w.heap.size w w' := by
  obtain ⟨x0, hx0⟩ : ∃ x0, s.js[0]? = some x0 := ⟨_, List.getElem?_eq_getElem hl⟩
  obtain ⟨g, c, rfl, _⟩ := own_job h.jown hx0
  have HG := mkHid h
  have HOK := mkHid ok
  have hln : s.js.length ≤ 64 := ok.l
  have c1 := h.c1
  clear h ok hx0
  go_enter Tryd.func24, Tryd.ntmps24
  go_wp2
  go_loopw [3, 11] (fun bv iv wr => ∃ k m : Nat, bv = .int .i64 (m : Int) ∧ iv = .int .i64 (k : Int) ∧ k ≤ s.js.length ∧ m < s.js.length ∧ Hid (m = bst 2 s.js k) ∧ Hid (∀ (i : Nat) (x : Jb), i < k → s.js[i]? = some x → hol s.ts x = false) ∧ Hid (Below w.heap.size w wr)) (fun _ iv _ => s.js.length - (intOf iv).toNat)
  case atStart => exact ⟨0, 0, rfl, rfl, Nat.zero_le _, hl, rfl, mkHid (fun i x hi => by omega), Below.refl _ _⟩
  case round =>
    obtain ⟨k, m, rfl, rfl, hk, hm, HM, HN, HB⟩ := hrel
    clear c1
    have HGR := mkHid (HG.out.below HB.out)
    have c1 := HGR.out.c1
    by_cases hlt : k < s.js.length
    · obtain ⟨x, hx⟩ : ∃ x, s.js[k]? = some x := ⟨_, List.getElem?_eq_getElem hlt⟩
      obtain ⟨y, hy⟩ : ∃ y, s.js[m]? = some y := ⟨_, List.getElem?_eq_getElem hm⟩
      obtain ⟨g', c', e, qx⟩ := own_job HGR.out.jown hx
      simp only [Value.slice.injEq, Option.some.injEq, Addr.mk.injEq] at e
      obtain ⟨⟨rfl, _⟩, _, rfl⟩ := e
      obtain ⟨g', c', e, qy⟩ := own_job HGR.out.jown hy
      simp only [Value.slice.injEq, Option.some.injEq, Addr.mk.injEq] at e
      obtain ⟨⟨rfl, _⟩, _, rfl⟩ := e
      obtain ⟨x0, x1, x2, x3, x4, _⟩ := qx
      obtain ⟨y0, y1, y2, y3, y4, _⟩ := qy
      have hki : (k : Int) < s.js.length := by omega
      have hmi : (m : Int) < s.js.length := by omega
      have HJ := mkHid (HGR.out.okj HOK.out hx)
      have HX := mkHid (And.intro hx hy)
      have c2 : wr.cell? ⟨b, 2, none⟩ = some (.func (.func 32) #[] #[]) := HGR.out.c2
      obtain ⟨H, hH⟩ : ∃ H, H = hol s.ts x := ⟨_, rfl⟩
      obtain ⟨A, hA⟩ : ∃ A, A = ahd 2 x y := ⟨_, rfl⟩
      have HH := mkHid hH
      have HA := mkHid hA
      clear hx hy hH hA
      obtain ⟨tx, rx, dx, lx, ex⟩ := x
      obtain ⟨ty, ry, dy, ly, ey⟩ := y
      simp only at x0 x1 x2 x3 x4 y0 y1 y2 y3 y4
      have HC : Hid (∀ W, Below wr.heap.size wr W → Calls Tryd.prog 33 #[.pointer (some ⟨b, 0, none⟩), vJ ⟨tx, rx, dx, lx, ex⟩] W fun e w' => e = .returned (.bool H) ∧ Below W.heap.size W w') := mkHid (fun W hW => by rw [HH.out]; exact holds_is base W b 2 tv _ s _ (HGR.out.below hW) HJ.out)
      have HD : Hid (∀ W, Calls Tryd.prog 32 #[vJ ⟨tx, rx, dx, lx, ex⟩, vJ ⟨ty, ry, dy, ly, ey⟩] W fun e w' => e = .returned (.bool A) ∧ Below W.heap.size W w') := mkHid (fun W => by rw [HA.out]; exact (by rw [ahd2]; exact before_is W _ _))
      cases H
      · go_wp2_with (go_at_call 33; refine (HC.out _ (ba (Below.refl _ wr) _)).mono ?_; rintro e w1 ⟨rfl, b1⟩; obtain ⟨hn1, hb1⟩ := new_last b1; have HB1 := mkHid hb1; have HN1 := mkHid hn1; have HB1O := mkHid b1; clear b1 hn1 hb1; have d1 := kc c1 HB1.out; have d2 := kc c2 HB1.out; obtain ⟨z0, z1, z2, z3, z4, _⟩ := J5.of_blk (j := ⟨tx, rx, dx, lx, ex⟩) HN1.out; have v0 := kc y0 HB1.out; have v1 := kc y1 HB1.out; have v2 := kc y2 HB1.out; have v3 := kc y3 HB1.out; have v4 := kc y4 HB1.out; simp only [Nat.zero_add] at z0 z1 z2 z3 z4)
        clear c1 c2 x0 x1 x2 x3 x4 y0 y1 y2 y3 y4
        go_region_held3 (fun w' => w'.cell? ⟨b, 1, none⟩ = some (.slice (some ⟨g, 0, none⟩) s.js.length c) ∧ w'.cell? ⟨b, 2, none⟩ = some (.func (.func 32) #[] #[]) ∧ w'.cell? ⟨wr.heap.size, 0, none⟩ = some (.int .i64 (tx : Int)) ∧ w'.cell? ⟨wr.heap.size, 1, none⟩ = some (.int .i64 rx) ∧ w'.cell? ⟨wr.heap.size, 2, none⟩ = some (.int .i64 dx) ∧ w'.cell? ⟨wr.heap.size, 3, none⟩ = some (.int .i64 lx) ∧ w'.cell? ⟨wr.heap.size, 4, none⟩ = some (.int .i64 ex) ∧ w'.cell? ⟨g, m * 5, none⟩ = some (.int .i64 (ty : Int)) ∧ w'.cell? ⟨g, m * 5 + 1, none⟩ = some (.int .i64 ry) ∧ w'.cell? ⟨g, m * 5 + 2, none⟩ = some (.int .i64 dy) ∧ w'.cell? ⟨g, m * 5 + 3, none⟩ = some (.int .i64 ly) ∧ w'.cell? ⟨g, m * 5 + 4, none⟩ = some (.int .i64 ey)) (go_keep) (first | (go_at_call 32; refine (HD.out _).mono ?_; rintro e w2 ⟨rfl, b2⟩; have HB2 := mkHid (bt (bt (ba HB.out _) HB1O.out).drew b2); have k1 := kc (show w1.drew.cell? _ = _ from d1) b2; have k2 := kc (show w1.drew.cell? _ = _ from d2) b2; have k3 := kc (show w1.drew.cell? _ = _ from z0) b2; have k4 := kc (show w1.drew.cell? _ = _ from z1) b2; have k5 := kc (show w1.drew.cell? _ = _ from z2) b2; have k6 := kc (show w1.drew.cell? _ = _ from z3) b2; have k7 := kc (show w1.drew.cell? _ = _ from z4) b2; have k8 := kc (show w1.drew.cell? _ = _ from v0) b2; have k9 := kc (show w1.drew.cell? _ = _ from v1) b2; have k10 := kc (show w1.drew.cell? _ = _ from v2) b2; have k11 := kc (show w1.drew.cell? _ = _ from v3) b2; have k12 := kc (show w1.drew.cell? _ = _ from v4) b2; clear b2))
        all_goals
          have HS := mkHid (bst_step HX.out.1 (by rw [← HM.out]; exact HX.out.2))
          have HNN : Hid (∀ (i : Nat) (x : Jb), i < k + 1 → s.js[i]? = some x → hol s.ts x = false) := mkHid (fun i x hi hx => by
            by_cases e : i = k
            · subst e
              rw [HX.out.1] at hx
              rw [← Option.some.inj hx]
              exact HH.out.symm
            · exact HN.out i x (by omega) hx)
          cases A
          · go_wp2
            go_roundw
            case rel => exact ⟨k + 1, m, rfl, by go_num, by omega, hm, mkHid (by rw [HS.out, ← HA.out, ← HM.out]; rfl), HNN, HB2⟩
            case measure => simp [intOf]; omega
          · go_wp2
            go_roundw
            case rel => exact ⟨k + 1, k, rfl, by go_num, by omega, hlt, mkHid (by rw [HS.out, ← HA.out]; rfl), HNN, HB2⟩
            case measure => simp [intOf]; omega
      · go_wp2_with (go_at_call 33; refine (HC.out _ (ba (Below.refl _ wr) _)).mono ?_; rintro e w1 ⟨rfl, b1⟩; have HB1 := mkHid (bt (ba HB.out _) b1); clear b1)
        go_ret
        exact ⟨by rw [nx_hol HX.out.1 HH.out.symm HN.out]; rfl, HB1.out⟩
    · obtain rfl : k = s.js.length := by omega
      go_wp2
      go_ret
      exact ⟨by rw [nx_none (fun i x hx => HN.out i x (List.getElem?_eq_some_iff.mp hx).1 hx), ← HM.out]; rfl, HB.out⟩
theorem set5k (F : Nat → Prop) (w : World) (R : Nat) (h : F R) (v0 v1 v2 v3 v4 : Value) : Kept F w (((((w.setCell ⟨R, 0, none⟩ v0).setCell ⟨R, 1, none⟩ v1).setCell ⟨R, 2, none⟩ v2).setCell ⟨R, 3, none⟩ v3).setCell ⟨R, 4, none⟩ v4) :=
  kset (kset (kset (kset (kset (Kept.refl F w) (.inl h) 0 v0) (.inl h) 1 v1) (.inl h) 2 v2) (.inl h) 3 v3) (.inl h) 4 v4
theorem next_is (base : Nat) (w : World) (b : Nat) (p : Int) (tv jv : Value) (s : Gt) (h : GB base w b p tv jv s) (ok : s.Ok p) (hl : 0 < s.js.length) : Calls Tryd.prog 24 #[.pointer (some ⟨b, 0, none⟩)] w fun e w' => e = .returned (.int .i64 (nx p s.ts s.js : Int)) ∧ Below w.heap.size w w' := by
  rcases ok.pol with rfl | rfl
  · exact next_1 base w b tv jv s h ok hl
  · exact next_2 base w b tv jv s h ok hl
theorem eql_nilJ (w : World) (a : Option Addr) (n c n' c' : Nat) : (binOp .eql 54 (.slice a n c) (.slice none n' c')).run Tryd.prog w = .ok (.bool a.isNone) w :=
  Lib.run_eql_slice_nil w _ _ a n c n' c' Tryd.underlying54
theorem cloneJ_any (w : World) (a : Option Addr) (cap : Nat) (xs : List Jb) (hsrc : ∀ W, Below w.heap.size w W → Src Tryd.prog 5 54 (.slice a xs.length cap) xs.length (xs.flatMap cj) W) (h0 : a = none → xs = []) (hs : xs.length * 40 ≤ 140737488355328) : Calls Tryd.prog 29 #[.slice a xs.length cap] w fun r w' => ∃ a2 c2, r = .returned (.slice a2 xs.length c2) ∧ w'.ownsRow w.heap.size 45 5 (.slice a2 xs.length c2) xs.length (xs.flatMap cj) ∧ Below w.heap.size w w' := by
  obtain ⟨ie, hi, hz0, hz1, hz2⟩ := info_parts info_job
  obtain ⟨zth, hzth⟩ : ∃ z : Value, z = .agg #[.int .i64 0, .int .i64 0, .int .i64 0, .int .i64 0, .int .i64 0] := ⟨_, rfl⟩
  rw [← hzth] at hz0
  have HZ : Hid (zth.cells.size = 5) := mkHid (by rw [hzth]; rfl)
  have hie := mkHid (And.intro hi (And.intro hz0 (And.intro hz1 hz2)))
  clear hzth hi hz0 hz1 hz2
  have HS := mkHid hs
  cases a with
  | none =>
    have h0 := h0 rfl
    subst h0
    have hq := eql_nilJ w none 0 cap 0 0
    clear hsrc hs
    go_enter Tryd.func29, Tryd.ntmps29
    go_wp2
    go_ret
    exact ⟨none, 0, rfl, World.ownsRow_nil _ _ _ _, Below.refl _ _⟩
  | some ad =>
    have hq := eql_nilJ w (some ad) xs.length cap 0 0
    have HSRC := mkHid (hsrc _ (ba (Below.refl _ w) (.cells #[] 45)))
    have HM : Hid ((w.alloc (.cells #[] 45)).ownsRow w.heap.size 45 5 (.slice (some ⟨w.heap.size, 0, none⟩) 0 0) 0 []) := mkHid (World.ownsRow_made (base := w.heap.size) (e := 45) (size := 5) w #[] 0 (Nat.le_refl _) (by unfold maxLen; omega) rfl)
    clear hsrc hs h0
    go_enter Tryd.func29, Tryd.ntmps29
    go_wp2_with (at_builtin; refine wpList_append_src5 _ rfl (.tmp 5) (.tmp 6) 54 54 rfl w.heap.size 45 ie Tryd.underlying54 hie.out.1 zth 40 hie.out.2.1 HZ.out hie.out.2.2.1 hie.out.2.2.2 _ 0 [] rfl HM.out _ xs.length (xs.flatMap cj) rfl HSRC.out (by have := HS.out; unfold maxLen; omega) (by have := HS.out; omega) (by simp) ?_; intro v2 w2 ho2 hg2 _; rw [Nat.zero_add, List.nil_append] at ho2; obtain ⟨a2, c2, rfl⟩ := own_shape ho2; have HO2 := mkHid (And.intro ho2 ((ba (Below.refl _ w) _).grown hg2 (by simp) (fun k hk => (HM.out.lt k hk).1))); clear ho2 hg2)
    go_ret
    exact ⟨a2, c2, rfl, HO2.out.1, HO2.out.2⟩
theorem jobs_is (base : Nat) (w : World) (b : Nat) (p : Int) (tv jv : Value) (s : Gt) (h : GB base w b p tv jv s) (hl : s.js.length ≤ 64) : Calls Tryd.prog 19 #[.pointer (some ⟨b, 0, none⟩)] w fun r w' => ∃ a2 c2, r = .returned (.slice a2 s.js.length c2) ∧ w'.ownsRow w.heap.size 45 5 (.slice a2 s.js.length c2) s.js.length (s.js.flatMap cj) ∧ Below w.heap.size w w' := by
  have c1 := h.c1
  have hr : RowIn 5 cj w jv s.js := RowIn.of_owns cj_len (by omega) h.jown
  obtain ⟨a, c, rfl, hc⟩ := own_sh h.jown
  have hn : a = none → s.js = [] := fun e => by
    subst e
    refine Decidable.byContradiction fun hn => ?_
    obtain ⟨g, c', e, _⟩ := own_addr h.jown (m := 0) (List.length_pos_iff.mpr hn)
    simp at e
  have HC := mkHid (cloneJ_any w a c s.js (fun W hW => RowIn.src Tryd.underlying54 (by omega) cj_len onej (hr.below hW)) hn (by omega))
  clear h hr hn
  go_enter Tryd.func19, Tryd.ntmps19
  go_wp2_with (go_at_call 29; refine HC.out.mono ?_; rintro r w1 ⟨a2, c2, rfl, ho, hb⟩; have HO := mkHid ho; have HB := mkHid hb; clear ho hb)
  go_ret
  exact ⟨a2, c2, rfl, HO.out, HB.out⟩
def lateN (now : Int) (js : List Jb) : Nat := js.countP (fun j => decide (j.dl ≤ now))
theorem late_step {now : Int} {js : List Jb} {k : Nat} {x : Jb} (hx : js[k]? = some x) : lateN now (js.take (k + 1)) = lateN now (js.take k) + (if x.dl ≤ now then 1 else 0) := by
  unfold lateN
  rw [List.take_add_one, hx, List.countP_append]
  simp [List.countP_cons]
set_option maxHeartbeats 1600000 in
theorem late_is (base : Nat) (w : World) (b : Nat) (p : Int) (tv jv : Value) (s : Gt) (now : Int) (h : GB base w b p tv jv s) (hl : s.js.length ≤ 64) : Calls Tryd.prog 27 #[.pointer (some ⟨b, 0, none⟩), .int .i64 now] w fun e w' => e = .returned (.int .i64 (lateN now s.js : Int)) ∧ Below w.heap.size w w' := by
  have c1 := h.c1
  obtain ⟨a, c, rfl, hc⟩ := own_sh h.jown
  have HG := mkHid h
  clear h hc
  go_enter Tryd.func27, Tryd.ntmps27
  go_wp2
  go_loopw [5, 13] (fun cv iv wr => ∃ k n : Nat, cv = .int .i64 (n : Int) ∧ iv = .int .i64 (k : Int) ∧ k ≤ s.js.length ∧ n ≤ k ∧ Hid (n = lateN now (s.js.take k)) ∧ Hid (Below w.heap.size w wr)) (fun _ iv _ => s.js.length - (intOf iv).toNat)
  case atStart => exact ⟨0, 0, rfl, rfl, Nat.zero_le _, Nat.le_refl _, rfl, Below.refl _ _⟩
  case round =>
    obtain ⟨k, n, rfl, rfl, hk, hnk, HN, HB⟩ := hrel
    clear c1
    by_cases hlt : k < s.js.length
    · obtain ⟨x, hx⟩ : ∃ x, s.js[k]? = some x := ⟨_, List.getElem?_eq_getElem hlt⟩
      obtain ⟨g, c', e, qx⟩ := own_job (HG.out.below HB.out).jown hx
      simp only [Value.slice.injEq] at e
      obtain ⟨rfl, _, rfl⟩ := e
      obtain ⟨x0, x1, x2, x3, x4, _⟩ := qx
      have hki : (k : Int) < s.js.length := by omega
      have HS := mkHid (late_step (now := now) hx)
      clear hx
      obtain ⟨tx, rx, dx, lx, ex⟩ := x
      simp only at x0 x1 x2 x3 x4
      by_cases hd : dx ≤ now
      · go_wp2
        go_roundw
        case rel => exact ⟨k + 1, n + 1, by go_num, by go_num, by omega, by omega, mkHid (by rw [HS.out, ← HN.out, if_pos hd]), mkHid (ba HB.out _)⟩
        case measure => simp [intOf]; omega
      · go_wp2
        go_roundw
        case rel => exact ⟨k + 1, n, rfl, by go_num, by omega, by omega, mkHid (by rw [HS.out, ← HN.out, if_neg hd]; rfl), mkHid (ba HB.out _)⟩
        case measure => simp [intOf]; omega
    · obtain rfl : k = s.js.length := by omega
      have HT : Hid (n = lateN now s.js) := mkHid (by rw [HN.out, List.take_of_length_le (Nat.le_refl _)])
      go_wp2
      go_ret
      exact ⟨by rw [← HT.out]; rfl, HB.out⟩
theorem next_none (base : Nat) (w : World) (b : Nat) (p : Int) (tv jv : Value) (s : Gt) (h : GB base w b p tv jv s) (hl : s.js.length = 0) : Calls Tryd.prog 18 #[.pointer (some ⟨b, 0, none⟩)] w fun e w' => e = .returned (.tuple #[vJ j0, .bool false]) ∧ Below w.heap.size w w' := by
  have HW : Hid (∀ W, Below w.heap.size w W → Calls Tryd.prog 23 #[.pointer (some ⟨b, 0, none⟩)] W fun e w' => e = .returned (.bool false) ∧ w' = W) := mkHid (fun W hW => by
    have := work_is base W b p tv jv s (h.below hW)
    rwa [hl] at this)
  clear h hl
  go_enter Tryd.func18, Tryd.ntmps18
  go_wp2_with (go_at_call 23; refine (HW.out _ (ba (Below.refl _ w) _)).mono ?_; rintro e w1 ⟨rfl, hw⟩; rw [hw]; clear hw)
  refine bodyPost_ret (leavesCT (cs := #[.int .i64 0, .int .i64 0, .int .i64 0, .int .i64 0, .int .i64 0]) rfl ?_ Tryd.underlying45 size_job _ rfl) rfl ⟨rfl, ?_⟩
  · exact heap_alloc_new w _
  · exact ba (Below.refl _ w) _
set_option maxHeartbeats 3200000 in
theorem next_some (base : Nat) (w : World) (b : Nat) (p : Int) (tv jv : Value) (s : Gt) (j : Jb) (h : GB base w b p tv jv s) (ok : s.Ok p) (hj : s.js[nx p s.ts s.js]? = some j) : Calls Tryd.prog 18 #[.pointer (some ⟨b, 0, none⟩)] w fun e w' => e = .returned (.tuple #[vJ j, .bool true]) ∧ Below w.heap.size w w' := by
  have hn := (List.getElem?_eq_some_iff.mp hj).1
  have hl : 0 < s.js.length := by omega
  have hl64 := ok.l
  obtain ⟨N, hN⟩ : ∃ N, N = nx p s.ts s.js := ⟨_, rfl⟩
  have HW : Hid (∀ W, Below w.heap.size w W → Calls Tryd.prog 23 #[.pointer (some ⟨b, 0, none⟩)] W fun e w' => e = .returned (.bool true) ∧ w' = W) := mkHid (fun W hW => by
    have := work_is base W b p tv jv s (h.below hW)
    rwa [decide_eq_true (show (0 : Int) < s.js.length by omega)] at this)
  have HN : Hid (∀ W, Below w.heap.size w W → Calls Tryd.prog 24 #[.pointer (some ⟨b, 0, none⟩)] W fun e w' => e = .returned (.int .i64 (N : Int)) ∧ Below W.heap.size W w') := mkHid (fun W hW => by rw [hN]; exact next_is base W b p tv jv s (h.below hW) ok hl)
  rw [← hN] at hj hn
  have c1 := h.c1
  obtain ⟨g, c, rfl, q⟩ := own_job h.jown hj
  obtain ⟨q0, q1, q2, q3, q4, _⟩ := q
  have hNi : (N : Int) < s.js.length := by omega
  have HLT : Hid (b < w.heap.size ∧ g < w.heap.size) := mkHid ⟨h.lt, World.block_lt_of_cell? w _ q0⟩
  clear h ok hj hN hl
  obtain ⟨tj, rj, dj, lj, nj⟩ := j
  simp only at q0 q1 q2 q3 q4
  go_enter Tryd.func18, Tryd.ntmps18
  go_wp2_with (go_at_call 23; refine (HW.out _ (ba (Below.refl _ w) _)).mono ?_; rintro e w1 ⟨rfl, hw⟩; rw [hw]; clear hw)
  obtain ⟨W, hW⟩ : ∃ W, W = w.alloc (.cells #[.int .i64 0, .int .i64 0, .int .i64 0, .int .i64 0, .int .i64 0] 45) := ⟨_, rfl⟩
  have HBW : Hid (Below w.heap.size w W) := mkHid (by rw [hW]; exact ba (Below.refl _ w) _)
  have HR : Hid (W.heap[w.heap.size]? = some (.cells #[.int .i64 0, .int .i64 0, .int .i64 0, .int .i64 0, .int .i64 0] 45 (0, 0))) := mkHid (by rw [hW]; exact heap_alloc_new w _)
  have d1 := kc c1 HBW.out
  have v0 := kc q0 HBW.out
  have v1 := kc q1 HBW.out
  have v2 := kc q2 HBW.out
  have v3 := kc q3 HBW.out
  have v4 := kc q4 HBW.out
  rw [← hW]
  clear hW c1 q0 q1 q2 q3 q4
  obtain ⟨R, hR⟩ : ∃ R, R = w.heap.size := ⟨_, rfl⟩
  rw [← hR] at HR ⊢
  have HRE := mkHid hR
  have hRb : ¬ R = b := by have := HLT.out; omega
  have hRg : ¬ R = g := by have := HLT.out; omega
  have hbR : ¬ b = R := fun e => hRb e.symm
  have hgR : ¬ g = R := fun e => hRg e.symm
  clear hR
  go_region_held3 (fun w' => w'.cell? ⟨b, 1, none⟩ = some (.slice (some ⟨g, 0, none⟩) s.js.length c) ∧ w'.cell? ⟨g, N * 5, none⟩ = some (.int .i64 (tj : Int)) ∧ w'.cell? ⟨g, N * 5 + 1, none⟩ = some (.int .i64 rj) ∧ w'.cell? ⟨g, N * 5 + 2, none⟩ = some (.int .i64 dj) ∧ w'.cell? ⟨g, N * 5 + 3, none⟩ = some (.int .i64 lj) ∧ w'.cell? ⟨g, N * 5 + 4, none⟩ = some (.int .i64 nj)) (go_keep) (first | (go_at_call 24; refine (HN.out _ HBW.out.drew).mono ?_; rintro e w2 ⟨rfl, b2⟩; have k1 := kc (show W.drew.cell? _ = _ from d1) b2; have k2 := kc (show W.drew.cell? _ = _ from v0) b2; have k3 := kc (show W.drew.cell? _ = _ from v1) b2; have k4 := kc (show W.drew.cell? _ = _ from v2) b2; have k5 := kc (show W.drew.cell? _ = _ from v3) b2; have k6 := kc (show W.drew.cell? _ = _ from v4) b2; have HR2 := mkHid (blk_late (show W.drew.heap[R]? = _ from HR.out) b2); have HB2 := mkHid (bt HBW.out.drew b2); clear b2; obtain ⟨r0, r1, r2, r3, r4, rf⟩ := J5.of_blk (j := j0) HR2.out; have f0 := rf 0; have f1 := rf 1; have f2 := rf 2; have f3 := rf 3; have f4 := rf 4; clear rf))
  all_goals
    go_wp2
    refine bodyPost_ret (leavesCT (cs := #[.int .i64 (tj : Int), .int .i64 rj, .int .i64 dj, .int .i64 lj, .int .i64 nj]) rfl ?_ Tryd.underlying45 size_job _ rfl) rfl ⟨rfl, ?_⟩
    · rw [heap_set (heap_set (heap_set (heap_set (heap_set HR2.out))))]; rfl
    · exact HB2.out.trans (Kept.below (set5k (fun k => k = R) w2 R rfl _ _ _ _ _) (fun k e => by have := HRE.out; omega) HB2.out.size)
end Go.Proofs.YthncfkeoephipaaDoor
