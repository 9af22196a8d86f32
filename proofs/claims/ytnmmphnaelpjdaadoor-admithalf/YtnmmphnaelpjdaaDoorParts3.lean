/- What the document's Plus answers. -/
import Derived.Test.YtnmmphnaelpjdaaDoorParts2
namespace Go.Proofs.YtnmmphnaelpjdaaDoor
open Go.ChangeShapes Go.WideShapes Go.ChangeAt Go.RowKit
set_option maxRecDepth 100000
attribute [local go_sem] World.cell?_alloc_some frozen_alloc_some

theorem two_ok {N D q t A B C E SH SL EH EL : Int} {ok sb eb : Bool} (N0 : 0 ≤ N) (D0 : 0 ≤ D) (hl : Lg D q t) (h : PlIs N D q t A B C E ok) (hS : Is (N * t + D * q) SH SL sb) (hE : Is (D * t) EH EL eb) :
    ok = (sb && eb) ∧ (ok = true → A = SH ∧ B = SL ∧ C = EH ∧ E = EL) := by
  have n1 : 0 ≤ N * t := Int.mul_nonneg N0 (by have := hl.t; omega)
  have n2 : 0 ≤ D * q := Int.mul_nonneg D0 hl.q
  have n3 : 0 ≤ D * t := Int.mul_nonneg D0 (by have := hl.t; omega)
  have m3 := is_lt hS (by omega)
  have m4 := is_lt hE n3
  have key : ok = (sb && eb) := by
    cases ok
    · obtain ⟨hn, _⟩ := h.no rfl
      cases sb <;> cases eb <;> (try rfl)
      exact absurd ⟨hl, m3.mp rfl, m4.mp rfl⟩ hn
    · obtain ⟨_, e1, e2⟩ := h.yes rfl
      have u1 := wv_hi h.a h.b
      have u2 := wv_hi h.c h.e
      have p3 : sb = true := m3.mpr (by omega)
      have p4 : eb = true := m4.mpr (by omega)
      rw [p3, p4]; rfl
  refine ⟨key, fun hk => ?_⟩
  rw [hk] at key
  obtain ⟨_, e1, e2⟩ := h.yes hk
  have pp : sb = true ∧ eb = true := by simpa using key.symm
  obtain ⟨p3, p4⟩ := pp
  obtain ⟨f1, f2⟩ := wv_inj h.a h.b hS.h hS.l (by rw [hS.yes p3, e1])
  obtain ⟨f3, f4⟩ := wv_inj h.c h.e hE.h hE.l (by rw [hE.yes p4, e2])
  exact ⟨f1, f2, f3, f4⟩
theorem sum_prod {d1 d2 d3 d4 d5 d6 d7 x1 x2 x4 x5 : Int} (E7 : Hid (d7 = d3 + d6)) (E3 : Hid (d3 = d1 * d2)) (E6 : Hid (d6 = d4 * d5)) (E1 : Hid (d1 = x1)) (E2 : Hid (d2 = x2)) (E4 : Hid (d4 = x4)) (E5 : Hid (d5 = x5)) : d7 = x1 * x2 + x4 * x5 := by
  rw [E7.out, E3.out, E6.out, E1.out, E2.out, E4.out, E5.out]
theorem times_hid (ps qs : List Int) (va vb : Value) (w : World) (ha : Num w va ps) (hb : Num w vb qs) (la : ps.length ≤ 1000) (lb : qs.length ≤ 1000) :
    Calls Tryd.prog 66 #[va, vb] w fun e w' => ∃ v ds, e = .returned v ∧ Num w' v ds ∧ Hid (val ds = val ps * val qs) ∧ (ds.length ≤ ps.length + qs.length + 1 ∧ (qs.length = 0 ∨ ps.length + qs.length ≤ ds.length)) ∧ Below w.heap.size w w' :=
  times_any ps qs va vb w ha hb la lb
theorem plus_hid2 (ps qs : List Int) (va vb : Value) (w : World) (ha : Num w va ps) (hb : Num w vb qs) (la : ps.length ≤ 30000000000000) (lb : qs.length ≤ 30000000000000) :
    Calls Tryd.prog 68 #[va, vb] w fun e w' => ∃ v ds, e = .returned v ∧ Num w' v ds ∧ Hid (val ds = val ps + val qs) ∧ (ds.length ≤ max ps.length qs.length + 1 ∧ max ps.length qs.length ≤ ds.length) ∧ Below w.heap.size w w' :=
  plus_any ps qs va vb w ha hb la lb
set_option maxHeartbeats 8000000 in
theorem refPlus {nh nl dh dl q t A B C E : Int} {ok : Bool} {w : World} (a : Word nh) (b : Word nl) (c : Word dh) (d : Word dl) (hq : I64 q) (ht : I64 t) (h : PlIs (wv nh nl) (wv dh dl) q t A B C E ok) :
    Calls Tryd.prog 78 #[.agg #[.int .u64 nh, .int .u64 nl, .int .u64 dh, .int .u64 dl], .int .i64 q, .int .i64 t] w fun e w' => e = .returned (.tuple #[.agg #[.int .u64 A, .int .u64 B, .int .u64 C, .int .u64 E], .bool ok]) ∧ Below w.heap.size w w' := by
  by_cases hl : Lg (wv dh dl) q t
  · obtain ⟨SH, SL, sb, hS⟩ := is_ex (wv nh nl * t + wv dh dl * q)
    obtain ⟨EH, EL, eb, hE⟩ := is_ex (wv dh dl * t)
    obtain ⟨key, hv⟩ := two_ok (wv_lo a b) (wv_lo c d) hl h hS hE
    have hz : ok = false → A = 0 ∧ B = 0 ∧ C = 0 ∧ E = 0 := fun hk => (h.no hk).2
    obtain ⟨q1, q2⟩ := hq; obtain ⟨t1, t2⟩ := ht
    have q0 := hl.q
    have t0 := hl.t
    have wq : Word q := ⟨q0, by omega⟩
    have wt : Word t := ⟨by omega, by omega⟩
    have eWt : IntKind.u64.wrap t = t := by rw [IntKind.wrap_u64]; omega
    have eWq : IntKind.u64.wrap q = q := by rw [IntKind.wrap_u64]; omega
    clear h
    go_enter Tryd.func78, Tryd.ntmps78
    go_wp2_with (go_at_call 79; with_reducible refine (legal_yes hl).mono ?_; rintro e w0 ⟨rfl, B0⟩; have p0 := kc (a := ⟨w.heap.size, 0, none⟩) (v := .int .u64 nh) (by simp [go_sem]) B0; have p1 := kc (a := ⟨w.heap.size, 1, none⟩) (v := .int .u64 nl) (by simp [go_sem]) B0; have p2 := kc (a := ⟨w.heap.size, 2, none⟩) (v := .int .u64 dh) (by simp [go_sem]) B0; have p3 := kc (a := ⟨w.heap.size, 3, none⟩) (v := .int .u64 dl) (by simp [go_sem]) B0; have x0 := kc (a := ⟨w.heap.size + 1, 0, none⟩) (v := .int .u64 0) (by simp [go_sem]) B0; have x1 := kc (a := ⟨w.heap.size + 1, 1, none⟩) (v := .int .u64 0) (by simp [go_sem]) B0; have x2 := kc (a := ⟨w.heap.size + 1, 2, none⟩) (v := .int .u64 0) (by simp [go_sem]) B0; have x3 := kc (a := ⟨w.heap.size + 1, 3, none⟩) (v := .int .u64 0) (by simp [go_sem]) B0; have xf0 := kf (a := ⟨w.heap.size + 1, 0, none⟩) (v := .int .u64 0) (by simp [go_sem]) B0 (by simp [go_sem]); have xf1 := kf (a := ⟨w.heap.size + 1, 1, none⟩) (v := .int .u64 0) (by simp [go_sem]) B0 (by simp [go_sem]); have xf2 := kf (a := ⟨w.heap.size + 1, 2, none⟩) (v := .int .u64 0) (by simp [go_sem]) B0 (by simp [go_sem]); have xf3 := kf (a := ⟨w.heap.size + 1, 3, none⟩) (v := .int .u64 0) (by simp [go_sem]) B0 (by simp [go_sem]))
    go_region_held3 (fun w' => w'.cell? ⟨w.heap.size, 0, none⟩ = some (.int .u64 nh) ∧ w'.cell? ⟨w.heap.size, 1, none⟩ = some (.int .u64 nl) ∧ w'.cell? ⟨w.heap.size, 2, none⟩ = some (.int .u64 dh) ∧ w'.cell? ⟨w.heap.size, 3, none⟩ = some (.int .u64 dl))
      (first | assumption | (simp [go_sem, *]; done) | (exact keep4 (by assumption) (by assumption)))
      (first
        | (go_at_call 64; with_reducible refine (refOf a b).mono ?_; rintro e w1 ⟨v1, d1, rfl, n1, E1, l1, c1⟩)
        | (go_at_call 90; with_reducible refine (of_hid t _ wt.lo wt.hi).mono ?_; rintro e w2 ⟨v2, d2, rfl, n2, E2, l2, c2⟩)
        | (go_at_call 66; with_reducible refine (times_hid d1 d2 _ _ _ (n1.later c2) n2 (by omega) (by omega)).mono ?_; rintro e w3 ⟨v3, d3, rfl, n3, E3, l3, c3⟩)
        | (go_at_call 64; with_reducible refine (refOf c d).mono ?_; rintro e w4 ⟨v4, d4, rfl, n4, E4, l4, c4⟩)
        | (go_at_call 90; with_reducible refine (of_hid q _ wq.lo wq.hi).mono ?_; rintro e w5 ⟨v5, d5, rfl, n5, E5, l5, c5⟩)
        | (go_at_call 66; with_reducible refine (times_hid d4 d5 _ _ _ (n4.later c5) n5 (by omega) (by omega)).mono ?_; rintro e w6 ⟨v6, d6, rfl, n6, E6, l6, c6⟩)
        | (go_at_call 68; with_reducible refine (plus_hid2 d3 d6 _ _ _ (((n3.later c4).later c5).later c6) n6 (by omega) (by omega)).mono ?_; rintro e w7 ⟨v7, d7, rfl, n7, E7, l7, c7⟩))
    rename_i hh
    obtain ⟨r0, r1, r2, r3⟩ := hh
    have T := bt (bt (bt (bt (bt (bt c1 c2) c3) c4) c5) c6) c7
    have hv7 := sum_prod E7 E3 E6 E1 E2 E4 E5
    have y0 := kc (w := w0.drew) x0 T
    have yf0 := kf (w := w0.drew) x0 T xf0
    have y1 := kc (w := w0.drew) x1 T
    have yf1 := kf (w := w0.drew) x1 T xf1
    have y2 := kc (w := w0.drew) x2 T
    have yf2 := kf (w := w0.drew) x2 T xf2
    have y3 := kc (w := w0.drew) x3 T
    have yf3 := kf (w := w0.drew) x3 T xf3
    have D : Below w.heap.size w w7 := bt (bt (ba (ba (Below.refl _ _) _) _) B0).drew T
    have hI : Is (val d7) SH SL sb := by rw [hv7]; exact hS
    have l8 : 8 ≤ d7.length := by omega
    have l9 : d7.length ≤ 30000000000000 := by omega
    clear hv7 T c1 c2 c3 c4 c5 c6 c7 E1 E2 E3 E4 E5 E6 E7 n1 n2 n3 n4 n5 n6 l1 l2 l3 l4 l5 l6 l7 B0 x0 x1 x2 x3 xf0 xf1 xf2 xf3 p0 p1 p2 p3 r0 r1
    cases hse : (sb && eb)
    · have hk : ok = false := by rw [key, hse]
      subst hk
      obtain ⟨rfl, rfl, rfl, rfl⟩ := hz rfl
      clear hz hv key
      cases sb <;> cases eb <;> (try cases hse)
      all_goals
        go_wp2_with (first
          | (go_at_call 99; with_reducible refine (back_any n7 l8 l9 hI).mono ?_; rintro e w8 ⟨rfl, B8⟩; have s2 := kc r2 B8; have s3 := kc r3 B8; have z0 := kc y0 B8; have z1 := kc y1 B8; have z2 := kc y2 B8; have z3 := kc y3 B8; have zf0 := kf y0 B8 yf0; have zf1 := kf y1 B8 yf1; have zf2 := kf y2 B8 yf2; have zf3 := kf y3 B8 yf3; clear y0 yf0 y1 yf1 y2 yf2 y3 yf3)
          | (go_at_call 80; with_reducible refine (refMul c d wt hE).mono ?_; rintro e w9 ⟨rfl, B9⟩; have g0 := kc (a := ⟨w8.heap.size, 0, none⟩) (v := .int .u64 SH) (by simp [go_sem]) B9; have g1 := kc (a := ⟨w8.heap.size, 1, none⟩) (v := .int .u64 SL) (by simp [go_sem]) B9; have u0 := kc (kl z0 _) B9; have u1 := kc (kl z1 _) B9; have u2 := kc (kl z2 _) B9; have u3 := kc (kl z3 _) B9; have uf0 := kf (kl z0 _) B9 (ff z0 zf0 _); have uf1 := kf (kl z1 _) B9 (ff z1 zf1 _); have uf2 := kf (kl z2 _) B9 (ff z2 zf2 _); have uf3 := kf (kl z3 _) B9 (ff z3 zf3 _); clear z0 zf0 z1 zf1 z2 zf2 z3 zf3))
        exact bodyPost_ret (v := .tuple #[.agg #[.int .u64 0, .int .u64 0, .int .u64 0, .int .u64 0], .bool false]) (by simp [results, Tryd.results78, go_sem, u0, u1, u2, u3]) rfl ⟨rfl, (((((ba (bt (ba (bt D B8) _) B9) _).setCell (Nat.le_add_right _ 1) _).setCell (Nat.le_add_right _ 1) _).setCell (Nat.le_add_right _ 1) _).setCell (Nat.le_add_right _ 1) _)⟩
    · have hk : ok = true := by rw [key, hse]
      subst hk
      obtain ⟨rfl, rfl, rfl, rfl⟩ := hv rfl
      have hm : sb = true ∧ eb = true := by simpa using hse
      obtain ⟨rfl, rfl⟩ := hm
      clear hz hv key hse
      go_wp2_with (first
        | (go_at_call 99; with_reducible refine (back_any n7 l8 l9 hI).mono ?_; rintro e w8 ⟨rfl, B8⟩; have s2 := kc r2 B8; have s3 := kc r3 B8; have z0 := kc y0 B8; have z1 := kc y1 B8; have z2 := kc y2 B8; have z3 := kc y3 B8; have zf0 := kf y0 B8 yf0; have zf1 := kf y1 B8 yf1; have zf2 := kf y2 B8 yf2; have zf3 := kf y3 B8 yf3; clear y0 yf0 y1 yf1 y2 yf2 y3 yf3)
        | (go_at_call 80; with_reducible refine (refMul c d wt hE).mono ?_; rintro e w9 ⟨rfl, B9⟩; have g0 := kc (a := ⟨w8.heap.size, 0, none⟩) (v := .int .u64 A) (by simp [go_sem]) B9; have g1 := kc (a := ⟨w8.heap.size, 1, none⟩) (v := .int .u64 B) (by simp [go_sem]) B9; have u0 := kc (kl z0 _) B9; have u1 := kc (kl z1 _) B9; have u2 := kc (kl z2 _) B9; have u3 := kc (kl z3 _) B9; have uf0 := kf (kl z0 _) B9 (ff z0 zf0 _); have uf1 := kf (kl z1 _) B9 (ff z1 zf1 _); have uf2 := kf (kl z2 _) B9 (ff z2 zf2 _); have uf3 := kf (kl z3 _) B9 (ff z3 zf3 _); clear z0 zf0 z1 zf1 z2 zf2 z3 zf3))
      exact bodyPost_ret (v := .tuple #[.agg #[.int .u64 A, .int .u64 B, .int .u64 C, .int .u64 E], .bool true]) (by simp [results, Tryd.results78, go_sem, u0, u1, u2, u3]) rfl ⟨rfl, (((((ba (bt (ba (bt D B8) _) B9) _).setCell (Nat.le_add_right _ 1) _).setCell (Nat.le_add_right _ 1) _).setCell (Nat.le_add_right _ 1) _).setCell (Nat.le_add_right _ 1) _)⟩
  · have hk : ok = false := by
      cases ok
      · rfl
      · exact absurd (h.yes rfl).1 hl
    subst hk
    obtain ⟨_, rfl, rfl, rfl, rfl⟩ := h.no rfl
    clear h
    go_enter Tryd.func78, Tryd.ntmps78
    go_wp2_with (go_at_call 79; with_reducible refine (legal_no c d hl).mono ?_; rintro e w1 ⟨rfl, B1⟩; have x0 := kc (a := ⟨w.heap.size + 1, 0, none⟩) (v := .int .u64 0) (by simp [go_sem]) B1; have x1 := kc (a := ⟨w.heap.size + 1, 1, none⟩) (v := .int .u64 0) (by simp [go_sem]) B1; have x2 := kc (a := ⟨w.heap.size + 1, 2, none⟩) (v := .int .u64 0) (by simp [go_sem]) B1; have x3 := kc (a := ⟨w.heap.size + 1, 3, none⟩) (v := .int .u64 0) (by simp [go_sem]) B1; have xf0 := kf (a := ⟨w.heap.size + 1, 0, none⟩) (v := .int .u64 0) (by simp [go_sem]) B1 (by simp [go_sem]); have xf1 := kf (a := ⟨w.heap.size + 1, 1, none⟩) (v := .int .u64 0) (by simp [go_sem]) B1 (by simp [go_sem]); have xf2 := kf (a := ⟨w.heap.size + 1, 2, none⟩) (v := .int .u64 0) (by simp [go_sem]) B1 (by simp [go_sem]); have xf3 := kf (a := ⟨w.heap.size + 1, 3, none⟩) (v := .int .u64 0) (by simp [go_sem]) B1 (by simp [go_sem]))
    exact bodyPost_ret (v := .tuple #[.agg #[.int .u64 0, .int .u64 0, .int .u64 0, .int .u64 0], .bool false]) (by simp [results, Tryd.results78, go_sem, x0, x1, x2, x3]) rfl ⟨rfl, (((((bt (ba (ba (Below.refl _ _) _) _) B1).setCell (Nat.le_add_right _ 1) _).setCell (Nat.le_add_right _ 1) _).setCell (Nat.le_add_right _ 1) _).setCell (Nat.le_add_right _ 1) _)⟩
end Go.Proofs.YtnmmphnaelpjdaaDoor
