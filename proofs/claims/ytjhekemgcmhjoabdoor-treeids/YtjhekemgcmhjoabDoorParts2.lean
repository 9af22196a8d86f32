/- What Plus of package wide and the document's Legal, Against and Plus answer. -/
import Derived.Test.YtjhekemgcmhjoabDoorParts
namespace Go.Proofs.YtjhekemgcmhjoabDoor
open Go.ChangeShapes Go.WideShapes Go.ChangeAt Go.RowKit
set_option maxRecDepth 100000
theorem frozen_alloc_some (w : World) (a : Addr) (o : Obj) (h : (w.cell? a).isSome = true) : (w.alloc o).frozen? a = w.frozen? a := by
  obtain ⟨v, hv⟩ := Option.isSome_iff_exists.mp h
  rw [World.frozen?_alloc_old]
  exact Nat.ne_of_lt (cell_lt hv)
attribute [local go_sem] World.cell?_alloc_some frozen_alloc_some

/-- The answer of Plus. -/
structure PlIs (N D q t A B C E : Int) (ok : Bool) : Prop where
  a : Word A
  b : Word B
  c : Word C
  e : Word E
  yes : ok = true → Lg D q t ∧ wv A B = N * t + D * q ∧ wv C E = D * t
  no : ok = false → ¬ (Lg D q t ∧ N * t + D * q < 340282366920938463463374607431768211456 ∧ D * t < 340282366920938463463374607431768211456) ∧ A = 0 ∧ B = 0 ∧ C = 0 ∧ E = 0
theorem pl_ex {N D q t : Int} (N0 : 0 ≤ N) (D0 : 0 ≤ D) : ∃ A B C E ok, PlIs N D q t A B C E ok := by
  by_cases h : Lg D q t ∧ N * t + D * q < 340282366920938463463374607431768211456 ∧ D * t < 340282366920938463463374607431768211456
  · obtain ⟨hl, h1, h2⟩ := h
    have n1 : 0 ≤ N * t := Int.mul_nonneg N0 (by have := hl.t; omega)
    have n2 : 0 ≤ D * q := Int.mul_nonneg D0 hl.q
    have n3 : 0 ≤ D * t := Int.mul_nonneg D0 (by have := hl.t; omega)
    obtain ⟨A, B, x1, x2, e1⟩ := halves (N * t + D * q) (by omega) h1
    obtain ⟨C, E, x3, x4, e2⟩ := halves (D * t) n3 h2
    exact ⟨A, B, C, E, true, x1, x2, x3, x4, fun _ => ⟨hl, e1.symm, e2.symm⟩, fun h => (by cases h)⟩
  · exact ⟨0, 0, 0, 0, false, word0, word0, word0, word0, fun h => (by cases h), fun _ => ⟨h, rfl, rfl, rfl, rfl⟩⟩
theorem four_ok {N D q t A B C E MH ML JH JL SH SL EH EL : Int} {ok mb jb sb eb : Bool} (N0 : 0 ≤ N) (D0 : 0 ≤ D) (hl : Lg D q t) (h : PlIs N D q t A B C E ok) (hM : Is (N * t) MH ML mb) (hJ : Is (D * q) JH JL jb) (hS : Is (wv MH ML + wv JH JL) SH SL sb) (hE : Is (D * t) EH EL eb) :
    ok = (mb && jb && sb && eb) ∧ (ok = true → A = SH ∧ B = SL ∧ C = EH ∧ E = EL) := by
  have n1 : 0 ≤ N * t := Int.mul_nonneg N0 (by have := hl.t; omega)
  have n2 : 0 ≤ D * q := Int.mul_nonneg D0 hl.q
  have n3 : 0 ≤ D * t := Int.mul_nonneg D0 (by have := hl.t; omega)
  have m1 := is_lt hM n1
  have m2 := is_lt hJ n2
  have m4 := is_lt hE n3
  have m3 : mb = true → jb = true → (sb = true ↔ N * t + D * q < 340282366920938463463374607431768211456) := by
    intro p1 p2
    have e1 := hM.yes p1
    have e2 := hJ.yes p2
    have := is_lt hS (by omega)
    rw [e1, e2] at this
    exact this
  have key : ok = (mb && jb && sb && eb) := by
    cases ok
    · obtain ⟨hn, _⟩ := h.no rfl
      cases mb <;> cases jb <;> cases sb <;> cases eb <;> (try rfl)
      exact absurd ⟨hl, (m3 rfl rfl).mp rfl, m4.mp rfl⟩ hn
    · obtain ⟨_, e1, e2⟩ := h.yes rfl
      have u1 := wv_hi h.a h.b
      have u2 := wv_hi h.c h.e
      have p1 : mb = true := m1.mpr (by omega)
      have p2 : jb = true := m2.mpr (by omega)
      have p3 : sb = true := (m3 p1 p2).mpr (by omega)
      have p4 : eb = true := m4.mpr (by omega)
      rw [p1, p2, p3, p4]; rfl
  refine ⟨key, fun hk => ?_⟩
  rw [hk] at key
  obtain ⟨_, e1, e2⟩ := h.yes hk
  have pp : ((mb = true ∧ jb = true) ∧ sb = true) ∧ eb = true := by simpa using key.symm
  obtain ⟨⟨⟨p1, p2⟩, p3⟩, p4⟩ := pp
  obtain ⟨f1, f2⟩ := wv_inj h.a h.b hS.h hS.l (by rw [hS.yes p3, hM.yes p1, hJ.yes p2, e1])
  obtain ⟨f3, f4⟩ := wv_inj h.c h.e hE.h hE.l (by rw [hE.yes p4, e2])
  exact ⟨f1, f2, f3, f4⟩
set_option maxHeartbeats 8000000 in
theorem plus_is {nh nl dh dl q t A B C E : Int} {ok : Bool} {w : World} (a : Word nh) (b : Word nl) (c : Word dh) (d : Word dl) (hq : I64 q) (ht : I64 t) (h : PlIs (wv nh nl) (wv dh dl) q t A B C E ok) :
    Calls Tryd.prog 83 #[.agg #[.int .u64 nh, .int .u64 nl, .int .u64 dh, .int .u64 dl], .int .i64 q, .int .i64 t] w fun e w' => e = .returned (.tuple #[.agg #[.int .u64 A, .int .u64 B, .int .u64 C, .int .u64 E], .bool ok]) ∧ Below w.heap.size w w' := by
  by_cases hl : Lg (wv dh dl) q t
  · obtain ⟨MH, ML, mb, hM⟩ := is_ex (wv nh nl * t)
    obtain ⟨JH, JL, jb, hJ⟩ := is_ex (wv dh dl * q)
    obtain ⟨SH, SL, sb, hS⟩ := is_ex (wv MH ML + wv JH JL)
    obtain ⟨EH, EL, eb, hE⟩ := is_ex (wv dh dl * t)
    obtain ⟨key, hv⟩ := four_ok (wv_lo a b) (wv_lo c d) hl h hM hJ hS hE
    have hz : ok = false → A = 0 ∧ B = 0 ∧ C = 0 ∧ E = 0 := fun hk => (h.no hk).2
    have t0 := hl.t
    have t1 := ht.hi
    have wt : Word t := ⟨by omega, by omega⟩
    clear h
    cases hmj : (mb && jb)
    · have hk : ok = false := by rw [key, hmj]; rfl
      subst hk
      obtain ⟨rfl, rfl, rfl, rfl⟩ := hz rfl
      clear hz hv key
      go_enter Tryd.func83, Tryd.ntmps83
      go_wp2_with (first
        | (go_at_call 94; with_reducible refine (common_yes a b c d hq ht hl hM hJ).mono ?_; rintro e w1 ⟨rfl, B1⟩; have c2 := kc (a := ⟨w.heap.size, 2, none⟩) (v := .int .u64 dh) (by simp [go_sem]) B1; have c3 := kc (a := ⟨w.heap.size, 3, none⟩) (v := .int .u64 dl) (by simp [go_sem]) B1; have x0 := kc (a := ⟨w.heap.size + 1, 0, none⟩) (v := .int .u64 0) (by simp [go_sem]) B1; have x1 := kc (a := ⟨w.heap.size + 1, 1, none⟩) (v := .int .u64 0) (by simp [go_sem]) B1; have x2 := kc (a := ⟨w.heap.size + 1, 2, none⟩) (v := .int .u64 0) (by simp [go_sem]) B1; have x3 := kc (a := ⟨w.heap.size + 1, 3, none⟩) (v := .int .u64 0) (by simp [go_sem]) B1; have xf0 := kf (a := ⟨w.heap.size + 1, 0, none⟩) (v := .int .u64 0) (by simp [go_sem]) B1 (by simp [go_sem]); have xf1 := kf (a := ⟨w.heap.size + 1, 1, none⟩) (v := .int .u64 0) (by simp [go_sem]) B1 (by simp [go_sem]); have xf2 := kf (a := ⟨w.heap.size + 1, 2, none⟩) (v := .int .u64 0) (by simp [go_sem]) B1 (by simp [go_sem]); have xf3 := kf (a := ⟨w.heap.size + 1, 3, none⟩) (v := .int .u64 0) (by simp [go_sem]) B1 (by simp [go_sem]))
        | (go_at_call 95; with_reducible refine (wadd_is hM.h hM.l hJ.h hJ.l hS).mono ?_; rintro e w2 ⟨rfl, B2⟩; have d2 := kc (kl (kl c2 _) _) B2; have d3 := kc (kl (kl c3 _) _) B2; clear c2 c3; have y0 := kc (kl (kl x0 _) _) B2; have y1 := kc (kl (kl x1 _) _) B2; have y2 := kc (kl (kl x2 _) _) B2; have y3 := kc (kl (kl x3 _) _) B2; have yf0 := kf (kl (kl x0 _) _) B2 (ff (kl x0 _) (ff x0 xf0 _) _); have yf1 := kf (kl (kl x1 _) _) B2 (ff (kl x1 _) (ff x1 xf1 _) _); have yf2 := kf (kl (kl x2 _) _) B2 (ff (kl x2 _) (ff x2 xf2 _) _); have yf3 := kf (kl (kl x3 _) _) B2 (ff (kl x3 _) (ff x3 xf3 _) _); clear x0 xf0 x1 xf1 x2 xf2 x3 xf3)
        | (go_at_call 86; with_reducible refine (wmul_is c d wt hE).mono ?_; rintro e w3 ⟨rfl, B3⟩; clear d2 d3; have s0 := kc (a := ⟨w2.heap.size, 0, none⟩) (v := .int .u64 SH) (by simp [go_sem]) B3; have s1 := kc (a := ⟨w2.heap.size, 1, none⟩) (v := .int .u64 SL) (by simp [go_sem]) B3; have z0 := kc (kl y0 _) B3; have z1 := kc (kl y1 _) B3; have z2 := kc (kl y2 _) B3; have z3 := kc (kl y3 _) B3; have zf0 := kf (kl y0 _) B3 (ff y0 yf0 _); have zf1 := kf (kl y1 _) B3 (ff y1 yf1 _); have zf2 := kf (kl y2 _) B3 (ff y2 yf2 _); have zf3 := kf (kl y3 _) B3 (ff y3 yf3 _); clear y0 yf0 y1 yf1 y2 yf2 y3 yf3))
      exact bodyPost_ret (v := .tuple #[.agg #[.int .u64 0, .int .u64 0, .int .u64 0, .int .u64 0], .bool false]) (by have y0 := kl (kl x0 (Obj.cells #[Value.int IntKind.u64 MH, Value.int IntKind.u64 ML] 94)) (Obj.cells #[Value.int IntKind.u64 JH, Value.int IntKind.u64 JL] 94); have y1 := kl (kl x1 (Obj.cells #[Value.int IntKind.u64 MH, Value.int IntKind.u64 ML] 94)) (Obj.cells #[Value.int IntKind.u64 JH, Value.int IntKind.u64 JL] 94); have y2 := kl (kl x2 (Obj.cells #[Value.int IntKind.u64 MH, Value.int IntKind.u64 ML] 94)) (Obj.cells #[Value.int IntKind.u64 JH, Value.int IntKind.u64 JL] 94); have y3 := kl (kl x3 (Obj.cells #[Value.int IntKind.u64 MH, Value.int IntKind.u64 ML] 94)) (Obj.cells #[Value.int IntKind.u64 JH, Value.int IntKind.u64 JL] 94); simp [results, Tryd.results83, go_sem, y0, y1, y2, y3]) rfl ⟨rfl, ((((ba (ba (bt (ba (ba (Below.refl _ _) _) _) B1) _) _).setCell (Nat.le_add_right _ 1) _).setCell (Nat.le_add_right _ 1) _).setCell (Nat.le_add_right _ 1) _).setCell (Nat.le_add_right _ 1) _⟩
    · rw [hmj] at key
      have hm : mb = true ∧ jb = true := by simpa using hmj
      obtain ⟨rfl, rfl⟩ := hm
      clear hmj
      simp only [Bool.true_and] at key
      cases hse : (sb && eb)
      · have hk : ok = false := by rw [key, hse]
        subst hk
        obtain ⟨rfl, rfl, rfl, rfl⟩ := hz rfl
        clear hz hv key
        cases sb <;> cases eb <;> (try cases hse)
        all_goals
          go_enter Tryd.func83, Tryd.ntmps83
          go_wp2_with (first
            | (go_at_call 94; with_reducible refine (common_yes a b c d hq ht hl hM hJ).mono ?_; rintro e w1 ⟨rfl, B1⟩; have c2 := kc (a := ⟨w.heap.size, 2, none⟩) (v := .int .u64 dh) (by simp [go_sem]) B1; have c3 := kc (a := ⟨w.heap.size, 3, none⟩) (v := .int .u64 dl) (by simp [go_sem]) B1; have x0 := kc (a := ⟨w.heap.size + 1, 0, none⟩) (v := .int .u64 0) (by simp [go_sem]) B1; have x1 := kc (a := ⟨w.heap.size + 1, 1, none⟩) (v := .int .u64 0) (by simp [go_sem]) B1; have x2 := kc (a := ⟨w.heap.size + 1, 2, none⟩) (v := .int .u64 0) (by simp [go_sem]) B1; have x3 := kc (a := ⟨w.heap.size + 1, 3, none⟩) (v := .int .u64 0) (by simp [go_sem]) B1; have xf0 := kf (a := ⟨w.heap.size + 1, 0, none⟩) (v := .int .u64 0) (by simp [go_sem]) B1 (by simp [go_sem]); have xf1 := kf (a := ⟨w.heap.size + 1, 1, none⟩) (v := .int .u64 0) (by simp [go_sem]) B1 (by simp [go_sem]); have xf2 := kf (a := ⟨w.heap.size + 1, 2, none⟩) (v := .int .u64 0) (by simp [go_sem]) B1 (by simp [go_sem]); have xf3 := kf (a := ⟨w.heap.size + 1, 3, none⟩) (v := .int .u64 0) (by simp [go_sem]) B1 (by simp [go_sem]))
            | (go_at_call 95; with_reducible refine (wadd_is hM.h hM.l hJ.h hJ.l hS).mono ?_; rintro e w2 ⟨rfl, B2⟩; have d2 := kc (kl (kl c2 _) _) B2; have d3 := kc (kl (kl c3 _) _) B2; clear c2 c3; have y0 := kc (kl (kl x0 _) _) B2; have y1 := kc (kl (kl x1 _) _) B2; have y2 := kc (kl (kl x2 _) _) B2; have y3 := kc (kl (kl x3 _) _) B2; have yf0 := kf (kl (kl x0 _) _) B2 (ff (kl x0 _) (ff x0 xf0 _) _); have yf1 := kf (kl (kl x1 _) _) B2 (ff (kl x1 _) (ff x1 xf1 _) _); have yf2 := kf (kl (kl x2 _) _) B2 (ff (kl x2 _) (ff x2 xf2 _) _); have yf3 := kf (kl (kl x3 _) _) B2 (ff (kl x3 _) (ff x3 xf3 _) _); clear x0 xf0 x1 xf1 x2 xf2 x3 xf3)
            | (go_at_call 86; with_reducible refine (wmul_is c d wt hE).mono ?_; rintro e w3 ⟨rfl, B3⟩; clear d2 d3; have s0 := kc (a := ⟨w2.heap.size, 0, none⟩) (v := .int .u64 SH) (by simp [go_sem]) B3; have s1 := kc (a := ⟨w2.heap.size, 1, none⟩) (v := .int .u64 SL) (by simp [go_sem]) B3; have z0 := kc (kl y0 _) B3; have z1 := kc (kl y1 _) B3; have z2 := kc (kl y2 _) B3; have z3 := kc (kl y3 _) B3; have zf0 := kf (kl y0 _) B3 (ff y0 yf0 _); have zf1 := kf (kl y1 _) B3 (ff y1 yf1 _); have zf2 := kf (kl y2 _) B3 (ff y2 yf2 _); have zf3 := kf (kl y3 _) B3 (ff y3 yf3 _); clear y0 yf0 y1 yf1 y2 yf2 y3 yf3))
          exact bodyPost_ret (v := .tuple #[.agg #[.int .u64 0, .int .u64 0, .int .u64 0, .int .u64 0], .bool false]) (by simp [results, Tryd.results83, go_sem, z0, z1, z2, z3]) rfl ⟨rfl, (((((ba (bt (ba (bt (ba (ba (bt (ba (ba (Below.refl _ _) _) _) B1) _) _) B2) _) B3) _).setCell (Nat.le_add_right _ 1) _).setCell (Nat.le_add_right _ 1) _).setCell (Nat.le_add_right _ 1) _).setCell (Nat.le_add_right _ 1) _)⟩
      · have hk : ok = true := by rw [key, hse]
        subst hk
        obtain ⟨rfl, rfl, rfl, rfl⟩ := hv rfl
        have hm : sb = true ∧ eb = true := by simpa using hse
        obtain ⟨rfl, rfl⟩ := hm
        clear hz hv key hse
        go_enter Tryd.func83, Tryd.ntmps83
        go_wp2_with (first
          | (go_at_call 94; with_reducible refine (common_yes a b c d hq ht hl hM hJ).mono ?_; rintro e w1 ⟨rfl, B1⟩; have c2 := kc (a := ⟨w.heap.size, 2, none⟩) (v := .int .u64 dh) (by simp [go_sem]) B1; have c3 := kc (a := ⟨w.heap.size, 3, none⟩) (v := .int .u64 dl) (by simp [go_sem]) B1; have x0 := kc (a := ⟨w.heap.size + 1, 0, none⟩) (v := .int .u64 0) (by simp [go_sem]) B1; have x1 := kc (a := ⟨w.heap.size + 1, 1, none⟩) (v := .int .u64 0) (by simp [go_sem]) B1; have x2 := kc (a := ⟨w.heap.size + 1, 2, none⟩) (v := .int .u64 0) (by simp [go_sem]) B1; have x3 := kc (a := ⟨w.heap.size + 1, 3, none⟩) (v := .int .u64 0) (by simp [go_sem]) B1; have xf0 := kf (a := ⟨w.heap.size + 1, 0, none⟩) (v := .int .u64 0) (by simp [go_sem]) B1 (by simp [go_sem]); have xf1 := kf (a := ⟨w.heap.size + 1, 1, none⟩) (v := .int .u64 0) (by simp [go_sem]) B1 (by simp [go_sem]); have xf2 := kf (a := ⟨w.heap.size + 1, 2, none⟩) (v := .int .u64 0) (by simp [go_sem]) B1 (by simp [go_sem]); have xf3 := kf (a := ⟨w.heap.size + 1, 3, none⟩) (v := .int .u64 0) (by simp [go_sem]) B1 (by simp [go_sem]))
          | (go_at_call 95; with_reducible refine (wadd_is hM.h hM.l hJ.h hJ.l hS).mono ?_; rintro e w2 ⟨rfl, B2⟩; have d2 := kc (kl (kl c2 _) _) B2; have d3 := kc (kl (kl c3 _) _) B2; clear c2 c3; have y0 := kc (kl (kl x0 _) _) B2; have y1 := kc (kl (kl x1 _) _) B2; have y2 := kc (kl (kl x2 _) _) B2; have y3 := kc (kl (kl x3 _) _) B2; have yf0 := kf (kl (kl x0 _) _) B2 (ff (kl x0 _) (ff x0 xf0 _) _); have yf1 := kf (kl (kl x1 _) _) B2 (ff (kl x1 _) (ff x1 xf1 _) _); have yf2 := kf (kl (kl x2 _) _) B2 (ff (kl x2 _) (ff x2 xf2 _) _); have yf3 := kf (kl (kl x3 _) _) B2 (ff (kl x3 _) (ff x3 xf3 _) _); clear x0 xf0 x1 xf1 x2 xf2 x3 xf3)
          | (go_at_call 86; with_reducible refine (wmul_is c d wt hE).mono ?_; rintro e w3 ⟨rfl, B3⟩; clear d2 d3; have s0 := kc (a := ⟨w2.heap.size, 0, none⟩) (v := .int .u64 A) (by simp [go_sem]) B3; have s1 := kc (a := ⟨w2.heap.size, 1, none⟩) (v := .int .u64 B) (by simp [go_sem]) B3; have z0 := kc (kl y0 _) B3; have z1 := kc (kl y1 _) B3; have z2 := kc (kl y2 _) B3; have z3 := kc (kl y3 _) B3; have zf0 := kf (kl y0 _) B3 (ff y0 yf0 _); have zf1 := kf (kl y1 _) B3 (ff y1 yf1 _); have zf2 := kf (kl y2 _) B3 (ff y2 yf2 _); have zf3 := kf (kl y3 _) B3 (ff y3 yf3 _); clear y0 yf0 y1 yf1 y2 yf2 y3 yf3))
        exact bodyPost_ret (v := .tuple #[.agg #[.int .u64 A, .int .u64 B, .int .u64 C, .int .u64 E], .bool true]) (by simp [results, Tryd.results83, go_sem, z0, z1, z2, z3]) rfl ⟨rfl, (((((ba (bt (ba (bt (ba (ba (bt (ba (ba (Below.refl _ _) _) _) B1) _) _) B2) _) B3) _).setCell (Nat.le_add_right _ 1) _).setCell (Nat.le_add_right _ 1) _).setCell (Nat.le_add_right _ 1) _).setCell (Nat.le_add_right _ 1) _)⟩
  · have hk : ok = false := by
      cases ok
      · rfl
      · exact absurd (h.yes rfl).1 hl
    subst hk
    obtain ⟨_, rfl, rfl, rfl, rfl⟩ := h.no rfl
    clear h
    go_enter Tryd.func83, Tryd.ntmps83
    go_wp2_with (go_at_call 94; with_reducible refine (common_no c d hl).mono ?_; rintro e w1 ⟨rfl, B1⟩; have x0 := kc (a := ⟨w.heap.size + 1, 0, none⟩) (v := .int .u64 0) (by simp [go_sem]) B1; have x1 := kc (a := ⟨w.heap.size + 1, 1, none⟩) (v := .int .u64 0) (by simp [go_sem]) B1; have x2 := kc (a := ⟨w.heap.size + 1, 2, none⟩) (v := .int .u64 0) (by simp [go_sem]) B1; have x3 := kc (a := ⟨w.heap.size + 1, 3, none⟩) (v := .int .u64 0) (by simp [go_sem]) B1; have xf0 := kf (a := ⟨w.heap.size + 1, 0, none⟩) (v := .int .u64 0) (by simp [go_sem]) B1 (by simp [go_sem]); have xf1 := kf (a := ⟨w.heap.size + 1, 1, none⟩) (v := .int .u64 0) (by simp [go_sem]) B1 (by simp [go_sem]); have xf2 := kf (a := ⟨w.heap.size + 1, 2, none⟩) (v := .int .u64 0) (by simp [go_sem]) B1 (by simp [go_sem]); have xf3 := kf (a := ⟨w.heap.size + 1, 3, none⟩) (v := .int .u64 0) (by simp [go_sem]) B1 (by simp [go_sem]))
    exact bodyPost_ret (v := .tuple #[.agg #[.int .u64 0, .int .u64 0, .int .u64 0, .int .u64 0], .bool false]) (by have y0 := kl (kl x0 (Obj.cells #[Value.int IntKind.u64 0, Value.int IntKind.u64 0] 94)) (Obj.cells #[Value.int IntKind.u64 0, Value.int IntKind.u64 0] 94); have y1 := kl (kl x1 (Obj.cells #[Value.int IntKind.u64 0, Value.int IntKind.u64 0] 94)) (Obj.cells #[Value.int IntKind.u64 0, Value.int IntKind.u64 0] 94); have y2 := kl (kl x2 (Obj.cells #[Value.int IntKind.u64 0, Value.int IntKind.u64 0] 94)) (Obj.cells #[Value.int IntKind.u64 0, Value.int IntKind.u64 0] 94); have y3 := kl (kl x3 (Obj.cells #[Value.int IntKind.u64 0, Value.int IntKind.u64 0] 94)) (Obj.cells #[Value.int IntKind.u64 0, Value.int IntKind.u64 0] 94); simp [results, Tryd.results83, go_sem, y0, y1, y2, y3]) rfl ⟨rfl, ((((ba (ba (bt (ba (ba (Below.refl _ _) _) _) B1) _) _).setCell (Nat.le_add_right _ 1) _).setCell (Nat.le_add_right _ 1) _).setCell (Nat.le_add_right _ 1) _).setCell (Nat.le_add_right _ 1) _⟩
end Go.Proofs.YtjhekemgcmhjoabDoor
