/- What common, Plus and Against of package wide answer. -/
import Derived.Test.YtjhekemgcmhjoabDoorRef2
import Derived.Test.YtjhekemgcmhjoabDoorCross
namespace Go.Proofs.YtjhekemgcmhjoabDoor
open Go.ChangeShapes Go.WideShapes Go.ChangeAt Go.RowKit
set_option maxRecDepth 100000
attribute [local go_sem] World.cell?_alloc_some

/-- A legal fraction and a quotient. -/
structure Lg (D q t : Int) : Prop where
  d : D ≠ 0
  q : 0 ≤ q
  t : 1 ≤ t
theorem dz {dh dl : Int} (h : wv dh dl ≠ 0) : (dh = 0 ∧ ¬ dl = 0) ∨ ¬ dh = 0 := by
  by_cases e : dh = 0
  · left; refine ⟨e, fun e2 => h ?_⟩; rw [e, e2]; rfl
  · exact .inr e
theorem zd {dh dl : Int} (a : Word dh) (b : Word dl) (h : wv dh dl = 0) : dh = 0 ∧ dl = 0 := wv_inj a b word0 word0 (by rw [h]; rfl)
theorem gw {W : World} {G : World → Prop} (S : World → Prop) (hS : S W) (h : ∀ x, S x → G x) : G W := h W hS
theorem ff {w : World} {a : Addr} {v : Value} (h : w.cell? a = some v) (f : w.frozen? a = false) (o : Obj) : (w.alloc o).frozen? a = false := by
  rw [World.frozen?_alloc_old]
  · exact f
  · exact Nat.ne_of_lt (cell_lt h)
theorem common_no {nh nl dh dl q t : Int} {w : World} (c : Word dh) (d : Word dl) (h : ¬ Lg (wv dh dl) q t) :
    Calls Tryd.prog 94 #[.agg #[.int .u64 nh, .int .u64 nl, .int .u64 dh, .int .u64 dl], .int .i64 q, .int .i64 t] w fun e w' => e = .returned (.tuple #[.agg #[.int .u64 0, .int .u64 0], .agg #[.int .u64 0, .int .u64 0], .bool false]) ∧ Below w.heap.size w w' := by
  by_cases hd : wv dh dl = 0
  · obtain ⟨rfl, rfl⟩ := zd c d hd
    clear h hd
    go_enter Tryd.func94, Tryd.ntmps94
    go_wp2
    exact bodyPost_ret (v := .tuple #[.agg #[.int .u64 0, .int .u64 0], .agg #[.int .u64 0, .int .u64 0], .bool false]) (by simp [results, Tryd.results94, go_sem]) rfl ⟨rfl, ba (ba (ba (Below.refl _ _) _) _) _⟩
  · have hne := dz hd
    by_cases hq : q < 0
    · clear h hd
      rcases hne with ⟨hA, hA'⟩ | hA
      · subst hA
        go_enter Tryd.func94, Tryd.ntmps94
        go_wp2
        exact bodyPost_ret (v := .tuple #[.agg #[.int .u64 0, .int .u64 0], .agg #[.int .u64 0, .int .u64 0], .bool false]) (by simp [results, Tryd.results94, go_sem]) rfl ⟨rfl, ba (ba (ba (Below.refl _ _) _) _) _⟩
      · go_enter Tryd.func94, Tryd.ntmps94
        go_wp2
        exact bodyPost_ret (v := .tuple #[.agg #[.int .u64 0, .int .u64 0], .agg #[.int .u64 0, .int .u64 0], .bool false]) (by simp [results, Tryd.results94, go_sem]) rfl ⟨rfl, ba (ba (ba (Below.refl _ _) _) _) _⟩
    · have ht : t < 1 := Int.not_le.mp fun ht => h ⟨hd, by omega, ht⟩
      clear h hd
      rcases hne with ⟨hA, hA'⟩ | hA
      · subst hA
        go_enter Tryd.func94, Tryd.ntmps94
        go_wp2
        exact bodyPost_ret (v := .tuple #[.agg #[.int .u64 0, .int .u64 0], .agg #[.int .u64 0, .int .u64 0], .bool false]) (by simp [results, Tryd.results94, go_sem]) rfl ⟨rfl, ba (ba (ba (Below.refl _ _) _) _) _⟩
      · go_enter Tryd.func94, Tryd.ntmps94
        go_wp2
        exact bodyPost_ret (v := .tuple #[.agg #[.int .u64 0, .int .u64 0], .agg #[.int .u64 0, .int .u64 0], .bool false]) (by simp [results, Tryd.results94, go_sem]) rfl ⟨rfl, ba (ba (ba (Below.refl _ _) _) _) _⟩
set_option maxHeartbeats 4000000 in
theorem common_yes {nh nl dh dl q t MH ML JH JL : Int} {mb jb : Bool} {w : World} (a : Word nh) (b : Word nl) (c : Word dh) (d : Word dl) (hq : I64 q) (ht : I64 t) (h : Lg (wv dh dl) q t)
    (hM : Is (wv nh nl * t) MH ML mb) (hJ : Is (wv dh dl * q) JH JL jb) :
    Calls Tryd.prog 94 #[.agg #[.int .u64 nh, .int .u64 nl, .int .u64 dh, .int .u64 dl], .int .i64 q, .int .i64 t] w fun e w' => e = .returned (.tuple #[.agg #[.int .u64 MH, .int .u64 ML], .agg #[.int .u64 JH, .int .u64 JL], .bool (mb && jb)]) ∧ Below w.heap.size w w' := by
  have hne := dz h.d
  obtain ⟨q1, q2⟩ := hq; obtain ⟨t1, t2⟩ := ht
  have q0 := h.q
  have t0 := h.t
  have wq : Word q := ⟨q0, by omega⟩
  have wt : Word t := ⟨by omega, by omega⟩
  clear h
  rcases hne with ⟨hA, hA'⟩ | hA
  · subst hA
    go_enter Tryd.func94, Tryd.ntmps94
    go_wp2_with (first
      | (go_at_call 86; with_reducible refine (wmul_is a b wt hM).mono ?_; rintro e w1 ⟨rfl, B1⟩; have c0 := kc (a := ⟨w.heap.size, 2, none⟩) (v := .int .u64 0) (by simp [go_sem]) B1; have c1 := kc (a := ⟨w.heap.size, 3, none⟩) (v := .int .u64 dl) (by simp [go_sem]) B1)
      | (go_at_call 86; with_reducible refine (wmul_is c d wq hJ).mono ?_; rintro e w2 ⟨rfl, B2⟩; have m0 := kc (a := ⟨w1.heap.size, 0, none⟩) (v := .int .u64 MH) (by simp [go_sem]) B2; have m1 := kc (a := ⟨w1.heap.size, 1, none⟩) (v := .int .u64 ML) (by simp [go_sem]) B2; clear c0 c1; have T : Below (((w.alloc (Obj.cells #[Value.int IntKind.u64 nh, Value.int IntKind.u64 nl, Value.int IntKind.u64 0, Value.int IntKind.u64 dl] 96)).alloc (Obj.cells #[Value.int IntKind.u64 0, Value.int IntKind.u64 0] 94)).alloc (Obj.cells #[Value.int IntKind.u64 0, Value.int IntKind.u64 0] 94)).heap.size _ w2 := bt (ba B1 _) B2; have f0 := kc (a := ⟨w.heap.size + 1, 0, none⟩) (v := .int .u64 0) (by simp [go_sem]) T; have f1 := kc (a := ⟨w.heap.size + 1, 1, none⟩) (v := .int .u64 0) (by simp [go_sem]) T; have f2 := kf (a := ⟨w.heap.size + 1, 0, none⟩) (v := .int .u64 0) (by simp [go_sem]) T (by simp [go_sem]); have f3 := kf (a := ⟨w.heap.size + 1, 1, none⟩) (v := .int .u64 0) (by simp [go_sem]) T (by simp [go_sem]); have g0 := kc (a := ⟨w.heap.size + 2, 0, none⟩) (v := .int .u64 0) (by simp [go_sem]) T; have g1 := kc (a := ⟨w.heap.size + 2, 1, none⟩) (v := .int .u64 0) (by simp [go_sem]) T; have g2 := kf (a := ⟨w.heap.size + 2, 0, none⟩) (v := .int .u64 0) (by simp [go_sem]) T (by simp [go_sem]); have g3 := kf (a := ⟨w.heap.size + 2, 1, none⟩) (v := .int .u64 0) (by simp [go_sem]) T (by simp [go_sem])))
    refine gw (G := fun x => Code.wp _ _ _ _ x) (fun x => (x.cell? ⟨w1.heap.size, 0, none⟩ = some (.int .u64 MH) ∧ x.cell? ⟨w1.heap.size, 1, none⟩ = some (.int .u64 ML)) ∧ (x.cell? ⟨w2.heap.size, 0, none⟩ = some (.int .u64 JH) ∧ x.cell? ⟨w2.heap.size, 1, none⟩ = some (.int .u64 JL)) ∧ (x.cell? ⟨w.heap.size + 1, 0, none⟩ = some (.int .u64 0) ∧ x.cell? ⟨w.heap.size + 1, 1, none⟩ = some (.int .u64 0) ∧ x.frozen? ⟨w.heap.size + 1, 0, none⟩ = false ∧ x.frozen? ⟨w.heap.size + 1, 1, none⟩ = false) ∧ (x.cell? ⟨w.heap.size + 2, 0, none⟩ = some (.int .u64 0) ∧ x.cell? ⟨w.heap.size + 2, 1, none⟩ = some (.int .u64 0) ∧ x.frozen? ⟨w.heap.size + 2, 0, none⟩ = false ∧ x.frozen? ⟨w.heap.size + 2, 1, none⟩ = false) ∧ Below w.heap.size w x ∧ (w.heap.size + 2 < w1.heap.size ∧ w1.heap.size < w2.heap.size)) ?_ ?_
    · have z1 := B1.size
      have z2 := B2.size
      simp at z1 z2
      exact ⟨⟨kl m0 _, kl m1 _⟩, ⟨by simp [go_sem], by simp [go_sem]⟩, ⟨kl f0 _, kl f1 _, ff f0 f2 _, ff f1 f3 _⟩, ⟨kl g0 _, kl g1 _, ff g0 g2 _, ff g1 g3 _⟩, ba (bt (ba (ba (ba (Below.refl _ _) _) _) _) T) _, by omega, by omega⟩
    rintro x ⟨⟨m0, m1⟩, ⟨j0, j1⟩, ⟨f0, f1, f2, f3⟩, ⟨g0, g1, g2, g3⟩, D, z1, z2⟩
    clear B1 B2 T
    cases mb <;> cases jb
    all_goals
      go_region
      go_wp2
      exact bodyPost_ret (v := .tuple #[.agg #[.int .u64 MH, .int .u64 ML], .agg #[.int .u64 JH, .int .u64 JL], .bool _]) (by simp [results, Tryd.results94, go_sem, f0, f1, g0, g1]) rfl ⟨rfl, ((((D.setCell (Nat.le_add_right _ 1) _).setCell (Nat.le_add_right _ 1) _).setCell (Nat.le_add_right _ 2) _).setCell (Nat.le_add_right _ 2) _).drew⟩
  · go_enter Tryd.func94, Tryd.ntmps94
    go_wp2_with (first
      | (go_at_call 86; with_reducible refine (wmul_is a b wt hM).mono ?_; rintro e w1 ⟨rfl, B1⟩; have c0 := kc (a := ⟨w.heap.size, 2, none⟩) (v := .int .u64 dh) (by simp [go_sem]) B1; have c1 := kc (a := ⟨w.heap.size, 3, none⟩) (v := .int .u64 dl) (by simp [go_sem]) B1)
      | (go_at_call 86; with_reducible refine (wmul_is c d wq hJ).mono ?_; rintro e w2 ⟨rfl, B2⟩; have m0 := kc (a := ⟨w1.heap.size, 0, none⟩) (v := .int .u64 MH) (by simp [go_sem]) B2; have m1 := kc (a := ⟨w1.heap.size, 1, none⟩) (v := .int .u64 ML) (by simp [go_sem]) B2; clear c0 c1; have T : Below (((w.alloc (Obj.cells #[Value.int IntKind.u64 nh, Value.int IntKind.u64 nl, Value.int IntKind.u64 dh, Value.int IntKind.u64 dl] 96)).alloc (Obj.cells #[Value.int IntKind.u64 0, Value.int IntKind.u64 0] 94)).alloc (Obj.cells #[Value.int IntKind.u64 0, Value.int IntKind.u64 0] 94)).heap.size _ w2 := bt (ba B1 _) B2; have f0 := kc (a := ⟨w.heap.size + 1, 0, none⟩) (v := .int .u64 0) (by simp [go_sem]) T; have f1 := kc (a := ⟨w.heap.size + 1, 1, none⟩) (v := .int .u64 0) (by simp [go_sem]) T; have f2 := kf (a := ⟨w.heap.size + 1, 0, none⟩) (v := .int .u64 0) (by simp [go_sem]) T (by simp [go_sem]); have f3 := kf (a := ⟨w.heap.size + 1, 1, none⟩) (v := .int .u64 0) (by simp [go_sem]) T (by simp [go_sem]); have g0 := kc (a := ⟨w.heap.size + 2, 0, none⟩) (v := .int .u64 0) (by simp [go_sem]) T; have g1 := kc (a := ⟨w.heap.size + 2, 1, none⟩) (v := .int .u64 0) (by simp [go_sem]) T; have g2 := kf (a := ⟨w.heap.size + 2, 0, none⟩) (v := .int .u64 0) (by simp [go_sem]) T (by simp [go_sem]); have g3 := kf (a := ⟨w.heap.size + 2, 1, none⟩) (v := .int .u64 0) (by simp [go_sem]) T (by simp [go_sem])))
    refine gw (G := fun x => Code.wp _ _ _ _ x) (fun x => (x.cell? ⟨w1.heap.size, 0, none⟩ = some (.int .u64 MH) ∧ x.cell? ⟨w1.heap.size, 1, none⟩ = some (.int .u64 ML)) ∧ (x.cell? ⟨w2.heap.size, 0, none⟩ = some (.int .u64 JH) ∧ x.cell? ⟨w2.heap.size, 1, none⟩ = some (.int .u64 JL)) ∧ (x.cell? ⟨w.heap.size + 1, 0, none⟩ = some (.int .u64 0) ∧ x.cell? ⟨w.heap.size + 1, 1, none⟩ = some (.int .u64 0) ∧ x.frozen? ⟨w.heap.size + 1, 0, none⟩ = false ∧ x.frozen? ⟨w.heap.size + 1, 1, none⟩ = false) ∧ (x.cell? ⟨w.heap.size + 2, 0, none⟩ = some (.int .u64 0) ∧ x.cell? ⟨w.heap.size + 2, 1, none⟩ = some (.int .u64 0) ∧ x.frozen? ⟨w.heap.size + 2, 0, none⟩ = false ∧ x.frozen? ⟨w.heap.size + 2, 1, none⟩ = false) ∧ Below w.heap.size w x ∧ (w.heap.size + 2 < w1.heap.size ∧ w1.heap.size < w2.heap.size)) ?_ ?_
    · have z1 := B1.size
      have z2 := B2.size
      simp at z1 z2
      exact ⟨⟨kl m0 _, kl m1 _⟩, ⟨by simp [go_sem], by simp [go_sem]⟩, ⟨kl f0 _, kl f1 _, ff f0 f2 _, ff f1 f3 _⟩, ⟨kl g0 _, kl g1 _, ff g0 g2 _, ff g1 g3 _⟩, ba (bt (ba (ba (ba (Below.refl _ _) _) _) _) T) _, by omega, by omega⟩
    rintro x ⟨⟨m0, m1⟩, ⟨j0, j1⟩, ⟨f0, f1, f2, f3⟩, ⟨g0, g1, g2, g3⟩, D, z1, z2⟩
    clear B1 B2 T
    cases mb <;> cases jb
    all_goals
      go_region
      go_wp2
      exact bodyPost_ret (v := .tuple #[.agg #[.int .u64 MH, .int .u64 ML], .agg #[.int .u64 JH, .int .u64 JL], .bool _]) (by simp [results, Tryd.results94, go_sem, f0, f1, g0, g1]) rfl ⟨rfl, ((((D.setCell (Nat.le_add_right _ 1) _).setCell (Nat.le_add_right _ 1) _).setCell (Nat.le_add_right _ 2) _).setCell (Nat.le_add_right _ 2) _).drew⟩
/-- The answer of Against. -/
structure AgIs (N D q t x : Int) (ok : Bool) : Prop where
  yes : ok = true → Lg D q t ∧ N * t < 340282366920938463463374607431768211456 ∧ D * q < 340282366920938463463374607431768211456 ∧ x = cmpI (N * t) (D * q)
  no : ok = false → ¬ (Lg D q t ∧ N * t < 340282366920938463463374607431768211456 ∧ D * q < 340282366920938463463374607431768211456) ∧ x = 0
theorem ag_ex (N D q t : Int) : ∃ x ok, AgIs N D q t x ok := by
  by_cases h : Lg D q t ∧ N * t < 340282366920938463463374607431768211456 ∧ D * q < 340282366920938463463374607431768211456
  · exact ⟨_, true, fun _ => ⟨h.1, h.2.1, h.2.2, rfl⟩, fun h => (by cases h)⟩
  · exact ⟨0, false, fun h => (by cases h), fun _ => ⟨h, rfl⟩⟩
theorem is_lt {n H L : Int} {ok : Bool} (h : Is n H L ok) (n0 : 0 ≤ n) : ok = true ↔ n < 340282366920938463463374607431768211456 := by
  cases ok
  · obtain ⟨_, _, hn⟩ := h.no rfl
    simp; omega
  · have := h.yes rfl; have := wv_hi h.h h.l
    simp; omega
set_option maxHeartbeats 4000000 in
theorem against_is {nh nl dh dl q t x : Int} {ok : Bool} {w : World} (a : Word nh) (b : Word nl) (c : Word dh) (d : Word dl) (hq : I64 q) (ht : I64 t) (h : AgIs (wv nh nl) (wv dh dl) q t x ok) :
    Calls Tryd.prog 84 #[.agg #[.int .u64 nh, .int .u64 nl, .int .u64 dh, .int .u64 dl], .int .i64 q, .int .i64 t] w fun e w' => e = .returned (.tuple #[.int .i64 x, .bool ok]) ∧ Below w.heap.size w w' := by
  by_cases hl : Lg (wv dh dl) q t
  · obtain ⟨MH, ML, mb, hM⟩ := is_ex (wv nh nl * t)
    obtain ⟨JH, JL, jb, hJ⟩ := is_ex (wv dh dl * q)
    have m1 := is_lt hM (Int.mul_nonneg (wv_lo a b) (by have := hl.t; omega))
    have m2 := is_lt hJ (Int.mul_nonneg (wv_lo c d) hl.q)
    have hok : ok = (mb && jb) := by
      cases ok
      · obtain ⟨hn, _⟩ := h.no rfl
        cases mb <;> cases jb <;> (try rfl)
        exact absurd ⟨hl, m1.mp rfl, m2.mp rfl⟩ hn
      · obtain ⟨_, p1, p2, _⟩ := h.yes rfl
        rw [m1.mpr p1, m2.mpr p2]; rfl
    subst hok
    cases hb : (mb && jb)
    · rw [hb] at h
      obtain ⟨_, rfl⟩ := h.no rfl
      clear h m1 m2
      go_enter Tryd.func84, Tryd.ntmps84
      go_wp2_with (go_at_call 94; with_reducible refine (common_yes a b c d hq ht hl hM hJ).mono ?_; rintro e w1 ⟨rfl, B1⟩)
      go_ret2
      exact ⟨rfl, ba (ba (bt (ba (Below.refl _ _) _) B1) _) _⟩
    · rw [hb] at h
      obtain ⟨_, _, _, hx⟩ := h.yes rfl
      have hm : mb = true ∧ jb = true := by simpa using hb
      obtain ⟨rfl, rfl⟩ := hm
      have HX : Hid (x = cmpI (wv MH ML) (wv JH JL)) := by show x = _; rw [hM.yes rfl, hJ.yes rfl]; exact hx
      clear h m1 m2 hx hb
      go_enter Tryd.func84, Tryd.ntmps84
      go_wp2_with (first
        | (go_at_call 94; with_reducible refine (common_yes a b c d hq ht hl hM hJ).mono ?_; rintro e w1 ⟨rfl, B1⟩)
        | (go_at_call 96; refine (wcmp hM.h hM.l hJ.h hJ.l HX).mono ?_; rintro e w2 ⟨rfl, B2⟩))
      go_ret2
      exact ⟨rfl, bt (ba (ba (bt (ba (Below.refl _ _) _) B1) _) _) B2⟩
  · have hok : ok = false := by
      cases ok
      · rfl
      · exact absurd (h.yes rfl).1 hl
    subst hok
    obtain ⟨_, rfl⟩ := h.no rfl
    go_enter Tryd.func84, Tryd.ntmps84
    go_wp2_with (go_at_call 94; with_reducible refine (common_no c d hl).mono ?_; rintro e w1 ⟨rfl, B1⟩)
    go_ret2
    exact ⟨rfl, ba (ba (bt (ba (Below.refl _ _) _) B1) _) _⟩
end Go.Proofs.YtjhekemgcmhjoabDoor
