/- What Plus of package wide and the document's Legal, Against and Plus answer. -/
import Derived.Test.YtilnchlnlnpkfaaDoorParts
namespace Go.Proofs.YtilnchlnlnpkfaaDoor
open Go.ChangeShapes Go.WideShapes Go.ChangeAt Go.RowKit
set_option maxRecDepth 100000
theorem frozen_alloc_some (w : World) (a : Addr) (o : Obj) (h : (w.cell? a).isSome = true) : (w.alloc o).frozen? a = w.frozen? a := by
  obtain ⟨v, hv⟩ := Option.isSome_iff_exists.mp h
  rw [World.frozen?_alloc_old]
  exact Nat.ne_of_lt (cell_lt hv)
attribute [local go_sem] World.cell?_alloc_some frozen_alloc_some

/-- The answer of Plus. -/
structure PlIs (N D q t A B C E : Int) (ok : Bool) : Prop where
  a : Word A
  b : Word B
  c : Word C
  e : Word E
  yes : ok = true → Lg D q t ∧ wv A B = N * t + D * q ∧ wv C E = D * t
  no : ok = false → ¬ (Lg D q t ∧ N * t + D * q < 340282366920938463463374607431768211456 ∧ D * t < 340282366920938463463374607431768211456) ∧ A = 0 ∧ B = 0 ∧ C = 0 ∧ E = 0
theorem pl_ex {N D q t : Int} (N0 : 0 ≤ N) (D0 : 0 ≤ D) : ∃ A B C E ok, PlIs N D q t A B C E ok := by
  by_cases h : Lg D q t ∧ N * t + D * q < 340282366920938463463374607431768211456 ∧ D * t < 340282366920938463463374607431768211456
  · obtain ⟨hl, h1, h2⟩ := h
    have n1 : 0 ≤ N * t := Int.mul_nonneg N0 (by have := hl.t; omega)
    have n2 : 0 ≤ D * q := Int.mul_nonneg D0 hl.q
    have n3 : 0 ≤ D * t := Int.mul_nonneg D0 (by have := hl.t; omega)
    obtain ⟨A, B, x1, x2, e1⟩ := halves (N * t + D * q) (by omega) h1
    obtain ⟨C, E, x3, x4, e2⟩ := halves (D * t) n3 h2
    exact ⟨A, B, C, E, true, x1, x2, x3, x4, fun _ => ⟨hl, e1.symm, e2.symm⟩, fun h => (by cases h)⟩
  · exact ⟨0, 0, 0, 0, false, word0, word0, word0, word0, fun h => (by cases h), fun _ => ⟨h, rfl, rfl, rfl, rfl⟩⟩
theorem legal_yes {nh nl dh dl q t : Int} {w : World} (h : Lg (wv dh dl) q t) :
    Calls Tryd.prog 48 #[.agg #[.int .u64 nh, .int .u64 nl, .int .u64 dh, .int .u64 dl], .int .i64 q, .int .i64 t] w fun e w' => e = .returned (.bool true) ∧ Below w.heap.size w w' := by
  have hne := dz h.d
  have q0 := h.q
  have t0 := h.t
  clear h
  rcases hne with ⟨hA, hA'⟩ | hA
  · subst hA
    go_enter Tryd.func48, Tryd.ntmps48
    go_wp2
    go_ret
    exact ⟨rfl, ba (Below.refl _ _) _⟩
  · go_enter Tryd.func48, Tryd.ntmps48
    go_wp2
    go_ret
    exact ⟨rfl, ba (Below.refl _ _) _⟩
theorem legal_no {nh nl dh dl q t : Int} {w : World} (c : Word dh) (d : Word dl) (h : ¬ Lg (wv dh dl) q t) :
    Calls Tryd.prog 48 #[.agg #[.int .u64 nh, .int .u64 nl, .int .u64 dh, .int .u64 dl], .int .i64 q, .int .i64 t] w fun e w' => e = .returned (.bool false) ∧ Below w.heap.size w w' := by
  by_cases hd : wv dh dl = 0
  · obtain ⟨rfl, rfl⟩ := zd c d hd
    clear h hd
    go_enter Tryd.func48, Tryd.ntmps48
    go_wp2
    go_ret
    exact ⟨rfl, ba (Below.refl _ _) _⟩
  · have hne := dz hd
    by_cases hq : q < 0
    · clear h hd
      rcases hne with ⟨hA, hA'⟩ | hA
      · subst hA
        go_enter Tryd.func48, Tryd.ntmps48
        go_wp2
        go_ret
        exact ⟨rfl, ba (Below.refl _ _) _⟩
      · go_enter Tryd.func48, Tryd.ntmps48
        go_wp2
        go_ret
        exact ⟨rfl, ba (Below.refl _ _) _⟩
    · have ht : t < 1 := Int.not_le.mp fun ht => h ⟨hd, by omega, ht⟩
      have htd : decide (1 ≤ t) = false := decide_eq_false (by omega)
      clear h hd
      rcases hne with ⟨hA, hA'⟩ | hA
      · subst hA
        go_enter Tryd.func48, Tryd.ntmps48
        go_wp2
        go_ret
        exact ⟨rfl, ba (Below.refl _ _) _⟩
      · go_enter Tryd.func48, Tryd.ntmps48
        go_wp2
        go_ret
        exact ⟨rfl, ba (Below.refl _ _) _⟩
theorem four_ok {N D q t A B C E MH ML JH JL SH SL EH EL : Int} {ok mb jb sb eb : Bool} (N0 : 0 ≤ N) (D0 : 0 ≤ D) (hl : Lg D q t) (h : PlIs N D q t A B C E ok) (hM : Is (N * t) MH ML mb) (hJ : Is (D * q) JH JL jb) (hS : Is (wv MH ML + wv JH JL) SH SL sb) (hE : Is (D * t) EH EL eb) :
    ok = (mb && jb && sb && eb) ∧ (ok = true → A = SH ∧ B = SL ∧ C = EH ∧ E = EL) := by
  have n1 : 0 ≤ N * t := Int.mul_nonneg N0 (by have := hl.t; omega)
  have n2 : 0 ≤ D * q := Int.mul_nonneg D0 hl.q
  have n3 : 0 ≤ D * t := Int.mul_nonneg D0 (by have := hl.t; omega)
  have m1 := is_lt hM n1
  have m2 := is_lt hJ n2
  have m4 := is_lt hE n3
  have m3 : mb = true → jb = true → (sb = true ↔ N * t + D * q < 340282366920938463463374607431768211456) := by
    intro p1 p2
    have e1 := hM.yes p1
    have e2 := hJ.yes p2
    have := is_lt hS (by omega)
    rw [e1, e2] at this
    exact this
  have key : ok = (mb && jb && sb && eb) := by
    cases ok
    · obtain ⟨hn, _⟩ := h.no rfl
      cases mb <;> cases jb <;> cases sb <;> cases eb <;> (try rfl)
      exact absurd ⟨hl, (m3 rfl rfl).mp rfl, m4.mp rfl⟩ hn
    · obtain ⟨_, e1, e2⟩ := h.yes rfl
      have u1 := wv_hi h.a h.b
      have u2 := wv_hi h.c h.e
      have p1 : mb = true := m1.mpr (by omega)
      have p2 : jb = true := m2.mpr (by omega)
      have p3 : sb = true := (m3 p1 p2).mpr (by omega)
      have p4 : eb = true := m4.mpr (by omega)
      rw [p1, p2, p3, p4]; rfl
  refine ⟨key, fun hk => ?_⟩
  rw [hk] at key
  obtain ⟨_, e1, e2⟩ := h.yes hk
  have pp : ((mb = true ∧ jb = true) ∧ sb = true) ∧ eb = true := by simpa using key.symm
  obtain ⟨⟨⟨p1, p2⟩, p3⟩, p4⟩ := pp
  obtain ⟨f1, f2⟩ := wv_inj h.a h.b hS.h hS.l (by rw [hS.yes p3, hM.yes p1, hJ.yes p2, e1])
  obtain ⟨f3, f4⟩ := wv_inj h.c h.e hE.h hE.l (by rw [hE.yes p4, e2])
  exact ⟨f1, f2, f3, f4⟩
end Go.Proofs.YtilnchlnlnpkfaaDoor
