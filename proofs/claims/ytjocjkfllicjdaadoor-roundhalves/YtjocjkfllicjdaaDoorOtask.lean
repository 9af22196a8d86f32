/- Entries and lists of tasks in memory. -/
import Derived.Test.YtjocjkfllicjdaaDoorRd
import Derived.Test.YtjocjkfllicjdaaDoorOrMath
import Derived.Test.YtjocjkfllicjdaaDoorSrc4
import Derived.Test.YtjocjkfllicjdaaDoorSrc10
import Derived.Deep.RegionHeld3
namespace Go.Proofs.YtjocjkfllicjdaaDoor
open Go.ChangeShapes Go.WideShapes Go.ChangeAt Go.RowKit
set_option maxRecDepth 100000

theorem ba {W w : World} (h : Below W.heap.size W w) (o : Obj) : Below W.heap.size W (w.alloc o) := h.alloc h.size o
theorem bt {W w w1 : World} (h : Below W.heap.size W w) (hb : Below w.heap.size w w1) : Below W.heap.size W w1 := h.trans (hb.mono h.size)
theorem kc {w w1 : World} {a : Addr} {v : Value} (h : w.cell? a = some v) (hb : Below w.heap.size w w1) : w1.cell? a = some v :=
  (hb.cell (p := a) (World.block_lt_of_cell? w a h)).trans h
theorem kl {w : World} {a : Addr} {v : Value} (h : w.cell? a = some v) (o : Obj) : (w.alloc o).cell? a = some v := kc h ((Below.refl _ _).alloc (Nat.le_refl _) _)
theorem frozen_alloc_some (w : World) (a : Addr) (o : Obj) (h : (w.cell? a).isSome = true) : (w.alloc o).frozen? a = w.frozen? a := by
  obtain ⟨v, hv⟩ := Option.isSome_iff_exists.mp h
  rw [World.frozen?_alloc_old]
  exact Nat.ne_of_lt (World.block_lt_of_cell? w a hv)
abbrev vT (t : Tk) : Value := .agg #[.int .i64 t.1, .int .i64 t.2.1, .int .i64 t.2.2.1, .int .i64 t.2.2.2]
/-- An entry as a value, its tasks a slice. -/
abbrev vN (e : En) (tv : Value) : Value := .agg #[.int .i64 e.cl, .int .i64 e.nu, .int .i64 e.ki, .int .i64 e.id, .int .i64 e.sk, .int .i64 e.sq, .int .i64 e.st, .int .i64 e.po, tv, .int .i64 e.tm]
def TkAt (w : World) (b o : Nat) (s : Tk) : Prop := w.cell? ⟨b, o, none⟩ = some (.int .i64 s.1) ∧ w.cell? ⟨b, o + 1, none⟩ = some (.int .i64 s.2.1) ∧ w.cell? ⟨b, o + 2, none⟩ = some (.int .i64 s.2.2.1) ∧ w.cell? ⟨b, o + 3, none⟩ = some (.int .i64 s.2.2.2)
/-- A list of tasks in memory. -/
def Tks (w : World) (v : Value) (xs : List Tk) : Prop :=
  ∃ a cap, v = .slice a xs.length cap ∧ (xs.length : Int) ≤ 9223372036854775807 ∧ (0 < xs.length → ∃ b off, a = some ⟨b, off, none⟩ ∧ ∀ i x, xs[i]? = some x → TkAt w b (off + i * 4) x)
theorem TkAt.below {w w' : World} {b o : Nat} {s : Tk} (h : TkAt w b o s) (hb : Below w.heap.size w w') : TkAt w' b o s := ⟨kc h.1 hb, kc h.2.1 hb, kc h.2.2.1 hb, kc h.2.2.2 hb⟩
theorem Tks.below {w w' : World} {v : Value} {xs : List Tk} (h : Tks w v xs) (hb : Below w.heap.size w w') : Tks w' v xs := by
  obtain ⟨a, cap, rfl, hl, hr⟩ := h
  refine ⟨a, cap, rfl, hl, fun hp => ?_⟩
  obtain ⟨b, off, rfl, hc⟩ := hr hp
  exact ⟨b, off, rfl, fun i x hi => (hc i x hi).below hb⟩
theorem Tks.at {w w' : World} {a : Option Addr} {n cap : Nat} {xs : List Tk} (h : Tks w (.slice a n cap) xs) (hb : Below w.heap.size w w') (i : Nat) (hi : i < xs.length) : ∃ b off c p d s, a = some ⟨b, off, none⟩ ∧ xs[i]? = some (c, p, d, s) ∧ w'.cell? ⟨b, off + i * 4, none⟩ = some (.int .i64 c) ∧ w'.cell? ⟨b, off + i * 4 + 1, none⟩ = some (.int .i64 p) ∧ w'.cell? ⟨b, off + i * 4 + 2, none⟩ = some (.int .i64 d) ∧ w'.cell? ⟨b, off + i * 4 + 3, none⟩ = some (.int .i64 s) := by
  obtain ⟨a', cap', e, _, hr⟩ := h.below hb
  simp at e
  obtain ⟨rfl, rfl, rfl⟩ := e
  obtain ⟨b, off, rfl, hc⟩ := hr (by omega)
  obtain ⟨⟨c, p, d, s⟩, hx⟩ : ∃ x, xs[i]? = some x := ⟨_, List.getElem?_eq_getElem hi⟩
  exact ⟨b, off, c, p, d, s, rfl, hx, hc i _ hx⟩
/-- Values one behind the other, each of n cells. -/
theorem fl_len {α : Type} (f : α → List Value) (n : Nat) (hf : ∀ x, (f x).length = n) (xs : List α) : (xs.flatMap f).length = xs.length * n := by
  induction xs with
  | nil => simp
  | cons x r ih => rw [List.flatMap_cons, List.length_append, hf, ih, List.length_cons, Nat.add_mul]; omega
theorem fl_get {α : Type} (f : α → List Value) (n : Nat) (hf : ∀ x, (f x).length = n) : ∀ (xs : List α) (i r : Nat) (x : α), xs[i]? = some x → r < n → (xs.flatMap f)[i * n + r]? = (f x)[r]?
  | [], i, r, x, hx, _ => by simp at hx
  | y :: l, 0, r, x, hx, hr => by
    simp at hx
    subst hx
    rw [List.flatMap_cons, Nat.zero_mul, Nat.zero_add, List.getElem?_append_left (by rw [hf]; exact hr)]
  | y :: l, i + 1, r, x, hx, hr => by
    simp at hx
    have e : (i + 1) * n + r - n = i * n + r := by rw [Nat.add_mul]; omega
    rw [List.flatMap_cons, List.getElem?_append_right (by rw [hf, Nat.add_mul]; omega), hf, e]
    exact fl_get f n hf l i r x hx hr
def c4 (s : Tk) : List Value := [.int .i64 s.1, .int .i64 s.2.1, .int .i64 s.2.2.1, .int .i64 s.2.2.2]
theorem one4 {xs : List Tk} : ∀ u ∈ xs.flatMap c4, u.oneCell' = true := by
  intro u hu
  obtain ⟨x, _, hx⟩ := List.mem_flatMap.mp hu
  simp [c4] at hx
  rcases hx with rfl | rfl | rfl | rfl <;> rfl
theorem Tks.src {w : World} {v : Value} {xs : List Tk} (h : Tks w v xs) : Src Tryd.prog 4 24 v xs.length (xs.flatMap c4) w := by
  obtain ⟨a, cap, rfl, _, hr⟩ := h
  have hl := fl_len c4 4 (fun _ => rfl) xs
  cases a with
  | none =>
    have hv : xs = [] := by
      by_cases hp : 0 < xs.length
      · obtain ⟨b, off, e, _⟩ := hr hp
        simp at e
      · exact List.length_eq_zero_iff.mp (by omega)
    subst hv
    exact Src.ofNil w Tryd.underlying24 cap
  | some ad =>
    refine Src.ofSlice w Tryd.underlying24 ad _ cap _ hl (fun j u hj => ?_) one4
    have hjl : j < xs.length * 4 := by rw [← hl]; exact (List.getElem?_eq_some_iff.mp hj).1
    obtain ⟨b, off, e, hcell⟩ := hr (by omega)
    simp at e
    subst e
    obtain ⟨i, r, hi, hr4, rfl⟩ : ∃ i r, i < xs.length ∧ r < 4 ∧ j = i * 4 + r := ⟨j / 4, j % 4, by omega, by omega, by omega⟩
    obtain ⟨x, hx⟩ : ∃ x, xs[i]? = some x := ⟨_, List.getElem?_eq_getElem hi⟩
    rw [fl_get c4 4 (fun _ => rfl) xs i r x hx hr4] at hj
    obtain ⟨h0, h1, h2, h3⟩ := hcell i x hx
    rw [add_none]
    have : r = 0 ∨ r = 1 ∨ r = 2 ∨ r = 3 := by omega
    rcases this with rfl | rfl | rfl | rfl <;> simp [c4] at hj <;> subst hj
    · exact h0
    · exact h1
    · exact h2
    · exact h3
theorem tks_of_owns {w : World} {base : Nat} {v : Value} {xs : List Tk} (hl : (xs.length : Int) ≤ 9223372036854775807) (h : w.ownsRow base 45 4 v xs.length (xs.flatMap c4)) : ∃ a cap, v = .slice a xs.length cap ∧ Tks w (.slice a xs.length cap) xs := by
  obtain ⟨_, ⟨rfl, hn⟩ | ⟨g, cap, cur, rfl, hbg, hg, hnc, hcm, hcs, htake⟩⟩ := id h
  · have : xs = [] := List.eq_nil_of_length_eq_zero hn
    subst this
    exact ⟨none, 0, rfl, none, 0, rfl, by simp, fun hp => by simp at hp⟩
  · refine ⟨_, _, rfl, _, _, rfl, hl, fun hp => ⟨g, 0, rfl, fun i x hx => ?_⟩⟩
    have hc := h.cells (g := g) rfl
    have e : ∀ r u, r < 4 → (c4 x)[r]? = some u → w.cell? ⟨g, 0 + i * 4 + r, none⟩ = some u := by
      intro r u hr hu
      have := hc (i * 4 + r) u (by rw [fl_get c4 4 (fun _ => rfl) xs i r x hx hr]; exact hu)
      rw [add_none] at this
      rw [Nat.add_assoc]
      exact this
    exact ⟨by simpa using e 0 _ (by omega) rfl, e 1 _ (by omega) rfl, e 2 _ (by omega) rfl, e 3 _ (by omega) rfl⟩
theorem info_task : (Tryd.prog.info? 45).map (fun i => (i.zero, i.size, i.bytes)) = some (some (.agg #[.int .i64 0, .int .i64 0, .int .i64 0, .int .i64 0]), 4, 32) := by kernel_rfl
/-- An entry, with where its tasks lie. -/
abbrev Ep := En × Option Addr × Nat
abbrev tv (t : Ep) : Value := .slice t.2.1 t.1.ts.length t.2.2
abbrev vP (t : Ep) : Value := vN t.1 (tv t)
def c10 (t : Ep) : List Value := [.int .i64 t.1.cl, .int .i64 t.1.nu, .int .i64 t.1.ki, .int .i64 t.1.id, .int .i64 t.1.sk, .int .i64 t.1.sq, .int .i64 t.1.st, .int .i64 t.1.po, tv t, .int .i64 t.1.tm]
structure EnAt (w : World) (b o : Nat) (t : Ep) : Prop where
  c0 : w.cell? ⟨b, o, none⟩ = some (.int .i64 t.1.cl)
  c1 : w.cell? ⟨b, o + 1, none⟩ = some (.int .i64 t.1.nu)
  c2 : w.cell? ⟨b, o + 2, none⟩ = some (.int .i64 t.1.ki)
  c3 : w.cell? ⟨b, o + 3, none⟩ = some (.int .i64 t.1.id)
  c4 : w.cell? ⟨b, o + 4, none⟩ = some (.int .i64 t.1.sk)
  c5 : w.cell? ⟨b, o + 5, none⟩ = some (.int .i64 t.1.sq)
  c6 : w.cell? ⟨b, o + 6, none⟩ = some (.int .i64 t.1.st)
  c7 : w.cell? ⟨b, o + 7, none⟩ = some (.int .i64 t.1.po)
  c8 : w.cell? ⟨b, o + 8, none⟩ = some (tv t)
  c9 : w.cell? ⟨b, o + 9, none⟩ = some (.int .i64 t.1.tm)
theorem EnAt.below {w w' : World} {b o : Nat} {t : Ep} (h : EnAt w b o t) (hb : Below w.heap.size w w') : EnAt w' b o t :=
  ⟨kc h.c0 hb, kc h.c1 hb, kc h.c2 hb, kc h.c3 hb, kc h.c4 hb, kc h.c5 hb, kc h.c6 hb, kc h.c7 hb, kc h.c8 hb, kc h.c9 hb⟩
/-- An entry whose tasks lie in memory. -/
def EnW (w : World) (t : Ep) : Prop := Tks w (tv t) t.1.ts
theorem EnW.below {w w' : World} {t : Ep} (h : EnW w t) (hb : Below w.heap.size w w') : EnW w' t := Tks.below h hb
/-- A list of entries in memory. -/
def Ens (w : World) (v : Value) (ps : List Ep) : Prop :=
  ∃ a cap, v = .slice a ps.length cap ∧ (ps.length : Int) ≤ 9223372036854775807 ∧ (0 < ps.length → ∃ b off, a = some ⟨b, off, none⟩ ∧ ∀ i x, ps[i]? = some x → EnAt w b (off + i * 10) x) ∧ ∀ t ∈ ps, EnW w t
theorem Ens.below {w w' : World} {v : Value} {ps : List Ep} (h : Ens w v ps) (hb : Below w.heap.size w w') : Ens w' v ps := by
  obtain ⟨a, cap, rfl, hl, hr, ht⟩ := h
  refine ⟨a, cap, rfl, hl, fun hp => ?_, fun t hm => (ht t hm).below hb⟩
  obtain ⟨b, off, rfl, hc⟩ := hr hp
  exact ⟨b, off, rfl, fun i x hi => (hc i x hi).below hb⟩
theorem Ens.at {w w' : World} {a : Option Addr} {n cap : Nat} {ps : List Ep} (h : Ens w (.slice a n cap) ps) (hb : Below w.heap.size w w') (i : Nat) (hi : i < ps.length) : ∃ b off t, a = some ⟨b, off, none⟩ ∧ ps[i]? = some t ∧ EnAt w' b (off + i * 10) t ∧ EnW w' t := by
  obtain ⟨a', cap', e, _, hr, ht⟩ := h.below hb
  simp at e
  obtain ⟨rfl, rfl, rfl⟩ := e
  obtain ⟨b, off, rfl, hc⟩ := hr (by omega)
  obtain ⟨t, hx⟩ : ∃ x, ps[i]? = some x := ⟨_, List.getElem?_eq_getElem hi⟩
  exact ⟨b, off, t, rfl, hx, hc i _ hx, ht t (List.mem_of_getElem? hx)⟩
theorem one10 {xs : List Ep} : ∀ u ∈ xs.flatMap c10, u.oneCell' = true := by
  intro u hu
  obtain ⟨x, _, hx⟩ := List.mem_flatMap.mp hu
  simp only [c10, List.mem_cons, List.not_mem_nil, or_false] at hx
  rcases hx with rfl | rfl | rfl | rfl | rfl | rfl | rfl | rfl | rfl | rfl <;> rfl
theorem EnAt.cell {w : World} {b o : Nat} {t : Ep} (h : EnAt w b o t) (r : Nat) (hr : r < 10) {u : Value} (hu : (c10 t)[r]? = some u) : w.cell? ⟨b, o + r, none⟩ = some u := by
  obtain ⟨h0, h1, h2, h3, h4, h5, h6, h7, h8, h9⟩ := h
  have : r = 0 ∨ r = 1 ∨ r = 2 ∨ r = 3 ∨ r = 4 ∨ r = 5 ∨ r = 6 ∨ r = 7 ∨ r = 8 ∨ r = 9 := by omega
  rcases this with rfl | rfl | rfl | rfl | rfl | rfl | rfl | rfl | rfl | rfl <;> simp only [c10, List.getElem?_cons_zero, List.getElem?_cons_succ, Option.some.injEq] at hu <;> subst hu <;> assumption
theorem EnAt.of {w : World} {b o : Nat} {t : Ep} (h : ∀ r u, r < 10 → (c10 t)[r]? = some u → w.cell? ⟨b, o + r, none⟩ = some u) : EnAt w b o t :=
  ⟨h 0 _ (by omega) rfl, h 1 _ (by omega) rfl, h 2 _ (by omega) rfl, h 3 _ (by omega) rfl, h 4 _ (by omega) rfl, h 5 _ (by omega) rfl, h 6 _ (by omega) rfl, h 7 _ (by omega) rfl, h 8 _ (by omega) rfl, h 9 _ (by omega) rfl⟩
theorem Ens.src {w : World} {v : Value} {ps : List Ep} (h : Ens w v ps) : Src Tryd.prog 10 35 v ps.length (ps.flatMap c10) w := by
  obtain ⟨a, cap, rfl, _, hr, _⟩ := h
  have hl := fl_len c10 10 (fun _ => rfl) ps
  cases a with
  | none =>
    have hv : ps = [] := by
      by_cases hp : 0 < ps.length
      · obtain ⟨b, off, e, _⟩ := hr hp
        simp at e
      · exact List.length_eq_zero_iff.mp (by omega)
    subst hv
    exact Src.ofNil w Tryd.underlying35 cap
  | some ad =>
    refine Src.ofSlice w Tryd.underlying35 ad _ cap _ hl (fun j u hj => ?_) one10
    have hjl : j < ps.length * 10 := by rw [← hl]; exact (List.getElem?_eq_some_iff.mp hj).1
    obtain ⟨b, off, e, hcell⟩ := hr (by omega)
    simp at e
    subst e
    obtain ⟨i, r, hi, hr4, rfl⟩ : ∃ i r, i < ps.length ∧ r < 10 ∧ j = i * 10 + r := ⟨j / 10, j % 10, by omega, by omega, by omega⟩
    obtain ⟨x, hx⟩ : ∃ x, ps[i]? = some x := ⟨_, List.getElem?_eq_getElem hi⟩
    rw [fl_get c10 10 (fun _ => rfl) ps i r x hx hr4] at hj
    rw [add_none, ← Nat.add_assoc]
    exact (hcell i x hx).cell r hr4 hj
theorem ens_of_owns {w : World} {base : Nat} {v : Value} {ps : List Ep} (hl : (ps.length : Int) ≤ 9223372036854775807) (h : w.ownsRow base 28 10 v ps.length (ps.flatMap c10)) (ht : ∀ t ∈ ps, EnW w t) : ∃ a cap, v = .slice a ps.length cap ∧ Ens w (.slice a ps.length cap) ps := by
  obtain ⟨_, ⟨rfl, hn⟩ | ⟨g, cap, cur, rfl, hbg, hg, hnc, hcm, hcs, htake⟩⟩ := id h
  · have : ps = [] := List.eq_nil_of_length_eq_zero hn
    subst this
    exact ⟨none, 0, rfl, none, 0, rfl, by simp, fun hp => by simp at hp, ht⟩
  · refine ⟨_, _, rfl, _, _, rfl, hl, fun hp => ⟨g, 0, rfl, fun i x hx => ?_⟩, ht⟩
    have hc := h.cells (g := g) rfl
    refine EnAt.of fun r u hr hu => ?_
    have := hc (i * 10 + r) u (by rw [fl_get c10 10 (fun _ => rfl) ps i r x hx hr]; exact hu)
    rw [add_none] at this
    rw [Nat.add_assoc]
    exact this
theorem info_entry : (Tryd.prog.info? 28).map (fun i => (i.zero, i.size, i.bytes)) = some (some (.agg #[.int .i64 0, .int .i64 0, .int .i64 0, .int .i64 0, .int .i64 0, .int .i64 0, .int .i64 0, .int .i64 0, .slice none 0 0, .int .i64 0]), 10, 96) := by kernel_rfl
end Go.Proofs.YtjocjkfllicjdaaDoor
