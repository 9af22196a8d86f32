import Derived.Test.YtnmmphnaelpjdaaDoorPlErr
import Derived.Test.YtnmmphnaelpjdaaDoorSx
/- Lists of tasks in memory; lists of servers and tasks as the cells that they are. -/
namespace Go.Proofs.YtnmmphnaelpjdaaDoor
open Go.ChangeShapes Go.WideShapes Go.ChangeAt Go.RowKit
set_option maxRecDepth 100000

def TkAt (w : World) (b o : Nat) (s : Tk) : Prop := w.cell? ⟨b, o, none⟩ = some (.int .i64 s.1) ∧ w.cell? ⟨b, o + 1, none⟩ = some (.int .i64 s.2.1) ∧ w.cell? ⟨b, o + 2, none⟩ = some (.int .i64 s.2.2.1) ∧ w.cell? ⟨b, o + 3, none⟩ = some (.int .i64 s.2.2.2)
/-- A list of tasks in memory. -/
def Tks (w : World) (v : Value) (xs : List Tk) : Prop :=
  ∃ a cap, v = .slice a xs.length cap ∧ (xs.length : Int) ≤ 9223372036854775807 ∧ (0 < xs.length → ∃ b off, a = some ⟨b, off, none⟩ ∧ ∀ i x, xs[i]? = some x → TkAt w b (off + i * 4) x)
theorem TkAt.below {w w' : World} {b o : Nat} {s : Tk} (h : TkAt w b o s) (hb : Below w.heap.size w w') : TkAt w' b o s := ⟨kc h.1 hb, kc h.2.1 hb, kc h.2.2.1 hb, kc h.2.2.2 hb⟩
theorem Tks.below {w w' : World} {v : Value} {xs : List Tk} (h : Tks w v xs) (hb : Below w.heap.size w w') : Tks w' v xs := by
  obtain ⟨a, cap, rfl, hl, hr⟩ := h
  refine ⟨a, cap, rfl, hl, fun hp => ?_⟩
  obtain ⟨b, off, rfl, hc⟩ := hr hp
  exact ⟨b, off, rfl, fun i x hi => (hc i x hi).below hb⟩
theorem Tks.at {w w' : World} {a : Option Addr} {n cap : Nat} {xs : List Tk} (h : Tks w (.slice a n cap) xs) (hb : Below w.heap.size w w') (i : Nat) (hi : i < xs.length) : ∃ b off c p d s, a = some ⟨b, off, none⟩ ∧ xs[i]? = some (c, p, d, s) ∧ w'.cell? ⟨b, off + i * 4, none⟩ = some (.int .i64 c) ∧ w'.cell? ⟨b, off + i * 4 + 1, none⟩ = some (.int .i64 p) ∧ w'.cell? ⟨b, off + i * 4 + 2, none⟩ = some (.int .i64 d) ∧ w'.cell? ⟨b, off + i * 4 + 3, none⟩ = some (.int .i64 s) := by
  obtain ⟨a', cap', e, _, hr⟩ := h.below hb
  simp at e
  obtain ⟨rfl, rfl, rfl⟩ := e
  obtain ⟨b, off, rfl, hc⟩ := hr (by omega)
  obtain ⟨⟨c, p, d, s⟩, hx⟩ : ∃ x, xs[i]? = some x := ⟨_, List.getElem?_eq_getElem hi⟩
  exact ⟨b, off, c, p, d, s, rfl, hx, hc i _ hx⟩
/-- Values one behind the other, each of n cells. -/
theorem fl_len {α : Type} (f : α → List Value) (n : Nat) (hf : ∀ x, (f x).length = n) (xs : List α) : (xs.flatMap f).length = xs.length * n := by
  induction xs with
  | nil => simp
  | cons x r ih => rw [List.flatMap_cons, List.length_append, hf, ih, List.length_cons, Nat.add_mul]; omega
theorem fl_get {α : Type} (f : α → List Value) (n : Nat) (hf : ∀ x, (f x).length = n) : ∀ (xs : List α) (i r : Nat) (x : α), xs[i]? = some x → r < n → (xs.flatMap f)[i * n + r]? = (f x)[r]?
  | [], i, r, x, hx, _ => by simp at hx
  | y :: l, 0, r, x, hx, hr => by
    simp at hx
    subst hx
    rw [List.flatMap_cons, Nat.zero_mul, Nat.zero_add, List.getElem?_append_left (by rw [hf]; exact hr)]
  | y :: l, i + 1, r, x, hx, hr => by
    simp at hx
    have e : (i + 1) * n + r - n = i * n + r := by rw [Nat.add_mul]; omega
    rw [List.flatMap_cons, List.getElem?_append_right (by rw [hf, Nat.add_mul]; omega), hf, e]
    exact fl_get f n hf l i r x hx hr
def c3 (s : Sv) : List Value := [.int .i64 s.1, .int .i64 s.2.1, .int .i64 s.2.2]
def c4 (s : Tk) : List Value := [.int .i64 s.1, .int .i64 s.2.1, .int .i64 s.2.2.1, .int .i64 s.2.2.2]
theorem one3 {xs : List Sv} : ∀ u ∈ xs.flatMap c3, u.oneCell' = true := by
  intro u hu
  obtain ⟨x, _, hx⟩ := List.mem_flatMap.mp hu
  simp [c3] at hx
  rcases hx with rfl | rfl | rfl <;> rfl
theorem one4 {xs : List Tk} : ∀ u ∈ xs.flatMap c4, u.oneCell' = true := by
  intro u hu
  obtain ⟨x, _, hx⟩ := List.mem_flatMap.mp hu
  simp [c4] at hx
  rcases hx with rfl | rfl | rfl | rfl <;> rfl
theorem add_none (b off k : Nat) : (⟨b, off, none⟩ : Addr).add k = ⟨b, off + k, none⟩ := by cases k <;> simp [Addr.add]
theorem Tks.src {w : World} {v : Value} {xs : List Tk} (h : Tks w v xs) : Src Tryd.prog 4 36 v xs.length (xs.flatMap c4) w := by
  obtain ⟨a, cap, rfl, _, hr⟩ := h
  have hl := fl_len c4 4 (fun _ => rfl) xs
  cases a with
  | none =>
    have hv : xs = [] := by
      by_cases hp : 0 < xs.length
      · obtain ⟨b, off, e, _⟩ := hr hp
        simp at e
      · exact List.length_eq_zero_iff.mp (by omega)
    subst hv
    exact Src.ofNil w Tryd.underlying36 cap
  | some ad =>
    refine Src.ofSlice w Tryd.underlying36 ad _ cap _ hl (fun j u hj => ?_) one4
    have hjl : j < xs.length * 4 := by rw [← hl]; exact (List.getElem?_eq_some_iff.mp hj).1
    obtain ⟨b, off, e, hcell⟩ := hr (by omega)
    simp at e
    subst e
    obtain ⟨i, r, hi, hr4, rfl⟩ : ∃ i r, i < xs.length ∧ r < 4 ∧ j = i * 4 + r := ⟨j / 4, j % 4, by omega, by omega, by omega⟩
    obtain ⟨x, hx⟩ : ∃ x, xs[i]? = some x := ⟨_, List.getElem?_eq_getElem hi⟩
    rw [fl_get c4 4 (fun _ => rfl) xs i r x hx hr4] at hj
    obtain ⟨h0, h1, h2, h3⟩ := hcell i x hx
    rw [add_none]
    have : r = 0 ∨ r = 1 ∨ r = 2 ∨ r = 3 := by omega
    rcases this with rfl | rfl | rfl | rfl <;> simp [c4] at hj <;> subst hj
    · exact h0
    · exact h1
    · exact h2
    · exact h3
theorem Svs.src {w : World} {v : Value} {xs : List Sv} (h : Svs w v xs) : Src Tryd.prog 3 24 v xs.length (xs.flatMap c3) w := by
  obtain ⟨a, cap, rfl, _, hr⟩ := h
  have hl := fl_len c3 3 (fun _ => rfl) xs
  cases a with
  | none =>
    have hv : xs = [] := by
      by_cases hp : 0 < xs.length
      · obtain ⟨b, off, e, _⟩ := hr hp
        simp at e
      · exact List.length_eq_zero_iff.mp (by omega)
    subst hv
    exact Src.ofNil w Tryd.underlying24 cap
  | some ad =>
    refine Src.ofSlice w Tryd.underlying24 ad _ cap _ hl (fun j u hj => ?_) one3
    have hjl : j < xs.length * 3 := by rw [← hl]; exact (List.getElem?_eq_some_iff.mp hj).1
    obtain ⟨b, off, e, hcell⟩ := hr (by omega)
    simp at e
    subst e
    obtain ⟨i, r, hi, hr4, rfl⟩ : ∃ i r, i < xs.length ∧ r < 3 ∧ j = i * 3 + r := ⟨j / 3, j % 3, by omega, by omega, by omega⟩
    obtain ⟨x, hx⟩ : ∃ x, xs[i]? = some x := ⟨_, List.getElem?_eq_getElem hi⟩
    rw [fl_get c3 3 (fun _ => rfl) xs i r x hx hr4] at hj
    obtain ⟨h0, h1, h2⟩ := hcell i x hx
    rw [add_none]
    have : r = 0 ∨ r = 1 ∨ r = 2 := by omega
    rcases this with rfl | rfl | rfl <;> simp [c3] at hj <;> subst hj
    · exact h0
    · exact h1
    · exact h2
theorem tks_of_owns {w : World} {base : Nat} {v : Value} {xs : List Tk} (hl : (xs.length : Int) ≤ 9223372036854775807) (h : w.ownsRow base 64 4 v xs.length (xs.flatMap c4)) : ∃ a cap, v = .slice a xs.length cap ∧ Tks w (.slice a xs.length cap) xs := by
  obtain ⟨_, ⟨rfl, hn⟩ | ⟨g, cap, cur, rfl, hbg, hg, hnc, hcm, hcs, htake⟩⟩ := id h
  · have : xs = [] := List.eq_nil_of_length_eq_zero hn
    subst this
    exact ⟨none, 0, rfl, none, 0, rfl, by simp, fun hp => by simp at hp⟩
  · refine ⟨_, _, rfl, _, _, rfl, hl, fun hp => ⟨g, 0, rfl, fun i x hx => ?_⟩⟩
    have hc := h.cells (g := g) rfl
    have e : ∀ r u, r < 4 → (c4 x)[r]? = some u → w.cell? ⟨g, 0 + i * 4 + r, none⟩ = some u := by
      intro r u hr hu
      have := hc (i * 4 + r) u (by rw [fl_get c4 4 (fun _ => rfl) xs i r x hx hr]; exact hu)
      rw [add_none] at this
      rw [Nat.add_assoc]
      exact this
    exact ⟨by simpa using e 0 _ (by omega) rfl, e 1 _ (by omega) rfl, e 2 _ (by omega) rfl, e 3 _ (by omega) rfl⟩
theorem svs_of_owns {w : World} {base : Nat} {v : Value} {xs : List Sv} (hl : (xs.length : Int) ≤ 9223372036854775807) (h : w.ownsRow base 23 3 v xs.length (xs.flatMap c3)) : ∃ a cap, v = .slice a xs.length cap ∧ Svs w (.slice a xs.length cap) xs := by
  obtain ⟨_, ⟨rfl, hn⟩ | ⟨g, cap, cur, rfl, hbg, hg, hnc, hcm, hcs, htake⟩⟩ := id h
  · have : xs = [] := List.eq_nil_of_length_eq_zero hn
    subst this
    exact ⟨none, 0, rfl, none, 0, rfl, by simp, fun hp => by simp at hp⟩
  · refine ⟨_, _, rfl, _, _, rfl, hl, fun hp => ⟨g, 0, rfl, fun i x hx => ?_⟩⟩
    have hc := h.cells (g := g) rfl
    have e : ∀ r u, r < 3 → (c3 x)[r]? = some u → w.cell? ⟨g, 0 + i * 3 + r, none⟩ = some u := by
      intro r u hr hu
      have := hc (i * 3 + r) u (by rw [fl_get c3 3 (fun _ => rfl) xs i r x hx hr]; exact hu)
      rw [add_none] at this
      rw [Nat.add_assoc]
      exact this
    exact ⟨by simpa using e 0 _ (by omega) rfl, e 1 _ (by omega) rfl, e 2 _ (by omega) rfl⟩
theorem info_task : (Tryd.prog.info? 64).map (fun i => (i.zero, i.size, i.bytes)) = some (some (.agg #[.int .i64 0, .int .i64 0, .int .i64 0, .int .i64 0]), 4, 32) := by kernel_rfl
theorem info_server : (Tryd.prog.info? 23).map (fun i => (i.zero, i.size, i.bytes)) = some (some (.agg #[.int .i64 0, .int .i64 0, .int .i64 0]), 3, 24) := by kernel_rfl
end Go.Proofs.YtnmmphnaelpjdaaDoor
