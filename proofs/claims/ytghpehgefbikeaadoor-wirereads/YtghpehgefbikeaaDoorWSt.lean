/- Two writers, what was put into them, and a list of calls, in memory. -/
import Derived.Test.YtghpehgefbikeaaDoorOpenOps
import Derived.Test.YtghpehgefbikeaaDoorSrc4
namespace Go.Proofs.YtghpehgefbikeaaDoor
open Go.ChangeShapes Go.WideShapes Go.ChangeAt Go.RowKit

theorem own_keep0 {F : Nat → Prop} {w w' : World} {base : Nat} {e : TypeId} {v : Value} {n : Nat} {xs : List Value} (h : w.ownsRow base e 1 v n xs) (hk : Kept F w w') (hn : ∀ k, v.ownBlock = some k → ¬ F k) : w'.ownsRow base e 1 v n xs := by
  refine ⟨h.1, h.2.imp id ?_⟩
  rintro ⟨g, cap, cur, rfl, hb, hg, rest⟩
  exact ⟨g, cap, cur, rfl, hb, by rw [hk.block g (Array.getElem?_eq_some_iff.1 hg).1 (hn g rfl)]; exact hg, rest⟩
theorem own_late0 {w w' : World} {base : Nat} {e : TypeId} {v : Value} {n : Nat} {xs : List Value} (h : w.ownsRow base e 1 v n xs) (hb : Below w.heap.size w w') : w'.ownsRow base e 1 v n xs :=
  own_keep0 h (kept_of_below hb) (fun k hk hge => by have := (h.lt k hk).2; omega)
/-- The cells of calls. -/
def opcells : List OpD → List Value
  | [] => []
  | x :: r => .int .i64 x.kind :: .int .i64 x.which :: .int .i64 x.n :: x.v :: opcells r
theorem opcells_len (xs : List OpD) : (opcells xs).length = xs.length * 4 := by
  induction xs with
  | nil => rfl
  | cons x r ih => simp only [opcells, List.length_cons, ih]; omega
theorem opcells_append (a b : List OpD) : opcells (a ++ b) = opcells a ++ opcells b := by
  induction a with
  | nil => rfl
  | cons x r ih => simp [opcells, ih]
theorem opcells_at (xs : List OpD) (j : Nat) (u : Value) (h : (opcells xs)[j]? = some u) : ∃ i x, xs[i]? = some x ∧ ((j = i * 4 ∧ u = .int .i64 x.kind) ∨ (j = i * 4 + 1 ∧ u = .int .i64 x.which) ∨ (j = i * 4 + 2 ∧ u = .int .i64 x.n) ∨ (j = i * 4 + 3 ∧ u = x.v)) := by
  induction xs generalizing j with
  | nil => simp [opcells] at h
  | cons x r ih =>
    match j, h with
    | 0, h => simp [opcells] at h; exact ⟨0, x, rfl, .inl ⟨rfl, h.symm⟩⟩
    | 1, h => simp [opcells] at h; exact ⟨0, x, rfl, .inr (.inl ⟨rfl, h.symm⟩)⟩
    | 2, h => simp [opcells] at h; exact ⟨0, x, rfl, .inr (.inr (.inl ⟨rfl, h.symm⟩))⟩
    | 3, h => simp [opcells] at h; exact ⟨0, x, rfl, .inr (.inr (.inr ⟨rfl, h.symm⟩))⟩
    | j + 4, h =>
      simp [opcells] at h
      obtain ⟨i, y, hy, hc⟩ := ih j h
      refine ⟨i + 1, y, by simpa using hy, ?_⟩
      rcases hc with ⟨e, hu⟩ | ⟨e, hu⟩ | ⟨e, hu⟩ | ⟨e, hu⟩
      · exact .inl ⟨by omega, hu⟩
      · exact .inr (.inl ⟨by omega, hu⟩)
      · exact .inr (.inr (.inl ⟨by omega, hu⟩))
      · exact .inr (.inr (.inr ⟨by omega, hu⟩))
theorem opcells_get (xs : List OpD) (i : Nat) (x : OpD) (h : xs[i]? = some x) : (opcells xs)[i * 4]? = some (.int .i64 x.kind) ∧ (opcells xs)[i * 4 + 1]? = some (.int .i64 x.which) ∧ (opcells xs)[i * 4 + 2]? = some (.int .i64 x.n) ∧ (opcells xs)[i * 4 + 3]? = some x.v := by
  induction xs generalizing i with
  | nil => simp at h
  | cons y r ih =>
    cases i with
    | zero => simp at h; subst h; simp [opcells]
    | succ i =>
      obtain ⟨h1, h2, h3, h4⟩ := ih i (by simpa using h)
      rw [show (i + 1) * 4 = i * 4 + 4 by omega]
      simp only [opcells]
      exact ⟨by simpa using h1, by simpa using h2, by simpa using h3, by simpa using h4⟩
theorem opcells_one (xs : List OpD) (h : ∀ x ∈ xs, x.v.oneCell' = true) : ∀ u ∈ opcells xs, u.oneCell' = true := by
  induction xs with
  | nil => simp [opcells]
  | cons x r ih =>
    intro u hu
    simp only [opcells, List.mem_cons] at hu
    rcases hu with rfl | rfl | rfl | rfl | hu
    · rfl
    · rfl
    · rfl
    · exact h x (by simp)
    · exact ih (fun y hy => h y (by simp [hy])) u hu
/-- A call that can be read wherever w is old. -/
def Good (w : World) (x : OpD) : Prop := Rd w x.v x.bs ∧ (-9223372036854775808 ≤ x.kind ∧ x.kind ≤ 9223372036854775807) ∧ (-9223372036854775808 ≤ x.which ∧ x.which ≤ 9223372036854775807) ∧ (-9223372036854775808 ≤ x.n ∧ x.n ≤ 9223372036854775807)
theorem Ops.good {w : World} {v : Value} {xs : List OpD} (h : Ops w v xs) : ∀ x ∈ xs, Good w x := by
  obtain ⟨a, cap, rfl, hc, h0, hr⟩ := h
  intro x hx
  obtain ⟨i, hi, rfl⟩ := List.getElem_of_mem hx
  obtain ⟨b, off, _, _, hat⟩ := hr (by omega)
  have := hat i xs[i] (by simp [hi])
  exact ⟨this.2.2.2.2.1, this.2.2.2.2.2⟩
theorem Ops.src {w : World} {v : Value} {xs : List OpD} (h : Ops w v xs) : Src Tryd.prog 4 22 v xs.length (opcells xs) w := by
  have hg := h.good
  obtain ⟨a, cap, rfl, hc, h0, hr⟩ := h
  cases a with
  | none =>
    have hl : xs = [] := by
      have := h0 rfl
      exact List.length_eq_zero_iff.mp (by omega)
    subst hl
    exact Src.ofNil w Tryd.underlying22 cap
  | some ad =>
    refine Src.ofSlice w Tryd.underlying22 ad _ cap _ (opcells_len xs) (fun j u hj => ?_) (opcells_one xs (fun x hx => by obtain ⟨_, a, c, e, _⟩ := (hg x hx).1; rw [e]; rfl))
    obtain ⟨i, x, hx, hc⟩ := opcells_at xs j u hj
    have hil := (List.getElem?_eq_some_iff.mp hx).1
    obtain ⟨b, off, e, _, hat⟩ := hr (by omega)
    simp at e
    subst e
    obtain ⟨c0, c1, c2, c3, _⟩ := hat i x hx
    rw [add_none]
    rcases hc with ⟨rfl, rfl⟩ | ⟨rfl, rfl⟩ | ⟨rfl, rfl⟩ | ⟨rfl, rfl⟩
    · exact c0
    · rw [← Nat.add_assoc]; exact c1
    · rw [← Nat.add_assoc]; exact c2
    · rw [← Nat.add_assoc]; exact c3
def upd {α : Type} (f : Nat → α) (k : Nat) (x : α) : Nat → α := fun j => if j = k then x else f j
theorem upd_same {α : Type} (f : Nat → α) (k : Nat) (x : α) : upd f k x k = x := by simp [upd]
theorem upd_other {α : Type} (f : Nat → α) {k j : Nat} (x : α) (h : j ≠ k) : upd f k x j = f j := by simp [upd, h]
/-- The blocks that hold the pointers, the bytes put, the flags and the calls. -/
def Rsv (pw pp ps q j : Nat) : Prop := j = pw ∨ j = pp ∨ j = ps ∨ j = q
structure WS (w wr : World) (pw pp ps q : Nat) (ys : List OpD) (p : Nat → Nat) (b c : Nat → List Int) (s t : Nat → Bool) (v : Nat → Value) (F : Nat → Nat → Prop) : Prop where
  bel : Below w.heap.size w wr
  hw : ∀ k, k < 2 → wr.cell? ⟨pw, k, none⟩ = some (.pointer (some ⟨p k, 0, none⟩))
  hp : wr.heap[pp]? = some (.cells #[v 0, v 1] 28 (0, 0))
  hs : wr.heap[ps]? = some (.cells #[.bool (t 0), .bool (t 1)] 29 (0, 0))
  hq : ∀ j u, (opcells ys)[j]? = some u → wr.cell? ⟨q, j, none⟩ = some u
  wk : ∀ k, k < 2 → Wr (F k) wr (p k) (b k) (s k)
  ok : ∀ k, k < 2 → wr.ownsRow w.heap.size 5 1 (v k) (c k).length ((c k).map (Value.int .u8)) ∧ Byts (c k)
  lo : ∀ j, Rsv pw pp ps q j → w.heap.size ≤ j ∧ j < wr.heap.size
  dj : pp ≠ pw ∧ ps ≠ pw ∧ pp ≠ ps ∧ q ≠ pp ∧ q ≠ ps
  fr : ∀ k j, k < 2 → F k j → w.heap.size ≤ j ∧ ¬ Rsv pw pp ps q j
  ff : ∀ j, F 0 j → ¬ F 1 j
  vr : ∀ k j, k < 2 → (v k).ownBlock = some j → ¬ Rsv pw pp ps q j ∧ ¬ F 0 j ∧ ¬ F 1 j
  vv : ∀ j, (v 0).ownBlock = some j → (v 1).ownBlock ≠ some j
theorem WS.fl {w wr : World} {pw pp ps q : Nat} {ys : List OpD} {p : Nat → Nat} {b c : Nat → List Int} {s t : Nat → Bool} {v : Nat → Value} {F : Nat → Nat → Prop} (h : WS w wr pw pp ps q ys p b c s t v F) {k j : Nat} (hk : k < 2) (hj : F k j) : j < wr.heap.size := (h.wk k hk).1 j hj
theorem WS.late {w wr w1 : World} {pw pp ps q : Nat} {ys : List OpD} {p : Nat → Nat} {b c : Nat → List Int} {s t : Nat → Bool} {v : Nat → Value} {F : Nat → Nat → Prop} (h : WS w wr pw pp ps q ys p b c s t v F) (hb : Below wr.heap.size wr w1) : WS w w1 pw pp ps q ys p b c s t v F := by
  have hpp := (h.lo pp (.inr (.inl rfl))).2
  have hps := (h.lo ps (.inr (.inr (.inl rfl)))).2
  refine ⟨h.bel.trans (hb.mono h.bel.size), fun k hk => ?_, by rw [hb.block pp hpp]; exact h.hp, by rw [hb.block ps hps]; exact h.hs, fun j u hj => ?_, fun k hk => (h.wk k hk).below hb, fun k hk => ⟨own_late0 (h.ok k hk).1 hb, (h.ok k hk).2⟩, fun j hj => ⟨(h.lo j hj).1, Nat.lt_of_lt_of_le (h.lo j hj).2 hb.size⟩, h.dj, h.fr, h.ff, h.vr, h.vv⟩
  · have := h.hw k hk
    exact (hb.cell (World.block_lt_of_cell? wr _ this)).trans this
  · have := h.hq j u hj
    exact (hb.cell (World.block_lt_of_cell? wr _ this)).trans this
/-- A writer did something. -/
theorem WS.writer {w wr w1 : World} {pw pp ps q k : Nat} {ys : List OpD} {p : Nat → Nat} {b c : Nat → List Int} {s t : Nat → Bool} {v : Nat → Value} {F : Nat → Nat → Prop} {F' : Nat → Prop} {b' : List Int} {s' : Bool} (h : WS w wr pw pp ps q ys p b c s t v F) (hk : k < 2) (hkp : Kept (F k) wr w1) (hW : Wr F' w1 (p k) b' s') (hF : ∀ j, F' j → F k j ∨ wr.heap.size ≤ j) :
    WS w w1 pw pp ps q ys p (upd b k b') c (upd s k s') t v (upd F k F') := by
  have hpp := h.lo pp (.inr (.inl rfl))
  have hps := h.lo ps (.inr (.inr (.inl rfl)))
  have hoth : ∀ j, j < 2 → j ≠ k → ∀ x, F j x → ¬ F k x := by
    intro j hj hne x h1 h2
    have : (j = 0 ∧ k = 1) ∨ (j = 1 ∧ k = 0) := by omega
    rcases this with ⟨rfl, rfl⟩ | ⟨rfl, rfl⟩
    · exact h.ff x h1 h2
    · exact h.ff x h2 h1
  have hvk : ∀ j x, j < 2 → (v j).ownBlock = some x → ¬ F k x := by
    intro j x hj h1
    have := h.vr j x hj h1
    have : k = 0 ∨ k = 1 := by omega
    rcases this with rfl | rfl
    · exact (h.vr j x hj h1).2.1
    · exact (h.vr j x hj h1).2.2
  refine ⟨h.bel.trans (hkp.below (fun j hj => (h.fr k j hk hj).1) h.bel.size), fun j hj => hkp.cell (h.hw j hj) (fun hf => (h.fr k pw hk hf).2 (.inl rfl)), by rw [hkp.block pp hpp.2 (fun hf => (h.fr k pp hk hf).2 (.inr (.inl rfl)))]; exact h.hp, by rw [hkp.block ps hps.2 (fun hf => (h.fr k ps hk hf).2 (.inr (.inr (.inl rfl))))]; exact h.hs, fun j u hj => hkp.cell (h.hq j u hj) (fun hf => (h.fr k q hk hf).2 (.inr (.inr (.inr rfl)))), fun j hj => ?_, fun j hj => ⟨own_keep0 (h.ok j hj).1 hkp (fun x hx => hvk j x hj hx), (h.ok j hj).2⟩, fun j hj => ⟨(h.lo j hj).1, Nat.lt_of_lt_of_le (h.lo j hj).2 hkp.size⟩, h.dj, fun j x hj hx => ?_, fun x h0 h1 => ?_, fun j x hj hx => ?_, h.vv⟩
  · by_cases e : j = k
    · subst e
      rw [upd_same, upd_same, upd_same]
      exact hW
    · rw [upd_other _ _ e, upd_other _ _ e, upd_other _ _ e]
      exact (h.wk j hj).kept hkp (hoth j hj e)
  · by_cases e : j = k
    · subst e
      rw [upd_same] at hx
      rcases hF x hx with h1 | h1
      · exact h.fr j x hj h1
      · have := h.bel.size
        exact ⟨by omega, fun hr => by have := (h.lo x hr).2; omega⟩
    · rw [upd_other _ _ e] at hx
      exact h.fr j x hj hx
  · have hk2 : k = 0 ∨ k = 1 := by omega
    rcases hk2 with rfl | rfl
    · rw [upd_same] at h0
      rw [upd_other _ _ (by omega)] at h1
      rcases hF x h0 with h2 | h2
      · exact h.ff x h2 h1
      · have := h.fl (k := 1) (by omega) h1
        omega
    · rw [upd_same] at h1
      rw [upd_other _ _ (by omega)] at h0
      rcases hF x h1 with h2 | h2
      · exact h.ff x h0 h2
      · have := h.fl (k := 0) (by omega) h0
        omega
  · have hold := h.vr j x hj hx
    have hlt := ((h.ok j hj).1.lt x hx).2
    have hnF : ¬ F' x := fun hf => by
      rcases hF x hf with h2 | h2
      · exact hvk j x hj hx h2
      · omega
    refine ⟨hold.1, ?_, ?_⟩
    · by_cases e : 0 = k
      · rw [← e, upd_same]; exact hnF
      · rw [upd_other _ _ e]; exact hold.2.1
    · by_cases e : 1 = k
      · rw [← e, upd_same]; exact hnF
      · rw [upd_other _ _ e]; exact hold.2.2
/-- Bytes were put to those of writer k. -/
theorem WS.put {w wr w1 w2 : World} {pw pp ps q k : Nat} {ys : List OpD} {p : Nat → Nat} {b c : Nat → List Int} {s t : Nat → Bool} {v : Nat → Value} {F : Nat → Nat → Prop} {v' : Value} {c' : List Int} (h0 : WS w wr pw pp ps q ys p b c s t v F) (hk : k < 2) (hb : Below wr.heap.size wr w1) (hg : w1.grownBy w2 (v k).ownBlock) (ho : w2.ownsRow w.heap.size 5 1 v' c'.length (c'.map (Value.int .u8))) (hB : Byts c')
    (hat : v'.ownBlock = (v k).ownBlock ∨ v'.ownBlock = some w1.heap.size) : (w2.cell? ⟨pp, k, none⟩ = some (v k) ∧ w2.frozen? ⟨pp, k, none⟩ = false) ∧ WS w (w2.setCell ⟨pp, k, none⟩ v') pw pp ps q ys p b (upd c k c') s t (upd v k v') F := by
  have h := h0.late hb
  have hpp := h.lo pp (.inr (.inl rfl))
  have hps := h.lo ps (.inr (.inr (.inl rfl)))
  have hqq := h.lo q (.inr (.inr (.inr rfl)))
  have k1 : Kept (fun j => (v k).ownBlock = some j) w1 w2 := Kept.grown hg (fun j hj => hj)
  have k2 : Kept (fun j => j = pp) w2 (w2.setCell ⟨pp, k, none⟩ v') := Kept.setCell (F := fun j => j = pp) _ rfl _
  have hv := fun j => h.vr k j hk
  have hat' : ∀ j, v'.ownBlock = some j → (v k).ownBlock = some j ∨ j = w1.heap.size := fun j hj => by
    rcases hat with e | e
    · exact .inl (e ▸ hj)
    · rw [e] at hj; simp at hj; exact .inr hj.symm
  have hpp2 : w2.heap[pp]? = some (.cells #[v 0, v 1] 28 (0, 0)) := by rw [k1.block pp hpp.2 (fun hf => (hv pp hf).1 (.inr (.inl rfl)))]; exact h.hp
  have hk2 : k = 0 ∨ k = 1 := by omega
  have hn2 : ∀ j, v'.ownBlock = some j → ¬ Rsv pw pp ps q j ∧ ¬ F 0 j ∧ ¬ F 1 j := fun j hj => by
    rcases hat' j hj with e | e
    · exact hv j e
    · subst e
      exact ⟨fun hr => by have := (h.lo _ hr).2; omega, fun hf => by have := h.fl (k := 0) (by omega) hf; omega, fun hf => by have := h.fl (k := 1) (by omega) hf; omega⟩
  have hvo : ∀ j, j < 2 → j ≠ k → ∀ x, (v j).ownBlock = some x → ¬ (v k).ownBlock = some x := by
    intro j hj hne x h1 h2
    have : (j = 0 ∧ k = 1) ∨ (j = 1 ∧ k = 0) := by omega
    rcases this with ⟨rfl, rfl⟩ | ⟨rfl, rfl⟩
    · exact h.vv x h1 h2
    · exact h.vv x h2 h1
  have b2 : Below w.heap.size w w2 := h.bel.grown hg h.bel.size (fun j hj => ((h.ok k hk).1.lt j hj).1)
  refine ⟨⟨?_, frozen_of_block hpp2⟩, b2.trans (k2.below (fun j hj => by subst hj; exact hpp.1) b2.size), fun j hj => ?_, ?_, ?_, fun j u hj => ?_, fun j hj => ?_, fun j hj => ?_, fun j hj => ⟨(h.lo j hj).1, Nat.lt_of_lt_of_le (h.lo j hj).2 (Nat.le_trans k1.size k2.size)⟩, h.dj, h.fr, h.ff, fun j x hj hx => ?_, fun x h1 h2 => ?_⟩
  · rcases hk2 with rfl | rfl
    · exact cell_of_block hpp2 rfl
    · exact cell_of_block hpp2 rfl
  · exact k2.cell (k1.cell (h.hw j hj) (fun hf => (hv pw hf).1 (.inl rfl))) (fun e => h.dj.1 e.symm)
  · rw [heap_set hpp2]
    rcases hk2 with rfl | rfl <;> simp [upd]
  · rw [k2.block ps (Nat.lt_of_lt_of_le hps.2 k1.size) (fun e => h.dj.2.2.1 e.symm), k1.block ps hps.2 (fun hf => (hv ps hf).1 (.inr (.inr (.inl rfl))))]
    exact h.hs
  · exact k2.cell (k1.cell (h.hq j u hj) (fun hf => (hv q hf).1 (.inr (.inr (.inr rfl))))) h.dj.2.2.2.1
  · have hfv : ∀ x, F j x → ¬ (v k).ownBlock = some x := fun x hf hx => by
      have := hv x hx
      have hj2 : j = 0 ∨ j = 1 := by omega
      rcases hj2 with rfl | rfl
      · exact this.2.1 hf
      · exact this.2.2 hf
    exact ((h.wk j hj).kept k1 hfv).kept k2 (fun x hf e => by subst e; exact (h.fr j _ hj hf).2 (.inr (.inl rfl)))
  · by_cases e : j = k
    · subst e
      rw [upd_same, upd_same]
      exact ⟨own_keep0 ho k2 (fun x hx e => by subst e; exact (hn2 _ hx).1 (.inr (.inl rfl))), hB⟩
    · rw [upd_other _ _ e, upd_other _ _ e]
      exact ⟨own_keep0 (own_keep0 (h.ok j hj).1 k1 (hvo j hj e)) k2 (fun x hx e => by subst e; exact (h.vr j _ hj hx).1 (.inr (.inl rfl))), (h.ok j hj).2⟩
  · by_cases e : j = k
    · subst e
      rw [upd_same] at hx
      exact hn2 x hx
    · rw [upd_other _ _ e] at hx
      exact h.vr j x hj hx
  · rcases hk2 with rfl | rfl
    · rw [upd_same] at h1
      rw [upd_other _ _ (by omega)] at h2
      rcases hat' x h1 with e | e
      · exact h.vv x e h2
      · have := ((h.ok 1 (by omega)).1.lt x h2).2
        omega
    · rw [upd_same] at h2
      rw [upd_other _ _ (by omega)] at h1
      rcases hat' x h2 with e | e
      · exact h.vv x h1 e
      · have := ((h.ok 0 (by omega)).1.lt x h1).2
        omega
/-- Flag k was set. -/
theorem WS.flag {w wr : World} {pw pp ps q k : Nat} {ys : List OpD} {p : Nat → Nat} {b c : Nat → List Int} {s t : Nat → Bool} {v : Nat → Value} {F : Nat → Nat → Prop} (h : WS w wr pw pp ps q ys p b c s t v F) (hk : k < 2) :
    (wr.cell? ⟨ps, k, none⟩ = some (.bool (t k)) ∧ wr.frozen? ⟨ps, k, none⟩ = false) ∧ WS w (wr.setCell ⟨ps, k, none⟩ (.bool true)) pw pp ps q ys p b c s (upd t k true) v F := by
  have hpp := h.lo pp (.inr (.inl rfl))
  have hps := h.lo ps (.inr (.inr (.inl rfl)))
  have k2 : Kept (fun j => j = ps) wr (wr.setCell ⟨ps, k, none⟩ (.bool true)) := Kept.setCell (F := fun j => j = ps) _ rfl _
  have hk2 : k = 0 ∨ k = 1 := by omega
  refine ⟨⟨?_, frozen_of_block h.hs⟩, h.bel.trans (k2.below (fun j hj => by subst hj; exact hps.1) h.bel.size), fun j hj => k2.cell (h.hw j hj) (fun e => h.dj.2.1 e.symm), ?_, ?_, fun j u hj => k2.cell (h.hq j u hj) h.dj.2.2.2.2, fun j hj => (h.wk j hj).kept k2 (fun x hf e => by subst e; exact (h.fr j _ hj hf).2 (.inr (.inr (.inl rfl)))), fun j hj => ⟨own_keep0 (h.ok j hj).1 k2 (fun x hx e => by subst e; exact (h.vr j _ hj hx).1 (.inr (.inr (.inl rfl)))), (h.ok j hj).2⟩, fun j hj => ⟨(h.lo j hj).1, Nat.lt_of_lt_of_le (h.lo j hj).2 k2.size⟩, h.dj, h.fr, h.ff, h.vr, h.vv⟩
  · rcases hk2 with rfl | rfl
    · exact cell_of_block h.hs rfl
    · exact cell_of_block h.hs rfl
  · rw [k2.block pp hpp.2 (fun e => h.dj.2.2.1 e)]; exact h.hp
  · rw [heap_set h.hs]
    rcases hk2 with rfl | rfl <;> simp [upd]
theorem WS.at {w wr : World} {pw pp ps q : Nat} {ys : List OpD} {p : Nat → Nat} {b c : Nat → List Int} {s t : Nat → Bool} {v : Nat → Value} {F : Nat → Nat → Prop} (h : WS w wr pw pp ps q ys p b c s t v F) {i : Nat} {x : OpD} (hx : ys[i]? = some x) : wr.cell? ⟨q, i * 4, none⟩ = some (.int .i64 x.kind) ∧ wr.cell? ⟨q, i * 4 + 1, none⟩ = some (.int .i64 x.which) ∧ wr.cell? ⟨q, i * 4 + 2, none⟩ = some (.int .i64 x.n) ∧ wr.cell? ⟨q, i * 4 + 3, none⟩ = some x.v := by
  obtain ⟨a0, a1, a2, a3⟩ := opcells_get ys i x hx
  exact ⟨h.hq _ _ a0, h.hq _ _ a1, h.hq _ _ a2, h.hq _ _ a3⟩
theorem WS.pcell {w wr : World} {pw pp ps q k : Nat} {ys : List OpD} {p : Nat → Nat} {b c : Nat → List Int} {s t : Nat → Bool} {v : Nat → Value} {F : Nat → Nat → Prop} (h : WS w wr pw pp ps q ys p b c s t v F) (hk : k < 2) : wr.cell? ⟨pp, k, none⟩ = some (v k) ∧ wr.cell? ⟨ps, k, none⟩ = some (.bool (t k)) ∧ wr.frozen? ⟨ps, k, none⟩ = false ∧ wr.frozen? ⟨pp, k, none⟩ = false := by
  have hk2 : k = 0 ∨ k = 1 := by omega
  refine ⟨?_, ?_, frozen_of_block h.hs, frozen_of_block h.hp⟩
  · rcases hk2 with rfl | rfl
    · exact cell_of_block h.hp rfl
    · exact cell_of_block h.hp rfl
  · rcases hk2 with rfl | rfl
    · exact cell_of_block h.hs rfl
    · exact cell_of_block h.hs rfl
end Go.Proofs.YtghpehgefbikeaaDoor
