/- Two readers of package wire, the document's two, and a list of calls, in memory. -/
import Derived.Test.YtghpehgefbikeaaDoorWSt
import Derived.Test.YtghpehgefbikeaaDoorRBoth
import Derived.Test.YtghpehgefbikeaaDoorMarked
namespace Go.Proofs.YtghpehgefbikeaaDoor
open Go.ChangeShapes Go.WideShapes Go.ChangeAt Go.RowKit

def Rv (z rb mb b : Nat) : Prop := b = z ∨ b = rb ∨ b = mb
structure RS (w wr : World) (z : Nat) (zs : List Value) (rb mb n : Nat) (v : Nat → Value) (bs : Nat → List Int) (x y : Nat → Value) (p m i j : Nat → Nat) (F : Nat → Nat → Prop) : Prop where
  bel : Below w.heap.size w wr
  hz : ∀ l u, zs[l]? = some u → wr.cell? ⟨z, l, none⟩ = some u
  hr : wr.heap[rb]? = some (.cells #[x 0, x 1] 44 (0, 0))
  hm : wr.heap[mb]? = some (.cells #[y 0, y 1] 46 (0, 0))
  ex : ∀ k, k < n → x k = .pointer (some ⟨p k, 0, none⟩) ∧ y k = .pointer (some ⟨m k, 0, none⟩)
  rk : ∀ k, k < n → Rr (F k) wr (p k) (bs k) (i k)
  md : ∀ k, k < n → MR wr (m k) (v k) (j k)
  lo : ∀ b, Rv z rb mb b → w.heap.size ≤ b ∧ b < wr.heap.size
  dj : z ≠ rb ∧ z ≠ mb ∧ rb ≠ mb
  fr : ∀ k b, k < n → F k b → w.heap.size ≤ b ∧ ¬ Rv z rb mb b
  mr : ∀ k, k < n → w.heap.size ≤ m k ∧ ¬ Rv z rb mb (m k)
  fm : ∀ k l, k < n → l < n → ¬ F k (m l)
  ff : ∀ k l b, k < n → l < n → k ≠ l → F k b → ¬ F l b
  mm : ∀ k l, k < n → l < n → k ≠ l → m k ≠ m l


theorem MR.keep {wr w1 : World} {m : Nat} {v : Value} {i : Nat} {G : Nat → Prop} (h : MR wr m v i) (hk : Kept G wr w1) (hn : ¬ G m) : MR w1 m v i := by
  unfold MR
  rw [hk.block m h.lt hn]
  exact h
theorem RS.fl {w wr : World} {z : Nat} {zs : List Value} {rb mb n : Nat} {v : Nat → Value} {bs : Nat → List Int} {x y : Nat → Value} {p m i j : Nat → Nat} {F : Nat → Nat → Prop} (h : RS w wr z zs rb mb n v bs x y p m i j F) {k b : Nat} (hk : k < n) (hf : F k b) : b < wr.heap.size := (h.rk k hk).1 b hf
theorem RS.keep {w wr w1 : World} {z : Nat} {zs : List Value} {rb mb n : Nat} {v : Nat → Value} {bs : Nat → List Int} {x y : Nat → Value} {p m i j : Nat → Nat} {F : Nat → Nat → Prop} (h : RS w wr z zs rb mb n v bs x y p m i j F) {G : Nat → Prop} (hk : Kept G wr w1) (hlo : ∀ b, G b → w.heap.size ≤ b) (hR : ∀ b, Rv z rb mb b → ¬ G b) (hF : ∀ k b, k < n → F k b → ¬ G b) (hM : ∀ k, k < n → ¬ G (m k)) : RS w w1 z zs rb mb n v bs x y p m i j F :=
  ⟨h.bel.trans (hk.below hlo h.bel.size), fun l u hl => hk.cell (h.hz l u hl) (hR z (.inl rfl)), by rw [hk.block rb (h.lo rb (.inr (.inl rfl))).2 (hR rb (.inr (.inl rfl)))]; exact h.hr, by rw [hk.block mb (h.lo mb (.inr (.inr rfl))).2 (hR mb (.inr (.inr rfl)))]; exact h.hm, h.ex, fun k hk' => (h.rk k hk').kept hk (fun b => hF k b hk'), fun k hk' => (h.md k hk').keep hk (hM k hk'), fun b hb => ⟨(h.lo b hb).1, Nat.lt_of_lt_of_le (h.lo b hb).2 hk.size⟩, h.dj, h.fr, h.mr, h.fm, h.ff, h.mm⟩
theorem RS.late {w wr w1 : World} {z : Nat} {zs : List Value} {rb mb n : Nat} {v : Nat → Value} {bs : Nat → List Int} {x y : Nat → Value} {p m i j : Nat → Nat} {F : Nat → Nat → Prop} (h : RS w wr z zs rb mb n v bs x y p m i j F) (hb : Below wr.heap.size wr w1) : RS w w1 z zs rb mb n v bs x y p m i j F :=
  h.keep (kept_of_below hb) (fun _ hg => Nat.le_trans h.bel.size hg) (fun b hR hg => by have := (h.lo b hR).2; omega) (fun k b hk hf hg => by have := h.fl hk hf; omega) (fun k hk hg => by have := (h.md k hk).lt; omega)
theorem RS.dr {w wr : World} {z : Nat} {zs : List Value} {rb mb n : Nat} {v : Nat → Value} {bs : Nat → List Int} {x y : Nat → Value} {p m i j : Nat → Nat} {F : Nat → Nat → Prop} (h : RS w wr z zs rb mb n v bs x y p m i j F) : RS w wr.drew z zs rb mb n v bs x y p m i j F := h.late ⟨rfl, rfl, rfl, Nat.le_refl _, fun _ _ => rfl⟩
/-- A block that is none of theirs was written. -/
theorem RS.other {w wr w1 : World} {z : Nat} {zs : List Value} {rb mb n : Nat} {v : Nat → Value} {bs : Nat → List Int} {x y : Nat → Value} {p m i j : Nat → Nat} {F : Nat → Nat → Prop} (h : RS w wr z zs rb mb n v bs x y p m i j F) {g : Nat} (hk : Kept (fun b => b = g) wr w1) (hg : w.heap.size ≤ g) (hR : ¬ Rv z rb mb g) (hF : ∀ k, k < n → ¬ F k g) (hM : ∀ k, k < n → m k ≠ g) : RS w w1 z zs rb mb n v bs x y p m i j F :=
  h.keep hk (fun b hb => by subst hb; exact hg) (fun b hb e => by subst e; exact hR hb) (fun k b hk' hf e => by subst e; exact hF k hk' hf) (fun k hk' e => hM k hk' e)
/-- Reader k went on. -/
theorem RS.reader {w wr w1 : World} {z : Nat} {zs : List Value} {rb mb n : Nat} {v : Nat → Value} {bs : Nat → List Int} {x y : Nat → Value} {p m i j : Nat → Nat} {F : Nat → Nat → Prop} (h : RS w wr z zs rb mb n v bs x y p m i j F) {k i' : Nat} (hk : k < n) (hkp : Kept (F k) wr w1) (hr : Rr (F k) w1 (p k) (bs k) i') : RS w w1 z zs rb mb n v bs x y p m (upd i k i') j F :=
  ⟨h.bel.trans (hkp.below (fun b hb => (h.fr k b hk hb).1) h.bel.size), fun l u hl => hkp.cell (h.hz l u hl) (fun hf => (h.fr k z hk hf).2 (.inl rfl)), by rw [hkp.block rb (h.lo rb (.inr (.inl rfl))).2 (fun hf => (h.fr k rb hk hf).2 (.inr (.inl rfl)))]; exact h.hr, by rw [hkp.block mb (h.lo mb (.inr (.inr rfl))).2 (fun hf => (h.fr k mb hk hf).2 (.inr (.inr rfl)))]; exact h.hm, h.ex, fun l hl => by
    by_cases e : l = k
    · subst e; rw [upd_same]; exact hr
    · rw [upd_other _ _ e]; exact (h.rk l hl).kept hkp (fun b hf => h.ff l k b hl hk e hf), fun l hl => (h.md l hl).keep hkp (h.fm k l hk hl), fun b hb => ⟨(h.lo b hb).1, Nat.lt_of_lt_of_le (h.lo b hb).2 hkp.size⟩, h.dj, h.fr, h.mr, h.fm, h.ff, h.mm⟩
/-- The document's reader k went on. -/
theorem RS.model {w wr w1 : World} {z : Nat} {zs : List Value} {rb mb n : Nat} {v : Nat → Value} {bs : Nat → List Int} {x y : Nat → Value} {p m i j : Nat → Nat} {F : Nat → Nat → Prop} (h : RS w wr z zs rb mb n v bs x y p m i j F) {k j' : Nat} (hk : k < n) (hkp : Kept (fun b => b = m k) wr w1) (hr : MR w1 (m k) (v k) j') : RS w w1 z zs rb mb n v bs x y p m i (upd j k j') F :=
  ⟨h.bel.trans (hkp.below (fun b hb => by subst hb; exact (h.mr k hk).1) h.bel.size), fun l u hl => hkp.cell (h.hz l u hl) (fun e => (h.mr k hk).2 (.inl e.symm)), by rw [hkp.block rb (h.lo rb (.inr (.inl rfl))).2 (fun e => (h.mr k hk).2 (.inr (.inl e.symm)))]; exact h.hr, by rw [hkp.block mb (h.lo mb (.inr (.inr rfl))).2 (fun e => (h.mr k hk).2 (.inr (.inr e.symm)))]; exact h.hm, h.ex, fun l hl => (h.rk l hl).kept hkp (fun b hf e => by subst e; exact h.fm l k hl hk hf), fun l hl => by
    by_cases e : l = k
    · subst e; rw [upd_same]; exact hr
    · rw [upd_other _ _ e]; exact (h.md l hl).keep hkp (h.mm l k hl hk e), fun b hb => ⟨(h.lo b hb).1, Nat.lt_of_lt_of_le (h.lo b hb).2 hkp.size⟩, h.dj, h.fr, h.mr, h.fm, h.ff, h.mm⟩
theorem RS.cells {w wr : World} {z : Nat} {zs : List Value} {rb mb n : Nat} {v : Nat → Value} {bs : Nat → List Int} {x y : Nat → Value} {p m i j : Nat → Nat} {F : Nat → Nat → Prop} (h : RS w wr z zs rb mb n v bs x y p m i j F) {k : Nat} (hk : k < 2) : wr.cell? ⟨rb, k, none⟩ = some (x k) ∧ wr.cell? ⟨mb, k, none⟩ = some (y k) ∧ wr.frozen? ⟨rb, k, none⟩ = false ∧ wr.frozen? ⟨mb, k, none⟩ = false := by
  have hk2 : k = 0 ∨ k = 1 := by omega
  refine ⟨?_, ?_, frozen_of_block h.hr, frozen_of_block h.hm⟩
  · rcases hk2 with rfl | rfl
    · exact cell_of_block h.hr rfl
    · exact cell_of_block h.hr rfl
  · rcases hk2 with rfl | rfl
    · exact cell_of_block h.hm rfl
    · exact cell_of_block h.hm rfl
theorem RS.ptrs {w wr : World} {z : Nat} {zs : List Value} {rb mb : Nat} {v : Nat → Value} {bs : Nat → List Int} {x y : Nat → Value} {p m i j : Nat → Nat} {F : Nat → Nat → Prop} (h : RS w wr z zs rb mb 2 v bs x y p m i j F) {k : Nat} (hk : k < 2) : wr.cell? ⟨rb, k, none⟩ = some (.pointer (some ⟨p k, 0, none⟩)) ∧ wr.cell? ⟨mb, k, none⟩ = some (.pointer (some ⟨m k, 0, none⟩)) := by
  obtain ⟨h1, h2, _⟩ := h.cells hk
  rw [(h.ex k hk).1] at h1
  rw [(h.ex k hk).2] at h2
  exact ⟨h1, h2⟩
/-- A pointer was put among the readers' at a place that is not in use. -/
theorem RS.setr {w wr : World} {z : Nat} {zs : List Value} {rb mb n : Nat} {v : Nat → Value} {bs : Nat → List Int} {x y : Nat → Value} {p m i j : Nat → Nat} {F : Nat → Nat → Prop} (h : RS w wr z zs rb mb n v bs x y p m i j F) {k : Nat} (hk : k < 2) (hn : n ≤ k) (u : Value) : RS w (wr.setCell ⟨rb, k, none⟩ u) z zs rb mb n v bs (upd x k u) y p m i j F := by
  have hkp : Kept (fun b => b = rb) wr (wr.setCell ⟨rb, k, none⟩ u) := Kept.setCell (F := fun b => b = rb) wr (p := ⟨rb, k, none⟩) rfl u
  have hk2 : k = 0 ∨ k = 1 := by omega
  refine ⟨h.bel.trans (hkp.below (fun b hb => by subst hb; exact (h.lo _ (.inr (.inl rfl))).1) h.bel.size), fun l u hl => hkp.cell (h.hz l u hl) (fun e => h.dj.1 e), ?_, by rw [hkp.block mb (h.lo mb (.inr (.inr rfl))).2 (fun e => h.dj.2.2 e.symm)]; exact h.hm, fun l hl => by rw [upd_other _ _ (by omega)]; exact h.ex l hl, fun l hl => (h.rk l hl).kept hkp (fun b hf e => by subst e; exact (h.fr l _ hl hf).2 (.inr (.inl rfl))), fun l hl => (h.md l hl).keep hkp (fun e => (h.mr l hl).2 (.inr (.inl e))), fun b hb => ⟨(h.lo b hb).1, Nat.lt_of_lt_of_le (h.lo b hb).2 hkp.size⟩, h.dj, h.fr, h.mr, h.fm, h.ff, h.mm⟩
  rw [heap_set h.hr]
  rcases hk2 with rfl | rfl <;> simp [upd]
theorem RS.setm {w wr : World} {z : Nat} {zs : List Value} {rb mb n : Nat} {v : Nat → Value} {bs : Nat → List Int} {x y : Nat → Value} {p m i j : Nat → Nat} {F : Nat → Nat → Prop} (h : RS w wr z zs rb mb n v bs x y p m i j F) {k : Nat} (hk : k < 2) (hn : n ≤ k) (u : Value) : RS w (wr.setCell ⟨mb, k, none⟩ u) z zs rb mb n v bs x (upd y k u) p m i j F := by
  have hkp : Kept (fun b => b = mb) wr (wr.setCell ⟨mb, k, none⟩ u) := Kept.setCell (F := fun b => b = mb) wr (p := ⟨mb, k, none⟩) rfl u
  have hk2 : k = 0 ∨ k = 1 := by omega
  refine ⟨h.bel.trans (hkp.below (fun b hb => by subst hb; exact (h.lo _ (.inr (.inr rfl))).1) h.bel.size), fun l u hl => hkp.cell (h.hz l u hl) (fun e => h.dj.2.1 e), by rw [hkp.block rb (h.lo rb (.inr (.inl rfl))).2 (fun e => h.dj.2.2 e)]; exact h.hr, ?_, fun l hl => by rw [upd_other _ _ (by omega)]; exact h.ex l hl, fun l hl => (h.rk l hl).kept hkp (fun b hf e => by subst e; exact (h.fr l _ hl hf).2 (.inr (.inr rfl))), fun l hl => (h.md l hl).keep hkp (fun e => (h.mr l hl).2 (.inr (.inr e))), fun b hb => ⟨(h.lo b hb).1, Nat.lt_of_lt_of_le (h.lo b hb).2 hkp.size⟩, h.dj, h.fr, h.mr, h.fm, h.ff, h.mm⟩
  rw [heap_set h.hm]
  rcases hk2 with rfl | rfl <;> simp [upd]
/-- One reader more. -/
theorem RS.grow {w wr : World} {z : Nat} {zs : List Value} {rb mb n : Nat} {v : Nat → Value} {bs : Nat → List Int} {x y : Nat → Value} {p m i j : Nat → Nat} {F : Nat → Nat → Prop} (h : RS w wr z zs rb mb n v bs x y p m i j F) {P M : Nat} {G : Nat → Prop} (hx : x n = .pointer (some ⟨P, 0, none⟩)) (hy : y n = .pointer (some ⟨M, 0, none⟩)) (hr : Rr G wr P (bs n) 0) (hM : MR wr M (v n) 0)
    (hG : ∀ b, G b → w.heap.size ≤ b ∧ ¬ Rv z rb mb b ∧ b ≠ M ∧ ∀ k, k < n → ¬ F k b ∧ m k ≠ b) (hM1 : w.heap.size ≤ M ∧ ¬ Rv z rb mb M) (hM2 : ∀ k, k < n → ¬ F k M ∧ m k ≠ M) : RS w wr z zs rb mb (n + 1) v bs x y (upd p n P) (upd m n M) (upd i n 0) (upd j n 0) (upd F n G) := by
  have hc : ∀ k, k < n + 1 → k = n ∨ (k < n ∧ k ≠ n) := fun k hk => by omega
  refine ⟨h.bel, h.hz, h.hr, h.hm, fun k hk => ?_, fun k hk => ?_, fun k hk => ?_, h.lo, h.dj, fun k b hk hf => ?_, fun k hk => ?_, fun k l hk hl => ?_, fun k l b hk hl hne hf => ?_, fun k l hk hl hne => ?_⟩
  · rcases hc k hk with rfl | ⟨hk, e⟩
    · rw [upd_same, upd_same]; exact ⟨hx, hy⟩
    · rw [upd_other _ _ e, upd_other _ _ e]; exact h.ex k hk
  · rcases hc k hk with rfl | ⟨hk, e⟩
    · rw [upd_same, upd_same, upd_same]; exact hr
    · rw [upd_other _ _ e, upd_other _ _ e, upd_other _ _ e]; exact h.rk k hk
  · rcases hc k hk with rfl | ⟨hk, e⟩
    · rw [upd_same, upd_same]; exact hM
    · rw [upd_other _ _ e, upd_other _ _ e]; exact h.md k hk
  · rcases hc k hk with rfl | ⟨hk, e⟩
    · rw [upd_same] at hf; exact ⟨(hG b hf).1, (hG b hf).2.1⟩
    · rw [upd_other _ _ e] at hf; exact h.fr k b hk hf
  · rcases hc k hk with rfl | ⟨hk, e⟩
    · rw [upd_same]; exact hM1
    · rw [upd_other _ _ e]; exact h.mr k hk
  · rcases hc k hk with rfl | ⟨hk, e⟩
    · rcases hc l hl with rfl | ⟨hl, e2⟩
      · rw [upd_same, upd_same]; exact fun hf => (hG _ hf).2.2.1 rfl
      · rw [upd_same, upd_other _ _ e2]; exact fun hf => ((hG _ hf).2.2.2 l hl).2 rfl
    · rcases hc l hl with rfl | ⟨hl, e2⟩
      · rw [upd_same, upd_other _ _ e]; exact (hM2 k hk).1
      · rw [upd_other _ _ e, upd_other _ _ e2]; exact h.fm k l hk hl
  · rcases hc k hk with rfl | ⟨hk, e⟩
    · rcases hc l hl with rfl | ⟨hl, e2⟩
      · exact absurd rfl hne
      · rw [upd_same] at hf
        rw [upd_other _ _ e2]; exact ((hG b hf).2.2.2 l hl).1
    · rw [upd_other _ _ e] at hf
      rcases hc l hl with rfl | ⟨hl, e2⟩
      · rw [upd_same]; exact fun hg => ((hG b hg).2.2.2 k hk).1 hf
      · rw [upd_other _ _ e2]; exact h.ff k l b hk hl hne hf
  · rcases hc k hk with rfl | ⟨hk, e⟩
    · rcases hc l hl with rfl | ⟨hl, e2⟩
      · exact absurd rfl hne
      · rw [upd_same, upd_other _ _ e2]; exact fun e => (hM2 l hl).2 e.symm
    · rcases hc l hl with rfl | ⟨hl, e2⟩
      · rw [upd_same, upd_other _ _ e]; exact (hM2 k hk).2
      · rw [upd_other _ _ e, upd_other _ _ e2]; exact h.mm k l hk hl hne
/-- Another list is kept an eye on: one that was made later. -/
theorem RS.swap {w wr w1 : World} {z : Nat} {zs : List Value} {rb mb n : Nat} {v : Nat → Value} {bs : Nat → List Int} {x y : Nat → Value} {p m i j : Nat → Nat} {F : Nat → Nat → Prop} (h : RS w wr z zs rb mb n v bs x y p m i j F) {q : Nat} {us : List Value} (hb : Below wr.heap.size wr w1) (hq : wr.heap.size ≤ q) (hq2 : q < w1.heap.size) (hu : ∀ l u, us[l]? = some u → w1.cell? ⟨q, l, none⟩ = some u) : RS w w1 q us rb mb n v bs x y p m i j F := by
  have hL := h.late hb
  have hs := h.bel.size
  have h1 := h.lo rb (.inr (.inl rfl))
  have h2 := h.lo mb (.inr (.inr rfl))
  refine ⟨hL.bel, hu, hL.hr, hL.hm, hL.ex, hL.rk, hL.md, fun b hb' => ?_, ⟨by omega, by omega, h.dj.2.2⟩, fun k b hk hf => ⟨(h.fr k b hk hf).1, ?_⟩, fun k hk => ⟨(h.mr k hk).1, ?_⟩, h.fm, h.ff, h.mm⟩
  · rcases hb' with rfl | hb'
    · exact ⟨by omega, hq2⟩
    · exact hL.lo b (.inr hb')
  · rintro (rfl | e)
    · have := h.fl hk hf; omega
    · exact (h.fr k b hk hf).2 (.inr e)
  · rintro (e | e)
    · have := (h.md k hk).lt; omega
    · exact (h.mr k hk).2 (.inr e)
end Go.Proofs.YtghpehgefbikeaaDoor
