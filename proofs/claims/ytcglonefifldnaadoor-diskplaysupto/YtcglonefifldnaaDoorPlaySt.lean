/- What lies in memory while DiskPlays runs. -/
import Derived.Test.YtcglonefifldnaaDoorBoth
namespace Go.Proofs.YtcglonefifldnaaDoor
open Go.ChangeShapes Go.WideShapes Go.ChangeAt Go.RowKit

/-- Both disks, each in blocks of its own; they hold the same. -/
structure PS (w0 wr : World) (p q n m : Nat) (lost : Bool) (f : Int → List Int) (c : List (Int × List Int)) (nw : Int) (F G : Nat → Prop) (fs fn : Int → List Int) (sb nb : Nat) (av dv : Value) (H : Nat → Prop) : Prop where
  dk : Dk F wr p n f c nw lost
  rk : Rk G wr q n fs fn c nw lost sb nb av dv H
  bel : Below w0.heap.size w0 wr
  fF : ∀ k, F k → w0.heap.size ≤ k
  gG : ∀ k, G k → w0.heap.size ≤ k
  fg : ∀ k, F k → ¬ G k
  eq : lost = false → fs = f ∧ fn = seenOf f c
  cl : c.length ≤ m
  nn : 0 ≤ nw ∧ nw ≤ (m : Int)
theorem PS.late {w0 wr w' : World} {p q n m : Nat} {lost : Bool} {f : Int → List Int} {c : List (Int × List Int)} {nw : Int} {F G : Nat → Prop} {fs fn : Int → List Int} {sb nb : Nat} {av dv : Value} {H : Nat → Prop} (h : PS w0 wr p q n m lost f c nw F G fs fn sb nb av dv H) (hb : Below wr.heap.size wr w') : PS w0 w' p q n m lost f c nw F G fs fn sb nb av dv H :=
  ⟨h.dk.below hb, h.rk.below hb, h.bel.trans (hb.mono h.bel.size), h.fF, h.gG, h.fg, h.eq, h.cl, h.nn⟩
theorem PS.up {w0 wr : World} {p q n m : Nat} {lost : Bool} {f : Int → List Int} {c : List (Int × List Int)} {nw : Int} {F G : Nat → Prop} {fs fn : Int → List Int} {sb nb : Nat} {av dv : Value} {H : Nat → Prop} (h : PS w0 wr p q n m lost f c nw F G fs fn sb nb av dv H) : PS w0 wr p q n (m + 1) lost f c nw F G fs fn sb nb av dv H :=
  ⟨h.dk, h.rk, h.bel, h.fF, h.gG, h.fg, h.eq, by have := h.cl; omega, by have := h.nn; omega⟩
/-- A block that is neither's was written. -/
theorem PS.other {w0 wr w' : World} {p q n m : Nat} {lost : Bool} {f : Int → List Int} {c : List (Int × List Int)} {nw : Int} {F G : Nat → Prop} {fs fn : Int → List Int} {sb nb : Nat} {av dv : Value} {H : Nat → Prop} (h : PS w0 wr p q n m lost f c nw F G fs fn sb nb av dv H) {g : Nat} (hk : Kept (fun k => k = g) wr w') (hg : w0.heap.size ≤ g) (h1 : ¬ F g) (h2 : ¬ G g) : PS w0 w' p q n m lost f c nw F G fs fn sb nb av dv H :=
  ⟨h.dk.kept hk (fun k e e2 => h1 (e2 ▸ e)), h.rk.kept hk (fun k e e2 => h2 (e2 ▸ e)), h.bel.trans (hk.below (fun k e => by rw [e]; exact hg) h.bel.size), h.fF, h.gG, h.fg, h.eq, h.cl, h.nn⟩
/-- The document's disk behind a call on the program's. -/
theorem PS.mid {w0 wr w1 w2 : World} {p q n m : Nat} {lost : Bool} {f : Int → List Int} {c : List (Int × List Int)} {nw : Int} {F G : Nat → Prop} {fs fn : Int → List Int} {sb nb : Nat} {av dv : Value} {H : Nat → Prop} (h : PS w0 wr p q n m lost f c nw F G fs fn sb nb av dv H) (hk1 : Kept F wr w1) (hb : Below w1.heap.size w1 w2) : Rk G w2 q n fs fn c nw lost sb nb av dv H ∧ Below w0.heap.size w0 w2 :=
  ⟨(h.rk.kept hk1 (fun k e e2 => h.fg k e2 e)).below hb, (h.bel.trans (hk1.below h.fF h.bel.size)).trans (hb.mono (Nat.le_trans h.bel.size hk1.size))⟩
/-- Both were called. -/
theorem PS.two {w0 wr w1 w2 w3 : World} {p q n m m' : Nat} {lost lost' : Bool} {f f' : Int → List Int} {c c' : List (Int × List Int)} {nw nw' : Int} {F G F' G' : Nat → Prop} {fs fn fs' fn' : Int → List Int} {sb nb : Nat} {av dv av' dv' : Value} {H H' : Nat → Prop} (h : PS w0 wr p q n m lost f c nw F G fs fn sb nb av dv H) (hD : Dk F' w1 p n f' c' nw' lost') (hF : ∀ k, F' k → F k ∨ wr.heap.size ≤ k) (hk1 : Kept F wr w1) (hb : Below w1.heap.size w1 w2)
    (hR : Rk G' w3 q n fs' fn' c' nw' lost' sb nb av' dv' H') (hG : ∀ k, G' k → G k ∨ w2.heap.size ≤ k) (hk3 : Kept G w2 w3) (heq : lost' = false → fs' = f' ∧ fn' = seenOf f' c') (hcl : c'.length ≤ m') (hnn : 0 ≤ nw' ∧ nw' ≤ (m' : Int)) : PS w0 w3 p q n m' lost' f' c' nw' F' G' fs' fn' sb nb av' dv' H' := by
  have s1 := hk1.size
  have s2 := hb.size
  have hm := h.mid hk1 hb
  have hFG : ∀ k, F' k → ¬ G k := fun k e e2 => by
    rcases hF k e with e1 | e1
    · exact h.fg k e1 e2
    · have := h.rk.lt k e2; omega
  refine ⟨(hD.below hb).kept hk3 hFG, hR, hm.2.trans (hk3.below h.gG hm.2.size), fun k e => (hF k e).elim (h.fF k) (fun g => Nat.le_trans h.bel.size g), fun k e => (hG k e).elim (h.gG k) (fun g => by have := h.bel.size; omega), fun k e e2 => ?_, heq, hcl, hnn⟩
  rcases hG k e2 with e1 | e1
  · exact hFG k e e1
  · have := hD.1 k e; omega
/-- Bytes that may be written. -/
def WB (w : World) (g len : Nat) : Prop := ∃ cs t, w.heap[g]? = some (.cells cs t (0, 0)) ∧ ∀ k, k < len → ∃ x, cs[k]? = some (.int .u8 x) ∧ 0 ≤ x ∧ x ≤ 255
theorem WB.of_owns {w : World} {base g n cap : Nat} {bs : List Int} (hB : Byts bs) (h : w.ownsRow base 5 1 (.slice (some ⟨g, 0, none⟩) n cap) n (bs.map (Value.int .u8))) : WB w g n := by
  have hl : bs.length = n := by simpa using h.1
  rcases h.2 with ⟨e, _⟩ | ⟨g', cap', cur, e, _, hg, _, _, _, ht⟩
  · simp at e
  · simp at e
    obtain ⟨rfl, rfl⟩ := e
    refine ⟨cur, _, hg, fun k hk => ⟨bs.getD k 0, ?_, hB.at k⟩⟩
    have h1 : (cur.toList.take (n * 1))[k]? = some (.int .u8 (bs.getD k 0)) := by
      rw [ht]
      simp [List.getD, show k < bs.length by omega]
    rw [List.getElem?_take, if_pos (by omega)] at h1
    simpa using h1
theorem WB.less {w : World} {g m n : Nat} (h : WB w g n) (hm : m ≤ n) : WB w g m := by
  obtain ⟨cs, t, hg, hc⟩ := h
  exact ⟨cs, t, hg, fun k hk => hc k (by omega)⟩
theorem WB.of_mk {w : World} {base g cap : Nat} {bs : List Int} (hB : Byts bs) (h : Mk w base g cap bs) : WB w g bs.length := (WB.of_owns (hB.append marks_byts) h).less (by omega)
theorem WB.at {w : World} {g len k : Nat} (h : WB w g len) (hk : k < len) : ∃ x, w.cell? ⟨g, k, none⟩ = some (.int .u8 x) ∧ w.frozen? ⟨g, k, none⟩ = false ∧ 0 ≤ x ∧ x ≤ 255 := by
  obtain ⟨cs, t, hg, hc⟩ := h
  obtain ⟨x, hx, h0, h1⟩ := hc k hk
  exact ⟨x, cell_of_block hg hx, frozen_of_block hg, h0, h1⟩
theorem WB.set {w : World} {g len k : Nat} {y : Int} (h : WB w g len) (hy : 0 ≤ y ∧ y ≤ 255) : WB (w.setCell ⟨g, k, none⟩ (.int .u8 y)) g len := by
  obtain ⟨cs, t, hg, hc⟩ := h
  refine ⟨_, t, heap_set hg, fun j hj => ?_⟩
  obtain ⟨x, hx, h0, h1⟩ := hc j hj
  by_cases e : k = j
  · subst e
    have hlt : k < cs.size := (Array.getElem?_eq_some_iff.1 hx).1
    exact ⟨y, by simp [hlt], hy⟩
  · exact ⟨x, by simp [Array.getElem?_setIfInBounds_ne e, hx], h0, h1⟩
theorem WB.kept {F : Nat → Prop} {w w' : World} {g len : Nat} (h : WB w g len) (hk : Kept F w w') (hn : ¬ F g) : WB w' g len := by
  obtain ⟨cs, t, hg, hc⟩ := h
  exact ⟨cs, t, by rw [hk.block g (Array.getElem?_eq_some_iff.1 hg).1 hn]; exact hg, hc⟩
theorem xor77 (z : Int) (h : 0 ≤ z ∧ z ≤ 255) : ∃ y : Int, bits .xor .u8 z 77 = y ∧ 0 ≤ y ∧ y ≤ 255 := by
  have e := u8_xor z 77 h.1 (by omega) (by omega) (by omega)
  have hlt : z.toNat ^^^ (77 : Int).toNat < 2 ^ 8 := Nat.xor_lt_two_pow (by omega) (by decide)
  exact ⟨_, e, by omega, by omega⟩
end Go.Proofs.YtcglonefifldnaaDoor
