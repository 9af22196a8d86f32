/- The program's queue beside the document's. -/
import Derived.Test.YtjlmkmhggkcbhaaDoorQsorted
import Derived.Test.YtjlmkmhggkcbhaaDoorErrNum
import Derived.Test.YtjlmkmhggkcbhaaDoorQlist
namespace Go.Proofs.YtjlmkmhggkcbhaaDoor
open Go.ChangeShapes Go.WideShapes Go.ChangeAt Go.RowKit
set_option maxRecDepth 100000

set_option linter.unusedVariables false
/-- Both hold the same things. -/
structure Good (V L : List Th) : Prop where
  e : ∀ x, x ∈ V ↔ x ∈ L
  n : V.length = L.length
  m : L.length ≤ 4096
  u : L.Nodup
structure Pair (B : Nat) (w : World) (p q : Nat) (F G : Nat → Prop) (V L : List Th) : Prop where
  v : Qu F w p V
  l : Rq G w q L
  d : ∀ k, F k → ¬ G k
  fb : ∀ k, F k → B ≤ k
  gb : ∀ k, G k → B ≤ k
  g : Good V L
def Nx (B : Nat) (w w' : World) (p q : Nat) (F G : Nat → Prop) : Prop := ∃ F' G' V' L', Pair B w' p q F' G' V' L' ∧ (∀ k, F' k → F k ∨ w.heap.size ≤ k) ∧ (∀ k, G' k → G k ∨ w.heap.size ≤ k) ∧ Kept (fun k => F k ∨ G k) w w'
/-- What a call of the program's queue leaves. -/
def Qr (F : Nat → Prop) (w w' : World) (p : Nat) (L' : List Th) : Prop := ∃ F' V', Qu F' w' p V' ∧ (∀ k, F' k → F k ∨ w.heap.size ≤ k) ∧ Kept F w w' ∧ Good V' L'
def Lr (G : Nat → Prop) (w w' : World) (q : Nat) (L' : List Th) : Prop := ∃ G', Rq G' w' q L' ∧ (∀ k, G' k → G k ∨ w.heap.size ≤ k) ∧ Kept G w w'
theorem Pair.nx {B : Nat} {w W w1 w2 w3 : World} {p q : Nat} {F G : Nat → Prop} {V L L' : List Th} (h : Pair B w p q F G V L) (hB : B ≤ w.heap.size) (hb : Below w.heap.size w W) (hq : Qr F W w1 p L') (h12 : Below w1.heap.size w1 w2) (hl : Lr G w2 w3 q L') : Nx B w w3 p q F G := by
  obtain ⟨F', V', a1, a2, a3, a4⟩ := hq
  obtain ⟨G', b1, b2, b3⟩ := hl
  have s0 := hb.size
  have s1 := a3.size
  have s2 := h12.size
  have s3 := b3.size
  have hFG : ∀ k, F' k → ¬ G k := fun k hk hg => by
    rcases a2 k hk with x | x
    · exact h.d k x hg
    · have := h.l.1 k hg; omega
  refine ⟨F', G', V', L', ⟨(a1.below h12).kept b3 hFG, b1, fun k hk hg => ?_, fun k hk => ?_, fun k hk => ?_, a4⟩, fun k hk => (a2 k hk).imp (fun x => x) (fun x => by omega), fun k hk => (b2 k hk).imp (fun x => x) (fun x => by omega), ?_⟩
  · rcases b2 k hg with x | x
    · exact hFG k hk x
    · have := a1.lt k hk; omega
  · rcases a2 k hk with x | x
    · exact h.fb k x
    · omega
  · rcases b2 k hk with x | x
    · exact h.gb k x
    · omega
  · exact (((kept_below _ hb).trans (a3.mono (fun k x => .inl x)) (fun _ x => .inl x)).trans (kept_below _ h12) (fun _ x => .inl x)).trans (b3.mono (fun k x => .inr x)) (fun _ x => .inl x)
theorem Pair.rq {B : Nat} {w W w1 w2 : World} {p q : Nat} {F G : Nat → Prop} {V L L' : List Th} (h : Pair B w p q F G V L) (hb : Below w.heap.size w W) (hq : Qr F W w1 p L') (h12 : Below w1.heap.size w1 w2) : Rq G w2 q L := by
  obtain ⟨F', V', a1, a2, a3, a4⟩ := hq
  exact ((h.l.below hb).kept a3 (fun k hk hf => h.d k hf hk)).below h12
theorem Pair.same {B : Nat} {w w' : World} {p q : Nat} {F G : Nat → Prop} {V L : List Th} (h : Pair B w p q F G V L) (hb : Below w.heap.size w w') : Nx B w w' p q F G :=
  ⟨F, G, V, L, ⟨h.v.below hb, h.l.below hb, h.d, h.fb, h.gb, h.g⟩, fun k hk => .inl hk, fun k hk => .inl hk, kept_below _ hb⟩
theorem Qr.same {F : Nat → Prop} {w w' : World} {p : Nat} {V L : List Th} (h : Qu F w p V) (hg : Good V L) (hb : Below w.heap.size w w') : Qr F w w' p L := ⟨F, V, h.below hb, fun k hk => .inl hk, kept_below _ hb, hg⟩
theorem Good.absent {V L : List Th} (h : Good V L) {id : Int} (hf : fnd L id = -1) : ∀ y ∈ V, y.1 ≠ id := by
  rcases fnd_cases L id with ⟨_, h1⟩ | ⟨i, h1, _⟩
  · exact fun y hy => h1 y ((h.e y).mp hy)
  · rw [hf] at h1; omega
theorem Good.found {V L : List Th} (h : Good V L) {id : Int} {i : Nat} (hi : i < L.length) (he : (gt L i).1 = id) : ∃ j, j < V.length ∧ gt V j = gt L i := mem_gt.mp ((h.e _).mpr (mem_gt.mpr ⟨i, hi, rfl⟩))
def NumIs (W0 : World) (ev : Value) (c : Int) : Prop := ∀ W5, Below W0.heap.size W0 W5 → Calls Tryd.prog 27 #[ev] W5 fun e w' => e = .returned (.int .i64 c) ∧ Below W5.heap.size W5 w'
theorem numis_nil (W0 : World) : NumIs W0 .nilIface 0 := fun W5 _ => (errnum_nil W5).mono (fun e w' ⟨h1, h2⟩ => ⟨h1, by rw [h2]; exact Below.refl _ _⟩)
theorem push_both (W0 w : World) (a : Nat → Addr) (HE : Errs W0 a) (hB : Below W0.heap.size W0 w) {p q : Nat} {F G : Nat → Prop} {V L : List Th} (h : Pair W0.heap.size w p q F G V L) (id r : Int) :
    ∃ ev, NumIs W0 ev (pcode L id) ∧ ∀ W, Below w.heap.size w W → Calls Tryd.prog 18 #[.pointer (some ⟨p, 0, none⟩), .int .i64 id, .int .i64 r] W fun e w' => e = .returned ev ∧ Hid (Qr F W w' p (pushL L id r)) := by
  have late : ∀ W, Below w.heap.size w W → Errs W a := fun W hb => HE.late (hB.trans (hb.mono hB.size))
  rcases fnd_cases L id with ⟨hf, hno⟩ | ⟨i, hf, hi, he⟩
  · by_cases hl : 4096 ≤ L.length
    · have hc : pcode L id = 7 := by unfold pcode; rw [hf, if_neg (by omega), if_pos hl]
      have hp : pushL L id r = L := by unfold pushL; rw [hc]; rfl
      refine ⟨.iface 111 (.pointer (some (a 2))), by rw [hc]; exact fun W5 hb => errnum_full W5 a (HE.late hb), fun W hb => ?_⟩
      rw [hp]
      refine (push_full F W p V id r _ (h.v.below hb) (h.g.absent hf) (by rw [h.g.n]; exact hl) (late W hb).cell_full).mono ?_
      rintro e w' ⟨rfl, rfl⟩
      exact ⟨rfl, Qr.same (h.v.below hb) h.g (Below.refl _ _)⟩
    · have hc : pcode L id = 0 := by unfold pcode; rw [hf, if_neg (by omega), if_neg hl]
      have hp : pushL L id r = L ++ [(id, r)] := by unfold pushL; rw [hc]; rfl
      refine ⟨.nilIface, by rw [hc]; exact numis_nil W0, fun W hb => ?_⟩
      rw [hp]
      refine (push_ok F W p V id r (h.v.below hb) (h.g.absent hf) (by rw [h.g.n]; omega)).mono ?_
      rintro e w' ⟨rfl, F', V', a1, a2, a3, a4, a5⟩
      refine ⟨rfl, F', V', a1, a4, a5, ⟨fun x => ?_, by rw [a3, h.g.n]; simp, by simp; omega, ?_⟩⟩
      · rw [a2 x, h.g.e x]; simp
      · rw [List.nodup_append]
        refine ⟨h.g.u, by simp, fun x hx y hy e => ?_⟩
        simp at hy
        exact hno x hx (by rw [e, hy])
  · have hc : pcode L id = 6 := by unfold pcode; rw [hf, if_pos (by omega)]
    have hp : pushL L id r = L := by unfold pushL; rw [hc]; rfl
    obtain ⟨j, hj, hj2⟩ := h.g.found hi he
    refine ⟨.iface 111 (.pointer (some (a 1))), by rw [hc]; exact fun W5 hb => errnum_there W5 a (HE.late hb), fun W hb => ?_⟩
    rw [hp]
    refine (push_there F W p V j id r _ (h.v.below hb) hj (by rw [hj2]; exact he) (late W hb).cell_there).mono ?_
    rintro e w' ⟨rfl, rfl⟩
    exact ⟨rfl, Qr.same (h.v.below hb) h.g (Below.refl _ _)⟩
/-- The list without the thing of a number. -/
def dropL (L : List Th) (id : Int) : List Th := if fnd L id < 0 then L else L.eraseIdx (fnd L id).toNat
def turnL (L : List Th) (id r : Int) : List Th := if fnd L id < 0 then L else L.set (fnd L id).toNat (id, r)
theorem uniq {V L : List Th} {F : Nat → Prop} {w : World} {p : Nat} (hv : Qu F w p V) (hg : Good V L) {i j : Nat} (hi : i < L.length) (hj : j < L.length) (e : (gt L i).1 = (gt L j).1) : i = j := by
  have h1 := hv.inj ((hg.e _).mpr (mem_gt.mpr ⟨i, hi, rfl⟩)) ((hg.e _).mpr (mem_gt.mpr ⟨j, hj, rfl⟩)) e
  rw [gt_get hi, gt_get hj] at h1
  have hu := hg.u
  rw [List.nodup_iff_pairwise_ne, List.pairwise_iff_getElem] at hu
  rcases Nat.lt_trichotomy i j with h | h | h
  · exact absurd h1 (hu i j hi hj h)
  · exact h
  · exact absurd h1.symm (hu j i hj hi h)
theorem good_erase {V L V' : List Th} {F : Nat → Prop} {w : World} {p : Nat} (hv : Qu F w p V) (hg : Good V L) {i : Nat} (hi : i < L.length) (hm : ∀ y, y ∈ V' ↔ y ∈ V ∧ y.1 ≠ (gt L i).1) (hn : V'.length + 1 = V.length) : Good V' (L.eraseIdx i) := by
  have hl : (L.eraseIdx i).length = L.length - 1 := by rw [List.length_eraseIdx, if_pos hi]
  refine ⟨fun x => ?_, by rw [hl]; have := hg.n; omega, by rw [hl]; have := hg.m; omega, hg.u.sublist (List.eraseIdx_sublist _ _)⟩
  rw [hm x, hg.e x, List.mem_eraseIdx_iff_getElem]
  constructor
  · rintro ⟨h1, h2⟩
    obtain ⟨j, hj, rfl⟩ := mem_gt.mp h1
    exact ⟨j, hj, fun e => h2 (by rw [e]), (gt_get hj).symm⟩
  · rintro ⟨j, hj, hne, rfl⟩
    refine ⟨List.getElem_mem hj, fun e => hne ?_⟩
    rw [← gt_get hj] at e
    exact uniq hv hg hj hi e
theorem drop_both (W0 w : World) (a : Nat → Addr) (HE : Errs W0 a) (hB : Below W0.heap.size W0 w) {p q : Nat} {F G : Nat → Prop} {V L : List Th} (h : Pair W0.heap.size w p q F G V L) (id : Int) :
    ∃ ev, NumIs W0 ev (gcode L id) ∧ (∀ W, Below w.heap.size w W → Calls Tryd.prog 19 #[.pointer (some ⟨p, 0, none⟩), .int .i64 id] W fun e w' => e = .returned ev ∧ Hid (Qr F W w' p (dropL L id))) ∧
      ∀ W G', Rq G' W q L → Calls Tryd.prog 32 #[.pointer (some ⟨q, 0, none⟩), .int .i64 id] W fun e w' => e = .returned (.int .i64 (gcode L id)) ∧ Hid (Lr G' W w' q (dropL L id)) := by
  have late : ∀ W, Below w.heap.size w W → Errs W a := fun W hb => HE.late (hB.trans (hb.mono hB.size))
  rcases fnd_cases L id with ⟨hf, hno⟩ | ⟨i, hf, hi, he⟩
  · have hc : gcode L id = 5 := by unfold gcode; rw [hf, if_pos (by omega)]
    have hp : dropL L id = L := by unfold dropL; rw [hf, if_pos (by omega)]
    rw [hp]
    refine ⟨.iface 111 (.pointer (some (a 0))), by rw [hc]; exact fun W5 hb => errnum_gone W5 a (HE.late hb), fun W hb => ?_, fun W G' hr => ?_⟩
    · refine (drop_gone F W p V id _ (h.v.below hb) (h.g.absent hf) (late W hb).cell_gone).mono ?_
      rintro e w' ⟨rfl, rfl⟩
      exact ⟨rfl, Qr.same (h.v.below hb) h.g (Below.refl _ _)⟩
    · rw [hc]
      refine (rdrop_none G' W q L id hr h.g.m hf).mono ?_
      rintro e w' ⟨rfl, hb⟩
      exact ⟨rfl, G', hr.below hb, fun k hk => .inl hk, kept_below _ hb⟩
  · have hc : gcode L id = 0 := by unfold gcode; rw [hf, if_neg (by omega)]
    have hp : dropL L id = L.eraseIdx i := by unfold dropL; rw [hf, if_neg (by omega), Int.toNat_natCast]
    obtain ⟨j, hj, hj2⟩ := h.g.found hi he
    rw [hp, hc]
    refine ⟨.nilIface, numis_nil W0, fun W hb => ?_, fun W G' hr => ?_⟩
    · refine (drop_ok F W p V j id (h.v.below hb) hj (by rw [hj2]; exact he) (by rw [h.g.n]; exact h.g.m)).mono ?_
      rintro e w' ⟨rfl, V', a1, a2, a3, a4⟩
      exact ⟨rfl, F, V', a1, fun k hk => .inl hk, a4, good_erase h.v h.g hi (by rw [he]; exact a2) a3⟩
    · refine (rdrop_some G' W q L id i hr h.g.m hf hi).mono ?_
      rintro e w' ⟨rfl, G2, b1, b2, b3⟩
      exact ⟨rfl, G2, b1, b2, b3⟩
theorem turn_both (W0 w : World) (a : Nat → Addr) (HE : Errs W0 a) (hB : Below W0.heap.size W0 w) {p q : Nat} {F G : Nat → Prop} {V L : List Th} (h : Pair W0.heap.size w p q F G V L) (id r : Int) :
    ∃ ev, NumIs W0 ev (gcode L id) ∧ (∀ W, Below w.heap.size w W → Calls Tryd.prog 20 #[.pointer (some ⟨p, 0, none⟩), .int .i64 id, .int .i64 r] W fun e w' => e = .returned ev ∧ Hid (Qr F W w' p (turnL L id r))) ∧
      ∀ W G', Rq G' W q L → Calls Tryd.prog 31 #[.pointer (some ⟨q, 0, none⟩), .int .i64 id, .int .i64 r] W fun e w' => e = .returned (.int .i64 (gcode L id)) ∧ Hid (Lr G' W w' q (turnL L id r)) := by
  have late : ∀ W, Below w.heap.size w W → Errs W a := fun W hb => HE.late (hB.trans (hb.mono hB.size))
  rcases fnd_cases L id with ⟨hf, hno⟩ | ⟨i, hf, hi, he⟩
  · have hc : gcode L id = 5 := by unfold gcode; rw [hf, if_pos (by omega)]
    have hp : turnL L id r = L := by unfold turnL; rw [hf, if_pos (by omega)]
    rw [hp]
    refine ⟨.iface 111 (.pointer (some (a 0))), by rw [hc]; exact fun W5 hb => errnum_gone W5 a (HE.late hb), fun W hb => ?_, fun W G' hr => ?_⟩
    · refine (turn_gone F W p V id r _ (h.v.below hb) (h.g.absent hf) (late W hb).cell_gone).mono ?_
      rintro e w' ⟨rfl, rfl⟩
      exact ⟨rfl, Qr.same (h.v.below hb) h.g (Below.refl _ _)⟩
    · rw [hc]
      refine (rturn_none G' W q L id r hr h.g.m hf).mono ?_
      rintro e w' ⟨rfl, hb⟩
      exact ⟨rfl, G', hr.below hb, fun k hk => .inl hk, kept_below _ hb⟩
  · have hc : gcode L id = 0 := by unfold gcode; rw [hf, if_neg (by omega)]
    have hp : turnL L id r = L.set i (id, r) := by unfold turnL; rw [hf, if_neg (by omega), Int.toNat_natCast]
    obtain ⟨j, hj, hj2⟩ := h.g.found hi he
    rw [hp, hc]
    refine ⟨.nilIface, numis_nil W0, fun W hb => ?_, fun W G' hr => ?_⟩
    · refine (turn_ok F W p V j id r (h.v.below hb) hj (by rw [hj2]; exact he) (by rw [h.g.n]; exact h.g.m)).mono ?_
      rintro e w' ⟨rfl, V', a1, a2, a3, a4⟩
      refine ⟨rfl, F, V', a1, fun k hk => .inl hk, a4, ⟨fun x => ?_, by rw [a3, h.g.n]; simp, by simpa using h.g.m, ?_⟩⟩
      · rw [a2 x, h.g.e x]
        constructor
        · rintro (⟨h1, h2⟩ | rfl)
          · obtain ⟨k, hk, rfl⟩ := mem_gt.mp h2
            have hne : ¬ i = k := fun e => h1 (by rw [← e]; exact he)
            exact mem_gt.mpr ⟨k, by simpa using hk, by rw [gt_set _ _ _ _ hi, if_neg hne]⟩
          · exact mem_gt.mpr ⟨i, by simpa using hi, by rw [gt_set _ _ _ _ hi, if_pos rfl]⟩
        · intro hx
          obtain ⟨k, hk, rfl⟩ := mem_gt.mp hx
          have hk' : k < L.length := by simpa using hk
          rw [gt_set _ _ _ _ hi]
          split
          · exact .inr rfl
          · rename_i hne
            exact .inl ⟨fun e => hne (uniq h.v h.g hi hk' (by rw [e, he])), mem_gt.mpr ⟨k, hk', rfl⟩⟩
      · rw [List.nodup_iff_pairwise_ne, List.pairwise_iff_getElem]
        intro x y hx hy hxy e
        have hx' : x < L.length := by simpa using hx
        have hy' : y < L.length := by simpa using hy
        rw [← gt_get hx, ← gt_get hy, gt_set _ _ _ _ hi, gt_set _ _ _ _ hi] at e
        have h1 : (gt L x).1 = (gt L y).1 := by
          have := congrArg Prod.fst e
          by_cases e1 : i = x
          · by_cases e2 : i = y
            · omega
            · rw [if_pos e1, if_neg e2] at this; rw [← e1, he]; exact this
          · by_cases e2 : i = y
            · rw [if_neg e1, if_pos e2] at this; rw [← e2, he]; exact this
            · rw [if_neg e1, if_neg e2] at this; exact this
        have := uniq h.v h.g hx' hy' h1
        omega
    · refine (rturn_some G' W q L id r i hr h.g.m hf hi).mono ?_
      rintro e w' ⟨rfl, b1, b2⟩
      rw [he] at b1
      exact ⟨rfl, G', b1, fun k hk => .inl hk, b2⟩
end Go.Proofs.YtjlmkmhggkcbhaaDoor
