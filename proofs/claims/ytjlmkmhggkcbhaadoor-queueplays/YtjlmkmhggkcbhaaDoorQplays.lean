/- QueuePlays: the two queues and their states. -/
import Derived.Test.YtjlmkmhggkcbhaaDoorQplist
namespace Go.Proofs.YtjlmkmhggkcbhaaDoor
open Go.ChangeShapes Go.WideShapes Go.ChangeAt Go.RowKit
set_option maxRecDepth 100000
set_option linter.unusedVariables false

theorem play_any (W0 w : World) (a : Nat → Addr) (HE : Errs W0 a) (hB : Below W0.heap.size W0 w) (p q : Nat) (F G : Nat → Prop) (V L : List Th) (h : Pair W0.heap.size w p q F G V L) (kd wh id r : Int) :
    Calls Tryd.prog 10 #[.pointer (some ⟨p, 0, none⟩), .pointer (some ⟨q, 0, none⟩), .agg #[.int .i64 kd, .int .i64 wh, .int .i64 id, .int .i64 r]] w fun e w' => e = .returned (.bool true) ∧ Hid (Nx W0.heap.size w w' p q F G) := by
  by_cases h1 : kd = 1
  · subst h1; exact play_push W0 w a HE hB p q F G V L h wh id r
  by_cases h2 : kd = 2
  · subst h2
    by_cases hl : V.length = 0
    · obtain ⟨rfl, rfl⟩ := h.g.nil hl
      exact play_pop_none W0 w a HE hB p q F G h wh id r
    · exact play_pop_some W0 w hB p q F G V L h (by omega) wh id r
  by_cases h3 : kd = 3
  · subst h3
    by_cases hl : V.length = 0
    · obtain ⟨rfl, rfl⟩ := h.g.nil hl
      exact play_peek_none W0 w a HE hB p q F G h wh id r
    · exact play_peek_some W0 w hB p q F G V L h (by omega) wh id r
  by_cases h4 : kd = 4
  · subst h4; exact play_turn W0 w a HE hB p q F G V L h wh id r
  by_cases h5 : kd = 5
  · subst h5; exact play_drop W0 w a HE hB p q F G V L h wh id r
  by_cases h6 : kd = 6
  · subst h6; exact play_list W0 w hB p q F G V L h wh id r
  exact play_else W0 w p q F G V L h kd wh id r h1 h2 h3 h4 h5 h6
/-- Two queues and the document's two, in two arrays. -/
def St7 (W0 wr : World) (qb mb p0 p1 q0 q1 : Nat) : Prop :=
  (∃ F0 G0 F1 G1 V0 L0 V1 L1, Pair W0.heap.size wr p0 q0 F0 G0 V0 L0 ∧ Pair W0.heap.size wr p1 q1 F1 G1 V1 L1 ∧ (∀ k, F0 k ∨ G0 k → ¬ (F1 k ∨ G1 k)) ∧ (∀ k, F0 k ∨ G0 k ∨ F1 k ∨ G1 k → k ≠ qb ∧ k ≠ mb)) ∧
  wr.heap[qb]? = some (.cells #[.pointer (some ⟨p0, 0, none⟩), .pointer (some ⟨p1, 0, none⟩)] 26 (0, 0)) ∧ wr.heap[mb]? = some (.cells #[.pointer (some ⟨q0, 0, none⟩), .pointer (some ⟨q1, 0, none⟩)] 31 (0, 0)) ∧ Below W0.heap.size W0 wr
theorem Pair.below {B : Nat} {w w' : World} {p q : Nat} {F G : Nat → Prop} {V L : List Th} (h : Pair B w p q F G V L) (hb : Below w.heap.size w w') : Pair B w' p q F G V L := ⟨h.v.below hb, h.l.below hb, h.d, h.fb, h.gb, h.g⟩
theorem Pair.kept {B : Nat} {w w' : World} {p q : Nat} {F G H : Nat → Prop} {V L : List Th} (h : Pair B w p q F G V L) (hk : Kept H w w') (hn : ∀ k, F k ∨ G k → ¬ H k) : Pair B w' p q F G V L := ⟨h.v.kept hk (fun k x => hn k (.inl x)), h.l.kept hk (fun k x => hn k (.inr x)), h.d, h.fb, h.gb, h.g⟩
theorem Pair.lt {B : Nat} {w : World} {p q : Nat} {F G : Nat → Prop} {V L : List Th} (h : Pair B w p q F G V L) : ∀ k, F k ∨ G k → k < w.heap.size := fun k hk => hk.elim (h.v.lt k) (h.l.1 k)
theorem St7.below {W0 wr w' : World} {qb mb p0 p1 q0 q1 : Nat} (h : St7 W0 wr qb mb p0 p1 q0 q1) (hb : Below wr.heap.size wr w') : St7 W0 w' qb mb p0 p1 q0 q1 := by
  obtain ⟨⟨F0, G0, F1, G1, V0, L0, V1, L1, a, b, c, d⟩, e, f, g⟩ := h
  exact ⟨⟨F0, G0, F1, G1, V0, L0, V1, L1, a.below hb, b.below hb, c, d⟩, by rw [hb.block qb (Array.getElem?_eq_some_iff.1 e).1]; exact e, by rw [hb.block mb (Array.getElem?_eq_some_iff.1 f).1]; exact f, g.trans (hb.mono g.size)⟩
/-- One of the two. -/
structure Vw (W0 wr : World) (qb mb p0 p1 q0 q1 : Nat) (k p q : Nat) (F G : Nat → Prop) (V L : List Th) : Prop where
  c0 : wr.cell? ⟨qb, k, none⟩ = some (.pointer (some ⟨p, 0, none⟩))
  c1 : wr.cell? ⟨mb, k, none⟩ = some (.pointer (some ⟨q, 0, none⟩))
  h : Pair W0.heap.size wr p q F G V L
  s : ∀ w', Nx W0.heap.size wr w' p q F G → St7 W0 w' qb mb p0 p1 q0 q1
  b : Below W0.heap.size W0 wr
  n : ∀ j, F j ∨ G j → j ≠ qb ∧ j ≠ mb
theorem St7.view {W0 wr : World} {qb mb p0 p1 q0 q1 : Nat} (h : St7 W0 wr qb mb p0 p1 q0 q1) (k : Nat) (hk : k = 0 ∨ k = 1) : ∃ p q F G V L, Vw W0 wr qb mb p0 p1 q0 q1 k p q F G V L := by
  obtain ⟨⟨F0, G0, F1, G1, V0, L0, V1, L1, a, b, c, d⟩, e, f, g⟩ := h
  have hqb := (Array.getElem?_eq_some_iff.1 e).1
  have hmb := (Array.getElem?_eq_some_iff.1 f).1
  rcases hk with rfl | rfl
  · refine ⟨p0, q0, F0, G0, V0, L0, cell_of_block e rfl, cell_of_block f rfl, a, fun w' hx => ?_, g, fun j hj => d j (hj.elim .inl (fun z => .inr (.inl z)))⟩
    obtain ⟨F', G', V', L', x1, x2, x3, x4⟩ := hx
    have hFG : ∀ k, F' k ∨ G' k → (F0 k ∨ G0 k) ∨ wr.heap.size ≤ k := fun k hk => by
      rcases hk with hk | hk
      · exact (x2 k hk).imp .inl (fun y => y)
      · exact (x3 k hk).imp .inr (fun y => y)
    refine ⟨⟨F', G', F1, G1, V', L', V1, L1, x1, b.kept x4 (fun k hk hk' => c k hk' hk), fun k hk hk' => ?_, fun k hk => ?_⟩, ?_, ?_, g.trans (x4.below (fun k hk => hk.elim (a.fb k) (a.gb k)) g.size)⟩
    · rcases hFG k hk with y | y
      · exact c k y hk'
      · have := b.lt k hk'; omega
    · rcases hk with hk | hk | hk
      · rcases hFG k (.inl hk) with y | y
        · exact d k (y.elim .inl (fun z => .inr (.inl z)))
        · exact ⟨by omega, by omega⟩
      · rcases hFG k (.inr hk) with y | y
        · exact d k (y.elim .inl (fun z => .inr (.inl z)))
        · exact ⟨by omega, by omega⟩
      · exact d k (.inr (.inr hk))
    · rw [x4.block qb hqb (fun y => (d qb (y.elim .inl (fun z => .inr (.inl z)))).1 rfl)]; exact e
    · rw [x4.block mb hmb (fun y => (d mb (y.elim .inl (fun z => .inr (.inl z)))).2 rfl)]; exact f
  · refine ⟨p1, q1, F1, G1, V1, L1, cell_of_block e rfl, cell_of_block f rfl, b, fun w' hx => ?_, g, fun j hj => d j (.inr (.inr hj))⟩
    obtain ⟨F', G', V', L', x1, x2, x3, x4⟩ := hx
    have hFG : ∀ k, F' k ∨ G' k → (F1 k ∨ G1 k) ∨ wr.heap.size ≤ k := fun k hk => by
      rcases hk with hk | hk
      · exact (x2 k hk).imp .inl (fun y => y)
      · exact (x3 k hk).imp .inr (fun y => y)
    refine ⟨⟨F0, G0, F', G', V0, L0, V', L', a.kept x4 (fun k hk hk' => c k hk hk'), x1, fun k hk hk' => ?_, fun k hk => ?_⟩, ?_, ?_, g.trans (x4.below (fun k hk => hk.elim (b.fb k) (b.gb k)) g.size)⟩
    · rcases hFG k hk' with y | y
      · exact c k hk y
      · have := a.lt k hk; omega
    · rcases hk with hk | hk | hk
      · exact d k (.inl hk)
      · exact d k (.inr (.inl hk))
      · rcases hFG k hk with y | y
        · exact d k (.inr (.inr y))
        · exact ⟨by omega, by omega⟩
    · rw [x4.block qb hqb (fun y => (d qb (.inr (.inr y))).1 rfl)]; exact e
    · rw [x4.block mb hmb (fun y => (d mb (.inr (.inr y))).2 rfl)]; exact f
theorem Nx.from {B : Nat} {w W w' : World} {p q : Nat} {F G : Nat → Prop} (h : Nx B W w' p q F G) (hb : Below w.heap.size w W) : Nx B w w' p q F G := by
  obtain ⟨F', G', V', L', a, b, c, d⟩ := h
  exact ⟨F', G', V', L', a, fun k hk => (b k hk).imp (fun y => y) (fun y => Nat.le_trans hb.size y), fun k hk => (c k hk).imp (fun y => y) (fun y => Nat.le_trans hb.size y), (kept_below _ hb).trans d (fun _ x => .inl x)⟩
/-- One call on one of the two queues. -/
def Step (W0 wr : World) (qb mb p0 p1 q0 q1 k p q : Nat) : Prop := ∀ W kd wh id r, Below wr.heap.size wr W →
  Calls Tryd.prog 10 #[.pointer (some ⟨p, 0, none⟩), .pointer (some ⟨q, 0, none⟩), .agg #[.int .i64 kd, .int .i64 wh, .int .i64 id, .int .i64 r]] W fun e w' => e = .returned (.bool true) ∧ Hid (St7 W0 w' qb mb p0 p1 q0 q1 ∧ w'.cell? ⟨qb, k, none⟩ = some (.pointer (some ⟨p, 0, none⟩)) ∧ w'.cell? ⟨mb, k, none⟩ = some (.pointer (some ⟨q, 0, none⟩)) ∧ (∀ b o v, wr.heap.size ≤ b → W.cell? ⟨b, o, none⟩ = some v → w'.cell? ⟨b, o, none⟩ = some v) ∧ W.heap.size ≤ w'.heap.size)
theorem St7.step {W0 wr : World} {qb mb p0 p1 q0 q1 : Nat} (h : St7 W0 wr qb mb p0 p1 q0 q1) (a : Nat → Addr) (HE : Errs W0 a) (k : Nat) (hk : k = 0 ∨ k = 1) : ∃ p q, wr.cell? ⟨qb, k, none⟩ = some (.pointer (some ⟨p, 0, none⟩)) ∧ wr.cell? ⟨mb, k, none⟩ = some (.pointer (some ⟨q, 0, none⟩)) ∧ (∃ a l cap, wr.cell? ⟨q, 0, none⟩ = some (.slice a l cap)) ∧ Hid (Step W0 wr qb mb p0 p1 q0 q1 k p q) := by
  obtain ⟨p, q, F, G, V, L, hv⟩ := h.view k hk
  obtain ⟨a', cap, hc, _⟩ := hv.h.l.view
  refine ⟨p, q, hv.c0, hv.c1, ⟨a', _, cap, hc⟩, fun W kd wh id r hb => ?_⟩
  refine (play_any W0 W a HE (hv.b.trans (hb.mono hv.b.size)) p q F G V L (hv.h.below hb) kd wh id r).mono ?_
  rintro e w' ⟨rfl, hx⟩
  have hx' := hx.out
  obtain ⟨F', G', V', L', x1, x2, x3, x4⟩ := hx.out
  exact ⟨rfl, hv.s w' (hx'.from hb), x4.cell (bcell hb hv.c0) (fun y => (hv.n _ y).1 rfl), x4.cell (bcell hb hv.c1) (fun y => (hv.n _ y).2 rfl), fun b o v hbo hcv => x4.cell hcv (fun y => absurd (hv.h.lt _ y) (Nat.not_lt.mpr hbo)), x4.size⟩
theorem alloc_last (w : World) (o : Obj) : (w.alloc o).heap[w.heap.size]? = some o := by
  show (w.heap.push o)[w.heap.size]? = some o
  rw [Array.getElem?_push, if_pos rfl]
theorem alloc_old (w : World) (o : Obj) (k : Nat) (hk : k < w.heap.size) : (w.alloc o).heap[k]? = w.heap[k]? := by
  show (w.heap.push o)[k]? = _
  rw [Array.getElem?_push, if_neg (Nat.ne_of_lt hk)]
theorem alloc4 (w : World) (o0 o1 o2 o3 : Obj) : ((((w.alloc o0).alloc o1).alloc o2).alloc o3).heap.size = w.heap.size + 4 ∧ ((((w.alloc o0).alloc o1).alloc o2).alloc o3).heap[w.heap.size]? = some o0 ∧ ((((w.alloc o0).alloc o1).alloc o2).alloc o3).heap[w.heap.size + 1]? = some o1 ∧ ((((w.alloc o0).alloc o1).alloc o2).alloc o3).heap[w.heap.size + 1 + 1]? = some o2 ∧ ((((w.alloc o0).alloc o1).alloc o2).alloc o3).heap[w.heap.size + 1 + 1 + 1]? = some o3 ∧ Below w.heap.size w ((((w.alloc o0).alloc o1).alloc o2).alloc o3) := by
  have z : ∀ (w : World) (o : Obj), (w.alloc o).heap.size = w.heap.size + 1 := fun w o => by simp
  refine ⟨by simp only [z], ?_, ?_, ?_, ?_, ((((Below.refl _ w).alloc (Nat.le_refl _) _).alloc (by rw [z]; omega) _).alloc (by rw [z, z]; omega) _).alloc (by rw [z, z, z]; omega) _⟩
  · rw [alloc_old _ _ _ (by simp only [z]; omega), alloc_old _ _ _ (by simp only [z]; omega), alloc_old _ _ _ (by simp only [z]; omega), alloc_last]
  · rw [alloc_old _ _ _ (by simp only [z]; omega), alloc_old _ _ _ (by simp only [z]; omega), ← z w o0, alloc_last]
  · rw [alloc_old _ _ _ (by simp only [z]; omega), ← z w o0, ← z _ o1, alloc_last]
  · rw [← z w o0, ← z _ o1, ← z _ o2, alloc_last]
theorem St7.start {w w1 w2 w3 : World} {p0 p1 : Nat} (hb : Below w.heap.size w w1) (h0 : ∃ F, Qu F w2 p0 [] ∧ (∀ k, F k → w1.heap.size ≤ k) ∧ Below w1.heap.size w1 w2) (h1 : ∃ F, Qu F w3 p1 [] ∧ (∀ k, F k → w2.heap.size ≤ k) ∧ Below w2.heap.size w2 w3) :
    St7 w ((((w3.alloc (.cells #[.pointer (some ⟨p0, 0, none⟩), .pointer (some ⟨p1, 0, none⟩)] 26)).alloc (.cells #[.slice none 0 0] 30)).alloc (.cells #[.slice none 0 0] 30)).alloc (.cells #[.pointer (some ⟨w3.heap.size + 1, 0, none⟩), .pointer (some ⟨w3.heap.size + 1 + 1, 0, none⟩)] 31)) w3.heap.size (w3.heap.size + 1 + 1 + 1) p0 p1 (w3.heap.size + 1) (w3.heap.size + 1 + 1) := by
  obtain ⟨F0, a1, a2, a3⟩ := h0
  obtain ⟨F1, b1, b2, b3⟩ := h1
  obtain ⟨W, hW⟩ : ∃ W, W = ((((w3.alloc (.cells #[.pointer (some ⟨p0, 0, none⟩), .pointer (some ⟨p1, 0, none⟩)] 26)).alloc (.cells #[.slice none 0 0] 30)).alloc (.cells #[.slice none 0 0] 30)).alloc (.cells #[.pointer (some ⟨w3.heap.size + 1, 0, none⟩), .pointer (some ⟨w3.heap.size + 1 + 1, 0, none⟩)] 31)) := ⟨_, rfl⟩
  obtain ⟨hsz, e0, e1, e2, e3, hbw⟩ := alloc4 w3 (.cells #[.pointer (some ⟨p0, 0, none⟩), .pointer (some ⟨p1, 0, none⟩)] 26) (.cells #[.slice none 0 0] 30) (.cells #[.slice none 0 0] 30) (.cells #[.pointer (some ⟨w3.heap.size + 1, 0, none⟩), .pointer (some ⟨w3.heap.size + 1 + 1, 0, none⟩)] 31)
  rw [← hW] at hsz e0 e1 e2 e3 hbw
  rw [← hW]
  have g0 : Good [] [] := ⟨fun x => Iff.rfl, rfl, Nat.zero_le _, List.nodup_nil⟩
  have s0 := hb.size
  have s1 := a3.size
  have s2 := b3.size
  have f0 : ∀ k, F0 k → k < w2.heap.size := fun k hk => a1.lt k hk
  have f1 : ∀ k, F1 k → k < w3.heap.size := fun k hk => b1.lt k hk
  refine ⟨⟨F0, fun k => k = w3.heap.size + 1, F1, fun k => k = w3.heap.size + 1 + 1, [], [], [], [], ⟨(a1.below b3).below hbw, ⟨fun k hk => by omega, rfl, _, e1, fun k hk => by simp [Value.ownBlock] at hk, World.ownsRow_nil _ _ _ _⟩, fun k hk hk' => by have := f0 k hk; omega, fun k hk => by have := a2 k hk; omega, fun k hk => by omega, g0⟩, ⟨b1.below hbw, ⟨fun k hk => by omega, rfl, _, e2, fun k hk => by simp [Value.ownBlock] at hk, World.ownsRow_nil _ _ _ _⟩, fun k hk hk' => by have := f1 k hk; omega, fun k hk => by have := b2 k hk; omega, fun k hk => by omega, g0⟩, fun k hk hk' => ?_, fun k hk => ?_⟩, e0, e3, (hb.trans (a3.mono s0)).trans ((b3.mono (by omega)).trans (hbw.mono (by omega)))⟩
  · rcases hk with hk | hk <;> rcases hk' with hk' | hk'
    · have := f0 k hk; have := b2 k hk'; omega
    · have := f0 k hk; omega
    · have := f1 k hk'; omega
    · omega
  · rcases hk with hk | hk | hk | hk
    · have := f0 k hk; omega
    · omega
    · have := f1 k hk; omega
    · omega
theorem and_one (wh : Int) : ∃ k : Nat, (k = 0 ∨ k = 1) ∧ ∀ W, (binOp .and 3 (.int .i64 wh) (.int .i64 1)).run Tryd.prog W = .ok (.int .i64 (k : Int)) W := by
  refine ⟨(BitVec.ofInt 64 wh).toNat % 2, by omega, fun W => ?_⟩
  have e : (BitVec.ofInt 64 wh &&& BitVec.ofInt 64 1).toNat = (BitVec.ofInt 64 wh).toNat % 2 := by
    rw [BitVec.toNat_and]
    have : (BitVec.ofInt 64 1).toNat = 1 := by decide
    rw [this, Nat.and_one_is_mod]
  have hw : IntKind.i64.wrap (((BitVec.ofInt 64 wh).toNat % 2 : Nat) : Int) = (((BitVec.ofInt 64 wh).toNat % 2 : Nat) : Int) := by rw [IntKind.wrap_i64]; omega
  simp only [binOp, ne_eq, not_true_eq_false, if_false]
  show (Result.ok (Value.int .i64 (IntKind.i64.wrap ((BitVec.ofInt 64 wh &&& BitVec.ofInt 64 1).toNat : Int))) W : Result _) = _
  rw [e, hw]
end Go.Proofs.YtjlmkmhggkcbhaaDoor
