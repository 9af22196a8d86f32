import Derived.Test.YtcbimclgodkflaaDoorWgr
import Derived.Test.YtcbimclgodkflaaDoorWrow
/- What a law keeps beside a log: its list of rows, and the marks of its ranges. -/
namespace Go.Proofs.YtcbimclgodkflaaDoor
open Go.ChangeShapes Go.WideShapes Go.ChangeAt Go.RowKit Go.Shelf
set_option maxRecDepth 100000

/-- Marks of ranges over functions, the newest first; each lies below b and outside Z. -/
inductive Marks (W : World) (Z : Nat → Prop) : Nat → List Deferred → Prop
  | nil (b : Nat) : Marks W Z b []
  | cons {b D : Nat} {ds : List Deferred} : D < b → W.heap[D]? = some (.deferred (some [])) → ¬ Z D → Marks W Z D ds → Marks W Z b ({ target := .collected D, args := #[] } :: ds)
theorem Marks.wide {W : World} {Z : Nat → Prop} {b b' : Nat} {ds : List Deferred} (h : Marks W Z b ds) (hb : b ≤ b') : Marks W Z b' ds := by
  cases h with
  | nil => exact .nil _
  | cons h1 h2 h3 h4 => exact .cons (by omega) h2 h3 h4
theorem Marks.late {W W' : World} {Z Z' : Nat → Prop} {b : Nat} {ds : List Deferred} (h : Marks W Z b ds) (hk : ∀ D, D < b → ¬ Z D → W.heap[D]? = some (.deferred (some [])) → W'.heap[D]? = some (.deferred (some [])) ∧ ¬ Z' D) : Marks W' Z' b ds := by
  induction h with
  | nil b => exact .nil b
  | @cons b D ds h1 h2 h3 h4 ih => exact .cons h1 (hk D h1 h3 h2).1 (hk D h1 h3 h2).2 (ih (fun D' hD' => hk D' (by omega)))
/-- Marks are all taken on the way out. -/
theorem marks_leave {F : Fence} {n : Nat} {P : Program} {fn : Func} {tmps : Array Value} {R : Ending → World → Prop} {Z : Nat → Prop} : ∀ (ds : List Deferred) (b : Nat) (W : World), Marks W Z b ds → (∀ W', Kept (fun k => ¬ Z k ∧ ∃ o, W.heap[k]? = some o ∧ o.isCells = false) W W' → LeavesIn F n P fn tmps R [] .returning W') → LeavesInM F n P fn tmps R ds .returning W := by
  intro ds
  induction ds with
  | nil => intro b W _ h; exact h W (Kept.refl _ _)
  | cons d ds ih =>
    intro b W hm h
    cases hm with
    | @cons _ D _ h1 h2 h3 h4 =>
      refine ⟨by simp, .inl ⟨D, _, rfl, run_takeDeferred h2, ?_⟩⟩
      have hkp : Kept (fun k => ¬ Z k ∧ ∃ o, W.heap[k]? = some o ∧ o.isCells = false) W (W.putObj D (.deferred none)) := Kept.grown (grownBy_putObj' W D (.deferred none)) (fun k e => by cases e; exact ⟨h3, _, h2, rfl⟩)
      refine ih D _ (h4.late (fun D' hD' hz h => ⟨(World.putObj_heap_other (by omega)).trans h, hz⟩)) (fun W' hW' => h W' (hkp.trans hW' (fun i hi => .inl ⟨hi.1, ?_⟩)))
      obtain ⟨_, o, ho, hc⟩ := hi
      by_cases e : i = D
      · subst e; exact ⟨_, h2, rfl⟩
      · exact ⟨o, (World.putObj_heap_other e).symm.trans ho, hc⟩
theorem heap_set1 {w : World} {p : Nat} {u v : Value} {t : TypeId} (h : w.heap[p]? = some (.cells #[u] t (0, 0))) : (w.setCell ⟨p, 0, none⟩ v).heap[p]? = some (.cells #[v] t (0, 0)) := by
  simp [World.setCell, Array.getElem?_modify, h]
def sv (bs : List Int) : Value := .string (strOfNums bs)
/-- What the law keeps: its answer, its list of rows, its marks; Z: all that is the log's or older. -/
structure OM (wr : World) (Z : Nat → Prop) (B2 B6 : Nat) (rv : Value) (rows : List (List Int)) (ds : List Deferred) : Prop where
  b2 : wr.heap[B2]? = some (.cells #[.bool false] 4 (0, 0))
  b6 : wr.heap[B6]? = some (.cells #[rv] 38 (0, 0))
  own : wr.ownsRow 0 9 1 rv rows.length (rows.map sv)
  ne : B2 ≠ B6
  r2 : rv.ownBlock ≠ some B2
  r6 : rv.ownBlock ≠ some B6
  z2 : ¬ Z B2
  z6 : ¬ Z B6
  zr : ∀ k, rv.ownBlock = some k → ¬ Z k
  ms : Marks wr Z wr.heap.size ds
theorem own_block {w : World} {base e n : Nat} {v : Value} {xs : List Value} (h : w.ownsRow base e 1 v n xs) (k : Nat) (hk : v.ownBlock = some k) : k < w.heap.size ∧ ∃ o, w.heap[k]? = some o ∧ o.isCells = true := by
  rcases h.2 with ⟨rfl, _⟩ | ⟨g, cap, cur, rfl, hb, hg, _⟩
  · simp [Value.ownBlock] at hk
  · simp [Value.ownBlock] at hk
    subst hk
    exact ⟨lt_of_heap hg, _, hg, rfl⟩
/-- Another's doings leave it alone. -/
theorem OM.kept {wr w' : World} {Z Z' : Nat → Prop} {B2 B6 : Nat} {rv : Value} {rows : List (List Int)} {ds : List Deferred} (h : OM wr Z B2 B6 rv rows ds) (hk : Kept Z wr w') (hz : ∀ j, Z' j → Z j ∨ wr.heap.size ≤ j) : OM w' Z' B2 B6 rv rows ds := by
  have l2 := lt_of_heap h.b2
  have l6 := lt_of_heap h.b6
  have no : ∀ j, j < wr.heap.size → ¬ Z j → ¬ Z' j := fun j hj hn h' => by
    rcases hz j h' with a | a
    · exact hn a
    · omega
  exact ⟨(hk.block B2 l2 h.z2).trans h.b2, (hk.block B6 l6 h.z6).trans h.b6, own_keptV h.own hk h.zr, h.ne, h.r2, h.r6, no _ l2 h.z2, no _ l6 h.z6, fun k e => no k (own_block h.own k e).1 (h.zr k e), (h.ms.late (fun D hD hn hd => ⟨(hk.block D hD hn).trans hd, no D hD hn⟩)).wide hk.size⟩
/-- A row more. -/
theorem OM.push {wr w2 : World} {Z : Nat → Prop} {B2 B6 : Nat} {rv v' : Value} {rows rows' : List (List Int)} {ds : List Deferred} (h : OM wr Z B2 B6 rv rows ds) (hz : ∀ j, Z j → j < wr.heap.size) (hown : w2.ownsRow 0 9 1 v' rows'.length (rows'.map sv)) (hk : Kept (fun k => rv.ownBlock = some k) wr w2) (hat : v'.ownBlock = rv.ownBlock ∨ ∃ k, v'.ownBlock = some k ∧ wr.heap.size ≤ k) :
    OM (w2.setCell ⟨B6, 0, none⟩ v') Z B2 B6 v' rows' ds ∧ Kept (fun k => rv.ownBlock = some k ∨ k = B6) wr (w2.setCell ⟨B6, 0, none⟩ v') := by
  have l2 := lt_of_heap h.b2
  have l6 := lt_of_heap h.b6
  have e2 : ∀ B, B < wr.heap.size → rv.ownBlock ≠ some B → v'.ownBlock ≠ some B := fun B hB hn e => by
    rcases hat with a | ⟨k, a, hl⟩
    · exact hn (a.symm.trans e)
    · rw [a] at e; cases e; omega
  have k2 : Kept (fun k => k = B6) w2 (w2.setCell ⟨B6, 0, none⟩ v') := Kept.setCell (F := fun k => k = B6) w2 (p := ⟨B6, 0, none⟩) rfl v'
  have k3 : Kept (fun k => rv.ownBlock = some k ∨ k = B6) wr (w2.setCell ⟨B6, 0, none⟩ v') := (hk.mono (fun _ h => .inl h)).trans k2 (fun _ h => .inl (.inr h))
  refine ⟨⟨(k3.block B2 l2 (fun e => by rcases e with a | a; exact h.r2 a; exact h.ne a)).trans h.b2, ?_, own_keptV hown k2 (fun k e e' => by subst e'; exact e2 _ l6 h.r6 e), h.ne, e2 _ l2 h.r2, e2 _ l6 h.r6, h.z2, h.z6, fun k e hk' => ?_, ?_⟩, k3⟩
  · exact heap_set1 ((hk.block B6 l6 h.r6).trans h.b6)
  · rcases hat with a | ⟨j, a, hl⟩
    · exact h.zr k (a.symm.trans e) hk'
    · rw [a] at e; cases e; have := hz _ hk'; omega
  · refine (h.ms.late (fun D hD hn hd => ⟨(k3.block D hD (fun e => ?_)).trans hd, hn⟩)).wide k3.size
    rcases e with a | a
    · obtain ⟨_, o, ho, hc⟩ := own_block h.own D a
      rw [hd] at ho; cases ho; simp [Obj.isCells] at hc
    · subst a; rw [h.b6] at hd; cases hd
/-- A mark more. -/
theorem OM.mark {wr : World} {Z : Nat → Prop} {B2 B6 D : Nat} {rv : Value} {rows : List (List Int)} {ds : List Deferred} (h : OM wr Z B2 B6 rv rows ds) (hm : Marks wr Z D ds) (hD : wr.heap[D]? = some (.deferred (some []))) (hz : ¬ Z D) : OM wr Z B2 B6 rv rows ({ target := .collected D, args := #[] } :: ds) :=
  ⟨h.b2, h.b6, h.own, h.ne, h.r2, h.r6, h.z2, h.z6, h.zr, .cons (lt_of_heap hD) hD hz hm⟩
/-- The log's state under what others do. -/
theorem LS.kept {w wr w' : World} {l p n s E G I k : Nat} {F FR : Nat → Prop} {fr nx : Nat} {f : Int → List Int} {c : List (Int × List Int)} {nw : Int} {v : Value} {ts : List Rp} (h : LS w wr l p n s E G I k F FR fr nx f c nw v ts) {T : Nat → Prop} (hk : Kept T wr w') (hn : ∀ j, T j → ¬ (j < w.heap.size ∨ F j ∨ FR j ∨ j = l)) : LS w w' l p n s E G I k F FR fr nx f c nw v ts :=
  ⟨h.dk.kept hk (fun j hj ht => hn j ht (.inr (.inl hj))), (hk.block l (lt_of_heap h.lg) (fun ht => hn l ht (.inr (.inr (.inr rfl))))).trans h.lg, h.rc.kept hk (fun j hj ht => hn j ht (.inr (.inr (.inl hj)))), h.bd, h.tl, h.tp, h.lF, h.lR, h.RF, h.di, h.cl, h.nw0, h.nw1,
    ⟨hk.os.trans h.bl.os, hk.tape.trans h.bl.tape, hk.output.trans h.bl.output, Nat.le_trans h.bl.size hk.size, fun j hj => (hk.block j (Nat.lt_of_lt_of_le hj h.bl.size) (fun ht => hn j ht (.inl hj))).trans (h.bl.block j hj)⟩, h.ge⟩
end Go.Proofs.YtcbimclgodkflaaDoor

/- How the law WalRows leaves; a loop whose deferred calls grow. -/
namespace Go.Proofs.YtcbimclgodkflaaDoor
open Go.ChangeShapes Go.WideShapes Go.ChangeAt Go.RowKit Go.Shelf
set_option maxRecDepth 100000

theorem wp_loop_k {P : Program} {c : Code} {Q : Exit → Act → World → Prop} {a : Act} {w : World} (I : Act → World → Prop) (μ : Act → World → Nat) (h₀ : I a w)
    (round : ∀ a w, I a w → ∀ K : Act → World → Prop, Hid (∀ a' w', I a' w' ∧ μ a' w' < μ a w → K a' w') → c.wp P (Exit.then K Q) a w) : (Code.loop c).wp P Q a w := wp_loop I μ h₀ (fun a w h => round a w h _ (mkHid (fun _ _ q => q)))
theorem rows_leave {w W V : World} {Z : Nat → Prop} {B6 : Nat} {rv : Value} {rows : List (List Int)} {ds : List Deferred} {tmps : Array Value} (h : OM W Z w.heap.size B6 rv rows ds) (hbl : Below w.heap.size w W) (hZ : ∀ k, k < w.heap.size → Z k) (k1 : Kept (fun k => k = w.heap.size) W V) (hc0 : V.heap[w.heap.size]? = some (.cells #[.bool true] 4 (0, 0))) (ht : tmps[2]?.getD undef = .pointer (some ⟨w.heap.size, 0, none⟩)) :
    bodyPostM Fence.wide 5 Tryd.prog Tryd.f4 (fun e w' => e = .returned (.bool true) ∧ Below w.heap.size w w') .ret ⟨tmps, ds⟩ V := by
  show LeavesInM Fence.wide 5 Tryd.prog Tryd.f4 tmps _ ds .returning _
  have l2 := lt_of_heap h.b2
  have hb1 : Below w.heap.size w V := ⟨k1.os.trans hbl.os, k1.tape.trans hbl.tape, k1.output.trans hbl.output, Nat.le_trans hbl.size k1.size, fun j hj => (k1.block j (Nat.lt_of_lt_of_le hj hbl.size) (by omega)).trans (hbl.block j hj)⟩
  have hm := h.ms.late (W' := V) (Z' := Z) (fun D hD hn hd => ⟨(k1.block D hD (fun e => by rw [e, h.b2] at hd; cases hd)).trans hd, hn⟩)
  refine marks_leave ds _ _ hm (fun W' hk => ?_)
  have hc : W'.cell? ⟨w.heap.size, 0, none⟩ = some (.bool true) := cell_of_block (i := 0) ((hk.block _ (lt_of_heap hc0) (fun e => by obtain ⟨_, o, ho, hf⟩ := e; rw [hc0] at ho; cases ho; simp [Obj.isCells] at hf)).trans hc0) rfl
  refine ⟨.bool true, ?_, rfl, ⟨hk.os.trans hb1.os, hk.tape.trans hb1.tape, hk.output.trans hb1.output, Nat.le_trans hb1.size hk.size, fun j hj => (hk.block j (Nat.lt_of_lt_of_le hj hb1.size) (fun e => e.1 (hZ j hj))).trans (hb1.block j hj)⟩⟩
  have hres : Tryd.f4.results = #[.cell 2 4] := rfl
  simp only [results, hres]
  simp [ht, asAddr, Result.andThen, loadVar, go_sem, hc]
theorem set_true (W : World) (b : Nat) : Kept (fun k => k = b) W (W.setCell ⟨b, 0, none⟩ (.bool true)) := Kept.setCell (F := fun k => k = b) W (p := ⟨b, 0, none⟩) rfl _
end Go.Proofs.YtcbimclgodkflaaDoor

/- The same, the round's parts told together; what Records hands out is calm. -/
namespace Go.Proofs.YtcbimclgodkflaaDoor
open Go.ChangeShapes Go.WideShapes Go.ChangeAt Go.RowKit Go.Shelf
set_option maxRecDepth 100000

theorem range_sq2 {n m : Nat} {P : Program} {g : Operand} {ps : Array Tmp} {assign body : Code} {Q : Exit → Act → World → Prop} {a : Act} {w : World} (h1 : 1 ≤ n) {gf : Nat} {lb : Array Value}
    (hg : a.eval g = .func (.func gf) #[] lb) (eg : ∀ args w, (callFunc gf args).run P w = .ok (.enter gf args) w) {Enc : Nat → Array Value → World → Prop} {len : Nat} {G : Nat → Prop} (hseq : RowSq (n - 1) m P gf lb Enc len G w)
    (hG : ∀ k, w.heap.size ≤ k → G k) (hps : ∀ i vs W, Enc i vs W → vs.size = ps.size) (hE : ∀ i vs, Calm w.heap.size (Enc i vs)) (I : Nat → World → Prop) (hI : ∀ i, Calm w.heap.size (I i)) (hIs : ∀ i W1 W2, I i W1 → Below W1.heap.size W1 W2 → I i W2)
    (h0 : ∀ W, Below w.heap.size w W → I 0 W)
    (hround : ∀ (l i : Nat) (vs : Array Value) (W : World), i < len → Enc i vs W → assign.wpIn (Fence.wide.inRound l) m P (Exit.then (fun a' W' => W' = W ∧ ∀ W2, I i W2 → Kept G w W2 → Enc i vs W2 → body.wpIn (Fence.wide.inRound l) m P (fun e _ W3 => KeepsFrom w.heap.size W2 W3 ∧ e = .normal ∧ Kept G W2 W3 ∧ I (i + 1) W3) a' W2) (fun _ _ _ => False)) { tmps := (ps.zip vs).foldl (fun t (p, v) => t.setIfInBounds p v) a.tmps, defers := [] } W)
    (hdone : ∀ (D : Nat) (W : World), w.heap.size ≤ D → I len W → W.heap[D]? = some (.deferred (some [])) → Q .normal { a with defers := { target := .collected D, args := #[] } :: a.defers } W) :
    (Code.rangeFunc g ps assign body).wpIn Fence.wide n P Q a w := by
  refine wpIn_rangeFunc fun fn hfn => ?_
  rw [show Fence.wide.round = none from rfl]
  let rec0 (st : LoopState) (pe : Option Code) : Loop := { state := st, pending := pe, fn, tmps := a.tmps, params := ps, assign, body, defers := w.heap.size }
  obtain ⟨W1, hW1⟩ : ∃ W1, W1 = (w.alloc (.deferred (some []))).alloc (.loop (rec0 .ready none)) := ⟨_, rfl⟩
  have hL1 : W1.heap[w.heap.size + 1]? = some (.loop (rec0 .ready none)) := by
    rw [hW1, show w.heap.size + 1 = (w.alloc (.deferred (some []))).heap.size by simp]; exact World.alloc_heap_new _ _
  have hD1 : W1.heap[w.heap.size]? = some (.deferred (some [])) := by
    rw [hW1, Below.heap_alloc _ _ _ (by simp)]; exact World.alloc_heap_new w _
  have hB1 : Below w.heap.size w W1 := by rw [hW1]; exact ((Below.refl _ w).alloc (Nat.le_refl _) _).alloc (by simp) _
  refine ⟨w.heap.size + 1, [{ target := .collected w.heap.size, args := #[] }], W1, { target := .fn (.func gf) lb, args := #[.func (.yield (w.heap.size + 1)) #[] #[]] }, W1, gf, #[.func (.yield (w.heap.size + 1)) #[] #[]] ++ lb, W1, by rw [hW1]; exact run_enterLoop_outer _ _ _ _ _, ?_, ?_, ?_, fun _ => h1, ?_⟩
  · simp only [resolve, hg]
    simp [go_sem]
  · intro f' hf'
    trivial
  · simp [invoke, go_sem, eg]
  have put : ∀ {V : World} {o : Obj} (o' : Obj), V.heap[w.heap.size + 1]? = some o → (V.putObj (w.heap.size + 1) o').heap[w.heap.size + 1]? = some o' := fun o' h => World.putObj_heap_same (Array.getElem?_eq_some_iff.1 h).1
  have putD : ∀ {V : World} (o' : Obj), V.heap[w.heap.size]? = some (.deferred (some [])) → (V.putObj (w.heap.size + 1) o').heap[w.heap.size]? = some (.deferred (some [])) := fun o' h => (World.putObj_heap_other (by omega)).trans h
  have putK : ∀ (V : World) (o' : Obj), Kept G V (V.putObj (w.heap.size + 1) o') := fun V o' => Kept.grown (grownBy_putObj' V (w.heap.size + 1) o') (fun k e => by cases e; exact hG _ (by omega))
  refine (hseq (w.heap.size + 1) (fun i W => I i W ∧ W.heap[w.heap.size + 1]? = some (.loop (rec0 .ready none)) ∧ W.heap[w.heap.size]? = some (.deferred (some [])))
    W1 ((kept_of_below hB1).mono (fun k hk => hG k hk)) ?_ ?_ ⟨h0 W1 hB1, hL1, hD1⟩).mono ?_
  · rintro i V V' ⟨hi, hl, hd⟩ hb
    exact ⟨hIs i V V' hi hb, (hb.block _ (Array.getElem?_eq_some_iff.1 hl).1).trans hl, (hb.block _ (Array.getElem?_eq_some_iff.1 hd).1).trans hd⟩
  · rintro i vs W hi ⟨hiW, hl, hd⟩ hk hen
    refine ⟨fn, _, assign, body, run_yield (P := P) (args := vs) hl (hps i vs W hen), roundIn_of_wpIn hfn (wpIn_mono (hround _ i vs W hi hen) (fun e a' W' hq => ?_))⟩
    cases e with
    | exit id => exact hq.elim
    | goto id => exact hq.elim
    | ret => exact hq.elim
    | panic ch => exact hq.elim
    | outgrown => exact hq.elim
    | normal =>
    obtain ⟨rfl, hb⟩ := hq
    refine ⟨_, run_beginRound hl rfl, ?_⟩
    refine wpIn_mono (hb _ (hI i _ _ _ _ hiW (by omega) hl rfl) (hk.trans (putK _ _) (fun _ h => .inl h)) (hE i vs _ _ _ _ hen (by omega) hl rfl)) ?_
    have hl2 := put (.loop { rec0 .ready none with state := .busy }) hl
    have hd2 := putD (.loop { rec0 .ready none with state := .busy }) hd
    rintro e a3 W3 ⟨hk3, rfl, hb3, hi3⟩
    have hl3 := hk3.same _ _ (by omega) hl2 rfl
    have hd3 := hk3.same _ _ (Nat.le_refl _) hd2 rfl
    exact ⟨_, _, run_endRound (P := P) none hl3, rfl, ⟨hI _ _ _ _ _ hi3 (by omega) hl3 rfl, put _ hl3, putD _ hd3⟩, ((putK _ _).trans hb3 (fun _ h => .inl h)).trans (putK _ _) (fun _ h => .inl h)⟩
  · rintro e W2 ⟨⟨v, rfl⟩, hi, hl, hd⟩
    exact ⟨_, _, run_endLoop (P := P) hl (by simp [rec0]), hdone _ _ (Nat.le_refl _) (hI _ _ _ _ _ hi (by omega) hl rfl) (putD _ hd)⟩
theorem Rd.calm {W : World} {v : Value} {bs : List Int} {l : Nat} {o o' : Obj} (h : Rd W v bs) (hl : W.heap[l]? = some o) (hc : o.isCells = false) : Rd (W.putObj l o') v bs := by
  obtain ⟨hB, a, cap, rfl, h1, h2, h3⟩ := h
  refine ⟨hB, a, cap, rfl, h1, h2, fun hp => ?_⟩
  obtain ⟨b, off, rfl, hb, hcell⟩ := h3 hp
  have hne : b ≠ l := fun e => by
    subst e
    have := hcell 0 hp
    simp only [World.cell?, hl] at this
    cases o <;> simp [Obj.isCells] at hc this
  have hk : Kept (fun k => k = l) W (W.putObj l o') := Kept.grown (grownBy_putObj' W l o') (fun k e => by cases e; rfl)
  exact ⟨b, off, rfl, Nat.lt_of_lt_of_le hb hk.size, fun k hk' => hk.cell (hcell k hk') hne⟩
theorem EncR.calm (ts : List Rp) (B i : Nat) (vs : Array Value) : Calm B (EncR ts i vs) := fun W l o o' h hl ho hc => by
  obtain ⟨t, a, h1, h2, h3⟩ := h
  exact ⟨t, a, h1, h2, h3.calm ho hc⟩
/-- Others' doings leave the law's memory alone. -/
theorem OM.apart {wr w' : World} {Z T : Nat → Prop} {B2 B6 : Nat} {rv : Value} {rows : List (List Int)} {ds : List Deferred} (h : OM wr Z B2 B6 rv rows ds) (hk : Kept T wr w') (h2 : ¬ T B2) (h6 : ¬ T B6) (hr : ∀ k, rv.ownBlock = some k → ¬ T k) (hm : ∀ D, D < wr.heap.size → wr.heap[D]? = some (.deferred (some [])) → ¬ T D) : OM w' Z B2 B6 rv rows ds :=
  ⟨(hk.block B2 (lt_of_heap h.b2) h2).trans h.b2, (hk.block B6 (lt_of_heap h.b6) h6).trans h.b6, own_keptV h.own hk hr, h.ne, h.r2, h.r6, h.z2, h.z6, h.zr, (h.ms.late (fun D hD hn hd => ⟨(hk.block D hD (hm D hD hd)).trans hd, hn⟩)).wide hk.size⟩
end Go.Proofs.YtcbimclgodkflaaDoor

