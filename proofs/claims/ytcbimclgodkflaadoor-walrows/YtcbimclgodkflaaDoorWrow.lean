/- A range over a function that hands out a list's values, one a round, each in new memory; Records. -/
import Derived.Test.YtcbimclgodkflaaDoorWop1
import Derived.RegionIn
namespace Go.Proofs.YtcbimclgodkflaaDoor
open Go.ChangeShapes Go.WideShapes Go.ChangeAt Go.RowKit Go.Shelf
set_option maxRecDepth 100000

/-- What book-keeping leaves as it is. -/
def Calm (B : Nat) (I : World → Prop) : Prop := ∀ W l o o', I W → B ≤ l → W.heap[l]? = some o → o.isCells = false → I (W.putObj l o')
/-- What is asked of such a function: it hands out so many values, in order; each round goes on. -/
def RowSq (n m : Nat) (P : Program) (gf : Nat) (lb : Array Value) (Enc : Nat → Array Value → World → Prop) (len : Nat) (G : Nat → Prop) (w0 : World) : Prop :=
  ∀ (l : Nat) (J : Nat → World → Prop) (W : World), Kept G w0 W → (∀ i W1 W2, J i W1 → Below W1.heap.size W1 W2 → J i W2) →
    (∀ i vs W1, i < len → J i W1 → Kept G w0 W1 → Enc i vs W1 → YieldAt Fence.wide m P l vs W1 fun e W' => e = .returned (.bool true) ∧ J (i + 1) W' ∧ Kept G W1 W') →
    J 0 W → CallsIn Fence.wide n P gf (#[.func (.yield l) #[] #[]] ++ lb) W fun e W' => (∃ v, e = .returned v) ∧ J len W'
theorem range_sq {n m : Nat} {P : Program} {g : Operand} {ps : Array Tmp} {assign body : Code} {Q : Exit → Act → World → Prop} {a : Act} {w : World} (h1 : 1 ≤ n) {gf : Nat} {lb : Array Value}
    (hg : a.eval g = .func (.func gf) #[] lb) (eg : ∀ args w, (callFunc gf args).run P w = .ok (.enter gf args) w) {Enc : Nat → Array Value → World → Prop} {len : Nat} {G : Nat → Prop} (hseq : RowSq (n - 1) m P gf lb Enc len G w)
    (hG : ∀ k, w.heap.size ≤ k → G k) (hps : ∀ i vs W, Enc i vs W → vs.size = ps.size) (hE : ∀ i vs, Calm w.heap.size (Enc i vs)) (I : Nat → World → Prop) (hI : ∀ i, Calm w.heap.size (I i)) (hIs : ∀ i W1 W2, I i W1 → Below W1.heap.size W1 W2 → I i W2)
    (h0 : ∀ W, Below w.heap.size w W → I 0 W) (a₁ : Nat → Array Value → Act)
    (hassign : ∀ (l i : Nat) (vs : Array Value) (W : World) (K : Act → World → Prop), Enc i vs W → K (a₁ i vs) W → assign.wpIn (Fence.wide.inRound l) m P (Exit.then K (fun _ _ _ => False)) { tmps := (ps.zip vs).foldl (fun t (p, v) => t.setIfInBounds p v) a.tmps, defers := [] } W)
    (hbody : ∀ (l i : Nat) (vs : Array Value) (W : World), i < len → I i W → Kept G w W → Enc i vs W → body.wpIn (Fence.wide.inRound l) m P (fun e _ W' => KeepsFrom w.heap.size W W' ∧ e = .normal ∧ Kept G W W' ∧ I (i + 1) W') (a₁ i vs) W)
    (hdone : ∀ (D : Nat) (W : World), w.heap.size ≤ D → I len W → W.heap[D]? = some (.deferred (some [])) → Q .normal { a with defers := { target := .collected D, args := #[] } :: a.defers } W) :
    (Code.rangeFunc g ps assign body).wpIn Fence.wide n P Q a w := by
  refine wpIn_rangeFunc fun fn hfn => ?_
  rw [show Fence.wide.round = none from rfl]
  let rec0 (st : LoopState) (pe : Option Code) : Loop := { state := st, pending := pe, fn, tmps := a.tmps, params := ps, assign, body, defers := w.heap.size }
  obtain ⟨W1, hW1⟩ : ∃ W1, W1 = (w.alloc (.deferred (some []))).alloc (.loop (rec0 .ready none)) := ⟨_, rfl⟩
  have hL1 : W1.heap[w.heap.size + 1]? = some (.loop (rec0 .ready none)) := by
    rw [hW1, show w.heap.size + 1 = (w.alloc (.deferred (some []))).heap.size by simp]; exact World.alloc_heap_new _ _
  have hD1 : W1.heap[w.heap.size]? = some (.deferred (some [])) := by
    rw [hW1, Below.heap_alloc _ _ _ (by simp)]; exact World.alloc_heap_new w _
  have hB1 : Below w.heap.size w W1 := by rw [hW1]; exact ((Below.refl _ w).alloc (Nat.le_refl _) _).alloc (by simp) _
  refine ⟨w.heap.size + 1, [{ target := .collected w.heap.size, args := #[] }], W1, { target := .fn (.func gf) lb, args := #[.func (.yield (w.heap.size + 1)) #[] #[]] }, W1, gf, #[.func (.yield (w.heap.size + 1)) #[] #[]] ++ lb, W1, by rw [hW1]; exact run_enterLoop_outer _ _ _ _ _, ?_, ?_, ?_, fun _ => h1, ?_⟩
  · simp only [resolve, hg]
    simp [go_sem]
  · intro f' hf'
    trivial
  · simp [invoke, go_sem, eg]
  have put : ∀ {V : World} {o : Obj} (o' : Obj), V.heap[w.heap.size + 1]? = some o → (V.putObj (w.heap.size + 1) o').heap[w.heap.size + 1]? = some o' := fun o' h => World.putObj_heap_same (Array.getElem?_eq_some_iff.1 h).1
  have putD : ∀ {V : World} (o' : Obj), V.heap[w.heap.size]? = some (.deferred (some [])) → (V.putObj (w.heap.size + 1) o').heap[w.heap.size]? = some (.deferred (some [])) := fun o' h => (World.putObj_heap_other (by omega)).trans h
  have putK : ∀ (V : World) (o' : Obj), Kept G V (V.putObj (w.heap.size + 1) o') := fun V o' => Kept.grown (grownBy_putObj' V (w.heap.size + 1) o') (fun k e => by cases e; exact hG _ (by omega))
  refine (hseq (w.heap.size + 1) (fun i W => I i W ∧ W.heap[w.heap.size + 1]? = some (.loop (rec0 .ready none)) ∧ W.heap[w.heap.size]? = some (.deferred (some [])))
    W1 ((kept_of_below hB1).mono (fun k hk => hG k hk)) ?_ ?_ ⟨h0 W1 hB1, hL1, hD1⟩).mono ?_
  · rintro i V V' ⟨hi, hl, hd⟩ hb
    exact ⟨hIs i V V' hi hb, (hb.block _ (Array.getElem?_eq_some_iff.1 hl).1).trans hl, (hb.block _ (Array.getElem?_eq_some_iff.1 hd).1).trans hd⟩
  · rintro i vs W hi ⟨hiW, hl, hd⟩ hk hen
    refine ⟨fn, _, assign, body, run_yield (P := P) (args := vs) hl (hps i vs W hen), roundIn_of_wpIn hfn (hassign _ i vs W _ hen ⟨_, run_beginRound hl rfl, ?_⟩)⟩
    refine wpIn_mono (hbody _ i vs _ hi (hI i W _ _ _ hiW (by omega) hl rfl) (hk.trans (putK _ _) (fun _ h => .inl h)) (hE i vs W _ _ _ hen (by omega) hl rfl)) ?_
    have hl2 := put (.loop { rec0 .ready none with state := .busy }) hl
    have hd2 := putD (.loop { rec0 .ready none with state := .busy }) hd
    rintro e a3 W3 ⟨hk3, rfl, hb3, hi3⟩
    have hl3 := hk3.same _ _ (by omega) hl2 rfl
    have hd3 := hk3.same _ _ (Nat.le_refl _) hd2 rfl
    exact ⟨_, _, run_endRound (P := P) none hl3, rfl, ⟨hI _ _ _ _ _ hi3 (by omega) hl3 rfl, put _ hl3, putD _ hd3⟩, ((putK _ _).trans hb3 (fun _ h => .inl h)).trans (putK _ _) (fun _ h => .inl h)⟩
  · rintro e W2 ⟨⟨v, rfl⟩, hi, hl, hd⟩
    exact ⟨_, _, run_endLoop (P := P) hl (by simp [rec0]), hdone _ _ (Nat.le_refl _) (hI _ _ _ _ _ hi (by omega) hl rfl) (putD _ hd)⟩
/-- What a round is handed: a record's number and its data, in new memory. -/
def EncR (ts : List Rp) (i : Nat) (vs : Array Value) (W : World) : Prop := ∃ (t : Rp) (a : Option Addr), ts[i]? = some t ∧ vs = #[.int .i64 (t.1.index : Int), .slice a t.1.data.length t.1.data.length] ∧ Rd W (.slice a t.1.data.length t.1.data.length) t.1.data
set_option maxHeartbeats 6400000 in
theorem records_is (w : World) (l p fr en nx ep : Nat) (a : Option Addr) (n cap : Nat) (h : Lg w l p fr en (.slice a n cap) nx ep) (hc : n ≤ cap) :
    Calls Tryd.prog 23 #[.pointer (some ⟨l, 0, none⟩)] w fun e w' => e = .returned (.func (.func 48) #[] #[.pointer (some ⟨w.heap.size, 0, none⟩)]) ∧ w' = w.alloc (.cells #[.slice a n n] 67) := by
  obtain ⟨l0, l1, l2, l3, l4, l5, _, _, _, _⟩ := h.facts
  clear h
  go_enter Tryd.func23, Tryd.ntmps23
  go_wp2
  go_ret
  exact ⟨rfl, rfl⟩
set_option maxHeartbeats 6400000 in
theorem recs1_in (n : Nat) (hn : 2 ≤ n) (FR G : Nat → Prop) (w : World) (Bs g cap : Nat) (ts : List Rp) (hBs : w.cell? ⟨Bs, 0, none⟩ = some (.slice (some ⟨g, 0, none⟩) ts.length ts.length)) (hR : Recs FR w (.slice (some ⟨g, 0, none⟩) ts.length cap) ts) (hB : ¬ G Bs) (hF : ∀ k, FR k → ¬ G k) (hp : 0 < ts.length) (hl : (ts.length : Int) ≤ 1000000) :
    RowSq n (n - 1) Tryd.prog 48 #[.pointer (some ⟨Bs, 0, none⟩)] (EncR ts) ts.length G w := by
  intro l J W hW hJs hY h0
  refine callsIn_of_wp Tryd.func48 rfl trivial ?_ rfl
  simp only [Tryd.ntmps48, List.size_toArray, List.length_cons, List.length_nil, Nat.reduceAdd, Nat.reduceSub, Array.replicate_succ, Array.replicate_zero, List.push_toArray, List.append_toArray, List.nil_append, List.cons_append]
  have c0 : W.cell? ⟨Bs, 0, none⟩ = some (.slice (some ⟨g, 0, none⟩) ts.length ts.length) := hW.cell hBs hB
  have HY := mkHid hY
  have HJS := mkHid hJs
  have HW := mkHid hW
  have H0 := mkHid h0
  have HR := mkHid hR
  have HF := mkHid hF
  clear hY hJs hW h0 hR hF hBs hB
  gi_wp2
  gi_loopw [7] (fun iv wr => ∃ k : Nat, k ≤ ts.length ∧ iv = .int .i64 (k : Int) ∧ Hid (J k wr) ∧ Hid (Kept G w wr)) (fun iv _ => ts.length - (intOf iv).toNat)
  case atStart => exact ⟨0, Nat.zero_le _, rfl, H0, HW⟩
  case round =>
    obtain ⟨k, hk, rfl, HJ, HK⟩ := hrel
    by_cases hlt : k < ts.length
    · have hlt2 : (k : Int) < ts.length := by omega
      obtain ⟨t, ht⟩ : ∃ t, ts[k]? = some t := ⟨_, List.getElem?_eq_getElem hlt⟩
      have hRw := HR.out.kept HK.out (fun k' h => HF.out k' h)
      obtain ⟨g', cap', e, _, hat⟩ := hRw.at hp
      cases e
      obtain ⟨q0, q1, q2, q3⟩ := hat k t ht
      have HRD := mkHid (hRw.rd t (List.mem_of_getElem? ht))
      have HOK := mkHid (hRw.ok t (List.mem_of_getElem? ht))
      have HT := mkHid ht
      clear hRw hat ht c0
      unfold dv at q3
      gi_wp2
      obtain ⟨W0, hW0⟩ : ∃ W0, W0 = (wr.alloc (Obj.cells #[Value.int IntKind.i64 (t.1.gen : Int), Value.int IntKind.i64 (t.1.epoch : Int), Value.int IntKind.i64 (t.1.index : Int), Value.slice t.2.1 t.1.data.length t.2.2] 92)) := ⟨_, rfl⟩
      have hb0 : Below wr.heap.size wr W0.drew := by rw [hW0]; exact ((Below.refl _ wr).alloc (Nat.le_refl _) _).drew
      have k0 : W0.drew.heap[wr.heap.size]? = some (.cells #[Value.int IntKind.i64 (t.1.gen : Int), Value.int IntKind.i64 (t.1.epoch : Int), Value.int IntKind.i64 (t.1.index : Int), Value.slice t.2.1 t.1.data.length t.2.2] 92 (0, 0)) := by rw [hW0]; exact heap_alloc_new wr _
      have p2 : W0.drew.cell? ⟨wr.heap.size, 2, none⟩ = some (Value.int IntKind.i64 (t.1.index : Int)) := cell_of_block (i := 2) k0 rfl
      have p3 : W0.drew.cell? ⟨wr.heap.size, 3, none⟩ = some (Value.slice t.2.1 t.1.data.length t.2.2) := cell_of_block (i := 3) k0 rfl
      have HB0 := mkHid hb0
      have HK0 := mkHid k0
      have RD0 : Hid (Rd W0.drew (Value.slice t.2.1 t.1.data.length t.2.2) t.1.data) := mkHid (HRD.out.kept (kept_below (fun _ => False) hb0) (fun _ _ h => h))
      rw [← hW0]
      clear hW0 hb0 k0 q0 q1 q2 q3
      refine wpIn_region_any (by kernel_rfl) ?_
      change wpAnyIn _ _ _ _ _ _ _ _ _ (World.drew _)
      refine wpAnyIn_take (i := 0) (v := .func (.yield l) #[] #[]) rfl rfl (by kernel_rfl) (by kernel_rfl) (by kernel_rfl) (fun _ _ _ h => h) ⟨Or.inl ⟨by rfl, by intro w; go_simp⟩, fun _ => rfl⟩ ?_
      simp only [Act.put]
      refine wpAnyIn_take (i := 1) (v := .pointer (some ⟨wr.heap.size, 2, none⟩)) rfl rfl (by kernel_rfl) (by kernel_rfl) (by kernel_rfl) (fun _ _ _ h => h) ⟨Or.inl ⟨by rfl, by intro w; go_simp⟩, fun _ => rfl⟩ ?_
      simp only [Act.put]
      refine wpAnyIn_take (i := 3) (v := .pointer (some ⟨wr.heap.size, 3, none⟩)) rfl rfl (by kernel_rfl) (by kernel_rfl) (by kernel_rfl) (fun _ _ _ h => h) ⟨Or.inl ⟨by rfl, by intro w; go_simp⟩, fun _ => rfl⟩ ?_
      simp only [Act.put]
      refine wpAnyIn_ready (rs := [2, 4]) (by kernel_rfl) (by simp) (AllReadyIn.cons rfl (fun K hK => ?_) (AllReadyIn.cons rfl (fun K hK => ?_) AllReadyIn.nil))
      · go_simp
        refine hK _ _ ?_
        clear hK K
        refine wpAnyIn_ready (rs := [4]) (by kernel_rfl) (by simp) (AllReadyIn.cons rfl (fun K hK => ?_) AllReadyIn.nil)
        go_simp
        refine hK _ _ ?_
        clear hK K
        refine wpAnyIn_ready (rs := [5]) (by kernel_rfl) (by simp) (AllReadyIn.cons rfl (fun K hK => ?_) AllReadyIn.nil)
        go_simp
        refine ⟨trivial, fun _ => by omega, (callsIn_wide.2 (handed_any W0.drew _ t.1.data (RD0.out) (by have := HOK.out.d; omega))).mono ?_⟩
        rintro e w1 ⟨a1, rfl, hr1, _, hb1⟩
        refine hK _ _ ?_
        clear hK K
        have hb2 : Below wr.heap.size wr w1 := HB0.out.trans (hb1.mono HB0.out.size)
        have p2' : w1.cell? ⟨wr.heap.size, 2, none⟩ = some (Value.int IntKind.i64 (t.1.index : Int)) := (hb1.cell (p := ⟨wr.heap.size, 2, none⟩) (lt_of_heap HK0.out)).trans p2
        have HB1 := mkHid hb1
        have HB2 := mkHid hb2
        have HR1 := mkHid hr1
        clear hb1 hb2 hr1 p2 p3
        obtain ⟨fn, tmps, assign, body, hy, hRy⟩ := HY.out k #[.int .i64 (t.1.index : Int), .slice a1 t.1.data.length t.1.data.length] w1 hlt (HJS.out _ _ _ HJ.out HB2.out) (HK.out.trans (kept_below G HB2.out) (fun _ h => .inl h)) ⟨t, a1, HT.out, rfl, HR1.out⟩
        have HRY := mkHid hRy
        clear hRy
        refine wpAnyIn_ready (rs := [6]) (by kernel_rfl) (by simp) (AllReadyIn.cons rfl (fun K hK => ?_) AllReadyIn.nil)
        go_simp
        refine ⟨fun _ => by omega, HRY.out.mono ?_⟩
        rintro e W3 ⟨rfl, hJ3, hk3⟩
        have HJ3 := mkHid hJ3
        have HK3 := mkHid hk3
        clear hJ3 hk3 hy p2'
        refine hK _ _ ?_
        clear hK K
        refine wpAnyIn_ready (rs := [7]) (by kernel_rfl) (by simp) (AllReadyIn.cons rfl (fun K hK => ?_) AllReadyIn.nil)
        go_simp
        refine hK _ _ ?_
        clear hK K
        refine wpAnyIn_done (by kernel_rfl) ?_ _
        gi_wp2
        go_roundw
        case rel => exact ⟨k + 1, by omega, by go_num, HJ3, mkHid ((HK.out.trans (kept_below G HB2.out) (fun _ h => .inl h)).trans HK3.out (fun _ h => .inl h))⟩
        case measure => simp [intOf]; omega
      · go_simp
        refine hK _ _ ?_
        clear hK K
        refine wpAnyIn_ready (rs := [2, 5]) (by kernel_rfl) (by simp) (AllReadyIn.cons rfl (fun K hK => ?_) (AllReadyIn.cons rfl (fun K hK => ?_) AllReadyIn.nil))
        · go_simp
          refine hK _ _ ?_
          clear hK K
          refine wpAnyIn_ready (rs := [5]) (by kernel_rfl) (by simp) (AllReadyIn.cons rfl (fun K hK => ?_) AllReadyIn.nil)
          go_simp
          refine ⟨trivial, fun _ => by omega, (callsIn_wide.2 (handed_any W0.drew _ t.1.data (RD0.out) (by have := HOK.out.d; omega))).mono ?_⟩
          rintro e w1 ⟨a1, rfl, hr1, _, hb1⟩
          refine hK _ _ ?_
          clear hK K
          have hb2 : Below wr.heap.size wr w1 := HB0.out.trans (hb1.mono HB0.out.size)
          have p2' : w1.cell? ⟨wr.heap.size, 2, none⟩ = some (Value.int IntKind.i64 (t.1.index : Int)) := (hb1.cell (p := ⟨wr.heap.size, 2, none⟩) (lt_of_heap HK0.out)).trans p2
          have HB1 := mkHid hb1
          have HB2 := mkHid hb2
          have HR1 := mkHid hr1
          clear hb1 hb2 hr1 p2 p3
          obtain ⟨fn, tmps, assign, body, hy, hRy⟩ := HY.out k #[.int .i64 (t.1.index : Int), .slice a1 t.1.data.length t.1.data.length] w1 hlt (HJS.out _ _ _ HJ.out HB2.out) (HK.out.trans (kept_below G HB2.out) (fun _ h => .inl h)) ⟨t, a1, HT.out, rfl, HR1.out⟩
          have HRY := mkHid hRy
          clear hRy
          refine wpAnyIn_ready (rs := [6]) (by kernel_rfl) (by simp) (AllReadyIn.cons rfl (fun K hK => ?_) AllReadyIn.nil)
          go_simp
          refine ⟨fun _ => by omega, HRY.out.mono ?_⟩
          rintro e W3 ⟨rfl, hJ3, hk3⟩
          have HJ3 := mkHid hJ3
          have HK3 := mkHid hk3
          clear hJ3 hk3 hy p2'
          refine hK _ _ ?_
          clear hK K
          refine wpAnyIn_ready (rs := [7]) (by kernel_rfl) (by simp) (AllReadyIn.cons rfl (fun K hK => ?_) AllReadyIn.nil)
          go_simp
          refine hK _ _ ?_
          clear hK K
          refine wpAnyIn_done (by kernel_rfl) ?_ _
          gi_wp2
          go_roundw
          case rel => exact ⟨k + 1, by omega, by go_num, HJ3, mkHid ((HK.out.trans (kept_below G HB2.out) (fun _ h => .inl h)).trans HK3.out (fun _ h => .inl h))⟩
          case measure => simp [intOf]; omega
        · go_simp
          refine ⟨trivial, fun _ => by omega, (callsIn_wide.2 (handed_any W0.drew _ t.1.data (RD0.out) (by have := HOK.out.d; omega))).mono ?_⟩
          rintro e w1 ⟨a1, rfl, hr1, _, hb1⟩
          refine hK _ _ ?_
          clear hK K
          have hb2 : Below wr.heap.size wr w1 := HB0.out.trans (hb1.mono HB0.out.size)
          have p2' : w1.cell? ⟨wr.heap.size, 2, none⟩ = some (Value.int IntKind.i64 (t.1.index : Int)) := (hb1.cell (p := ⟨wr.heap.size, 2, none⟩) (lt_of_heap HK0.out)).trans p2
          have HB1 := mkHid hb1
          have HB2 := mkHid hb2
          have HR1 := mkHid hr1
          clear hb1 hb2 hr1 p2 p3
          refine wpAnyIn_ready (rs := [2]) (by kernel_rfl) (by simp) (AllReadyIn.cons rfl (fun K hK => ?_) AllReadyIn.nil)
          go_simp
          refine hK _ _ ?_
          clear hK K
          obtain ⟨fn, tmps, assign, body, hy, hRy⟩ := HY.out k #[.int .i64 (t.1.index : Int), .slice a1 t.1.data.length t.1.data.length] w1 hlt (HJS.out _ _ _ HJ.out HB2.out) (HK.out.trans (kept_below G HB2.out) (fun _ h => .inl h)) ⟨t, a1, HT.out, rfl, HR1.out⟩
          have HRY := mkHid hRy
          clear hRy
          refine wpAnyIn_ready (rs := [6]) (by kernel_rfl) (by simp) (AllReadyIn.cons rfl (fun K hK => ?_) AllReadyIn.nil)
          go_simp
          refine ⟨fun _ => by omega, HRY.out.mono ?_⟩
          rintro e W3 ⟨rfl, hJ3, hk3⟩
          have HJ3 := mkHid hJ3
          have HK3 := mkHid hk3
          clear hJ3 hk3 hy p2'
          refine hK _ _ ?_
          clear hK K
          refine wpAnyIn_ready (rs := [7]) (by kernel_rfl) (by simp) (AllReadyIn.cons rfl (fun K hK => ?_) AllReadyIn.nil)
          go_simp
          refine hK _ _ ?_
          clear hK K
          refine wpAnyIn_done (by kernel_rfl) ?_ _
          gi_wp2
          go_roundw
          case rel => exact ⟨k + 1, by omega, by go_num, HJ3, mkHid ((HK.out.trans (kept_below G HB2.out) (fun _ h => .inl h)).trans HK3.out (fun _ h => .inl h))⟩
          case measure => simp [intOf]; omega
    · obtain rfl : k = ts.length := by omega
      gi_wp2
      go_end0
      exact ⟨⟨_, rfl⟩, HJ.out⟩
end Go.Proofs.YtcbimclgodkflaaDoor
