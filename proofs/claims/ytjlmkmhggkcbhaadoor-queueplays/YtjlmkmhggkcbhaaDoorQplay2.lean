/- play, one call by both: Pop, Peek, others. -/
import Derived.Test.YtjlmkmhggkcbhaaDoorQplay
namespace Go.Proofs.YtjlmkmhggkcbhaaDoor
open Go.ChangeShapes Go.WideShapes Go.ChangeAt Go.RowKit
set_option maxRecDepth 100000
set_option linter.unusedVariables false

theorem Nx.below {B : Nat} {w w' w'' : World} {p q : Nat} {F G : Nat → Prop} (h : Nx B w w' p q F G) (hb : Below w'.heap.size w' w'') : Nx B w w'' p q F G := by
  obtain ⟨F', G', V', L', h1, h2, h3, h4⟩ := h
  exact ⟨F', G', V', L', ⟨h1.v.below hb, h1.l.below hb, h1.d, h1.fb, h1.gb, h1.g⟩, h2, h3, h4.trans (kept_below _ hb) (fun _ x => .inl x)⟩
theorem Good.nil {V L : List Th} (h : Good V L) (hv : V.length = 0) : V = [] ∧ L = [] := ⟨List.eq_nil_of_length_eq_zero hv, List.eq_nil_of_length_eq_zero (by rw [← h.n]; exact hv)⟩
theorem first_both {F : Nat → Prop} {w : World} {p : Nat} {V L : List Th} (hv : Qu F w p V) (hg : Good V L) {b : Nat} (hb : IsFst L b) : gt L b = gt V 0 := by
  have hl : 0 < V.length := by rw [hg.n]; have := hb.1; omega
  have h1 : gt L b ∈ V := (hg.e _).mpr (mem_gt.mpr ⟨b, hb.1, rfl⟩)
  rcases hv.first h1 with e | e
  · exact e
  · obtain ⟨i, hi, hi2⟩ := mem_gt.mp ((hg.e _).mp (gt_zero_mem hl))
    have := hb.2 i hi
    rw [hi2] at this
    exact absurd e this
theorem play_else (W0 w : World) (p q : Nat) (F G : Nat → Prop) (V L : List Th) (h : Pair W0.heap.size w p q F G V L) (kd wh id r : Int) (h1 : ¬ kd = 1) (h2 : ¬ kd = 2) (h3 : ¬ kd = 3) (h4 : ¬ kd = 4) (h5 : ¬ kd = 5) (h6 : ¬ kd = 6) :
    Calls Tryd.prog 10 #[.pointer (some ⟨p, 0, none⟩), .pointer (some ⟨q, 0, none⟩), .agg #[.int .i64 kd, .int .i64 wh, .int .i64 id, .int .i64 r]] w fun e w' => e = .returned (.bool true) ∧ Hid (Nx W0.heap.size w w' p q F G) := by
  have H := mkHid h
  clear h
  go_enter Tryd.func10, Tryd.ntmps10
  go_wp2
  go_ret
  exact ⟨rfl, H.out.same ((Below.refl _ w).alloc (Nat.le_refl _) _)⟩
set_option maxHeartbeats 3200000 in
theorem play_pop_none (W0 w : World) (a : Nat → Addr) (HE : Errs W0 a) (hB : Below W0.heap.size W0 w) (p q : Nat) (F G : Nat → Prop) (h : Pair W0.heap.size w p q F G [] []) (wh id r : Int) :
    Calls Tryd.prog 10 #[.pointer (some ⟨p, 0, none⟩), .pointer (some ⟨q, 0, none⟩), .agg #[.int .i64 2, .int .i64 wh, .int .i64 id, .int .i64 r]] w fun e w' => e = .returned (.bool true) ∧ Hid (Nx W0.heap.size w w' p q F G) := by
  have H := mkHid h
  have HEE := mkHid HE
  have HBW := mkHid hB
  clear h HE hB
  go_enter Tryd.func10, Tryd.ntmps10
  go_wp2_with (first
    | (go_at_call 21; have hb : Below w.heap.size w (w.alloc (.cells #[.int .i64 2, .int .i64 wh, .int .i64 id, .int .i64 r] 33)) := (Below.refl _ w).alloc (Nat.le_refl _) _; refine (pop_gone F _ p (a 0) (H.out.v.below hb) (HEE.out.late (HBW.out.trans (hb.mono HBW.out.size))).cell_gone).mono ?_; rintro e w1 ⟨rfl, hb1⟩; have HB1 := mkHid (hb.trans (hb1.mono hb.size)); have hb2 : Below w1.heap.size w1 (w1.alloc (.cells #[.int .i64 0, .int .i64 0] 52)) := (Below.refl _ w1).alloc (Nat.le_refl _) _; have HB2 := mkHid (HB1.out.trans (hb2.mono HB1.out.size)); clear hb hb1 hb2)
    | (go_at_call 29; refine (rpop_none G _ q (H.out.l.below HB2.out)).mono ?_; rintro e w2 ⟨rfl, hb3⟩; have HB3 := mkHid (HB2.out.trans (hb3.mono HB2.out.size)); have hb4 : Below w2.heap.size w2 (w2.alloc (.cells #[.int .i64 0, .int .i64 0] 52)) := (Below.refl _ w2).alloc (Nat.le_refl _) _; have HB4 := mkHid (HB3.out.trans (hb4.mono HB3.out.size)); have s0 := bcell hb4 (bcell hb3 (show (w1.alloc (.cells #[.int .i64 0, .int .i64 0] 52)).cell? ⟨w1.heap.size, 0, none⟩ = some (.int .i64 0) by simp)); have s1 := bcell hb4 (bcell hb3 (show (w1.alloc (.cells #[.int .i64 0, .int .i64 0] 52)).cell? ⟨w1.heap.size, 1, none⟩ = some (.int .i64 0) by simp)); clear hb3 hb4)
    | (go_at_call 27; refine (errnum_gone _ a (HEE.out.late (HBW.out.trans (HB4.out.mono HBW.out.size)))).mono ?_; rintro e w3 ⟨rfl, hb5⟩; have HB5 := mkHid (HB4.out.trans (hb5.mono HB4.out.size)); clear hb5))
  go_ret
  exact ⟨rfl, H.out.same HB5.out⟩
set_option maxHeartbeats 3200000 in
theorem play_pop_some (W0 w : World) (hB : Below W0.heap.size W0 w) (p q : Nat) (F G : Nat → Prop) (V L : List Th) (h : Pair W0.heap.size w p q F G V L) (hp : 0 < V.length) (wh id r : Int) :
    Calls Tryd.prog 10 #[.pointer (some ⟨p, 0, none⟩), .pointer (some ⟨q, 0, none⟩), .agg #[.int .i64 2, .int .i64 wh, .int .i64 id, .int .i64 r]] w fun e w' => e = .returned (.bool true) ∧ Hid (Nx W0.heap.size w w' p q F G) := by
  have H := mkHid h
  have HBW := mkHid hB
  have HP := mkHid hp
  have HLG := mkHid h.l.1
  obtain ⟨x, hx⟩ : ∃ x, x = gt V 0 := ⟨_, rfl⟩
  have HX := mkHid hx
  have hb : Below w.heap.size w (w.alloc (.cells #[.int .i64 2, .int .i64 wh, .int .i64 id, .int .i64 r] 33)) := (Below.refl _ w).alloc (Nat.le_refl _) _
  have HB := mkHid hb
  have HPOP : Hid (Calls Tryd.prog 21 #[.pointer (some ⟨p, 0, none⟩)] (w.alloc (.cells #[.int .i64 2, .int .i64 wh, .int .i64 id, .int .i64 r] 33)) fun e w' => e = .returned (.tuple #[.agg #[.int .i64 x.1, .int .i64 x.2], .nilIface]) ∧ Hid (∃ V', Qu F w' p V' ∧ (∀ y, y ∈ V' ↔ y ∈ V ∧ y.1 ≠ x.1) ∧ V'.length + 1 = V.length ∧ Kept F (w.alloc (.cells #[.int .i64 2, .int .i64 wh, .int .i64 id, .int .i64 r] 33)) w')) := mkHid (by
    rw [hx]
    exact pop_ok F _ p V (h.v.below hb) hp (by rw [h.g.n]; exact h.g.m))
  clear h hB hp hx hb
  go_enter Tryd.func10, Tryd.ntmps10
  go_wp2_with (first
    | (go_at_call 21; refine HPOP.out.mono ?_; rintro e w1 ⟨rfl, h1⟩; have H1 := h1; obtain ⟨V', v1, v2, v3, v4⟩ := h1.out; have hb2 : Below w1.heap.size w1 (w1.alloc (.cells #[.int .i64 x.1, .int .i64 x.2] 52)) := (Below.refl _ w1).alloc (Nat.le_refl _) _; have HB2 := mkHid hb2; have HW1 : Hid (w.heap.size < w1.heap.size) := mkHid (Nat.lt_of_lt_of_le (by simp) v4.size); have HRQ : Hid (Rq G (w1.alloc (.cells #[.int .i64 x.1, .int .i64 x.2] 52)) q L) := mkHid (((H.out.l.below HB.out).kept v4 (fun k hk hf => H.out.d k hf hk)).below hb2); clear h1 v1 v2 v3 v4 hb2)
    | (go_at_call 29; refine (rpop_some G _ q L HRQ.out (by rw [← H.out.g.n]; exact HP.out) H.out.g.m).mono ?_; rintro e w2 ⟨b, rfl, h2⟩; have H2 := h2; obtain ⟨f1, G', g1, g2, g3⟩ := h2.out; have hxe : gt L b = x := ((first_both H.out.v H.out.g f1).trans HX.out.symm); rw [hxe]; have n1 : ¬ G w1.heap.size := fun f => (by have h8 := HLG.out _ f; have h9 := HW1.out; omega); have s0 : (w2.alloc (.cells #[.int .i64 x.1, .int .i64 x.2] 52)).cell? ⟨w1.heap.size, 0, none⟩ = some (.int .i64 x.1) := bcell ((Below.refl _ w2).alloc (Nat.le_refl _) _) (g3.cell (show (w1.alloc (.cells #[.int .i64 x.1, .int .i64 x.2] 52)).cell? ⟨w1.heap.size, 0, none⟩ = some (.int .i64 x.1) by simp) n1); have s1 : (w2.alloc (.cells #[.int .i64 x.1, .int .i64 x.2] 52)).cell? ⟨w1.heap.size, 1, none⟩ = some (.int .i64 x.2) := bcell ((Below.refl _ w2).alloc (Nat.le_refl _) _) (g3.cell (show (w1.alloc (.cells #[.int .i64 x.1, .int .i64 x.2] 52)).cell? ⟨w1.heap.size, 1, none⟩ = some (.int .i64 x.2) by simp) n1); have HXE := mkHid hxe; clear h2 f1 g1 g2 g3 hxe n1)
    | (go_at_call 27; refine (errnum_nil _).mono ?_; rintro e w3 ⟨rfl, rfl⟩))
  go_ret
  refine ⟨rfl, ?_⟩
  obtain ⟨V', v1, v2, v3, v4⟩ := H1.out
  obtain ⟨f1, G', g1, g2, g3⟩ := H2.out
  have hq : Qr F (w.alloc (.cells #[.int .i64 2, .int .i64 wh, .int .i64 id, .int .i64 r] 33)) w1 p (L.eraseIdx b) := ⟨F, V', v1, fun k hk => .inl hk, v4, good_erase H.out.v H.out.g f1.1 (by rw [HXE.out]; exact v2) v3⟩
  exact (H.out.nx HBW.out.size HB.out hq HB2.out ⟨G', g1, g2, g3⟩).below ((Below.refl _ w2).alloc (Nat.le_refl _) _)
set_option maxHeartbeats 3200000 in
theorem play_peek_none (W0 w : World) (a : Nat → Addr) (HE : Errs W0 a) (hB : Below W0.heap.size W0 w) (p q : Nat) (F G : Nat → Prop) (h : Pair W0.heap.size w p q F G [] []) (wh id r : Int) :
    Calls Tryd.prog 10 #[.pointer (some ⟨p, 0, none⟩), .pointer (some ⟨q, 0, none⟩), .agg #[.int .i64 3, .int .i64 wh, .int .i64 id, .int .i64 r]] w fun e w' => e = .returned (.bool true) ∧ Hid (Nx W0.heap.size w w' p q F G) := by
  have H := mkHid h
  have HEE := mkHid HE
  have HBW := mkHid hB
  obtain ⟨ea, hea⟩ : ∃ ea, ea = a 0 := ⟨_, rfl⟩
  have heq : ∀ W', (binOp .eql 47 (.iface 111 (.pointer (some ea))) (.iface 111 (.pointer (some ea)))).run Tryd.prog W' = .ok (.bool true) W' := fun W' => by rw [hea]; exact HE.1.eq W'
  have HEA := mkHid hea
  clear h HE hB hea
  go_enter Tryd.func10, Tryd.ntmps10
  go_wp2_with (first
    | (go_at_call 25; have hb : Below w.heap.size w (w.alloc (.cells #[.int .i64 3, .int .i64 wh, .int .i64 id, .int .i64 r] 33)) := (Below.refl _ w).alloc (Nat.le_refl _) _; refine (peek_gone F _ p ea (H.out.v.below hb) (by rw [HEA.out]; exact (HEE.out.late (HBW.out.trans (hb.mono HBW.out.size))).cell_gone)).mono ?_; rintro e w1 ⟨rfl, hb1⟩; have HB1 := mkHid (hb.trans (hb1.mono hb.size)); have hb2 : Below w1.heap.size w1 (w1.alloc (.cells #[.int .i64 0, .int .i64 0] 52)) := (Below.refl _ w1).alloc (Nat.le_refl _) _; have HB2 := mkHid (HB1.out.trans (hb2.mono HB1.out.size)); have he2 : (w1.alloc (.cells #[.int .i64 0, .int .i64 0] 52)).cell? ⟨0, 0, none⟩ = some (.iface 111 (.pointer (some ea))) := (by rw [HEA.out]; exact (HEE.out.late (HBW.out.trans (HB2.out.mono HBW.out.size))).cell_gone); clear hb hb1 hb2)
    | (go_at_call 30; refine (first_none G _ q (H.out.l.below HB2.out)).mono ?_; rintro e w2 ⟨rfl, rfl⟩))
  go_ret
  exact ⟨rfl, H.out.same HB2.out⟩
set_option maxHeartbeats 3200000 in
theorem play_peek_some (W0 w : World) (hB : Below W0.heap.size W0 w) (p q : Nat) (F G : Nat → Prop) (V L : List Th) (h : Pair W0.heap.size w p q F G V L) (hp : 0 < V.length) (wh id r : Int) :
    Calls Tryd.prog 10 #[.pointer (some ⟨p, 0, none⟩), .pointer (some ⟨q, 0, none⟩), .agg #[.int .i64 3, .int .i64 wh, .int .i64 id, .int .i64 r]] w fun e w' => e = .returned (.bool true) ∧ Hid (Nx W0.heap.size w w' p q F G) := by
  have H := mkHid h
  have HP := mkHid hp
  obtain ⟨x, hx⟩ : ∃ x, x = gt V 0 := ⟨_, rfl⟩
  have HX := mkHid hx
  have hb : Below w.heap.size w (w.alloc (.cells #[.int .i64 3, .int .i64 wh, .int .i64 id, .int .i64 r] 33)) := (Below.refl _ w).alloc (Nat.le_refl _) _
  have HB := mkHid hb
  have HPK := mkHid (peek_ok F _ p V (h.v.below hb) hp)
  rw [← hx] at HPK
  obtain ⟨qa, qc, q0, _, qv⟩ := h.l.view
  obtain ⟨g, rfl, _, _, _, hc⟩ := qv (by rw [← h.g.n]; exact hp)
  have HQ0 := mkHid q0
  have HCC := mkHid hc
  clear h hB hp hx hb q0 qv hc
  go_enter Tryd.func10, Tryd.ntmps10
  go_wp2_with (first
    | (go_at_call 25; refine HPK.out.mono ?_; rintro e w1 ⟨rfl, hb1⟩; have HB1 := mkHid (HB.out.trans (hb1.mono HB.out.size)); have hb2 : Below w1.heap.size w1 (w1.alloc (.cells #[.int .i64 x.1, .int .i64 x.2] 52)) := (Below.refl _ w1).alloc (Nat.le_refl _) _; have HB2 := mkHid (HB1.out.trans (hb2.mono HB1.out.size)); clear hb1 hb2)
    | (go_at_call 30; refine (first_some G _ q L (H.out.l.below HB2.out) (by rw [← H.out.g.n]; exact HP.out) H.out.g.m).mono ?_; rintro e w2 ⟨b, rfl, h2⟩; have HB3 := mkHid (HB2.out.trans (h2.out.2.mono HB2.out.size)); have hnb : ¬ (b : Int) < 0 := (by omega); have hbl : (b : Int) < L.length := (by have := h2.out.1.1; omega); have hxe : gt L b = x := ((first_both H.out.v H.out.g h2.out.1).trans HX.out.symm); obtain ⟨⟨d0, d1⟩, _⟩ := HCC.out b h2.out.1.1; rw [hxe] at d0 d1; have t0 := bcell HB3.out d0; have t1 := bcell HB3.out d1; have t2 := bcell HB3.out HQ0.out; have s0 : w2.cell? ⟨w1.heap.size, 0, none⟩ = some (.int .i64 x.1) := bcell h2.out.2 (by simp); have s1 : w2.cell? ⟨w1.heap.size, 1, none⟩ = some (.int .i64 x.2) := bcell h2.out.2 (by simp); clear h2 hxe d0 d1))
  go_quiet (fail)
  go_wp2
  go_ret
  exact ⟨rfl, H.out.same (HB3.out.trans ⟨rfl, rfl, rfl, Nat.le_refl _, fun _ _ => rfl⟩)⟩
end Go.Proofs.YtjlmkmhggkcbhaaDoor
