/- alive; Ahead. -/
import Derived.Test.YtjlmkmhggkcbhaaDoorQops
namespace Go.Proofs.YtjlmkmhggkcbhaaDoor
open Go.ChangeShapes Go.WideShapes Go.ChangeAt Go.RowKit
set_option maxRecDepth 100000

/-- A queue that the call has made: all its blocks are new. -/
def Qn (B : Nat) (w : World) (p : Nat) (V : List Th) : Prop := ∃ F, Qu F w p V ∧ ∀ k, F k → B ≤ k
theorem Qn.below {B : Nat} {w w' : World} {p : Nat} {V : List Th} (h : Qn B w p V) (hb : Below w.heap.size w w') : Qn B w' p V := by
  obtain ⟨F, h1, h2⟩ := h
  exact ⟨F, h1.below hb, h2⟩
theorem qn_push {B : Nat} {w : World} {p : Nat} {V : List Th} (h : Qn B w p V) (hB : B ≤ w.heap.size) (id r : Int) (hn : ∀ y ∈ V, y.1 ≠ id) (hl : V.length < 4096) :
    Calls Tryd.prog 18 #[.pointer (some ⟨p, 0, none⟩), .int .i64 id, .int .i64 r] w fun e w' => e = .returned .nilIface ∧ Hid (∃ V', Qn B w' p V' ∧ (∀ y, y ∈ V' ↔ y ∈ V ∨ y = (id, r)) ∧ V'.length = V.length + 1 ∧ Below B w w') := by
  obtain ⟨F, h1, h2⟩ := h
  refine (push_ok F w p V id r h1 hn hl).mono ?_
  rintro e w' ⟨rfl, F', V', a, b, c, d, k⟩
  refine ⟨rfl, V', ⟨F', a, fun k hk => ?_⟩, b, c, k.below h2 hB⟩
  rcases d k hk with h | h
  · exact h2 k h
  · omega
theorem qn_new (w : World) : Calls Tryd.prog 9 #[] w fun e w' => ∃ p : Nat, e = .returned (.pointer (some ⟨p, 0, none⟩)) ∧ Hid (Qn w.heap.size w' p [] ∧ Below w.heap.size w w') := by
  refine (new_is w).mono ?_
  rintro e w' ⟨p, rfl, F, a, b, c⟩
  exact ⟨p, rfl, ⟨F, a, b⟩, c⟩
theorem qn_peek {B : Nat} {w : World} {p : Nat} {V : List Th} (h : Qn B w p V) (hl : 0 < V.length) :
    Calls Tryd.prog 25 #[.pointer (some ⟨p, 0, none⟩)] w fun e w' => e = .returned (.tuple #[.agg #[.int .i64 (gt V 0).1, .int .i64 (gt V 0).2], .nilIface]) ∧ Below w.heap.size w w' := by
  obtain ⟨F, h1, h2⟩ := h
  exact peek_ok F w p V h1 hl
theorem qn_peek_gone {B : Nat} {w : World} {p : Nat} (a : Addr) (h : Qn B w p []) (he : w.cell? ⟨0, 0, none⟩ = some (.iface 111 (.pointer (some a)))) :
    Calls Tryd.prog 25 #[.pointer (some ⟨p, 0, none⟩)] w fun e w' => e = .returned (.tuple #[.agg #[.int .i64 0, .int .i64 0], .iface 111 (.pointer (some a))]) ∧ Below w.heap.size w w' := by
  obtain ⟨F, h1, h2⟩ := h
  exact peek_gone F w p a h1 he
theorem qn_len {B : Nat} {w : World} {p : Nat} {V : List Th} (h : Qn B w p V) :
    Calls Tryd.prog 23 #[.pointer (some ⟨p, 0, none⟩)] w fun e w' => e = .returned (.int .i64 (V.length : Int)) ∧ w' = w := by
  obtain ⟨F, h1, h2⟩ := h
  exact len_is F w p V h1
theorem qn_pop {B : Nat} {w : World} {p : Nat} {V : List Th} (h : Qn B w p V) (hl : 0 < V.length) (hl2 : V.length ≤ 4096) :
    Calls Tryd.prog 21 #[.pointer (some ⟨p, 0, none⟩)] w fun e w' => e = .returned (.tuple #[.agg #[.int .i64 (gt V 0).1, .int .i64 (gt V 0).2], .nilIface]) ∧ Hid (∃ V', Qn B w' p V' ∧ (∀ y, y ∈ V' ↔ y ∈ V ∧ y.1 ≠ (gt V 0).1) ∧ V'.length + 1 = V.length ∧ ∃ F : Nat → Prop, Kept F w w' ∧ (∀ k, F k → B ≤ k) ∧ Qu F w p V) := by
  obtain ⟨F, h1, h2⟩ := h
  refine (pop_ok F w p V h1 hl hl2).mono ?_
  rintro e w' ⟨rfl, V', a, b, c, k⟩
  exact ⟨rfl, V', ⟨F, a, h2⟩, b, c, F, k, h2, h1⟩
theorem Qn.first {B : Nat} {w : World} {p : Nat} {V : List Th} (h : Qn B w p V) {y : Th} (hy : y ∈ V) : y = gt V 0 ∨ Ahd (gt V 0) y := by
  obtain ⟨F, h1, h2⟩ := h
  exact h1.first hy
theorem Qn.inj {B : Nat} {w : World} {p : Nat} {V : List Th} (h : Qn B w p V) {x y : Th} (hx : x ∈ V) (hy : y ∈ V) (e : x.1 = y.1) : x = y := by
  obtain ⟨F, h1, h2⟩ := h
  exact h1.inj hx hy e
theorem gt_zero_mem {V : List Th} (h : 0 < V.length) : gt V 0 ∈ V := mem_gt.mpr ⟨0, h, rfl⟩
theorem alive_first {B : Nat} {w : World} {p : Nat} {V1 V2 V3 : List Th} (m1 : ∀ y, y ∈ V1 ↔ y ∈ ([] : List Th) ∨ y = (7, 5)) (m2 : ∀ y, y ∈ V2 ↔ y ∈ V1 ∨ y = (3, 5)) (m3 : ∀ y, y ∈ V3 ↔ y ∈ V2 ∨ y = (9, 1)) (hl : 0 < V3.length) (h : Qn B w p V3) : gt V3 0 = (9, 1) := by
  have h9 : ((9, 1) : Th) ∈ V3 := (m3 _).mpr (.inr rfl)
  rcases h.first h9 with e | e
  · exact e.symm
  · have h0 := gt_zero_mem hl
    rcases (m3 _).mp h0 with h0 | h0
    · rcases (m2 _).mp h0 with h0 | h0
      · rcases (m1 _).mp h0 with h0 | h0
        · simp at h0
        · rw [h0] at e; unfold Ahd at e; simp at e
      · rw [h0] at e; unfold Ahd at e; simp at e
    · exact h0
set_option maxHeartbeats 1600000 in
theorem alive_q (w : World) : Calls Tryd.prog 8 #[] w fun e w' => e = .returned (.bool true) ∧ Below w.heap.size w w' := by
  have M1 : Hid True := mkHid trivial
  have M2 : Hid True := mkHid trivial
  have M3 : Hid True := mkHid trivial
  go_enter Tryd.func8, Tryd.ntmps8
  go_wp2_with (first
    | (go_at_call 9; refine (qn_new w).mono ?_; rintro e w1 ⟨p, rfl, h1⟩; have HQ1 := mkHid h1.1; have HB1 := mkHid h1.2; clear h1)
    | (go_at_call 18; clear M1; refine (qn_push HQ1.out HB1.out.size 7 5 (fun y hy => by simp at hy) (by simp)).mono ?_; rintro e w2 ⟨rfl, h2⟩; obtain ⟨V1, q1, m1, l1, b1⟩ := h2.out; have HV1 := mkHid (And.intro q1 (And.intro m1 (And.intro l1 (HB1.out.trans b1)))); clear h2 q1 m1 l1 b1)
    | (go_at_call 18; clear M2; refine (qn_push HV1.out.1 HV1.out.2.2.2.size 3 5 (fun y hy => by rcases (HV1.out.2.1 y).mp hy with h | h; simp at h; rw [h]; decide) (by rw [HV1.out.2.2.1]; simp)).mono ?_; rintro e w3 ⟨rfl, h2⟩; obtain ⟨V2, q1, m1, l1, b1⟩ := h2.out; have HV2 := mkHid (And.intro q1 (And.intro m1 (And.intro l1 (HV1.out.2.2.2.trans b1)))); clear h2 q1 m1 l1 b1)
    | (go_at_call 18; clear M3; refine (qn_push HV2.out.1 HV2.out.2.2.2.size 9 1 (fun y hy => by rcases (HV2.out.2.1 y).mp hy with h | h; (rcases (HV1.out.2.1 y).mp h with h | h; simp at h; rw [h]; decide); rw [h]; decide) (by rw [HV2.out.2.2.1, HV1.out.2.2.1]; simp)).mono ?_; rintro e w4 ⟨rfl, h2⟩; obtain ⟨V3, q1, m1, l1, b1⟩ := h2.out; have HV3 := mkHid (And.intro q1 (And.intro m1 (And.intro l1 (HV2.out.2.2.2.trans b1)))); have HL3 : Hid (V3.length = 3) := mkHid (by rw [l1, HV2.out.2.2.1, HV1.out.2.2.1]; rfl); clear h2 q1 m1 l1 b1)
    | (go_at_call 25; have hp := qn_peek HV3.out.1 (by rw [HL3.out]; simp); rw [alive_first HV1.out.2.1 HV2.out.2.1 HV3.out.2.1 (by rw [HL3.out]; simp) HV3.out.1] at hp; refine hp.mono ?_; clear hp; rintro e w5 ⟨rfl, hb5⟩; have HB5 := mkHid hb5; clear hb5)
    | (go_at_call 23; have hp := qn_len ((HV3.out.1.below HB5.out).below ((Below.refl _ w5).alloc (Nat.le_refl _) (.cells #[.int .i64 9, .int .i64 1] 52))); rw [HL3.out] at hp; refine hp.mono ?_; clear hp; rintro e w6 ⟨rfl, rfl⟩))
  go_ret
  refine ⟨rfl, ?_⟩
  have hb := HV3.out.2.2.2.trans (HB5.out.mono HV3.out.2.2.2.size)
  exact hb.alloc hb.size _
set_option maxHeartbeats 1600000 in
theorem ref_ahead (a b : Th) (w : World) : Calls Tryd.prog 22 #[.agg #[.int .i64 a.1, .int .i64 a.2], .agg #[.int .i64 b.1, .int .i64 b.2]] w fun e w' => e = .returned (.bool (ahb a b)) ∧ Below w.heap.size w w' := by
  have HB : ∀ o1 o2, Below w.heap.size w ((w.alloc o1).alloc o2) := fun o1 o2 => ((Below.refl _ w).alloc (Nat.le_refl _) _).alloc (by simp) _
  have HB := mkHid HB
  by_cases h1 : a.2 < b.2
  · have hd : Hid (ahb a b = true) := mkHid (ahb_true (by unfold Ahd; omega))
    rw [hd.out]
    go_enter Tryd.func22, Tryd.ntmps22
    go_wp2
    go_ret
    exact ⟨rfl, HB.out _ _⟩
  · by_cases h2 : a.2 = b.2
    · by_cases h3 : a.1 < b.1
      · have hd : Hid (ahb a b = true) := mkHid (ahb_true (by unfold Ahd; omega))
        rw [hd.out]
        go_enter Tryd.func22, Tryd.ntmps22
        go_wp2
        go_ret
        exact ⟨rfl, HB.out _ _⟩
      · have hd : Hid (ahb a b = false) := mkHid (ahb_false (by unfold Ahd; omega))
        rw [hd.out]
        go_enter Tryd.func22, Tryd.ntmps22
        go_wp2
        go_ret
        exact ⟨rfl, HB.out _ _⟩
    · have hd : Hid (ahb a b = false) := mkHid (ahb_false (by unfold Ahd; omega))
      rw [hd.out]
      go_enter Tryd.func22, Tryd.ntmps22
      go_wp2
      go_ret
      exact ⟨rfl, HB.out _ _⟩
end Go.Proofs.YtjlmkmhggkcbhaaDoor
