/- Tasks that are legal: legalTask, checkTasks, CheckGuest, and the document's LegalTask, LegalGuest. -/
import Derived.Test.YthncfkeoephipaaDoorGs1
namespace Go.Proofs.YthncfkeoephipaaDoor
open Go.ChangeShapes Go.WideShapes Go.ChangeAt Go.RowKit
attribute [local go_sem] World.cell?_alloc_some frozen_alloc_some

abbrev vT (t : Tk) : Value := .agg #[.int .i64 t.1, .int .i64 t.2.1, .int .i64 t.2.2.1, .int .i64 t.2.2.2]
theorem task_cases {t : Tk} (h : ¬ okT t) : t.1 < 1 ∨ (1 ≤ t.1 ∧ t.2.2.1 < t.1) ∨ (1 ≤ t.1 ∧ t.1 ≤ t.2.2.1 ∧ t.2.1 < t.2.2.1) ∨ (1 ≤ t.1 ∧ t.1 ≤ t.2.2.1 ∧ t.2.2.1 ≤ t.2.1 ∧ 256 < t.2.1) ∨ (1 ≤ t.1 ∧ t.1 ≤ t.2.2.1 ∧ t.2.2.1 ≤ t.2.1 ∧ t.2.1 ≤ 256 ∧ t.2.2.2 < 0) ∨ (1 ≤ t.1 ∧ t.1 ≤ t.2.2.1 ∧ t.2.2.1 ≤ t.2.1 ∧ t.2.1 ≤ 256 ∧ 0 ≤ t.2.2.2 ∧ ¬ t.2.2.2 ≤ t.1) := by
  refine Decidable.byContradiction fun hn => h ?_
  refine ⟨?_, ?_, ?_, ?_, ?_, ?_⟩ <;> omega
theorem legalTask_is (w : World) (t : Tk) : Calls Tryd.prog 35 #[vT t] w fun e w' => e = .returned (.bool (bT t)) ∧ Below w.heap.size w w' := by
  by_cases h : okT t
  · rw [bT_true h]
    obtain ⟨c, p, d, s⟩ := t
    obtain ⟨h1, h2, h3, h4, h5, h6⟩ := h
    simp only at h1 h2 h3 h4 h5 h6
    go_enter Tryd.func35, Tryd.ntmps35
    go_wp2
    go_ret
    exact ⟨rfl, ba (Below.refl _ _) _⟩
  · rw [bT_false h]
    have hc := task_cases h
    clear h
    obtain ⟨c, p, d, s⟩ := t
    simp only at hc
    rcases hc with h1 | ⟨h1, h2⟩ | ⟨h1, h2, h3⟩ | ⟨h1, h2, h3, h4⟩ | ⟨h1, h2, h3, h4, h5⟩ | ⟨h1, h2, h3, h4, h5, h6⟩
    all_goals
      go_enter Tryd.func35, Tryd.ntmps35
      go_wp2
      go_ret
      exact ⟨rfl, ba (Below.refl _ _) _⟩
theorem refLegalTask_is (w : World) (t : Tk) : Calls Tryd.prog 22 #[vT t] w fun e w' => e = .returned (.bool (bT t)) ∧ Below w.heap.size w w' := by
  by_cases h : okT t
  · rw [bT_true h]
    obtain ⟨c, p, d, s⟩ := t
    obtain ⟨h1, h2, h3, h4, h5, h6⟩ := h
    simp only at h1 h2 h3 h4 h5 h6
    go_enter Tryd.func22, Tryd.ntmps22
    go_wp2
    go_ret
    exact ⟨rfl, ba (Below.refl _ _) _⟩
  · rw [bT_false h]
    have hc := task_cases h
    clear h
    obtain ⟨c, p, d, s⟩ := t
    simp only at hc
    rcases hc with h1 | ⟨h1, h2⟩ | ⟨h1, h2, h3⟩ | ⟨h1, h2, h3, h4⟩ | ⟨h1, h2, h3, h4, h5⟩ | ⟨h1, h2, h3, h4, h5, h6⟩
    all_goals
      go_enter Tryd.func22, Tryd.ntmps22
      go_wp2
      go_ret
      exact ⟨rfl, ba (Below.refl _ _) _⟩
def okTs (xs : List Tk) : Prop := xs.length ≤ 8 ∧ ∀ x ∈ xs, okT x
theorem okT_at {xs : List Tk} (h : ∀ x ∈ xs, okT x) {j : Nat} {x : Tk} (hx : xs[j]? = some x) : okT x := h x (List.mem_of_getElem? hx)
set_option maxHeartbeats 1600000 in
theorem checkTasks_ok (w : World) (v : Value) (xs : List Tk) (h : Tks w v xs) (hx : okTs xs) :
    Calls Tryd.prog 30 #[v] w fun e w' => e = .returned .nilIface ∧ Below w.heap.size w w' := by
  obtain ⟨a0, cap, rfl, hl, h9⟩ := id h
  have HS := mkHid h
  have HX := mkHid hx
  have hn : (xs.length : Int) ≤ 8 := by have := hx.1; omega
  clear h hx h9
  go_enter Tryd.func30, Tryd.ntmps30
  go_wp2
  go_loopw [11] (fun iv wr => ∃ j : Nat, iv = .int .i64 (j : Int) ∧ j ≤ xs.length ∧ Hid (Below w.heap.size w wr)) (fun iv _ => xs.length - (intOf iv).toNat)
  case atStart => exact ⟨0, rfl, Nat.zero_le _, Below.refl _ _⟩
  case round =>
    obtain ⟨j, rfl, hj, HB⟩ := hrel
    by_cases hlt : j < xs.length
    · obtain ⟨b, off, c, p, d, s, rfl, hxj, c0, c1, c2, c3⟩ := HS.out.at HB.out j hlt
      have hji : (j : Int) < xs.length := by omega
      have HK := mkHid (bT_true (okT_at HX.out.2 hxj))
      clear hxj
      go_wp2_with (go_at_call 35; have hq := legalTask_is (wr.alloc (.cells #[.int .i64 c, .int .i64 p, .int .i64 d, .int .i64 s] 37)) (c, p, d, s); rw [HK.out] at hq; refine hq.mono ?_; clear hq; rintro e w1 ⟨rfl, b1⟩; have HB1 := mkHid (bt (ba HB.out _) b1); clear b1)
      go_roundw
      case rel => exact ⟨j + 1, by go_num, by omega, HB1⟩
      case measure => simp [intOf]; omega
    · obtain rfl : j = xs.length := by omega
      go_wp2
      go_ret
      exact ⟨rfl, HB.out⟩
set_option maxHeartbeats 1600000 in
theorem checkTasks_no (w : World) (v : Value) (xs : List Tk) (a : Addr) (h : Tks w v xs) (hx : ¬ okTs xs) (he : w.cell? ⟨0, 0, none⟩ = some (vE a)) :
    Calls Tryd.prog 30 #[v] w fun e w' => e = .returned (vE a) ∧ Below w.heap.size w w' := by
  obtain ⟨a0, cap, rfl, hl, h9⟩ := id h
  have HS := mkHid h
  have HX := mkHid hx
  clear h hx h9
  by_cases hn : (xs.length : Int) ≤ 8
  · have HE := mkHid he
    clear he
    go_enter Tryd.func30, Tryd.ntmps30
    go_wp2
    go_loopw [11] (fun iv wr => ∃ j : Nat, iv = .int .i64 (j : Int) ∧ j ≤ xs.length ∧ Hid (∀ i x, i < j → xs[i]? = some x → okT x) ∧ Hid (Below w.heap.size w wr)) (fun iv _ => xs.length - (intOf iv).toNat)
    case atStart => exact ⟨0, rfl, Nat.zero_le _, mkHid (fun i x hi => by omega), Below.refl _ _⟩
    case round =>
      obtain ⟨j, rfl, hj, HO, HB⟩ := hrel
      by_cases hlt : j < xs.length
      · obtain ⟨b, off, c, p, d, s, rfl, hxj, c0, c1, c2, c3⟩ := HS.out.at HB.out j hlt
        have hji : (j : Int) < xs.length := by omega
        have HXJ := mkHid hxj
        clear hxj
        by_cases hk : okT (c, p, d, s)
        · have HK := mkHid hk
          have HK2 := mkHid (bT_true hk)
          clear hk
          go_wp2_with (go_at_call 35; have hq := legalTask_is (wr.alloc (.cells #[.int .i64 c, .int .i64 p, .int .i64 d, .int .i64 s] 37)) (c, p, d, s); rw [HK2.out] at hq; refine hq.mono ?_; clear hq; rintro e w1 ⟨rfl, b1⟩; have HB1 := mkHid (bt (ba HB.out _) b1); clear b1)
          go_roundw
          case rel =>
            refine ⟨j + 1, by go_num, by omega, mkHid (fun i x hi hx => ?_), HB1⟩
            by_cases e : i = j
            · subst e
              rw [HXJ.out] at hx
              simp at hx
              rw [← hx]
              exact HK.out
            · exact HO.out i x (by omega) hx
          case measure => simp [intOf]; omega
        · have HK2 := mkHid (bT_false hk)
          clear hk
          go_wp2_with (go_at_call 35; have hq := legalTask_is (wr.alloc (.cells #[.int .i64 c, .int .i64 p, .int .i64 d, .int .i64 s] 37)) (c, p, d, s); rw [HK2.out] at hq; refine hq.mono ?_; clear hq; rintro e w1 ⟨rfl, b1⟩; have HB1 := mkHid (bt (ba HB.out _) b1); clear b1; have ce := kc HE.out HB1.out)
          go_ret
          exact ⟨rfl, HB1.out⟩
      · exfalso
        refine HX.out ⟨by omega, fun x hm => ?_⟩
        obtain ⟨i, hi, rfl⟩ := List.getElem_of_mem hm
        exact HO.out i _ (by omega) (List.getElem?_eq_getElem hi)
  · have hn2 : (8 : Int) < xs.length := by omega
    go_enter Tryd.func30, Tryd.ntmps30
    go_wp2
    go_ret
    exact ⟨rfl, Below.refl _ _⟩
def okG (p : Int) (xs : List Tk) : Prop := (p = 1 ∨ p = 2) ∧ 1 ≤ xs.length ∧ okTs xs
theorem guest_ok (w : World) (v : Value) (p : Int) (xs : List Tk) (h : Tks w v xs) (hx : okG p xs) :
    Calls Tryd.prog 20 #[.int .i64 p, v] w fun e w' => e = .returned .nilIface ∧ Below w.heap.size w w' := by
  obtain ⟨a0, cap, rfl, hl, h9⟩ := id h
  have HS := mkHid h
  have HX := mkHid hx.2.2
  have hn : ¬ (xs.length : Int) = 0 := by have := hx.2.1; omega
  have hp := hx.1
  clear h h9 hx
  rcases hp with rfl | rfl
  all_goals
    go_enter Tryd.func20, Tryd.ntmps20
    go_wp2_with (go_at_call 30; refine (checkTasks_ok _ _ xs HS.out HX.out).mono ?_; rintro e w1 ⟨rfl, b1⟩)
    go_ret
    exact ⟨rfl, b1⟩
theorem guest_no (w : World) (v : Value) (p : Int) (xs : List Tk) (a : Addr) (h : Tks w v xs) (hx : ¬ okG p xs) (he : w.cell? ⟨0, 0, none⟩ = some (vE a)) :
    Calls Tryd.prog 20 #[.int .i64 p, v] w fun e w' => e = .returned (vE a) ∧ Below w.heap.size w w' := by
  obtain ⟨a0, cap, rfl, hl, h9⟩ := id h
  have HS := mkHid h
  by_cases hp : p = 1 ∨ p = 2
  · by_cases hn : xs.length = 0
    · have hn' : (xs.length : Int) = 0 := by omega
      clear h h9 hx hn
      rcases hp with rfl | rfl
      all_goals
        go_enter Tryd.func20, Tryd.ntmps20
        go_wp2
        go_ret
        exact ⟨rfl, Below.refl _ _⟩
    · have HX : Hid (¬ okTs xs) := mkHid (fun ht => hx ⟨hp, by omega, ht⟩)
      have hn' : ¬ (xs.length : Int) = 0 := by omega
      have HE := mkHid he
      clear h h9 hx hn he
      rcases hp with rfl | rfl
      all_goals
        go_enter Tryd.func20, Tryd.ntmps20
        go_wp2_with (go_at_call 30; refine (checkTasks_no _ _ xs a HS.out HX.out HE.out).mono ?_; rintro e w1 ⟨rfl, b1⟩)
        go_ret
        exact ⟨rfl, b1⟩
  · have h1 : ¬ p = 1 := fun e => hp (.inl e)
    have h2 : ¬ p = 2 := fun e => hp (.inr e)
    have h3 : (p != 1) = true := by simpa using h1
    have h4 : (p != 2) = true := by simpa using h2
    clear h h9 hx hp
    go_enter Tryd.func20, Tryd.ntmps20
    go_wp2
    go_ret
    exact ⟨rfl, Below.refl _ _⟩
/-- The document's answer. -/
def gb (c : Bool) (xs : List Tk) : Bool := c && xs.all bT
theorem gb_take {c : Bool} {xs : List Tk} {j : Nat} {x : Tk} (hx : xs[j]? = some x) : gb c (xs.take (j + 1)) = (gb c (xs.take j) && bT x) := by
  unfold gb
  rw [List.take_add_one, hx]
  simp [Bool.and_assoc]
theorem gb_ok {c : Bool} {p : Int} {xs : List Tk} (hc : c = true ↔ (p = 1 ∨ p = 2) ∧ 1 ≤ xs.length ∧ xs.length ≤ 8) : gb c xs = true ↔ okG p xs := by
  unfold gb okG okTs
  rw [Bool.and_eq_true, hc, List.all_eq_true]
  constructor
  · rintro ⟨⟨h1, h2, h3⟩, h4⟩
    refine ⟨h1, h2, h3, fun x hx => ?_⟩
    have hb := h4 x hx
    by_cases hk : okT x
    · exact hk
    · rw [bT_false hk] at hb
      cases hb
  · rintro ⟨h1, h2, h3, h4⟩
    exact ⟨⟨h1, h2, h3⟩, fun x hx => bT_true (h4 x hx)⟩
set_option maxHeartbeats 3200000 in
theorem legalGuest_is (w : World) (v : Value) (p : Int) (xs : List Tk) (h : Tks w v xs) :
    ∃ b : Bool, (b = true ↔ okG p xs) ∧ Calls Tryd.prog 10 #[.int .i64 p, v] w fun e w' => e = .returned (.bool b) ∧ Below w.heap.size w w' := by
  obtain ⟨a0, cap, rfl, hl, h9⟩ := id h
  have HS := mkHid h
  have hq : ∃ c : Bool, (c = true ↔ (p = 1 ∨ p = 2) ∧ 1 ≤ xs.length ∧ xs.length ≤ 8) := ⟨decide _, decide_eq_true_iff⟩
  obtain ⟨c, hc⟩ := hq
  refine ⟨gb c xs, gb_ok hc, ?_⟩
  have hd : (c = false ∧ (p == 1) = false ∧ (p == 2) = false) ∨ ((p = 1 ∨ p = 2) ∧ ((c = false ∧ (xs.length : Int) < 1) ∨ (c = false ∧ 1 ≤ (xs.length : Int) ∧ ¬ (xs.length : Int) ≤ 8) ∨ (c = true ∧ 1 ≤ (xs.length : Int) ∧ (xs.length : Int) ≤ 8))) := by
    cases c
    · by_cases hp : p = 1 ∨ p = 2
      · right
        refine ⟨hp, ?_⟩
        by_cases h1 : (xs.length : Int) < 1
        · exact .inl ⟨rfl, h1⟩
        · refine .inr (.inl ⟨rfl, by omega, fun h8 => ?_⟩)
          exact absurd (hc.mpr ⟨hp, by omega, by omega⟩) (by simp)
      · exact .inl ⟨rfl, by simpa using fun e => hp (.inl e), by simpa using fun e => hp (.inr e)⟩
    · obtain ⟨h1, h2, h3⟩ := hc.mp rfl
      exact .inr ⟨h1, .inr (.inr ⟨rfl, by omega, by omega⟩)⟩
  clear h h9 hc
  rcases hd with ⟨hc0, h1, h2⟩ | ⟨rfl | rfl, ⟨hc0, h2⟩ | ⟨hc0, h2, h3⟩ | ⟨hc0, h2, h3⟩⟩
  all_goals
    go_enter Tryd.func10, Tryd.ntmps10
    go_wp2
    go_loopw [5, 26] (fun ov iv wr => ∃ j : Nat, ov = .bool (gb c (xs.take j)) ∧ iv = .int .i64 (j : Int) ∧ j ≤ xs.length ∧ Hid (Below w.heap.size w wr)) (fun _ iv _ => xs.length - (intOf iv).toNat)
    case atStart => exact ⟨0, by simp [gb, hc0], rfl, Nat.zero_le _, Below.refl _ _⟩
    case round =>
      obtain ⟨j, rfl, rfl, hj, HB⟩ := hrel
      by_cases hlt : j < xs.length
      · first
        | exact absurd hlt (by omega)
        | (obtain ⟨b, off, tc, tp, td, ts, rfl, hxj, c0, c1, c2, c3⟩ := HS.out.at HB.out j hlt
           have hji : (j : Int) < xs.length := by omega
           have HG := mkHid (gb_take (c := c) hxj)
           clear hxj hc0
           obtain ⟨g, hgv⟩ : ∃ g, g = gb c (xs.take j) := ⟨_, rfl⟩
           rw [← hgv] at HG ⊢
           clear hgv
           cases g
           · go_wp2
             go_roundw
             case rel => exact ⟨j + 1, by rw [HG.out]; rfl, by go_num, by omega, mkHid (ba HB.out _)⟩
             case measure => simp [intOf]; omega
           · go_wp2_with (go_at_call 22; refine (refLegalTask_is _ (tc, tp, td, ts)).mono ?_; rintro e w1 ⟨rfl, b1⟩; have HB1 := mkHid (bt (ba HB.out _) b1); clear b1)
             go_roundw
             case rel => exact ⟨j + 1, by rw [HG.out]; rfl, by go_num, by omega, HB1⟩
             case measure => simp [intOf]; omega)
      · obtain rfl : j = xs.length := by omega
        rw [List.take_of_length_le (Nat.le_refl _)]
        clear hc0
        obtain ⟨g, hgv⟩ : ∃ g, g = gb c xs := ⟨_, rfl⟩
        rw [← hgv]
        have HG := mkHid hgv
        clear hgv
        go_wp2
        go_ret
        exact ⟨by rw [← HG.out]; rfl, HB.out⟩
end Go.Proofs.YthncfkeoephipaaDoor
