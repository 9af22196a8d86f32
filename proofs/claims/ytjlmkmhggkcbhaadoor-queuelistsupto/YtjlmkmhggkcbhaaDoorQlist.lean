/- slices.Clone of things; List. -/
import Derived.Test.YtjlmkmhggkcbhaaDoorQsort
import Derived.Lib.SliceRun
namespace Go.Proofs.YtjlmkmhggkcbhaaDoor
open Go.ChangeShapes Go.WideShapes Go.ChangeAt Go.RowKit
set_option maxRecDepth 100000

theorem things_src {w : World} {sv : Value} {V : List Th} {base : Nat} (h : w.ownsRow base 52 2 sv V.length (tcs V)) : Src Tryd.prog 2 28 sv V.length (tcs V) w := by
  have hone : ∀ u ∈ tcs V, u.oneCell' = true := by
    intro u hu
    simp only [tcs, List.mem_flatMap] at hu
    obtain ⟨x, _, hx⟩ := hu
    simp [tc] at hx
    rcases hx with rfl | rfl <;> rfl
  rcases h.2 with ⟨rfl, h0⟩ | ⟨g, cap, cur, rfl, hb, hg, rest⟩
  · have hv : V = [] := List.eq_nil_of_length_eq_zero h0
    subst hv
    exact Src.ofNil w Tryd.underlying28 0
  · exact Src.ofSlice w Tryd.underlying28 _ _ cap _ (by rw [tcs_len]) (h.cells (g := g) rfl) hone
theorem eql_nil (w : World) (a : Option Addr) (n c n' c' : Nat) : (binOp .eql 28 (.slice a n c) (.slice none n' c')).run Tryd.prog w = .ok (.bool a.isNone) w :=
  Lib.run_eql_slice_nil w _ _ a n c n' c' Tryd.underlying28
set_option maxHeartbeats 800000 in
theorem clone_is (w : World) (sv : Value) (V : List Th) (h : w.ownsRow 0 52 2 sv V.length (tcs V)) (hl : V.length ≤ 4096) :
    Calls Tryd.prog 41 #[sv] w fun e w' => ∃ a c, e = .returned (.slice a V.length c) ∧ Hid (w'.ownsRow w.heap.size 52 2 (.slice a V.length c) V.length (tcs V) ∧ Below w.heap.size w w') := by
  have q := eql_nil
  rcases id h.2 with ⟨rfl, h0⟩ | ⟨g, cap, cur, rfl, hb, hg, rest⟩
  · have hv : V = [] := List.eq_nil_of_length_eq_zero h0
    subst hv
    clear h
    go_enter Tryd.func41, Tryd.ntmps41
    go_wp2
    go_ret
    exact ⟨none, 0, rfl, World.ownsRow_nil _ _ _ _, Below.refl _ _⟩
  · obtain ⟨ie, hie⟩ : ∃ ie, Hid (Tryd.prog.info? 52 = some ie ∧ ie.zero = some zth ∧ ie.size = 2 ∧ ie.bytes = 16) := by
      obtain ⟨ie, h1, h2, h3, h4⟩ := info_parts infoTh
      exact ⟨ie, mkHid ⟨h1, h2, h3, h4⟩⟩
    have H := mkHid h
    have HL := mkHid hl
    clear h hb hg rest hl
    go_enter Tryd.func41, Tryd.ntmps41
    go_wp2_with (first
      | (at_builtin; have hm := World.ownsRow_made (base := w.heap.size) (e := 52) (size := 2) w #[] 0 (Nat.le_refl _) (by unfold maxLen; omega) rfl; refine wpList_append_src2 _ rfl (.tmp 5) (.tmp 6) 28 28 rfl w.heap.size 52 ie Tryd.underlying28 hie.out.1 zth 16 hie.out.2.1 rfl hie.out.2.2.1 hie.out.2.2.2 (.slice (some ⟨w.heap.size, 0, none⟩) 0 0) 0 [] rfl hm (.slice (some ⟨g, 0, none⟩) V.length cap) V.length (tcs V) rfl (things_src (H.out.alloc _)) (by have := HL.out; unfold maxLen; omega) (by have := HL.out; omega) (by simp) ?_; intro v4 w4 ho4 hg4 hat4; rw [Nat.zero_add, List.nil_append] at ho4; have HO4 := mkHid ho4; have HB4 := mkHid (((Below.refl _ w).alloc (Nat.le_refl _) (.cells #[] 52)).grown hg4 (by simp) (fun k hk => by simp [Value.ownBlock] at hk; omega)); obtain ⟨a4, c4, rfl⟩ := own_shape ho4; clear hm ho4 hg4 hat4))
    go_ret
    exact ⟨a4, c4, rfl, HO4.out, HB4.out⟩
theorem own_some {w : World} {base : Nat} {e : TypeId} {sz n : Nat} {xs : List Value} {a : Option Addr} {c : Nat} (h : w.ownsRow base e sz (.slice a n c) n xs) (hn : 0 < n) : ∃ g, a = some ⟨g, 0, none⟩ ∧ base ≤ g ∧ g < w.heap.size := by
  rcases h.2 with ⟨h0, _⟩ | ⟨g, cap, cur, h0, hb, hg, _⟩
  · simp at h0; omega
  · simp at h0
    obtain ⟨rfl, rfl⟩ := h0
    exact ⟨g, rfl, hb, (Array.getElem?_eq_some_iff.1 hg).1⟩
theorem own_tr {w : World} {base : Nat} {xs : List Th} {g cap : Nat} (h : w.ownsRow base 52 2 (.slice (some ⟨g, 0, none⟩) xs.length cap) xs.length (tcs xs)) : TR w g xs := by
  intro i hi
  obtain ⟨a, b⟩ := tcs_at xs i hi
  have h1 := h.cells (g := g) rfl (i * 2) _ a
  have h2 := h.cells (g := g) rfl (i * 2 + 1) _ b
  rw [add_none, Nat.zero_add] at h1 h2
  exact ⟨⟨h1, h2⟩, own_frozen h _, own_frozen h _⟩
set_option maxHeartbeats 800000 in
theorem list_is (F : Nat → Prop) (w : World) (p : Nat) (V : List Th) (h : Qu F w p V) (hl : V.length ≤ 4096) :
    Calls Tryd.prog 24 #[.pointer (some ⟨p, 0, none⟩)] w fun e w' => ∃ a c, e = .returned (.slice a V.length c) ∧ Hid ((0 < V.length → ∃ g, a = some ⟨g, 0, none⟩ ∧ TR w' g (srtd V) ∧ w.heap.size ≤ g ∧ g < w'.heap.size) ∧ Below w.heap.size w w') := by
  obtain ⟨m, ⟨hF, hp, mb, sv, hmb, hpm, hd, hM, hsv, ho⟩, _⟩ := h
  have hcl := clone_is w sv V ho hl
  obtain ⟨sa, sc, rfl⟩ := own_shape ho
  have p0 : w.cell? ⟨p, 0, none⟩ = some (.slice sa V.length sc) := cell_of_block hd rfl
  have HL := mkHid hl
  clear hF hp hmb hpm hd hM hsv ho hl
  by_cases h0 : V.length = 0
  · rw [h0] at hcl p0 ⊢
    have hv : V = [] := List.eq_nil_of_length_eq_zero h0
    subst hv
    go_enter Tryd.func24, Tryd.ntmps24
    go_wp2_with (first
      | (go_at_call 41; refine hcl.mono ?_; rintro e w1 ⟨a, c, rfl, h1⟩; have HB := mkHid h1.2; clear h1)
      | (go_at_call 35; refine (sort_none w1 a c _).mono ?_; rintro e w2 ⟨rfl, rfl⟩))
    go_ret
    exact ⟨a, c, rfl, fun h => absurd h (Nat.lt_irrefl _), HB.out⟩
  · have HP : Hid (0 < V.length) := mkHid (by omega)
    clear h0
    go_enter Tryd.func24, Tryd.ntmps24
    go_wp2_with (first
      | (go_at_call 41; refine hcl.mono ?_; rintro e w1 ⟨a, c, rfl, h1⟩; obtain ⟨h2, h3⟩ := h1.out; have hg := own_some h2 HP.out; obtain ⟨g, rfl, hg1, hg2⟩ := hg; have HO := mkHid h2; have HB := mkHid h3; have HG := mkHid (And.intro hg1 hg2); clear h1 h2 h3 hg1 hg2)
      | (go_at_call 35; refine (sort_is w1 g c V (own_tr HO.out) HG.out.2 (by have := HL.out; omega)).mono ?_; rintro e w2 ⟨rfl, h2⟩; have H2 := h2; clear h2))
    go_ret
    obtain ⟨h3, h4⟩ := H2.out
    exact ⟨some ⟨g, 0, none⟩, c, rfl, fun _ => ⟨g, rfl, h3, HG.out.1, Nat.lt_of_lt_of_le HG.out.2 h4.size⟩, HB.out.trans (h4.below (fun k e => by rw [e]; exact HG.out.1) HB.out.size)⟩
end Go.Proofs.YtjlmkmhggkcbhaaDoor
