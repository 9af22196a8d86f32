/- Lists of lists of integers: how they are read, cloned and opened. -/
import Derived.Test.YtjlmkmhggkcbhaaDoorQsame
import Derived.Test.YtjlmkmhggkcbhaaDoorQlist
import Derived.Test.YtjlmkmhggkcbhaaDoorMgMath
import Derived.Test.YtjlmkmhggkcbhaaDoorSrcV
namespace Go.Proofs.YtjlmkmhggkcbhaaDoor
open Go.ChangeShapes Go.WideShapes Go.ChangeAt Go.RowKit
set_option maxRecDepth 100000
set_option linter.unusedVariables false

/-- A list of integers in memory, with its room. -/
def Slc (w : World) (v : Value) (xs : List Int) : Prop := ∃ a c, v = .slice a xs.length c ∧ xs.length ≤ c ∧ (0 < xs.length → ∃ b off, a = some ⟨b, off, none⟩ ∧ ∀ i, i < xs.length → w.cell? ⟨b, off + i, none⟩ = some (.int .i64 (xs.getD i 0)))
theorem Slc.below {w w' : World} {v : Value} {xs : List Int} (h : Slc w v xs) (hb : Below w.heap.size w w') : Slc w' v xs := by
  obtain ⟨a, c, rfl, hc, hr⟩ := h
  refine ⟨a, c, rfl, hc, fun hp => ?_⟩
  obtain ⟨b, off, rfl, hc⟩ := hr hp
  exact ⟨b, off, rfl, fun i hi => bcell hb (hc i hi)⟩
def vnil : Value := .slice none 0 0
/-- Lists in memory, and the slices that they are. -/
def Lsl (w : World) (v : Value) (ps : List (List Int)) (us : List Value) : Prop :=
  ∃ a cap, v = .slice a ps.length cap ∧ us.length = ps.length ∧ (0 < ps.length → ∃ b off, a = some ⟨b, off, none⟩ ∧ ∀ i, i < ps.length → w.cell? ⟨b, off + i, none⟩ = some (us.getD i vnil)) ∧ ∀ i, i < ps.length → Slc w (us.getD i vnil) (la ps i)
theorem Lsl.below {w w' : World} {v : Value} {ps : List (List Int)} {us : List Value} (h : Lsl w v ps us) (hb : Below w.heap.size w w') : Lsl w' v ps us := by
  obtain ⟨a, cap, rfl, hu, hr, hs⟩ := h
  refine ⟨a, cap, rfl, hu, fun hp => ?_, fun i hi => (hs i hi).below hb⟩
  obtain ⟨b, off, rfl, hc⟩ := hr hp
  exact ⟨b, off, rfl, fun i hi => bcell hb (hc i hi)⟩
theorem Lsl.at {w w' : World} {a : Option Addr} {n cap : Nat} {ps : List (List Int)} {us : List Value} (h : Lsl w (.slice a n cap) ps us) (hb : Below w.heap.size w w') (i : Nat) (hi : i < ps.length) : ∃ b off a1 c1, a = some ⟨b, off, none⟩ ∧ us.getD i vnil = .slice a1 (la ps i).length c1 ∧ w'.cell? ⟨b, off + i, none⟩ = some (.slice a1 (la ps i).length c1) ∧ (0 < (la ps i).length → ∃ g o, a1 = some ⟨g, o, none⟩ ∧ ∀ k, k < (la ps i).length → w'.cell? ⟨g, o + k, none⟩ = some (.int .i64 ((la ps i).getD k 0))) := by
  obtain ⟨a', cap', e, hu, hr, hs⟩ := h.below hb
  simp at e
  obtain ⟨rfl, rfl, rfl⟩ := e
  obtain ⟨b, off, rfl, hc⟩ := hr (by omega)
  obtain ⟨a1, c1, e1, _, hr1⟩ := hs i hi
  have h1 := hc i hi
  rw [e1] at h1
  exact ⟨b, off, a1, c1, rfl, e1, h1, hr1⟩
theorem slices_one {w : World} {ps : List (List Int)} {us : List Value} (hu : us.length = ps.length) (h : ∀ i, i < ps.length → Slc w (us.getD i vnil) (la ps i)) : ∀ u ∈ us, u.oneCell' = true := by
  intro u hm
  obtain ⟨i, hi, rfl⟩ := List.getElem_of_mem hm
  obtain ⟨a, c, e, _⟩ := h i (by omega)
  simp [List.getD, hi] at e
  rw [e]
  rfl
theorem Lsl.src {w : World} {v : Value} {ps : List (List Int)} {us : List Value} (h : Lsl w v ps us) : Src Tryd.prog 1 37 v ps.length us w := by
  obtain ⟨a, cap, rfl, hu, hr, hs⟩ := h
  cases a with
  | none =>
    have hl : ps = [] := by
      by_cases hp : 0 < ps.length
      · obtain ⟨b, off, e, _⟩ := hr hp
        simp at e
      · exact List.length_eq_zero_iff.mp (by omega)
    subst hl
    have hl' : us = [] := List.eq_nil_of_length_eq_zero hu
    subst hl'
    exact Src.ofNil w Tryd.underlying37 cap
  | some ad =>
    refine Src.ofSlice w Tryd.underlying37 ad _ cap _ (by rw [hu, Nat.mul_one]) (fun j u hj => ?_) (slices_one hu hs)
    have hjl : j < us.length := (List.getElem?_eq_some_iff.mp hj).1
    obtain ⟨b, off, e, hcell⟩ := hr (by omega)
    simp at e
    subst e
    rw [add_none, hcell j (by omega)]
    simp [List.getD, hj]
theorem infoSl : (Tryd.prog.info? 36).map (fun i => (i.zero, i.size, i.bytes)) = some (some vnil, 1, 24) := by kernel_rfl
theorem eql_nil_li (w : World) (a : Option Addr) (n c n' c' : Nat) : (binOp .eql 37 (.slice a n c) (.slice none n' c')).run Tryd.prog w = .ok (.bool a.isNone) w :=
  Lib.run_eql_slice_nil w _ _ a n c n' c' Tryd.underlying37
set_option maxHeartbeats 1600000 in
theorem clone_ls (w : World) (v : Value) (ps : List (List Int)) (us : List Value) (h : Lsl w v ps us) (hl : ps.length ≤ 1048576) :
    Calls Tryd.prog 38 #[v] w fun e w' => ∃ a c, e = .returned (.slice a ps.length c) ∧ Hid (w'.ownsRow w.heap.size 36 1 (.slice a ps.length c) ps.length us ∧ Below w.heap.size w w') := by
  have q := eql_nil_li
  obtain ⟨a, cap, rfl, hu, hr, hs⟩ := id h
  cases a with
  | none =>
    have hv : ps = [] := by
      by_cases hp : 0 < ps.length
      · obtain ⟨b, off, e, _⟩ := hr hp
        simp at e
      · exact List.length_eq_zero_iff.mp (by omega)
    subst hv
    have hl' : us = [] := List.eq_nil_of_length_eq_zero hu
    subst hl'
    clear h hr hs
    go_enter Tryd.func38, Tryd.ntmps38
    go_wp2
    go_ret
    exact ⟨none, 0, rfl, World.ownsRow_nil _ _ _ _, Below.refl _ _⟩
  | some ad =>
    obtain ⟨ie, hie⟩ : ∃ ie, Hid (Tryd.prog.info? 36 = some ie ∧ ie.zero = some vnil ∧ ie.size = 1 ∧ ie.bytes = 24) := by
      obtain ⟨ie, h1, h2, h3, h4⟩ := info_parts infoSl
      exact ⟨ie, mkHid ⟨h1, h2, h3, h4⟩⟩
    have H := mkHid h
    have HL := mkHid hl
    clear h hr hs hl hu
    go_enter Tryd.func38, Tryd.ntmps38
    go_wp2_with (first
      | (at_builtin; have hm := World.ownsRow_made (base := w.heap.size) (e := 36) (size := 1) w #[] 0 (Nat.le_refl _) (by unfold maxLen; omega) rfl; refine wpList_append_srcV _ rfl (.tmp 5) (.tmp 6) 37 37 rfl w.heap.size 36 ie Tryd.underlying37 hie.out.1 vnil 24 hie.out.2.1 rfl hie.out.2.2.1 hie.out.2.2.2 (.slice (some ⟨w.heap.size, 0, none⟩) 0 0) 0 [] rfl hm (.slice (some ad) ps.length cap) ps.length us rfl (H.out.below ((Below.refl _ w).alloc (Nat.le_refl _) _)).src (by have := HL.out; unfold maxLen; omega) (by have := HL.out; omega) (by simp) ?_; intro v4 w4 ho4 hg4 hat4; rw [Nat.zero_add, List.nil_append] at ho4; have HO4 := mkHid ho4; have HB4 := mkHid (((Below.refl _ w).alloc (Nat.le_refl _) (.cells #[] 36)).grown hg4 (by simp) (fun k hk => by simp [Value.ownBlock] at hk; omega)); obtain ⟨a4, c4, rfl⟩ := own_shape ho4; clear hm ho4 hg4 hat4))
    go_ret
    exact ⟨a4, c4, rfl, HO4.out, HB4.out⟩
theorem open_lists {H : Type} {enc : TypeId × Value → H} {W : World} {base : Nat} {v : Value} {d : DataW H} {p : List MemPlace}
    (hv : Value.okWide Tryd.prog W .any base 37 v) (h : DataW.Trod enc Tryd.prog W 0 (fun _ => true) true 37 v d p) : ∃ ps us, Lsl W v ps us ∧ (ps.length : Int) ≤ 9223372036854775807 := by
  obtain ⟨a, len, cap, rfl⟩ := okWide_slice Tryd.underlying37 hv
  obtain ⟨fuel, hf⟩ := h
  rcases Go.Deep.open_slice1 Tryd.underlying37 (show Tryd.prog.cellsOf 36 = 1 by kernel_rfl) (by simpa [Value.cells] using hf) with ⟨hcs, hx⟩ | ⟨x, l, c, m, n, V, D, Pl, hcs, _, hl, hm, hme, hx, hall⟩
  · simp at hcs
    obtain ⟨rfl, rfl, rfl⟩ := hcs
    exact ⟨[], [], ⟨none, 0, rfl, rfl, fun hp => by simp at hp, fun i hi => by simp at hi⟩, by simp⟩
  · simp at hcs
    obtain ⟨rfl, rfl, rfl⟩ := hcs
    have hlm : len ≤ m := by rw [hme]; simp; omega
    have each : ∀ i, i < len → ∃ bs : List Int, W.cell? (x.add i) = some (V i) ∧ Slc W (V i) bs := by
      intro i hi
      obtain ⟨hc, ht⟩ := hall i (by omega)
      rcases open_ints Tryd.underlying36 Tryd.underlying3 (by kernel_rfl) ht with ⟨hcs, _⟩ | ⟨x1, l1, c1, zs, hcs, _, hl1, hm1, hz, hx1, hcell, hwz⟩
      · simp at hcs
        rw [hcs] at hc ⊢
        exact ⟨[], hc, none, 0, rfl, Nat.le_refl _, fun hp => by simp at hp⟩
      · simp at hcs
        rw [hcs] at hc ⊢
        have hzl : l1 ≤ zs.length := by rw [hz]; split <;> omega
        have hlen : (zs.take l1).length = l1 := by rw [List.length_take]; omega
        refine ⟨zs.take l1, hc, some x1, c1, by rw [hlen], by rw [hlen]; exact hl1, fun hp => ?_⟩
        obtain ⟨b, off, rfl, hc1⟩ := ints_at hcell (by omega)
        refine ⟨b, off, rfl, fun k hk => ?_⟩
        rw [hc1 k (by omega)]
        have : k < l1 := by omega
        simp [List.getD, this]
    haveI : Inhabited (List Int) := ⟨[]⟩
    obtain ⟨f, hf'⟩ := Go.Deep.choose_lt each
    have hlen : ((List.range len).map f).length = len := by simp
    have hu : ∀ i, i < len → ((List.range len).map V).getD i vnil = V i := fun i hi => by simp [List.getD, hi]
    refine ⟨(List.range len).map f, (List.range len).map V, ⟨some x, cap, by rw [hlen], by simp, fun hp => ?_, fun i hi => ?_⟩, by rw [hlen]; unfold maxLen at hm; omega⟩
    · rw [hlen] at hp
      obtain ⟨hc, _⟩ := hf' 0 hp
      obtain ⟨xb, xo, xs⟩ := x
      have hb : xs = none := by simpa [Addr.add] using World.cell?_spot hc
      subst hb
      refine ⟨xb, xo, rfl, fun i hi => ?_⟩
      rw [hlen] at hi
      obtain ⟨hc, hr⟩ := hf' i hi
      rw [add_none] at hc
      rw [hu i hi]
      exact hc
    · rw [hlen] at hi
      have : la ((List.range len).map f) i = f i := by simp [la, List.getD, hi]
      rw [this, hu i hi]
      exact (hf' i hi).2
end Go.Proofs.YtjlmkmhggkcbhaaDoor
