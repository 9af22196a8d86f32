/- How a crash (a struct with a list of lists of bytes) is opened. -/
import Derived.Test.YtcglonefifldnaaDoorOpenList
import Derived.Lib.SmallJoins
namespace Go.Proofs.YtcglonefifldnaaDoor
open Go.ChangeShapes Go.WideShapes Go.ChangeAt Go.RowKit

/-- A list of lists of bytes that came in, and that none is longer than a list can be. -/
theorem open_list_in {H : Type} {enc : TypeId × Value → H} {W : World} {sp : Nat → Bool} {fuel : Nat} {v : Value} {y : DataW H × List MemPlace}
    (h : DataW.trod enc Tryd.prog W 0 sp true fuel 39 [v] = some y) : ∃ ps, LRd W v ps ∧ (ps.length : Int) ≤ 9223372036854775807 ∧ ∀ p ∈ ps, (p.length : Int) ≤ 9223372036854775807 := by
  rcases Go.Deep.open_slice1 Tryd.underlying39 cellsB h with ⟨hcs, hx⟩ | ⟨x, len, cap, m, n, V, D, Pl, hcs, _, hl, hm, hme, hx, hall⟩
  · simp at hcs
    subst hcs
    exact ⟨[], ⟨none, 0, rfl, fun hp => by simp at hp⟩, by simp, by simp⟩
  · simp at hcs
    subst hcs
    have hlm : len ≤ m := by rw [hme]; split <;> omega
    have each : ∀ i, i < len → ∃ bs : List Int, (W.cell? (x.add i) = some (V i) ∧ Rd W (V i) bs) ∧ (bs.length : Int) ≤ 9223372036854775807 := by
      intro i hi
      obtain ⟨hc, ht⟩ := hall i (by omega)
      rcases open_ints Tryd.underlying33 Tryd.underlying5 (by kernel_rfl) ht with ⟨hcs, _⟩ | ⟨x2, l2, c2, zs, hcs, _, hl2, hm2, _⟩
      · simp at hcs
        rw [hcs] at ht hc ⊢
        obtain ⟨bs, hr, hd⟩ := open_cells ht
        have : bs.length = 0 := by
          obtain ⟨_, a', c', e, _⟩ := hr
          simp at e
          exact e.2.1.symm ▸ rfl
        exact ⟨bs, ⟨hc, hr⟩, by omega⟩
      · simp at hcs
        rw [hcs] at ht hc ⊢
        obtain ⟨bs, hr, hd⟩ := open_cells ht
        have : bs.length = l2 := by
          obtain ⟨_, a', c', e, _⟩ := hr
          simp at e
          exact e.2.1.symm
        exact ⟨bs, ⟨hc, hr⟩, by unfold maxLen at hm2; omega⟩
    haveI : Inhabited (List Int) := ⟨[]⟩
    obtain ⟨f, hf'⟩ := Go.Deep.choose_lt each
    have hlen : ((List.range len).map f).length = len := by simp
    refine ⟨(List.range len).map f, ⟨some x, cap, by rw [hlen], fun hp => ?_⟩, by rw [hlen]; unfold maxLen at hm; omega, fun p hp => ?_⟩
    · rw [hlen] at hp
      obtain ⟨⟨hc, _⟩, _⟩ := hf' 0 hp
      obtain ⟨xb, xo, xs⟩ := x
      have hb : xs = none := by simpa [Addr.add] using World.cell?_spot hc
      subst hb
      refine ⟨xb, xo, rfl, World.block_lt_of_cell? W _ hc, fun i hi => ?_⟩
      rw [hlen] at hi
      obtain ⟨⟨hc, hr⟩, _⟩ := hf' i hi
      rw [add_none] at hc
      refine ⟨V i, hc, ?_⟩
      have : ((List.range len).map f).getD i [] = f i := by simp [List.getD, hi]
      rw [this]
      exact hr
    · obtain ⟨i, hi, rfl⟩ := List.mem_map.mp hp
      exact (hf' i (by simpa using hi)).2
theorem cellsCrash : Tryd.prog.cellsOf 44 = 4 := by kernel_rfl
theorem open_crash {H : Type} {enc : TypeId × Value → H} {W : World} {base : Nat} {v : Value} {d : DataW H} {p : List MemPlace}
    (hv : Value.okWide Tryd.prog W .any base 44 v) (h : DataW.Trod enc Tryd.prog W 0 (fun _ => true) true 44 v d p) :
    ∃ (u : Value) (fl to ke : Int) (ps : List (List Int)), v = .agg #[u, .int .i64 fl, .int .i64 to, .int .u64 ke] ∧ LRd W u ps ∧ (ps.length : Int) ≤ 9223372036854775807 ∧ ∀ p ∈ ps, (p.length : Int) ≤ 9223372036854775807 := by
  obtain ⟨v0, v1, v2, v3, y0, y1, y2, y3, n, rfl, _, _, t0, t1, t2, t3⟩ := Joins.open_agg4 Tryd.underlying44 (by kernel_rfl) cellsCrash hv h
  obtain ⟨ps, hL, hl, hp⟩ := open_list_in t0
  obtain ⟨n1, e1, x1, w1⟩ := DataW.trod_int Tryd.underlying3 t1
  obtain ⟨n2, e2, x2, w2⟩ := DataW.trod_int Tryd.underlying3 t2
  obtain ⟨n3, e3, x3, w3⟩ := DataW.trod_int Tryd.underlying32 t3
  simp at e1 e2 e3
  subst e1 e2 e3
  exact ⟨v0, n1, n2, n3, ps, rfl, hL, hl, hp⟩
end Go.Proofs.YtcglonefifldnaaDoor
