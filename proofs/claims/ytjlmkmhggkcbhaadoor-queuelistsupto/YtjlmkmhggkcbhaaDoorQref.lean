/- The document's queue: a list that is looked through: find, First, Push, Turn. -/
import Derived.Test.YtjlmkmhggkcbhaaDoorQst
import Derived.Test.YtjlmkmhggkcbhaaDoorSrtMath
import Derived.Deep.QuietTactic
import Derived.BigQuiet
namespace Go.Proofs.YtjlmkmhggkcbhaaDoor
open Go.ChangeShapes Go.WideShapes Go.ChangeAt Go.RowKit
set_option maxRecDepth 100000

/-- The document's queue behind its pointer. -/
def Rq (G : Nat → Prop) (w : World) (q : Nat) (L : List Th) : Prop :=
  (∀ k, G k → k < w.heap.size) ∧ G q ∧ ∃ sv, w.heap[q]? = some (.cells #[sv] 30 (0, 0)) ∧ (∀ k, sv.ownBlock = some k → G k ∧ k ≠ q) ∧ w.ownsRow 0 52 2 sv L.length (tcs L)
theorem Rq.kept {G : Nat → Prop} {w w' : World} {q : Nat} {L : List Th} {H : Nat → Prop} (h : Rq G w q L) (hk : Kept H w w') (hn : ∀ k, G k → ¬ H k) : Rq G w' q L := by
  obtain ⟨hG, hq, sv, hd, hsv, ho⟩ := h
  exact ⟨fun k hf => Nat.lt_of_lt_of_le (hG k hf) hk.size, hq, sv, by rw [hk.block q (hG q hq) (hn q hq)]; exact hd, hsv, own_keep ho hk (fun k e => hn k (hsv k e).1)⟩
theorem Rq.below {G : Nat → Prop} {w w' : World} {q : Nat} {L : List Th} (h : Rq G w q L) (hb : Below w.heap.size w w') : Rq G w' q L :=
  h.kept (kept_of_below hb) (fun k hf hge => by have := h.1 k hf; omega)
theorem Rq.view {G : Nat → Prop} {w : World} {q : Nat} {L : List Th} (h : Rq G w q L) : ∃ a cap, w.cell? ⟨q, 0, none⟩ = some (.slice a L.length cap) ∧ w.frozen? ⟨q, 0, none⟩ = false ∧ (0 < L.length → ∃ g, a = some ⟨g, 0, none⟩ ∧ G g ∧ g ≠ q ∧ L.length ≤ cap ∧ ∀ i, i < L.length → (w.cell? ⟨g, i * 2, none⟩ = some (.int .i64 (gt L i).1) ∧ w.cell? ⟨g, i * 2 + 1, none⟩ = some (.int .i64 (gt L i).2)) ∧ w.frozen? ⟨g, i * 2, none⟩ = false ∧ w.frozen? ⟨g, i * 2 + 1, none⟩ = false) := by
  obtain ⟨hG, hq, sv, hd, hsv, ho⟩ := h
  obtain ⟨a, cap, rfl⟩ := own_shape ho
  refine ⟨a, cap, cell_of_block hd rfl, frozen_of_block hd, fun hp => ?_⟩
  have ho' := ho
  rcases ho.2 with ⟨h0, h1⟩ | ⟨g, cap', cur, h0, hb, hg, hnc, rest⟩
  · omega
  · simp at h0
    obtain ⟨rfl, rfl⟩ := h0
    obtain ⟨g1, g2⟩ := hsv g rfl
    refine ⟨g, rfl, g1, g2, hnc, fun i hi => ?_⟩
    obtain ⟨a1, a2⟩ := tcs_at L i hi
    have h1 := ho'.cells (g := g) rfl (i * 2) _ a1
    have h2 := ho'.cells (g := g) rfl (i * 2 + 1) _ a2
    rw [add_none, Nat.zero_add] at h1 h2
    exact ⟨⟨h1, h2⟩, own_frozen ho' _, own_frozen ho' _⟩
/-- Where a number stands: its place, or -1. -/
def fnd (L : List Th) (id : Int) : Int := match L.findIdx? (fun x => x.1 == id) with
  | some i => (i : Int)
  | none => -1
theorem fnd_none {L : List Th} {id : Int} (h : ∀ i, i < L.length → (gt L i).1 ≠ id) : fnd L id = -1 := by
  have : L.findIdx? (fun x => x.1 == id) = none := by
    rw [List.findIdx?_eq_none_iff]
    intro x hx
    obtain ⟨i, hi, rfl⟩ := mem_gt.mp hx
    simpa using h i hi
  unfold fnd
  rw [this]
theorem fnd_some {L : List Th} {id : Int} {i : Nat} (hi : i < L.length) (h : (gt L i).1 = id) (hb : ∀ j, j < i → (gt L j).1 ≠ id) : fnd L id = (i : Int) := by
  have : L.findIdx? (fun x => x.1 == id) = some i := by
    rw [List.findIdx?_eq_some_iff_getElem]
    refine ⟨hi, ?_, fun j hj => ?_⟩
    · rw [← gt_get hi, h]; simp
    · rw [← gt_get (by omega)]; simpa using hb j hj
  unfold fnd
  rw [this]
set_option maxHeartbeats 1600000 in
theorem find_is (G : Nat → Prop) (w : World) (q : Nat) (L : List Th) (id : Int) (h : Rq G w q L) (hl : L.length ≤ 4096) :
    Calls Tryd.prog 42 #[.pointer (some ⟨q, 0, none⟩), .int .i64 id] w fun e w' => e = .returned (.int .i64 (fnd L id)) ∧ Below w.heap.size w w' := by
  obtain ⟨a, cap, q0, _, hv⟩ := h.view
  have HV := mkHid hv
  have hli : (L.length : Int) ≤ 4096 := by omega
  obtain ⟨r, hr⟩ : ∃ r, r = fnd L id := ⟨_, rfl⟩
  have HR := mkHid hr
  rw [← hr]
  clear hv h hl hr
  go_enter Tryd.func42, Tryd.ntmps42
  go_wp2
  go_loopw [12] (fun iv wr => ∃ j : Nat, iv = .int .i64 (j : Int) ∧ j ≤ L.length ∧ (∀ i, i < j → (gt L i).1 ≠ id) ∧ Below w.heap.size w wr) (fun iv _ => L.length - (intOf iv).toNat)
  case atStart => exact ⟨0, rfl, Nat.zero_le _, fun i hi => absurd hi (Nat.not_lt_zero _), Below.refl _ _⟩
  case round =>
    clear q0
    obtain ⟨j, rfl, hj, hn, hb⟩ := hrel
    have HN := mkHid hn
    have HB := mkHid hb
    clear hn hb
    by_cases hlt : j < L.length
    · obtain ⟨g, rfl, _, _, _, hc⟩ := HV.out (by omega)
      obtain ⟨⟨c0, c1⟩, _⟩ := hc j hlt
      have d0 := bcell HB.out c0
      have d1 := bcell HB.out c1
      obtain ⟨x, hx⟩ : ∃ x, x = gt L j := ⟨_, rfl⟩
      rw [← hx] at d0 d1
      have HX := mkHid hx
      have hji : (j : Int) < L.length := by omega
      clear hc c0 c1 hx
      by_cases he : x.1 = id
      · go_wp2
        go_ret
        refine ⟨?_, HB.out.alloc HB.out.size _⟩
        rw [HR.out, fnd_some hlt (by rw [← HX.out]; exact he) HN.out]
        rfl
      · go_wp2
        go_roundw
        case rel =>
          refine ⟨j + 1, by go_num, by omega, fun i hi => ?_, HB.out.alloc HB.out.size _⟩
          by_cases e : i = j
          · subst e; rw [← HX.out]; exact he
          · exact HN.out i (by omega)
        case measure => simp [intOf]; omega
    · obtain rfl : j = L.length := by omega
      go_wp2
      go_ret
      refine ⟨?_, HB.out⟩
      rw [HR.out, fnd_none HN.out]
      rfl
end Go.Proofs.YtjlmkmhggkcbhaaDoor
