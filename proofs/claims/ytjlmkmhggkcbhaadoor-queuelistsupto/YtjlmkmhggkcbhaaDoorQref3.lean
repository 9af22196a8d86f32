/- The document's queue: Pop, Turn, Drop, Sorted; same. -/
import Derived.Test.YtjlmkmhggkcbhaaDoorQref2
namespace Go.Proofs.YtjlmkmhggkcbhaaDoor
open Go.ChangeShapes Go.WideShapes Go.ChangeAt Go.RowKit
set_option maxRecDepth 100000

theorem rpop_none (G : Nat → Prop) (w : World) (q : Nat) (h : Rq G w q []) :
    Calls Tryd.prog 29 #[.pointer (some ⟨q, 0, none⟩)] w fun e w' => e = .returned (.tuple #[.agg #[.int .i64 0, .int .i64 0], .int .i64 5]) ∧ Below w.heap.size w w' := by
  have HR := mkHid h
  clear h
  go_enter Tryd.func29, Tryd.ntmps29
  go_wp2_with (first | (go_at_call 30; refine (first_none G _ q (HR.out.below ((Below.refl _ w).alloc (Nat.le_refl _) (.cells #[.int .i64 0, .int .i64 0] 52)))).mono ?_; rintro e w1 ⟨rfl, rfl⟩))
  refine bodyPost_ret (v := .tuple #[.agg #[.int .i64 0, .int .i64 0], .int .i64 5]) (by simp [results, Tryd.results29, go_sem]) rfl ⟨rfl, ?_⟩
  exact (Below.refl _ w).alloc (Nat.le_refl _) _
set_option maxHeartbeats 1600000 in
theorem rpop_some (G : Nat → Prop) (w : World) (q : Nat) (L : List Th) (h : Rq G w q L) (hp : 0 < L.length) (hl : L.length ≤ 4096) :
    Calls Tryd.prog 29 #[.pointer (some ⟨q, 0, none⟩)] w fun e w' => ∃ b : Nat, e = .returned (.tuple #[.agg #[.int .i64 (gt L b).1, .int .i64 (gt L b).2], .int .i64 0]) ∧ Hid (IsFst L b ∧ ∃ G', Rq G' w' q (L.eraseIdx b) ∧ (∀ k, G' k → G k ∨ w.heap.size ≤ k) ∧ Kept G w w') := by
  have hb0 : Below w.heap.size w (w.alloc (.cells #[.int .i64 0, .int .i64 0] 52)) := (Below.refl _ w).alloc (Nat.le_refl _) _
  have HR := mkHid (h.below hb0)
  have HG := mkHid h.1
  have HL := mkHid (And.intro hp hl)
  have HB0 := mkHid hb0
  clear h hp hl hb0
  go_enter Tryd.func29, Tryd.ntmps29
  go_wp2_with (first
    | (go_at_call 30; refine (first_some G _ q L HR.out HL.out.1 HL.out.2).mono ?_; rintro e w1 ⟨b, rfl, h1⟩; have HF := mkHid h1.out.1; have HB1 := mkHid h1.out.2; have HBW := mkHid (HB0.out.trans (h1.out.2.mono HB0.out.size)); have hnb : ¬ (b : Int) < 0 := (by omega); have HBX : Hid (w1.heap[w.heap.size]? = some (.cells #[.int .i64 0, .int .i64 0] 52 (0, 0))) := mkHid (by rw [h1.out.2.block w.heap.size (by simp)]; exact heap_alloc_new w _); have HW1 : Hid (w.heap.size < w1.heap.size) := mkHid (Nat.lt_of_lt_of_le (by simp) h1.out.2.size); obtain ⟨x, hx⟩ : ∃ x, x = gt L b := ⟨_, rfl⟩; have HX := mkHid hx; clear h1 hx)
    | (go_at_call 43; have ho := out_is G w1 q L b (HR.out.below HB1.out) HF.out.1 HL.out.2; rw [← HX.out] at ho; refine ho.mono ?_; clear ho; rintro e w2 ⟨rfl, h2⟩; have H2 := h2; obtain ⟨G', g1, g2, g3⟩ := h2.out; have hbx : w2.heap[w.heap.size]? = some (.cells #[.int .i64 0, .int .i64 0] 52 (0, 0)) := (by rw [g3.block w.heap.size HW1.out (fun f => absurd (HG.out _ f) (Nat.lt_irrefl _))]; exact HBX.out); have r0 : w2.cell? ⟨w.heap.size, 0, none⟩ = some (.int .i64 0) := cell_of_block hbx rfl; have r1 : w2.cell? ⟨w.heap.size, 1, none⟩ = some (.int .i64 0) := cell_of_block hbx rfl; have r2 : w2.frozen? ⟨w.heap.size, 0, none⟩ = false := frozen_of_block hbx; have r3 : w2.frozen? ⟨w.heap.size, 1, none⟩ = false := frozen_of_block hbx; clear h2 g1 g2 g3 hbx))
  obtain ⟨G', g1, g2, g3⟩ := H2.out
  have hk := (Kept.setCell (F := fun k => k = w.heap.size) w2 (p := ⟨w.heap.size, 0, none⟩) rfl (.int .i64 x.1)).trans (Kept.setCell (F := fun k => k = w.heap.size) _ (p := ⟨w.heap.size, 1, none⟩) rfl (.int .i64 x.2)) (fun _ h => .inl h)
  refine bodyPost_ret (v := .tuple #[.agg #[.int .i64 x.1, .int .i64 x.2], .int .i64 0]) (by simp [results, Tryd.results29, go_sem, r0, r1]) rfl ⟨b, by rw [HX.out], HF.out, G', ?_, ?_, ?_⟩
  · refine g1.kept hk (fun k hk' e => ?_)
    have h1 := HW1.out
    rcases g2 k hk' with h | h
    · have := HG.out k h; omega
    · omega
  · intro k hk'
    have h1 := HW1.out
    exact (g2 k hk').imp (fun h => h) (fun h => by omega)
  · exact ((kept_below G HBW.out).trans g3 (fun _ h => .inl h)).trans hk (fun k e => .inr (by omega))
/-- What Turn and Drop answer. -/
def gcode (L : List Th) (id : Int) : Int := if fnd L id < 0 then 5 else 0
theorem fnd_cases (L : List Th) (id : Int) : (fnd L id = -1 ∧ ∀ y ∈ L, y.1 ≠ id) ∨ ∃ i : Nat, fnd L id = (i : Int) ∧ i < L.length ∧ (gt L i).1 = id := by
  unfold fnd
  cases h : L.findIdx? (fun x => x.1 == id) with
  | none =>
    refine .inl ⟨rfl, fun y hy => ?_⟩
    rw [List.findIdx?_eq_none_iff] at h
    simpa using h y hy
  | some i =>
    rw [List.findIdx?_eq_some_iff_getElem] at h
    obtain ⟨h1, h2, _⟩ := h
    exact .inr ⟨i, rfl, h1, by rw [gt_get h1]; simpa using h2⟩
theorem rturn_none (G : Nat → Prop) (w : World) (q : Nat) (L : List Th) (id r : Int) (h : Rq G w q L) (hl : L.length ≤ 4096) (hf : fnd L id = -1) :
    Calls Tryd.prog 31 #[.pointer (some ⟨q, 0, none⟩), .int .i64 id, .int .i64 r] w fun e w' => e = .returned (.int .i64 5) ∧ Below w.heap.size w w' := by
  have HF := mkHid (find_is G w q L id h hl)
  rw [hf] at HF
  clear h hl hf
  go_enter Tryd.func31, Tryd.ntmps31
  go_wp2_with (first | (go_at_call 42; refine HF.out.mono ?_; rintro e w1 ⟨rfl, hb⟩; have HB := mkHid hb; clear hb))
  go_ret
  exact ⟨rfl, HB.out⟩
theorem rdrop_none (G : Nat → Prop) (w : World) (q : Nat) (L : List Th) (id : Int) (h : Rq G w q L) (hl : L.length ≤ 4096) (hf : fnd L id = -1) :
    Calls Tryd.prog 32 #[.pointer (some ⟨q, 0, none⟩), .int .i64 id] w fun e w' => e = .returned (.int .i64 5) ∧ Below w.heap.size w w' := by
  have HF := mkHid (find_is G w q L id h hl)
  rw [hf] at HF
  clear h hl hf
  go_enter Tryd.func32, Tryd.ntmps32
  go_wp2_with (first | (go_at_call 42; refine HF.out.mono ?_; rintro e w1 ⟨rfl, hb⟩; have HB := mkHid hb; clear hb))
  go_ret
  exact ⟨rfl, HB.out⟩
theorem rdrop_some (G : Nat → Prop) (w : World) (q : Nat) (L : List Th) (id : Int) (i : Nat) (h : Rq G w q L) (hl : L.length ≤ 4096) (hf : fnd L id = (i : Int)) (hi : i < L.length) :
    Calls Tryd.prog 32 #[.pointer (some ⟨q, 0, none⟩), .int .i64 id] w fun e w' => e = .returned (.int .i64 0) ∧ Hid (∃ G', Rq G' w' q (L.eraseIdx i) ∧ (∀ k, G' k → G k ∨ w.heap.size ≤ k) ∧ Kept G w w') := by
  have HF := mkHid (find_is G w q L id h hl)
  rw [hf] at HF
  have HR := mkHid h
  have HL := mkHid (And.intro hi hl)
  have hni : ¬ (i : Int) < 0 := by omega
  clear h hl hf hi
  go_enter Tryd.func32, Tryd.ntmps32
  go_wp2_with (first | (go_at_call 42; refine HF.out.mono ?_; rintro e w1 ⟨rfl, hb⟩; have HB := mkHid hb; clear hb) | (go_at_call 43; refine (out_is G w1 q L i (HR.out.below HB.out) HL.out.1 HL.out.2).mono ?_; rintro e w2 ⟨rfl, h2⟩; have H2 := h2; clear h2))
  go_ret
  obtain ⟨G', g1, g2, g3⟩ := H2.out
  have hs := HB.out.size
  exact ⟨rfl, G', g1, fun k hk => (g2 k hk).imp (fun h => h) (fun h => by omega), (kept_below G HB.out).trans g3 (fun _ h => .inl h)⟩
theorem tcs_set1 (xs : List Th) (i : Nat) (r : Int) (hi : i < xs.length) : (tcs xs).set (i * 2 + 1) (.int .i64 r) = tcs (xs.set i ((gt xs i).1, r)) := by
  rw [← tcs_set xs i ((gt xs i).1, r) hi]
  have h1 := (tcs_at xs i hi).1
  congr 1
  refine (List.ext_getElem? (fun j => ?_)).symm
  rw [List.getElem?_set]
  split
  · rename_i e
    subst e
    have := (List.getElem?_eq_some_iff.mp h1).1
    rw [if_pos this, h1]
  · rfl
theorem rturn_some (G : Nat → Prop) (w : World) (q : Nat) (L : List Th) (id r : Int) (i : Nat) (h : Rq G w q L) (hl : L.length ≤ 4096) (hf : fnd L id = (i : Int)) (hi : i < L.length) :
    Calls Tryd.prog 31 #[.pointer (some ⟨q, 0, none⟩), .int .i64 id, .int .i64 r] w fun e w' => e = .returned (.int .i64 0) ∧ Hid (Rq G w' q (L.set i ((gt L i).1, r)) ∧ Kept G w w') := by
  have HF := mkHid (find_is G w q L id h hl)
  rw [hf] at HF
  have HR := mkHid h
  have HL := mkHid (And.intro hi hl)
  have hni : ¬ (i : Int) < 0 := by omega
  have hii : (i : Int) < L.length := by omega
  have hrq : ∀ w1, Below w.heap.size w w1 → Hid (∃ g cap, w1.cell? ⟨q, 0, none⟩ = some (.slice (some ⟨g, 0, none⟩) L.length cap) ∧ w1.cell? ⟨g, i * 2 + 1, none⟩ = some (.int .i64 (gt L i).2) ∧ w1.frozen? ⟨g, i * 2 + 1, none⟩ = false ∧ Hid (Rq G (w1.setCell ⟨g, i * 2 + 1, none⟩ (.int .i64 r)) q (L.set i ((gt L i).1, r)) ∧ Kept G w (w1.setCell ⟨g, i * 2 + 1, none⟩ (.int .i64 r)))) := fun w1 hb => mkHid (by
    have h1 := HR.out.below hb
    obtain ⟨hG, hq, sv, hd, hsv, ho⟩ := h1
    have ho' := ho
    rcases ho.2 with ⟨h0, h0'⟩ | ⟨g, cap, cur, rfl, hbb, hg, hnc, hcm, hcs, ht⟩
    · omega
    · obtain ⟨g1, g2⟩ := hsv g rfl
      obtain ⟨a1, a2⟩ := tcs_at L i hi
      have c1 := ho'.cells (g := g) rfl (i * 2 + 1) _ a2
      rw [add_none, Nat.zero_add] at c1
      have hk : Kept (fun k => k = g) w1 (w1.setCell ⟨g, i * 2 + 1, none⟩ (.int .i64 r)) := Kept.setCell (F := fun k => k = g) w1 (p := ⟨g, i * 2 + 1, none⟩) rfl _
      refine ⟨g, cap, cell_of_block hd rfl, c1, own_frozen ho' _, ⟨fun k hk' => Nat.lt_of_lt_of_le (hG k hk') hk.size, hq, .slice (some ⟨g, 0, none⟩) L.length cap, by rw [hk.block q (hG q hq) (fun e => g2 e.symm)]; exact hd, hsv, ?_⟩, (kept_below G hb).trans hk (fun k e => .inl (by rw [e]; exact g1))⟩
      rw [List.length_set]
      refine ⟨by rw [tcs_len, List.length_set], .inr ⟨g, cap, _, rfl, hbb, heap_set hg, hnc, hcm, by simpa using hcs, ?_⟩⟩
      rw [← tcs_set1 L i r hi, ← ht]
      simp only [Array.set!_eq_setIfInBounds, Array.toList_setIfInBounds]
      rw [List.take_set])
  have HRQ := mkHid hrq
  clear h hl hf hi hrq
  go_enter Tryd.func31, Tryd.ntmps31
  go_wp2_with (first | (go_at_call 42; refine HF.out.mono ?_; rintro e w1 ⟨rfl, hb⟩; obtain ⟨g, cap, q0, c1, f1, hfin⟩ := (HRQ.out w1 hb).out; clear hb; obtain ⟨y, hy⟩ : ∃ y, y = (gt L i).2 := ⟨_, rfl⟩; rw [← hy] at c1; clear hy))
  go_ret
  exact ⟨rfl, hfin⟩
/-- A slice of things that reads as a list. -/
def TS (w : World) (v : Value) (ys : List Th) : Prop := ∃ a c, v = .slice a ys.length c ∧ (0 < ys.length → ∃ g, a = some ⟨g, 0, none⟩ ∧ ∀ i, i < ys.length → w.cell? ⟨g, i * 2, none⟩ = some (.int .i64 (gt ys i).1) ∧ w.cell? ⟨g, i * 2 + 1, none⟩ = some (.int .i64 (gt ys i).2))
theorem TS.at {w : World} {a : Option Addr} {n c : Nat} {ys : List Th} (h : TS w (.slice a n c) ys) (i : Nat) (hi : i < ys.length) : ∃ g, a = some ⟨g, 0, none⟩ ∧ w.cell? ⟨g, i * 2, none⟩ = some (.int .i64 (gt ys i).1) ∧ w.cell? ⟨g, i * 2 + 1, none⟩ = some (.int .i64 (gt ys i).2) := by
  obtain ⟨a', c', e, hr⟩ := h
  simp at e
  obtain ⟨rfl, rfl, rfl⟩ := e
  obtain ⟨g, rfl, hc⟩ := hr (by omega)
  exact ⟨g, rfl, (hc i hi).1, (hc i hi).2⟩
set_option maxHeartbeats 1600000 in
theorem same_things (w : World) (v0 v1 : Value) (ys : List Th) (h0 : TS w v0 ys) (h1 : TS w v1 ys) (hl : (ys.length : Int) ≤ 4096) :
    Calls Tryd.prog 33 #[v0, v1] w fun e w' => e = .returned (.bool true) ∧ Below w.heap.size w w' := by
  obtain ⟨a0, c0, rfl, hx0⟩ := id h0
  obtain ⟨a1, c1, rfl, hx1⟩ := id h1
  have H0 := mkHid h0
  have H1 := mkHid h1
  clear h0 h1 hx0 hx1
  go_enter Tryd.func33, Tryd.ntmps33
  go_wp2
  go_loopw [13] (fun iv wr => ∃ j q : Nat, iv = .int .i64 (j : Int) ∧ j ≤ ys.length ∧ wr = w.drewN q) (fun iv _ => ys.length - (intOf iv).toNat)
  case atStart => exact ⟨0, 0, rfl, Nat.zero_le _, rfl⟩
  case round =>
    obtain ⟨j, q, rfl, hj, rfl⟩ := hrel
    by_cases hlt : j < ys.length
    · obtain ⟨g0, rfl, x0, x1⟩ := H0.out.at j hlt
      obtain ⟨g1, rfl, y0, y1⟩ := H1.out.at j hlt
      obtain ⟨x, hx⟩ : ∃ x, x = gt ys j := ⟨_, rfl⟩
      rw [← hx] at x0 x1 y0 y1
      have hji : (j : Int) < ys.length := by omega
      clear hx
      go_wp2
      go_quiet (fail)
      go_wp2
      go_roundw
      case rel => exact ⟨j + 1, q + nq, by go_num, by omega, by simp [World.drewN]⟩
      case measure => simp [intOf]; omega
    · obtain rfl : j = ys.length := by omega
      go_wp2
      go_ret
      exact ⟨rfl, rfl, rfl, rfl, Nat.le_refl _, fun _ _ => rfl⟩
end Go.Proofs.YtjlmkmhggkcbhaaDoor
