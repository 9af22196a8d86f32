/- settle, turn. -/
import Derived.Test.YtjlmkmhggkcbhaaDoorPsink
import Derived.Test.YtjlmkmhggkcbhaaDoorSrc2
namespace Go.Proofs.YtjlmkmhggkcbhaaDoor
open Go.ChangeShapes Go.WideShapes Go.ChangeAt Go.RowKit
set_option maxRecDepth 100000

/-- A pile of things, in order. -/
def Pq (F : Nat → Prop) (w : World) (p : Nat) (T : TypeId) (V : List Th) : Prop := ∃ m, Rp F w p T V m ∧ Heap V ∧ Idx V m
theorem Pq.kept {F : Nat → Prop} {w w' : World} {p : Nat} {T : TypeId} {V : List Th} {G : Nat → Prop} (h : Pq F w p T V) (hk : Kept G w w') (hn : ∀ k, F k → ¬ G k) : Pq F w' p T V := by
  obtain ⟨m, h1, h2⟩ := h
  exact ⟨m, h1.kept hk hn, h2⟩
theorem Pq.below {F : Nat → Prop} {w w' : World} {p : Nat} {T : TypeId} {V : List Th} (h : Pq F w p T V) (hb : Below w.heap.size w w') : Pq F w' p T V := by
  obtain ⟨m, h1, h2⟩ := h
  exact ⟨m, h1.below hb, h2⟩
theorem settle_is (F : Nat → Prop) (w : World) (p : Nat) (T : TypeId) (V : List Th) (x : Th) (i : Nat) (h : Sg F w w p T V x V i) (hl : V.length ≤ 1000000000000) :
    Calls Tryd.prog 48 #[.pointer (some ⟨p, 0, none⟩), .int .i64 (i : Int), tv x] w fun e w' => e = .returned (.tuple #[]) ∧ ∃ V', Pq F w' p T V' ∧ (∀ y, y ∈ V' ↔ y ∈ V) ∧ V'.length = V.length ∧ Kept F w w' := by
  have HF : Hid (∀ k, F k → k < w.heap.size) := mkHid (by obtain ⟨xs, m, h1, _⟩ := h.rp; exact h1.1)
  obtain ⟨W, hW⟩ : ∃ W, W = w.alloc (.cells #[.int .i64 x.1, .int .i64 x.2] 52) := ⟨_, rfl⟩
  have hb : Below w.heap.size w W := by rw [hW]; exact (Below.refl _ w).alloc (Nat.le_refl _) _
  have x0 : W.cell? ⟨w.heap.size, 0, none⟩ = some (.int .i64 x.1) := by rw [hW]; simp
  have x1 : W.cell? ⟨w.heap.size, 1, none⟩ = some (.int .i64 x.2) := by rw [hW]; simp
  have HS0 : Hid (Sg F W W p T V x V i) := mkHid (by
    have h1 := h.below hb
    exact ⟨h1.rp, h1.hx, h1.lt, h1.at', h1.mem, h1.len, Kept.refl _ _⟩)
  have HB := mkHid hb
  have HL := mkHid hl
  clear h hb hl
  unfold tv
  go_enter Tryd.func48, Tryd.ntmps48
  go_wp2_with (first
    | (go_at_call 60; rw [← hW]; refine (rise_is F W p T V x i HS0.out HL.out).mono ?_; rintro e w1 ⟨j1, V1, rfl, hS1, hU1⟩; have n0 : ¬ F w.heap.size := fun f => absurd (HF.out _ f) (Nat.lt_irrefl _); have y0 := hS1.kp.cell x0 n0; have y1 := hS1.kp.cell x1 n0; have HK1 := mkHid hS1.kp; have HS1 : Hid (Sg F w1 w1 p T V x V1 j1) := mkHid ⟨hS1.rp, hS1.hx, hS1.lt, hS1.at', hS1.mem, hS1.len, Kept.refl _ _⟩; have HU1 := mkHid hU1; clear hS1 hU1 n0)
    | (go_at_call 61; refine (sink_is F w1 p T V x V1 j1 HS1.out HU1.out HL.out).mono ?_; rintro e w2 ⟨j2, V2, rfl, hS2, hU2, hD2⟩; have n0 : ¬ F w.heap.size := fun f => absurd (HF.out _ f) (Nat.lt_irrefl _); have z0 := hS2.kp.cell y0 n0; have z1 := hS2.kp.cell y1 n0; obtain ⟨xs, m, hR2, hH2, hI2⟩ := hS2.rp; have HS2 := mkHid hS2; have HU2 := mkHid (And.intro hU2 hD2); have HR2 := mkHid hR2; have HH2 := mkHid hH2; have HI2 := mkHid hI2; clear hS2 hU2 hD2 hR2 hH2 hI2 n0)
    | (go_at_call 62; refine (lay_is F w2 p T xs m j2 x HR2.out (by rw [HH2.out.1]; exact HS2.out.lt)).mono ?_; rintro e w3 ⟨rfl, hR3, hK3⟩; have HR3 := mkHid hR3; have HK3 := mkHid hK3; clear hR3 hK3))
  go_end0
  refine ⟨rfl, V2, ⟨upn m x.1 j2, ?_, HS2.out.hx.done HU2.out.1 HU2.out.2, ?_⟩, HS2.out.mem, HS2.out.len, ?_⟩
  · have := HR3.out
    rw [← HS2.out.at', HH2.out.done HS2.out.lt] at this
    rw [← HS2.out.at']
    exact this
  · rw [← HS2.out.at']
    exact HI2.out.done HS2.out.lt
  · exact (((kept_below F HB.out).trans HK1.out (fun _ h => .inl h)).trans HS2.out.kp (fun _ h => .inl h)).trans HK3.out (fun _ h => .inl h)
theorem turn_is (F : Nat → Prop) (w : World) (p : Nat) (T : TypeId) (V : List Th) (i : Nat) (r : Int) (h : Pq F w p T V) (hi : i < V.length) (hl : V.length ≤ 1000000000000) :
    Calls Tryd.prog 40 #[.pointer (some ⟨p, 0, none⟩), .int .i64 (i : Int), .int .i64 r] w fun e w' => e = .returned (.tuple #[]) ∧ ∃ V', Pq F w' p T V' ∧ (∀ y, y ∈ V' ↔ (y.1 ≠ (gt V i).1 ∧ y ∈ V) ∨ y = ((gt V i).1, r)) ∧ V'.length = V.length ∧ Kept F w w' := by
  obtain ⟨m, hR, hH, hI⟩ := h
  obtain ⟨mb, g, cap, hP⟩ := hR.view (by omega)
  have p0 : w.cell? ⟨p, 0, none⟩ = some (.slice (some ⟨g, 0, none⟩) V.length cap) := cell_of_block hP.hd rfl
  obtain ⟨y0, y1⟩ := hP.at i hi
  have HS : Hid (Sg F w w p T (V.set i ((gt V i).1, r)) ((gt V i).1, r) (V.set i ((gt V i).1, r)) i) := mkHid
    ⟨⟨V, m, hR, ⟨by simp, fun j hj => by rw [gt_set _ _ _ _ hi, if_neg (fun e => hj e.symm)]⟩, IdxEx.of_turn hI i r hi⟩, HeapEx.of_heap hH i _ hi, by simpa using hi, by rw [gt_set _ _ _ _ hi, if_pos rfl], fun _ => Iff.rfl, rfl, Kept.refl _ _⟩
  have HM := mkHid (mem_turned hI i r hi)
  have HL : Hid ((V.set i ((gt V i).1, r)).length ≤ 1000000000000) := mkHid (by simpa using hl)
  have hii : (i : Int) < V.length := by omega
  clear hR hH hI hP hl hi
  go_enter Tryd.func40, Tryd.ntmps40
  go_wp2_with (first
    | (go_at_call 48; refine (settle_is F w p T _ _ i HS.out HL.out).mono ?_; rintro e w1 ⟨rfl, hQ⟩; have HQ := mkHid hQ; clear hQ))
  go_end0
  obtain ⟨V', h1, h2, h3, h4⟩ := HQ.out
  exact ⟨rfl, V', h1, fun y => (h2 y).trans (HM.out y), by simpa using h3, h4⟩
end Go.Proofs.YtjlmkmhggkcbhaaDoor
