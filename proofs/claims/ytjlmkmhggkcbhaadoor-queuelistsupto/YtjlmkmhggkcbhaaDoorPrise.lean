/- rise. -/
import Derived.Test.YtjlmkmhggkcbhaaDoorPlay1
namespace Go.Proofs.YtjlmkmhggkcbhaaDoor
open Go.ChangeShapes Go.WideShapes Go.ChangeAt Go.RowKit
set_option maxRecDepth 100000

/-- A thing x is on its way: V' is what is meant, i its place; V was meant at the beginning. -/
structure Sg (F : Nat → Prop) (w wr : World) (p : Nat) (T : TypeId) (V : List Th) (x : Th) (V' : List Th) (i : Nat) : Prop where
  rp : ∃ xs m, Rp F wr p T xs m ∧ Hol xs V' i ∧ IdxEx V' i m
  hx : HeapEx V' i
  lt : i < V'.length
  at' : gt V' i = x
  mem : ∀ y, y ∈ V' ↔ y ∈ V
  len : V'.length = V.length
  kp : Kept F w wr
theorem Sg.below {F : Nat → Prop} {w wr w' : World} {p : Nat} {T : TypeId} {V : List Th} {x : Th} {V' : List Th} {i : Nat} (h : Sg F w wr p T V x V' i) (hb : Below wr.heap.size wr w') : Sg F w w' p T V x V' i := by
  obtain ⟨xs, m, h1, h2, h3⟩ := h.rp
  exact ⟨⟨xs, m, h1.below hb, h2, h3⟩, h.hx, h.lt, h.at', h.mem, h.len, h.kp.trans (kept_below F hb) (fun _ h => .inl h)⟩
/-- A thing of another place is laid here. -/
theorem Sg.step {F : Nat → Prop} {w wr w' : World} {p : Nat} {T : TypeId} {V : List Th} {x : Th} {V' : List Th} {i q : Nat} (h : Sg F w wr p T V x V' i) {xs : List Th} {m : Int → Option Nat} (hH : Hol xs V' i) (hI : IdxEx V' i m)
    (hq : q < V'.length) (hn : i ≠ q) (hr : Rp F w' p T (xs.set i (gt V' q)) (upn m (gt V' q).1 i)) (hk : Kept F wr w') (hx : HeapEx (swp V' i q) q) : Sg F w w' p T V x (swp V' i q) q :=
  ⟨⟨_, _, hr, hH.step h.lt hq hn, hI.swap h.lt hq hn⟩, hx, by rw [swp_len]; exact hq, by rw [swp_to h.lt hq]; exact h.at', fun y => (mem_swp h.lt hq y).trans (h.mem y), by rw [swp_len]; exact h.len, h.kp.trans hk (fun _ h => .inl h)⟩
theorem bcell {w w' : World} (hb : Below w.heap.size w w') {a : Addr} {v : Value} (h : w.cell? a = some v) : w'.cell? a = some v :=
  (hb.cell (World.block_lt_of_cell? w a h)).trans h
set_option maxHeartbeats 3200000 in
theorem rise_is (F : Nat → Prop) (w : World) (p : Nat) (T : TypeId) (V : List Th) (x : Th) (i : Nat) (h : Sg F w w p T V x V i) (hl : V.length ≤ 1000000000000) :
    Calls Tryd.prog 60 #[.pointer (some ⟨p, 0, none⟩), .int .i64 (i : Int), tv x] w fun e w' => ∃ (j : Nat) (V' : List Th), e = .returned (.int .i64 (j : Int)) ∧ Sg F w w' p T V x V' j ∧ UpOk V' j := by
  have HF : Hid (∀ k, F k → k < w.heap.size) := mkHid (by obtain ⟨xs, m, h1, _⟩ := h.rp; exact h1.1)
  obtain ⟨W, hW⟩ : ∃ W, W = w.alloc (.cells #[.int .i64 x.1, .int .i64 x.2] 52) := ⟨_, rfl⟩
  have hb : Below w.heap.size w W := by rw [hW]; exact (Below.refl _ w).alloc (Nat.le_refl _) _
  have x0 : W.cell? ⟨w.heap.size, 0, none⟩ = some (.int .i64 x.1) := by rw [hW]; simp
  have x1 : W.cell? ⟨w.heap.size, 1, none⟩ = some (.int .i64 x.2) := by rw [hW]; simp
  have HX := mkHid (And.intro x0 x1)
  have HS0 := mkHid (h.below hb)
  have HB := mkHid hb
  have HL := mkHid hl
  clear h hb x0 x1 hl
  unfold tv
  go_enter Tryd.func60, Tryd.ntmps60
  go_wp2
  rw [← hW]
  go_loopw [1] (fun iv wr => ∃ (j : Nat) (V' : List Th), iv = .int .i64 (j : Int) ∧ Sg F w wr p T V x V' j ∧ Kept F W wr) (fun iv _ => (intOf iv).toNat)
  case atStart => exact ⟨i, V, rfl, HS0.out, Kept.refl _ _⟩
  case round =>
    clear HS0 hW
    obtain ⟨j, V', rfl, hS, hK⟩ := hrel
    have HS := mkHid hS
    have HK := mkHid hK
    have hj : (j : Int) < 1000000000000 := by have := hS.lt; have := hS.len; have := HL.out; omega
    clear hS hK
    by_cases hj0 : j = 0
    · subst hj0
      go_wp2
      go_ret
      exact ⟨0, V', rfl, HS.out, fun h => absurd h (Nat.lt_irrefl _)⟩
    · have hjp : (0 : Int) < j := by omega
      obtain ⟨k, hk⟩ : ∃ k : Nat, Hid (j = k + 1) := ⟨j - 1, mkHid (by omega)⟩
      obtain ⟨q, hq⟩ : ∃ q : Nat, Hid (q = k / 2) := ⟨_, mkHid rfl⟩
      have e1 : wrap64 ((j : Int) - 1) = (k : Int) := by have := hk.out; unfold wrap64; omega
      have e2 : (k : Int).tdiv 2 = (q : Int) := by have := hq.out; rw [Int.tdiv_eq_ediv_of_nonneg (by omega)]; omega
      have e3 : wrap64 (q : Int) = (q : Int) := by have := hq.out; have := hk.out; unfold wrap64; omega
      have hjk := hk.out
      have hqk := hq.out
      have hqj : q = (j - 1) / 2 := by omega
      obtain ⟨xs, m, hR, hH, hI⟩ := HS.out.rp
      have hlt := HS.out.lt
      have hql : q < V'.length := by omega
      have hqx : q < xs.length := by rw [hH.1]; exact hql
      obtain ⟨mb, g, cap, hP⟩ := hR.view (by omega)
      have p0 : wr.cell? ⟨p, 0, none⟩ = some (.slice (some ⟨g, 0, none⟩) xs.length cap) := cell_of_block hP.hd rfl
      obtain ⟨y0, y1⟩ := hP.at q hqx
      rw [hH.2 q (by omega)] at y0 y1
      have n0 : ¬ F w.heap.size := fun f => absurd (HF.out _ f) (Nat.lt_irrefl _)
      have x0 := HK.out.cell HX.out.1 n0
      have x1 := HK.out.cell HX.out.2 n0
      have hqi : (q : Int) < xs.length := by omega
      obtain ⟨y, hy⟩ : ∃ y, y = gt V' q := ⟨_, rfl⟩
      have HY := mkHid hy
      have HR := mkHid hR
      have HH := mkHid hH
      have HI := mkHid hI
      have HQ : Hid (q = (j - 1) / 2 ∧ q < V'.length ∧ j ≠ q ∧ j < xs.length) := mkHid ⟨hqj, hql, by omega, by rw [hH.1]; exact hlt⟩
      rw [← hy] at y0 y1
      clear hj hj0 hR hH hI hP hy hjk hqk hqj hlt hql hqx n0
      have hc : ∀ (w2 : World), Below wr.drew.heap.size wr.drew w2 → Hid (w2.cell? ⟨p, 0, none⟩ = some (.slice (some ⟨g, 0, none⟩) xs.length cap) ∧ w2.cell? ⟨w.heap.size, 0, none⟩ = some (.int .i64 x.1) ∧ w2.cell? ⟨w.heap.size, 1, none⟩ = some (.int .i64 x.2) ∧ w2.cell? ⟨g, q * 2, none⟩ = some (.int .i64 y.1) ∧ w2.cell? ⟨g, q * 2 + 1, none⟩ = some (.int .i64 y.2)) :=
        fun w2 hb => mkHid ⟨bcell hb p0, bcell hb x0, bcell hb x1, bcell hb y0, bcell hb y1⟩
      have HC := mkHid hc
      clear hc
      go_wp2
      simp only [e1, e3]
      by_cases ha : Ahd x y
      · have hd : ahb x y = true := ahb_true ha
        go_region_held3 (fun w' => w'.cell? ⟨p, 0, none⟩ = some (.slice (some ⟨g, 0, none⟩) xs.length cap) ∧ w'.cell? ⟨w.heap.size, 0, none⟩ = some (.int .i64 x.1) ∧ w'.cell? ⟨w.heap.size, 1, none⟩ = some (.int .i64 x.2) ∧ w'.cell? ⟨g, q * 2, none⟩ = some (.int .i64 y.1) ∧ w'.cell? ⟨g, q * 2 + 1, none⟩ = some (.int .i64 y.2)) (go_keep) (first | (go_at_call 68; refine (ahead_is x y _).mono ?_; rintro e w2 ⟨rfl, hb⟩; obtain ⟨s0, s1, s2, s3, s4⟩ := (HC.out w2 hb).out; have HB2 := mkHid hb; clear hb))
        have hb2 : Below wr.heap.size wr w2 := ((Below.refl _ wr).drew).trans HB2.out
        have HR2 := mkHid (HR.out.below hb2)
        have HS2 := mkHid (HS.out.below hb2)
        have HK2 : Hid (Kept F W w2) := mkHid (HK.out.trans (kept_below F hb2) (fun _ h => .inl h))
        clear p0 x0 x1 y0 y1 hb2 HC
        go_wp2_with (first | (go_at_call 62; refine (lay_is F w2 p T xs m j y HR2.out HQ.out.2.2.2).mono ?_; rintro e w3 ⟨rfl, hR3, hK3⟩; have HR3 := mkHid hR3; have HK3 := mkHid hK3; clear hR3 hK3))
        go_roundw
        case rel =>
          have hR3 := HR3.out
          rw [HY.out] at hR3
          have ha2 := ha
          refine ⟨q, swp V' j q, rfl, HS2.out.step HH.out HI.out HQ.out.2.1 HQ.out.2.2.1 hR3 HK3.out ?_, HK2.out.trans HK3.out (fun _ h => .inl h)⟩
          rw [HQ.out.1]
          exact HS2.out.hx.up (by have := hk.out; omega) HS2.out.lt
        case measure =>
          have := hq.out
          have := hk.out
          simp [intOf]
          omega
      · have hd : ahb x y = false := ahb_false ha
        go_region_held3 (fun w' => w'.cell? ⟨p, 0, none⟩ = some (.slice (some ⟨g, 0, none⟩) xs.length cap) ∧ w'.cell? ⟨w.heap.size, 0, none⟩ = some (.int .i64 x.1) ∧ w'.cell? ⟨w.heap.size, 1, none⟩ = some (.int .i64 x.2) ∧ w'.cell? ⟨g, q * 2, none⟩ = some (.int .i64 y.1) ∧ w'.cell? ⟨g, q * 2 + 1, none⟩ = some (.int .i64 y.2)) (go_keep) (first | (go_at_call 68; refine (ahead_is x y _).mono ?_; rintro e w2 ⟨rfl, hb⟩; obtain ⟨s0, s1, s2, s3, s4⟩ := (HC.out w2 hb).out; have HB2 := mkHid hb; clear hb))
        have hb2 : Below wr.heap.size wr w2 := ((Below.refl _ wr).drew).trans HB2.out
        have HS2 := mkHid (HS.out.below hb2)
        go_wp2
        go_ret
        refine ⟨j, V', rfl, HS2.out, fun _ => ?_⟩
        rw [HS2.out.at', ← HQ.out.1, ← HY.out]
        exact ha
end Go.Proofs.YtjlmkmhggkcbhaaDoor
