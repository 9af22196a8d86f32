/- The calls of a queue. -/
import Derived.Test.YtjlmkmhggkcbhaaDoorPtake
import Derived.Test.YtjlmkmhggkcbhaaDoorLaid
namespace Go.Proofs.YtjlmkmhggkcbhaaDoor
open Go.ChangeShapes Go.WideShapes Go.ChangeAt Go.RowKit
set_option maxRecDepth 100000

abbrev Qu (F : Nat → Prop) (w : World) (p : Nat) (V : List Th) : Prop := Pq F w p 66 V
theorem Pq.lt {F : Nat → Prop} {w : World} {p : Nat} {T : TypeId} {V : List Th} (h : Pq F w p T V) : ∀ k, F k → k < w.heap.size := by
  obtain ⟨m, h1, _⟩ := h
  exact h1.1
theorem Pq.inj {F : Nat → Prop} {w : World} {p : Nat} {T : TypeId} {V : List Th} (h : Pq F w p T V) {x y : Th} (hx : x ∈ V) (hy : y ∈ V) (e : x.1 = y.1) : x = y := by
  obtain ⟨m, h1, h2, h3⟩ := h
  obtain ⟨i, hi, rfl⟩ := mem_gt.mp hx
  obtain ⟨j, hj, rfl⟩ := mem_gt.mp hy
  rw [h3.inj hi hj e]
theorem Pq.nodup {F : Nat → Prop} {w : World} {p : Nat} {T : TypeId} {V : List Th} (h : Pq F w p T V) : V.Nodup := by
  obtain ⟨m, h1, h2, h3⟩ := h
  rw [List.nodup_iff_pairwise_ne, List.pairwise_iff_getElem]
  intro i j hi hj hlt e
  have e1 : gt V i = V[i] := by simp [gt, List.getD, hi]
  have e2 : gt V j = V[j] := by simp [gt, List.getD, hj]
  have := h3.inj hi hj (by rw [e1, e2, e])
  omega
theorem Pq.first {F : Nat → Prop} {w : World} {p : Nat} {T : TypeId} {V : List Th} (h : Pq F w p T V) {y : Th} (hy : y ∈ V) : y = gt V 0 ∨ Ahd (gt V 0) y := by
  obtain ⟨m, h1, h2, h3⟩ := h
  obtain ⟨i, hi, rfl⟩ := mem_gt.mp hy
  by_cases e : gt V i = gt V 0
  · exact .inl e
  · exact .inr (ahd_of_ne (h2.first i hi) e)
theorem len_is (F : Nat → Prop) (w : World) (p : Nat) (V : List Th) (h : Qu F w p V) :
    Calls Tryd.prog 23 #[.pointer (some ⟨p, 0, none⟩)] w fun e w' => e = .returned (.int .i64 (V.length : Int)) ∧ w' = w := by
  obtain ⟨m, ⟨hF, hp, mb, sv, hmb, hpm, hd, hM, hsv, ho⟩, _⟩ := h
  obtain ⟨sa, sc, rfl⟩ := own_shape ho
  have p0 : w.cell? ⟨p, 0, none⟩ = some (.slice sa V.length sc) := cell_of_block hd rfl
  clear hF hp hmb hpm hd hM hsv ho
  go_enter Tryd.func23, Tryd.ntmps23
  go_wp2
  go_ret
  exact ⟨rfl, rfl⟩
theorem Mi.fresh {w : World} {b : Nat} (h : w.heap[b]? = some (.map #[] 0)) : Mi w b (fun _ => none) :=
  ⟨#[], 0, h, fun e he => by simp at he, by simp, fun k => rfl⟩
theorem newPile_is (w : World) :
    Calls Tryd.prog 26 #[] w fun e w' => ∃ b : Nat, e = .returned (.agg #[.slice none 0 0, .map (some b)]) ∧ w'.heap[b]? = some (.map #[] 0) ∧ w.heap.size ≤ b ∧ Below w.heap.size w w' := by
  have hmm := @run_makeMap Tryd.prog
  go_enter Tryd.func26, Tryd.ntmps26
  go_wp2
  refine bodyPost_ret (v := .agg #[.slice none 0 0, .map (some (w.heap.size + 1))]) (by simp [results, Tryd.results26, go_sem]) rfl ⟨w.heap.size + 1, rfl, ?_, by omega, ?_⟩
  · have := heap_alloc_new (w.alloc (.cells #[.slice none 0 0, .map (some (w.heap.size + 1))] 63)) (.map #[] 0)
    simpa using this
  · exact ((Below.refl _ w).alloc (Nat.le_refl _) _).alloc (by simp) _
theorem Pq.fresh {w : World} {p b : Nat} {T : TypeId} (hp : w.heap[p]? = some (.cells #[.slice none 0 0, .map (some b)] T (0, 0))) (hb : w.heap[b]? = some (.map #[] 0)) : Pq (fun k => k = p ∨ k = b) w p T [] := by
  have h1 := (Array.getElem?_eq_some_iff.1 hp).1
  have h2 := (Array.getElem?_eq_some_iff.1 hb).1
  refine ⟨fun _ => none, ⟨fun k hk => by rcases hk with rfl | rfl <;> assumption, .inl rfl, b, .slice none 0 0, .inr rfl, fun e => ?_, hp, Mi.fresh hb, fun k hk => by simp [Value.ownBlock] at hk, World.ownsRow_nil _ _ _ _⟩, fun i h0 hi => by simp at hi, fun k i => by simp⟩
  rw [e, hb] at hp
  simp at hp
theorem new_is (w : World) :
    Calls Tryd.prog 9 #[] w fun e w' => ∃ p : Nat, e = .returned (.pointer (some ⟨p, 0, none⟩)) ∧ Hid (∃ F, Qu F w' p [] ∧ (∀ k, F k → w.heap.size ≤ k) ∧ Below w.heap.size w w') := by
  go_enter Tryd.func9, Tryd.ntmps9
  go_wp2_with (first | (go_at_call 26; refine (newPile_is w).mono ?_; rintro e w1 ⟨b, rfl, hb, hl, hw⟩; have HB := mkHid hb; have HL := mkHid hl; have HW := mkHid hw; clear hb hl hw))
  go_ret
  have hs := HW.out.size
  have hbl := (Array.getElem?_eq_some_iff.1 HB.out).1
  refine ⟨w1.heap.size, rfl, _, Pq.fresh (b := b) (heap_alloc_new w1 _) (by rw [((Below.refl w1.heap.size w1).alloc (Nat.le_refl _) _).block b hbl]; exact HB.out), fun k hk => ?_, HW.out.alloc hs _⟩
  have := HL.out
  rcases hk with rfl | rfl <;> omega
theorem peek_ok (F : Nat → Prop) (w : World) (p : Nat) (V : List Th) (h : Qu F w p V) (hl : 0 < V.length) :
    Calls Tryd.prog 25 #[.pointer (some ⟨p, 0, none⟩)] w fun e w' => e = .returned (.tuple #[.agg #[.int .i64 (gt V 0).1, .int .i64 (gt V 0).2], .nilIface]) ∧ Below w.heap.size w w' := by
  have hb1 : ∀ W, Below w.heap.size w W → Hid (Calls Tryd.prog 23 #[.pointer (some ⟨p, 0, none⟩)] W fun e w' => e = .returned (.int .i64 (V.length : Int)) ∧ w' = W) := fun W hb => mkHid (len_is F W p V (h.below hb))
  obtain ⟨m, hR, _, _⟩ := h
  obtain ⟨mb, g, cap, hP⟩ := hR.view hl
  have p0 : w.cell? ⟨p, 0, none⟩ = some (.slice (some ⟨g, 0, none⟩) V.length cap) := cell_of_block hP.hd rfl
  obtain ⟨y0, y1⟩ := hP.at 0 hl
  rw [Nat.zero_mul] at y0 y1
  rw [Nat.zero_add] at y1
  have hli : (0 : Int) < V.length := by omega
  have hne : ¬ (V.length : Int) = 0 := by omega
  have HL := mkHid hl
  have HB1 := mkHid hb1
  have hbw : Below w.heap.size w (w.alloc (.cells #[.int .i64 0, .int .i64 0] 52)) := (Below.refl _ w).alloc (Nat.le_refl _) _
  have q0 := bcell hbw p0
  have q1 := bcell hbw y0
  have q2 := bcell hbw y1
  clear hR hP hl hb1 p0 y0 y1
  go_enter Tryd.func25, Tryd.ntmps25
  go_wp2_with (first | (go_at_call 23; refine ((HB1.out _ hbw).out).mono ?_; rintro e w' ⟨rfl, rfl⟩))
  refine bodyPost_ret (v := .tuple #[.agg #[.int .i64 (gt V 0).1, .int .i64 (gt V 0).2], .nilIface]) (by simp [results, Tryd.results25, go_sem]) rfl ⟨rfl, (Below.refl _ w).alloc (Nat.le_refl _) _⟩
theorem peek_gone (F : Nat → Prop) (w : World) (p : Nat) (a : Addr) (h : Qu F w p []) (he : w.cell? ⟨0, 0, none⟩ = some (.iface 111 (.pointer (some a)))) :
    Calls Tryd.prog 25 #[.pointer (some ⟨p, 0, none⟩)] w fun e w' => e = .returned (.tuple #[.agg #[.int .i64 0, .int .i64 0], .iface 111 (.pointer (some a))]) ∧ Below w.heap.size w w' := by
  have hbw : Below w.heap.size w (w.alloc (.cells #[.int .i64 0, .int .i64 0] 52)) := (Below.refl _ w).alloc (Nat.le_refl _) _
  have hlen := len_is F _ p [] (h.below hbw)
  simp only [List.length_nil] at hlen
  have q0 := bcell hbw he
  have hne : ¬ (0 : Nat) = w.heap.size := by have := World.block_lt_of_cell? w _ he; simp at this; omega
  have HB := mkHid hbw
  clear h he hbw
  go_enter Tryd.func25, Tryd.ntmps25
  go_wp2_with (first | (go_at_call 23; refine hlen.mono ?_; rintro e w' ⟨rfl, rfl⟩))
  clear hlen
  go_region_held3 (fun w' => w'.cell? ⟨0, 0, none⟩ = some (.iface 111 (.pointer (some a)))) (go_keep) (fail)
  go_wp2
  refine bodyPost_ret (v := .tuple #[.agg #[.int .i64 0, .int .i64 0], .iface 111 (.pointer (some a))]) (by simp [results, Tryd.results25, go_sem]) rfl ⟨rfl, HB.out.drew⟩
end Go.Proofs.YtjlmkmhggkcbhaaDoor
