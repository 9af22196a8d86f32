/- The document's queue: out. -/
import Derived.Test.YtjlmkmhggkcbhaaDoorQref
import Derived.Test.YtjlmkmhggkcbhaaDoorTill
namespace Go.Proofs.YtjlmkmhggkcbhaaDoor
open Go.ChangeShapes Go.WideShapes Go.ChangeAt Go.RowKit
set_option maxRecDepth 100000

theorem size52 (W : World) : (Go.sizeOf 52).run Tryd.prog W = .ok 2 W := by
  obtain ⟨i0, hi, hz0, hz1, hz2⟩ := info_parts infoTh
  simp [Go.sizeOf, typeInfo, hi, hz1]
theorem elem28 : Tryd.prog.underlying 28 = some (.slice (Tryd.prog.elem 28)) ∧ Tryd.prog.elem 28 = 52 := by
  simp [Program.elem, Tryd.underlying28]
theorem tcs_one (L : List Th) : ∀ u ∈ tcs L, u.oneCell' = true := by
  intro u hu
  simp only [tcs, List.mem_flatMap] at hu
  obtain ⟨x, _, hx⟩ := hu
  simp [tc] at hx
  rcases hx with rfl | rfl <;> rfl
/-- The things of a row in memory. -/
def Row (w : World) (g : Nat) (L : List Th) : Prop := ∀ j v, (tcs L)[j]? = some v → w.cell? ⟨g, j, none⟩ = some v
theorem Row.of_view {w : World} {g : Nat} {L : List Th} (h : ∀ i, i < L.length → (w.cell? ⟨g, i * 2, none⟩ = some (.int .i64 (gt L i).1) ∧ w.cell? ⟨g, i * 2 + 1, none⟩ = some (.int .i64 (gt L i).2)) ∧ w.frozen? ⟨g, i * 2, none⟩ = false ∧ w.frozen? ⟨g, i * 2 + 1, none⟩ = false) : Row w g L := by
  intro j v hj
  have hjl := (List.getElem?_eq_some_iff.mp hj).1
  rw [tcs_len] at hjl
  obtain ⟨a, b⟩ := tcs_at L (j / 2) (by omega)
  obtain ⟨⟨c, d⟩, _⟩ := h (j / 2) (by omega)
  rcases (show j / 2 * 2 = j ∨ j / 2 * 2 + 1 = j by omega) with e | e
  · rw [e] at a c
    rw [a] at hj
    rw [c, ← hj]
  · rw [e] at b d
    rw [b] at hj
    rw [d, ← hj]
theorem Row.head {w : World} {g : Nat} {L : List Th} (h : Row w g L) (i cap : Nat) (hi : i ≤ L.length) : Src Tryd.prog 2 28 (.slice (some ⟨g, 0, none⟩) i cap) i (tcs (L.take i)) w := by
  have hl : (L.take i).length = i := by rw [List.length_take]; omega
  refine Src.ofSlice w Tryd.underlying28 _ _ cap _ (by rw [tcs_len, hl]) (fun j u hj => ?_) (tcs_one _)
  rw [add_none, Nat.zero_add]
  refine h j u ?_
  have e0 : tcs L = tcs (L.take i) ++ tcs (L.drop i) := by rw [← tcs_append, List.take_append_drop]
  rw [e0, List.getElem?_append_left (List.getElem?_eq_some_iff.mp hj).1]
  exact hj
theorem Row.tail {w : World} {g : Nat} {L : List Th} (h : Row w g L) (i cap : Nat) (hi : i ≤ L.length) (hc : L.length ≤ cap) : Src Tryd.prog 2 28 (Go.sliced (some ⟨g, 0, none⟩) i L.length cap 2) (L.length - i) (tcs (L.drop i)) w := by
  have hl : (L.drop i).length = L.length - i := by rw [List.length_drop]
  by_cases h0 : cap = i
  · have hd : L.drop i = [] := List.eq_nil_of_length_eq_zero (by omega)
    have hz : L.length - i = 0 := by omega
    rw [hd, hz]
    unfold Go.sliced
    rw [if_pos h0, hz]
    exact Src.ofSlice w Tryd.underlying28 _ _ _ _ rfl (fun j u hj => by simp [tcs] at hj) (tcs_one [])
  · unfold Go.sliced
    rw [if_neg h0]
    simp only [Option.map_some, add_none, Nat.zero_add]
    refine Src.ofSlice w Tryd.underlying28 _ _ _ _ (by rw [tcs_len, hl]) (fun j u hj => ?_) (tcs_one _)
    rw [add_none]
    refine h _ u ?_
    have e0 : tcs L = tcs (L.take i) ++ tcs (L.drop i) := by rw [← tcs_append, List.take_append_drop]
    have hl2 : (tcs (L.take i)).length = i * 2 := by rw [tcs_len, List.length_take]; omega
    rw [e0, List.getElem?_append_right (by omega), hl2, Nat.add_sub_cancel_left]
    exact hj
theorem Row.kept {F : Nat → Prop} {w w' : World} {g : Nat} {L : List Th} (h : Row w g L) (hk : Kept F w w') (hn : ¬ F g) : Row w' g L := fun j v hj => hk.cell (h j v hj) hn
theorem Row.later {w w' : World} {g : Nat} {L : List Th} (h : Row w g L) (hb : Below w.heap.size w w') : Row w' g L := fun j v hj => bcell hb (h j v hj)
theorem erase_tcs (L : List Th) (i : Nat) : tcs (L.take i) ++ tcs (L.drop (i + 1)) = tcs (L.eraseIdx i) := by
  rw [← tcs_append, List.eraseIdx_eq_take_drop_succ]
set_option maxHeartbeats 3200000 in
theorem out_is (G : Nat → Prop) (w : World) (q : Nat) (L : List Th) (i : Nat) (h : Rq G w q L) (hi : i < L.length) (hl : L.length ≤ 4096) :
    Calls Tryd.prog 43 #[.pointer (some ⟨q, 0, none⟩), .int .i64 (i : Int)] w fun e w' => e = .returned (.agg #[.int .i64 (gt L i).1, .int .i64 (gt L i).2]) ∧ Hid (∃ G', Rq G' w' q (L.eraseIdx i) ∧ (∀ k, G' k → G k ∨ w.heap.size ≤ k) ∧ Kept G w w') := by
  obtain ⟨a, cap, q0, qf, hv⟩ := h.view
  obtain ⟨g, rfl, gG, gq, hcap, hc⟩ := hv (by omega)
  have HROW : Hid (Row w g L) := mkHid (Row.of_view hc)
  obtain ⟨⟨c0, c1⟩, _⟩ := hc i hi
  obtain ⟨x, hx⟩ : ∃ x, x = gt L i := ⟨_, rfl⟩
  rw [← hx] at c0 c1
  rw [← hx]
  obtain ⟨n, hn⟩ : ∃ n, n = L.length := ⟨_, rfl⟩
  have HN := mkHid hn
  rw [← hn] at q0 hi hl hcap
  have HG := mkHid (And.intro h.1 (And.intro h.2.1 (And.intro gG gq)))
  have HD : Hid (w.heap[q]? = some (.cells #[.slice (some ⟨g, 0, none⟩) n cap] 30 (0, 0))) := mkHid (by
    obtain ⟨_, _, sv, hd, _⟩ := h
    have := cell_of_block hd (i := 0) rfl
    rw [q0] at this
    simp at this
    rw [hd, ← this])
  obtain ⟨i1, hi1⟩ : ∃ i1 : Nat, Hid (i1 = i + 1) := ⟨_, mkHid rfl⟩
  have e1 : IntKind.i64.wrap ((i : Int) + 1) = (i1 : Int) := by have := hi1.out; rw [IntKind.wrap_i64]; omega
  obtain ⟨v28, hv28⟩ : ∃ v, v = Go.sliced (some ⟨g, 0, none⟩) i1 n cap 2 := ⟨_, rfl⟩
  have hsl : ∀ W, (Instr.slice 28 (.slice (some ⟨g, 0, none⟩) n cap) (some (.int .i64 (i1 : Int))) none none).run Tryd.prog W = .ok v28 W := fun W => by
    have := hi1.out
    rw [run_slice_l W 28 _ _ _ elem28.1 .i64 _ (by omega) (by omega), elem28.2, size52, hv28]
    simp [Result.andThen]
  have HV28 := mkHid hv28
  have HL := mkHid (And.intro hi (And.intro hl hcap))
  have hii : (i : Int) < n := by omega
  have hic : (i : Int) ≤ cap := by omega
  have hic2 : i ≤ cap := by omega
  clear h hv hc hx hn hv28 hi hl hcap gG gq qf
  obtain ⟨W, hW⟩ : ∃ W, W = (w.alloc (.cells #[.int .i64 0, .int .i64 0] 52)).alloc (.cells #[.int .i64 x.1, .int .i64 x.2] 52) := ⟨_, rfl⟩
  have hb : Below w.heap.size w W := by rw [hW]; exact ((Below.refl _ w).alloc (Nat.le_refl _) _).alloc (by simp) _
  have HWS : Hid (W.heap.size = w.heap.size + 2) := mkHid (by rw [hW]; simp)
  have HX : Hid (W.heap[w.heap.size]? = some (.cells #[.int .i64 0, .int .i64 0] 52 (0, 0)) ∧ W.heap[w.heap.size + 1]? = some (.cells #[.int .i64 x.1, .int .i64 x.2] 52 (0, 0))) := mkHid (by
    rw [hW]
    refine ⟨?_, ?_⟩
    · have := heap_alloc_new w (.cells #[.int .i64 0, .int .i64 0] 52)
      rw [((Below.refl _ (w.alloc (.cells #[.int .i64 0, .int .i64 0] 52))).alloc (Nat.le_refl _) _).block w.heap.size (by simp)]
      exact this
    · have := heap_alloc_new (w.alloc (.cells #[.int .i64 0, .int .i64 0] 52)) (.cells #[.int .i64 x.1, .int .i64 x.2] 52)
      simpa using this)
  have HB := mkHid hb
  have TW : W.cell? ⟨q, 0, none⟩ = some (.slice (some ⟨g, 0, none⟩) n cap) := bcell hb q0
  have T0 : W.drew.cell? ⟨q, 0, none⟩ = some (.slice (some ⟨g, 0, none⟩) n cap) := TW
  clear hb
  have cb0 := bcell ((Below.refl _ w).alloc (Nat.le_refl _) (.cells #[.int .i64 0, .int .i64 0] 52)) c0
  have cb1 := bcell ((Below.refl _ w).alloc (Nat.le_refl _) (.cells #[.int .i64 0, .int .i64 0] 52)) c1
  have qb0 := bcell ((Below.refl _ w).alloc (Nat.le_refl _) (.cells #[.int .i64 0, .int .i64 0] 52)) q0
  go_enter Tryd.func43, Tryd.ntmps43
  go_wp2
  rw [← hW]
  clear hW q0 c0 c1 cb0 cb1 qb0
  obtain ⟨ie, hie⟩ : ∃ ie, Hid (Tryd.prog.info? 52 = some ie ∧ ie.zero = some zth ∧ ie.size = 2 ∧ ie.bytes = 16) := by
    obtain ⟨ie, h1, h2, h3, h4⟩ := info_parts infoTh
    exact ⟨ie, mkHid ⟨h1, h2, h3, h4⟩⟩
  obtain ⟨W4, hW4⟩ : ∃ W4, W4 = (W.alloc (.cells #[] 52)).drew := ⟨_, rfl⟩
  have hb4 : Below W.heap.size W W4 := by rw [hW4]; exact ((Below.refl _ W).alloc (Nat.le_refl _) _).drew
  have T4 : W4.cell? ⟨q, 0, none⟩ = some (.slice (some ⟨g, 0, none⟩) n cap) := bcell hb4 TW
  have HM4 : Hid (W4.ownsRow W.heap.size 52 2 (.slice (some ⟨W.heap.size, 0, none⟩) 0 0) 0 []) := mkHid (by rw [hW4]; exact own_keep (World.ownsRow_made (base := W.heap.size) (e := 52) (size := 2) W #[] 0 (Nat.le_refl _) (by unfold maxLen; omega) rfl) (Kept.drew (fun _ => False) _) (fun _ _ h => h))
  have HB4 := mkHid hb4
  have HR4 : Hid (Row W4 g L) := mkHid ((HROW.out.later HB.out).later hb4)
  have HQL : Hid (q < W.heap.size ∧ g < W.heap.size) := mkHid (by have := HG.out.1 g HG.out.2.2.1; have := HG.out.1 q HG.out.2.1; have := HB.out.size; omega)
  have HW4 := mkHid hW4
  clear hb4 hW4
  refine wp_region_till (fun w' => w'.cell? ⟨q, 0, none⟩ = some (.slice (some ⟨g, 0, none⟩) n cap)) 19 (by kernel_rfl) ?_
  refine wpT_free 0 (.pointer (some ⟨q, 0, none⟩)) rfl (by kernel_rfl) (by kernel_rfl) (by kernel_rfl) (by decide) (fun _ _ _ h => h) (fun _ => T0) (Or.inl ⟨by rfl, by intro w _; go_simp⟩) ?_
  (try simp only [Act.put])
  refine wpT_free 2 (.pointer (some ⟨q, 0, none⟩)) rfl (by kernel_rfl) (by kernel_rfl) (by kernel_rfl) (by decide) (fun _ _ _ h => h) (fun _ => T0) (Or.inl ⟨by rfl, by intro w _; go_simp⟩) ?_
  (try simp only [Act.put])
  refine wpT_free 3 (.pointer (some ⟨q, 0, none⟩)) rfl (by kernel_rfl) (by kernel_rfl) (by kernel_rfl) (by decide) (fun _ _ _ h => h) (fun _ => T0) (Or.inl ⟨by rfl, by intro w _; go_simp⟩) ?_
  (try simp only [Act.put])
  refine wpT_free 4 (.pointer (some ⟨q, 0, none⟩)) rfl (by kernel_rfl) (by kernel_rfl) (by kernel_rfl) (by decide) (fun _ _ _ h => h) (fun _ => T0) (Or.inl ⟨by rfl, by intro w _; go_simp⟩) ?_
  (try simp only [Act.put])
  refine wpT_first 5 (.slice (some ⟨g, 0, none⟩) n cap) rfl (by kernel_rfl) (by kernel_rfl) (by kernel_rfl) (by kernel_rfl) (by decide) (by kernel_rfl) (fun _ _ _ h => h) (Or.inl ⟨by rfl, by intro w hSw; go_simp⟩) T0 ?_
  (try simp only [Act.put])
  refine wpT_free 6 (.int .i64 (i : Int)) rfl (by kernel_rfl) (by kernel_rfl) (by kernel_rfl) (by decide) (fun _ _ _ h => h) (fun _ => T0) (Or.inl ⟨by rfl, by intro w _; go_simp⟩) ?_
  (try simp only [Act.put])
  refine wpT_free 7 (.slice (some ⟨g, 0, none⟩) i cap) rfl (by kernel_rfl) (by kernel_rfl) (by kernel_rfl) (by decide) (fun _ _ _ h => h) (fun _ => T0) (Or.inl ⟨by rfl, by intro w _; go_simp⟩) ?_
  (try simp only [Act.put])
  refine wpT_free 9 (.pointer (some ⟨q, 0, none⟩)) rfl (by kernel_rfl) (by kernel_rfl) (by kernel_rfl) (by decide) (fun _ _ _ h => h) (fun _ => T0) (Or.inl ⟨by rfl, by intro w _; go_simp⟩) ?_
  (try simp only [Act.put])
  refine wpT_free 10 (.pointer (some ⟨q, 0, none⟩)) rfl (by kernel_rfl) (by kernel_rfl) (by kernel_rfl) (by decide) (fun _ _ _ h => h) (fun _ => T0) (Or.inl ⟨by rfl, by intro w _; go_simp⟩) ?_
  (try simp only [Act.put])
  refine wpT_free 11 (.pointer (some ⟨q, 0, none⟩)) rfl (by kernel_rfl) (by kernel_rfl) (by kernel_rfl) (by decide) (fun _ _ _ h => h) (fun _ => T0) (Or.inl ⟨by rfl, by intro w _; go_simp⟩) ?_
  (try simp only [Act.put])
  refine wpT_first 12 (.slice (some ⟨g, 0, none⟩) n cap) rfl (by kernel_rfl) (by kernel_rfl) (by kernel_rfl) (by kernel_rfl) (by decide) (by kernel_rfl) (fun _ _ _ h => h) (Or.inl ⟨by rfl, by intro w hSw; go_simp⟩) T0 ?_
  (try simp only [Act.put])
  refine wpT_free 13 (.int .i64 (i : Int)) rfl (by kernel_rfl) (by kernel_rfl) (by kernel_rfl) (by decide) (fun _ _ _ h => h) (fun _ => T0) (Or.inl ⟨by rfl, by intro w _; go_simp⟩) ?_
  (try simp only [Act.put])
  refine wpT_free 14 (.int .i64 (i1 : Int)) rfl (by kernel_rfl) (by kernel_rfl) (by kernel_rfl) (by decide) (fun _ _ _ h => h) (fun _ => T0) (Or.inl ⟨by rfl, by intro w _; go_simp⟩) ?_
  (try simp only [Act.put])
  refine wpT_free 15 (v28) rfl (by kernel_rfl) (by kernel_rfl) (by kernel_rfl) (by decide) (fun _ _ _ h => h) (fun _ => T0) (Or.inl ⟨by rfl, by intro w _; go_simp⟩) ?_
  (try simp only [Act.put])
  refine wpT_ready (rs := [1]) (by kernel_rfl) (by simp) (AllT.cons rfl (fun K hK => ?_) AllT.nil)
  go_simp
  rw [← HW4.out]
  refine hK.out _ _ (fun _ => T4) ?_
  clear hK K T0 TW
  (try simp only [Act.put])
  refine wpT_ready (rs := [8]) (by kernel_rfl) (by simp) (AllT.cons rfl (fun K hK => ?_) AllT.nil)
  refine step_append_src2 (w := W4) rfl (.tmp 14) (.tmp 20) 28 28 rfl W.heap.size 52 ie Tryd.underlying28 hie.out.1 zth 16 hie.out.2.1 rfl hie.out.2.2.1 hie.out.2.2.2 (.slice (some ⟨W.heap.size, 0, none⟩) 0 0) 0 [] (by simp [Act.eval]) HM4.out (.slice (some ⟨g, 0, none⟩) i cap) i (tcs (L.take i)) (by simp [Act.eval]) (HR4.out.head i cap (by have := HL.out.1; have := HN.out; omega)) (by have := HL.out; unfold maxLen; omega) (by have := HL.out; omega) HB4.out.size ?_
  intro v8 w8 ho8 hg8 hat8
  rw [Nat.zero_add, List.nil_append] at ho8
  have k8 : Kept (fun k => k = W.heap.size) W4 w8 := Kept.grown hg8 (fun k hk => by simp [Value.ownBlock] at hk; exact hk.symm)
  have T8 : w8.cell? ⟨q, 0, none⟩ = some (.slice (some ⟨g, 0, none⟩) n cap) := k8.cell T4 (fun e => by have := HQL.out.1; have e' : q = W.heap.size := e; omega)
  have HR8 : Hid (Row w8 g L) := mkHid (HR4.out.kept k8 (fun e => by have := HQL.out.2; have e' : g = W.heap.size := e; omega))
  have HB8 : Hid (Below W.heap.size W w8) := mkHid (HB4.out.trans (k8.below (fun k e => by rw [e]; exact Nat.le_refl _) HB4.out.size))
  have HO8 := mkHid ho8
  obtain ⟨a8, c8, rfl⟩ := own_shape ho8
  refine hK.out _ _ (fun _ => T8) ?_
  clear hK K T4 ho8 hg8 hat8 k8
  (try simp only [Act.put])
  refine wpT_ready (rs := [16]) (by kernel_rfl) (by simp) (AllT.cons rfl (fun K hK => ?_) AllT.nil)
  have htl := HR8.out.tail i1 cap (by have := HL.out.1; have := HN.out; have := hi1.out; omega) (by have := HL.out.2.2; have := HN.out; omega)
  rw [← HN.out, ← HV28.out] at htl
  have HTL := mkHid htl
  clear htl
  refine step_append_src2 (w := w8) rfl (.tmp 21) (.tmp 28) 28 28 rfl W.heap.size 52 ie Tryd.underlying28 hie.out.1 zth 16 hie.out.2.1 rfl hie.out.2.2.1 hie.out.2.2.2 (.slice a8 i c8) i (tcs (L.take i)) (by simp [Act.eval]) HO8.out v28 (n - i1) (tcs (L.drop i1)) (by simp [Act.eval]) HTL.out (by have := HL.out; have := hi1.out; unfold maxLen; omega) (by have := HL.out; have := hi1.out; omega) HB8.out.size ?_
  intro v16 w16 ho16 hg16 hat16
  rw [hi1.out, erase_tcs] at ho16
  have k16 : Kept (fun k => W.heap.size ≤ k) w8 w16 := Kept.grown hg16 (fun k hk => (HO8.out.lt k hk).1)
  have hd16 : w16.heap[q]? = some (.cells #[.slice (some ⟨g, 0, none⟩) n cap] 30 (0, 0)) := by
    rw [k16.block q (Nat.lt_of_lt_of_le HQL.out.1 HB8.out.size) (by have := HQL.out.1; omega), HB8.out.block q HQL.out.1, HB.out.block q (HG.out.1 q HG.out.2.1)]
    exact HD.out
  have T16 : w16.cell? ⟨q, 0, none⟩ = some (.slice (some ⟨g, 0, none⟩) n cap) := cell_of_block hd16 rfl
  have F16 : w16.frozen? ⟨q, 0, none⟩ = false := frozen_of_block hd16
  have HB16 : Hid (Below W.heap.size W w16) := mkHid (HB8.out.trans (k16.below (fun _ e => e) HB8.out.size))
  have HO16 := mkHid ho16
  have HD16 := mkHid hd16
  obtain ⟨m, hm⟩ : ∃ m, m = i + (n - (i + 1)) := ⟨_, rfl⟩
  have HMM := mkHid hm
  rw [← hm] at HO16
  obtain ⟨a16, c16, rfl⟩ := own_shape HO16.out
  refine hK.out _ _ (fun _ => T16) ?_
  clear hK K T8 ho16 hg16 hat16 k16 hd16 hm
  (try simp only [Act.put])
  refine wpT_free 17 (.pointer (some ⟨q, 0, none⟩)) rfl (by kernel_rfl) (by kernel_rfl) (by kernel_rfl) (by decide) (fun _ _ _ h => h) (fun _ => T16) (Or.inl ⟨by rfl, by intro w _; go_simp⟩) ?_
  (try simp only [Act.put])
  refine wpT_free 18 (.pointer (some ⟨q, 0, none⟩)) rfl (by kernel_rfl) (by kernel_rfl) (by kernel_rfl) (by decide) (fun _ _ _ h => h) (fun _ => T16) (Or.inl ⟨by rfl, by intro w _; go_simp⟩) ?_
  (try simp only [Act.put])
  refine wpT_ready (rs := [19]) (by kernel_rfl) (by simp) (AllT.cons rfl (fun K hK => ?_) AllT.nil)
  go_simp
  refine hK.out _ _ (bool_no (by kernel_rfl)) ?_
  clear hK K
  (try simp only [Act.put])
  refine wpT_done (by kernel_rfl) ?_ _
  obtain ⟨W9, hW9⟩ : ∃ W9, W9 = w16.setCell ⟨q, 0, none⟩ (.slice a16 m c16) := ⟨_, rfl⟩
  have k9 : Kept (fun k => k = q) w16 W9 := by rw [hW9]; exact Kept.setCell (F := fun k => k = q) w16 (p := ⟨q, 0, none⟩) rfl _
  have hb9 : W9.heap[w.heap.size]? = some (.cells #[.int .i64 0, .int .i64 0] 52 (0, 0)) ∧ W9.heap[w.heap.size + 1]? = some (.cells #[.int .i64 x.1, .int .i64 x.2] 52 (0, 0)) := by
    have hs := HWS.out
    have hs2 := HB16.out.size
    have hq := HG.out.1 q HG.out.2.1
    rw [k9.block _ (by omega) (by omega), k9.block _ (by omega) (by omega), HB16.out.block _ (by omega), HB16.out.block _ (by omega)]
    exact HX.out
  have r0 : W9.cell? ⟨w.heap.size, 0, none⟩ = some (.int .i64 0) := cell_of_block hb9.1 rfl
  have r1 : W9.cell? ⟨w.heap.size, 1, none⟩ = some (.int .i64 0) := cell_of_block hb9.1 rfl
  have r2 : W9.frozen? ⟨w.heap.size, 0, none⟩ = false := frozen_of_block hb9.1
  have r3 : W9.frozen? ⟨w.heap.size, 1, none⟩ = false := frozen_of_block hb9.1
  have x0 : W9.cell? ⟨w.heap.size + 1, 0, none⟩ = some (.int .i64 x.1) := cell_of_block hb9.2 rfl
  have x1 : W9.cell? ⟨w.heap.size + 1, 1, none⟩ = some (.int .i64 x.2) := cell_of_block hb9.2 rfl
  have HRQ : Hid (∃ G', Rq G' W9 q (L.eraseIdx i) ∧ (∀ k, G' k → G k ∨ w.heap.size + 2 ≤ k) ∧ Kept G w W9) := mkHid (by
    have hs := HWS.out
    have hl : (L.eraseIdx i).length = m := by rw [List.length_eraseIdx, HMM.out, HN.out]; have := HL.out.1; have := HN.out; split <;> omega
    have hq := HG.out.1 q HG.out.2.1
    have hqW := HQL.out.1
    have hlt : ∀ k, (Value.slice a16 m c16).ownBlock = some k → W.heap.size ≤ k ∧ k < w16.heap.size := fun k hk => HO16.out.lt k hk
    refine ⟨fun k => G k ∨ (Value.slice a16 m c16).ownBlock = some k, ⟨fun k hk => ?_, .inl HG.out.2.1, .slice a16 m c16, ?_, fun k hk => ⟨.inr hk, by have := (hlt k hk).1; omega⟩, ?_⟩, fun k hk => ?_, ?_⟩
    · rcases hk with hk | hk
      · have := HG.out.1 k hk; have := HB16.out.size; have := k9.size; omega
      · have := (hlt k hk).2; have := k9.size; omega
    · rw [hW9, heap_set HD16.out]; rfl
    · rw [hl]
      have := own_keep HO16.out k9 (fun k hk e => by have := (hlt k hk).1; omega)
      refine ⟨this.1, this.2.imp id ?_⟩
      rintro ⟨g', cap', cur, e, hb', rest⟩
      exact ⟨g', cap', cur, e, Nat.zero_le _, rest⟩
    · rcases hk with hk | hk
      · exact .inl hk
      · exact .inr (by have := (hlt k hk).1; omega)
    · exact ((kept_below G HB.out).trans (kept_below G HB16.out) (fun _ h => .inl h)).trans k9 (fun k e => .inl (by rw [e]; exact HG.out.2.1)))
  rw [← hW9]
  clear hW9 k9 hb9 T16 F16
  go_wp2
  obtain ⟨G', h1, h2, h3⟩ := HRQ.out
  have hk := (Kept.setCell (F := fun k => k = w.heap.size) W9 (p := ⟨w.heap.size, 0, none⟩) rfl (.int .i64 x.1)).trans (Kept.setCell (F := fun k => k = w.heap.size) _ (p := ⟨w.heap.size, 1, none⟩) rfl (.int .i64 x.2)) (fun _ h => .inl h)
  refine bodyPost_ret (v := .agg #[.int .i64 x.1, .int .i64 x.2]) (by simp [results, Tryd.results43, go_sem, r0, r1]) rfl ⟨rfl, G', h1.kept hk (fun k hk' e => by rcases h2 k hk' with h | h; (have := HG.out.1 k h; omega); omega), fun k hk' => (h2 k hk').imp id (fun h => by omega), h3.trans hk (fun k e => .inr (by omega))⟩
end Go.Proofs.YtjlmkmhggkcbhaaDoor
