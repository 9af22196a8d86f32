/- put. -/
import Derived.Test.YtjlmkmhggkcbhaaDoorPsettle
import Derived.Deep.QuietTactic
import Derived.BigQuiet
namespace Go.Proofs.YtjlmkmhggkcbhaaDoor
open Go.ChangeShapes Go.WideShapes Go.ChangeAt Go.RowKit
set_option maxRecDepth 100000

def zth : Value := .agg #[.int .i64 0, .int .i64 0]
theorem infoTh : (Tryd.prog.info? 52).map (fun i => (i.zero, i.size, i.bytes)) = some (some zth, 2, 16) := by kernel_rfl
theorem srcTh (w : World) (x : Th) : Src Tryd.prog 2 28 (.slice (some ⟨w.heap.size, 0, none⟩) 1 1) 1 (tc x) (w.alloc (.cells #[.int .i64 x.1, .int .i64 x.2] 52)) := by
  refine Src.ofSlice _ Tryd.underlying28 _ 1 1 _ rfl (fun j u hj => ?_) (fun u hu => by simp [tc] at hu; rcases hu with rfl | rfl <;> rfl)
  match j, hj with
  | 0, hj => simp [tc] at hj; subst hj; simp [Addr.add]
  | 1, hj => simp [tc] at hj; subst hj; simp [Addr.add]
  | j + 2, hj => simp [tc] at hj
theorem info_parts {P : Program} {t : TypeId} {z : Option Value} {s b : Nat} (h : (P.info? t).map (fun i => (i.zero, i.size, i.bytes)) = some (z, s, b)) : ∃ i, P.info? t = some i ∧ i.zero = z ∧ i.size = s ∧ i.bytes = b := by
  obtain ⟨i, hi, e⟩ := Option.map_eq_some_iff.mp h
  simp at e
  exact ⟨i, hi, e.1, e.2.1, e.2.2⟩
theorem step_append_src2 {P : Program} {ops : Array Oper} {o : Oper} {a : Act} {w : World} {K : Act → World → Prop} {Q : Exit → Act → World → Prop} {E : Prop} (hgd : o.guard = none) (sl x : Operand) (t tx : TypeId)
    (hop : o.op = .call { callee := .builtin .append, args := #[sl, x], argTypes := #[t, tx] })
    (base : Nat) (e : TypeId) (i : TypeInfo) (ht : P.underlying t = some (.slice e)) (hi : P.info? e = some i) (z : Value) (B : Nat) (hz : i.zero = some z) (hzs : z.cells.size = 2) (hsize : i.size = 2) (hby : i.bytes = B)
    (v : Value) (n : Nat) (xs : List Value) (hs : a.eval sl = v) (hown : w.ownsRow base e 2 v n xs) (xv : Value) (m : Nat) (news : List Value) (hx : a.eval x = xv) (hsrc : Src P 2 tx xv m news w)
    (h63 : n + m ≤ maxLen) (hbytes : (n + m) * B ≤ 140737488355328) (hbase : base ≤ w.heap.size)
    (h : ∀ v' w', w'.ownsRow base e 2 v' (n + m) (xs ++ news) → w.grownBy w' v.ownBlock → (v'.ownBlock = v.ownBlock ∨ v'.ownBlock = some w.heap.size) → K (a.put o.dst v') w') :
    if Region.wanted o (yielded ops a.tmps) = true then Oper.wp P o a w K Q else E := by
  have hw : Region.wanted o (yielded ops a.tmps) = true := by simp [Region.wanted, hgd]
  rw [if_pos hw]
  obtain ⟨v', w', hr, h2, h3, h4⟩ := run_append_own_src2 (P := P) w base t tx o.type e i ht hi z B hz hzs hsize hby v n xs hown xv m news hsrc h63 hbytes hbase
  unfold Oper.wp execOp
  simp only [hop, resolve, invoke, builtin, Sem.run_bind, Sem.run_pure, Result.andThen_ok, List.map_toArray, List.map_cons, List.map_nil, hs, hx, hr]
  exact h v' w' h2 h3 h4
theorem Kept.drewN (F : Nat → Prop) (w : World) (q : Nat) : Kept F w (w.drewN q) := ⟨rfl, rfl, rfl, Nat.le_refl _, fun _ _ _ => rfl⟩
/-- A thing was appended, and the new slice stored. -/
theorem Rp.pushed {F : Nat → Prop} {w : World} {p : Nat} {T : TypeId} {V : List Th} {m : Int → Option Nat} (h : Rp F w p T V m) (x : Th) :
    ∃ mb sv, w.heap[p]? = some (.cells #[sv, .map (some mb)] T (0, 0)) ∧ w.ownsRow 0 52 2 sv V.length (tcs V) ∧ p < w.heap.size ∧ (∀ k, sv.ownBlock = some k → F k) ∧
      ∀ (w4 w5 : World) (v5 : Value), Below w.heap.size w w4 → w4.grownBy w5 sv.ownBlock → (v5.ownBlock = sv.ownBlock ∨ v5.ownBlock = some w4.heap.size) → w5.ownsRow 0 52 2 v5 (V.length + 1) (tcs V ++ tc x) →
        w5.heap[p]? = some (.cells #[sv, .map (some mb)] T (0, 0)) ∧
        ∃ F', Rp F' (w5.setCell ⟨p, 0, none⟩ v5) p T (V ++ [x]) m ∧ (∀ k, F' k → F k ∨ w.heap.size ≤ k) ∧ (∀ k, F' k → F k ∨ w4.heap.size ≤ k) ∧ Kept F w (w5.setCell ⟨p, 0, none⟩ v5) := by
  obtain ⟨hF, hp, mb, cv, hmb, hpm, hd, hM, hcv, ho⟩ := h
  refine ⟨mb, cv, hd, ho, hF p hp, fun k hk => (hcv k hk).1, fun w4 w5 v5 hb4 hg hv ho5 => ?_⟩
  have hk5 : Kept (fun k => cv.ownBlock = some k) w w5 := (kept_below _ hb4).trans (Kept.grown hg (fun k hk => hk)) (fun _ h => .inl h)
  have hd5 : w5.heap[p]? = some (.cells #[cv, .map (some mb)] T (0, 0)) := by
    rw [hk5.block p (hF p hp) (fun e => (hcv p e).2.1 rfl)]
    exact hd
  have hM5 : Mi w5 mb m := hM.kept hk5 (fun e => (hcv mb e).2.2 rfl)
  have k6 : Kept (fun k => k = p) w5 (w5.setCell ⟨p, 0, none⟩ v5) := Kept.setCell (F := fun k => k = p) w5 (p := ⟨p, 0, none⟩) rfl v5
  have hs4 := hb4.size
  have hs5 := hg.size
  have hs7 := k6.size
  have hpl := hF p hp
  have hml := hM.lt
  have hv5 : ∀ k, v5.ownBlock = some k → (F k ∨ w4.heap.size ≤ k) ∧ k ≠ p ∧ k ≠ mb ∧ k < w5.heap.size := by
    intro k hk
    have hlt := (ho5.lt k hk).2
    rcases hv with e | e
    · rw [e] at hk
      obtain ⟨a1, a2, a3⟩ := hcv k hk
      exact ⟨.inl a1, a2, a3, hlt⟩
    · rw [e] at hk
      simp at hk
      exact ⟨.inr (by omega), by omega, by omega, hlt⟩
  refine ⟨hd5, fun k => F k ∨ v5.ownBlock = some k, ⟨fun k hk => ?_, .inl hp, mb, v5, .inl hmb, hpm, ?_, hM5.kept k6 (fun e => hpm e.symm), fun k hk => ⟨.inr hk, (hv5 k hk).2.1, (hv5 k hk).2.2.1⟩, ?_⟩, fun k hk => ?_, fun k hk => ?_, ?_⟩
  · rcases hk with hk | hk
    · have := hF k hk; omega
    · have := (hv5 k hk).2.2.2; omega
  · rw [heap_set hd5]
    simp
  · rw [tcs_append, List.length_append]
    have : tcs [x] = tc x := by simp [tcs]
    rw [this]
    exact own_keep ho5 k6 (fun k hk => (hv5 k hk).2.1)
  · rcases hk with hk | hk
    · exact .inl hk
    · rcases (hv5 k hk).1 with h | h
      · exact .inl h
      · exact .inr (by omega)
  · rcases hk with hk | hk
    · exact .inl hk
    · exact (hv5 k hk).1
  · exact (hk5.mono (fun k hk => (hcv k hk).1)).trans k6 (fun k hk => .inl (by rw [hk]; exact hp))
set_option maxHeartbeats 1600000 in
theorem put_is (F : Nat → Prop) (w : World) (p : Nat) (T : TypeId) (V : List Th) (x : Th) (h : Pq F w p T V) (hn : ∀ y ∈ V, y.1 ≠ x.1) (hl : V.length ≤ 100000000000) :
    Calls Tryd.prog 37 #[.pointer (some ⟨p, 0, none⟩), tv x] w fun e w' => e = .returned (.tuple #[]) ∧ ∃ F' V', Pq F' w' p T V' ∧ (∀ y, y ∈ V' ↔ y ∈ V ∨ y = x) ∧ V'.length = V.length + 1 ∧ (∀ k, F' k → F k ∨ w.heap.size ≤ k) ∧ Kept F w w' := by
  obtain ⟨m, hR, hH, hI⟩ := h
  have HF := mkHid hR.1
  obtain ⟨W, hW⟩ : ∃ W, W = w.alloc (.cells #[.int .i64 x.1, .int .i64 x.2] 52) := ⟨_, rfl⟩
  have hb : Below w.heap.size w W := by rw [hW]; exact (Below.refl _ w).alloc (Nat.le_refl _) _
  have x0 : W.cell? ⟨w.heap.size, 0, none⟩ = some (.int .i64 x.1) := by rw [hW]; simp
  have x1 : W.cell? ⟨w.heap.size, 1, none⟩ = some (.int .i64 x.2) := by rw [hW]; simp
  have HWS : Hid (W.heap.size = w.heap.size + 1) := mkHid (by rw [hW]; simp)
  obtain ⟨mb, sv, hd, ho, hpl, hsF, hpush⟩ := (hR.below hb).pushed x
  obtain ⟨sa, sc, rfl⟩ := own_shape ho
  have p0 : W.cell? ⟨p, 0, none⟩ = some (.slice sa V.length sc) := cell_of_block hd rfl
  obtain ⟨ie, hie⟩ : ∃ ie, Hid (Tryd.prog.info? 52 = some ie ∧ ie.zero = some zth ∧ ie.size = 2 ∧ ie.bytes = 16) := by
    obtain ⟨ie, h1, h2, h3, h4⟩ := info_parts infoTh
    exact ⟨ie, mkHid ⟨h1, h2, h3, h4⟩⟩
  have HZ : Hid (zth.cells.size = 2) := mkHid rfl
  have HLN : Hid (V.length + 1 ≤ maxLen ∧ (V.length + 1) * 16 ≤ 140737488355328) := mkHid ⟨by unfold maxLen; omega, by omega⟩
  have HSG : Hid (HeapEx (V ++ [x]) V.length ∧ IdxEx (V ++ [x]) V.length m ∧ gt (V ++ [x]) V.length = x ∧ (V ++ [x]).length ≤ 1000000000000) := mkHid ⟨HeapEx.of_put hH x, IdxEx.of_put hI x (by
    cases hm : m x.1 with
    | none => rfl
    | some j =>
      obtain ⟨h1, h2⟩ := (hI x.1 j).mp hm
      exact absurd h2 (hn _ (mem_gt.mpr ⟨j, h1, rfl⟩))), by simp [gt, List.getD], by simp; omega⟩
  have HB := mkHid hb
  have HP := mkHid hpush
  have HO : Hid (W.drew.ownsRow 0 52 2 (.slice sa V.length sc) V.length (tcs V)) := mkHid (own_keep ho (Kept.drew (fun _ => False) W) (fun _ _ h => h))
  have HSF := mkHid hsF
  have hpne : ¬ w.heap.size = p := by have := HF.out p hR.2.1; omega
  obtain ⟨n1, hn1⟩ : ∃ n1 : Nat, Hid (n1 = V.length + 1) := ⟨_, mkHid rfl⟩
  have e1 : wrap64 ((n1 : Int) - 1) = (V.length : Int) := by have := hn1.out; unfold wrap64; omega
  have e2 : IntKind.i64.wrap ((n1 : Int) - 1) = (V.length : Int) := by have := hn1.out; rw [IntKind.wrap_i64]; omega
  clear hR hH hI hb ho hpush hsF hd hn hl
  unfold tv
  go_enter Tryd.func37, Tryd.ntmps37
  go_wp2
  rw [← hW]
  clear hW
  refine wp_region_held_drew (S := fun w' => w'.cell? ⟨w.heap.size, 0, none⟩ = some (.int .i64 x.1) ∧ w'.cell? ⟨w.heap.size, 1, none⟩ = some (.int .i64 x.2)) (by kernel_rfl) ⟨x0, x1⟩ (fun hHeld => ?_)
  refine wpAnyH_take (i := 0) (v := .pointer (some ⟨p, 0, none⟩)) rfl (by kernel_rfl) (by kernel_rfl) (by kernel_rfl) (fun _ _ _ h => h) (Or.inl ⟨by rfl, by intro w hSw; go_simp⟩) hHeld ?_
  simp only [Act.put]
  refine wpAnyH_take (i := 1) (v := .pointer (some ⟨p, 0, none⟩)) rfl (by kernel_rfl) (by kernel_rfl) (by kernel_rfl) (fun _ _ _ h => h) (Or.inl ⟨by rfl, by intro w hSw; go_simp⟩) hHeld ?_
  simp only [Act.put]
  refine wpAnyH_take (i := 2) (v := .pointer (some ⟨p, 0, none⟩)) rfl (by kernel_rfl) (by kernel_rfl) (by kernel_rfl) (fun _ _ _ h => h) (Or.inl ⟨by rfl, by intro w hSw; go_simp⟩) hHeld ?_
  simp only [Act.put]
  refine wpAnyH_take (i := 3) (v := .pointer (some ⟨p, 0, none⟩)) rfl (by kernel_rfl) (by kernel_rfl) (by kernel_rfl) (fun _ _ _ h => h) (Or.inl ⟨by rfl, by intro w hSw; go_simp⟩) hHeld ?_
  simp only [Act.put]
  refine wpAnyH_take (i := 5) (v := .agg #[.int .i64 x.1, .int .i64 x.2]) rfl (by kernel_rfl) (by kernel_rfl) (by kernel_rfl) (fun _ _ _ h => h) (Or.inl ⟨by rfl, by intro w hSw; obtain ⟨s0, s1⟩ := hSw; go_simp⟩) hHeld ?_
  simp only [Act.put]
  have p0d : W.drew.cell? ⟨p, 0, none⟩ = some (.slice sa V.length sc) := p0
  obtain ⟨W4, hW4⟩ : ∃ W4, W4 = (W.alloc (.cells #[.int .i64 x.1, .int .i64 x.2] 52)).drew := ⟨_, rfl⟩
  have p4 : W4.cell? ⟨p, 0, none⟩ = some (.slice sa V.length sc) := by rw [hW4]; exact (Kept.alloc (fun _ => False) W.drew _).cell p0d (fun h => h)
  have q0 : W4.cell? ⟨w.heap.size, 0, none⟩ = some (.int .i64 x.1) := by rw [hW4]; exact (Kept.alloc (fun _ => False) W.drew _).cell hHeld.1 (fun h => h)
  have q1 : W4.cell? ⟨w.heap.size, 1, none⟩ = some (.int .i64 x.2) := by rw [hW4]; exact (Kept.alloc (fun _ => False) W.drew _).cell hHeld.2 (fun h => h)
  have HSRC : Hid (Src Tryd.prog 2 28 (.slice (some ⟨W.heap.size, 0, none⟩) 1 1) 1 (tc x) W4) := mkHid (by rw [hW4]; exact srcTh W.drew x)
  have HO4 : Hid (W4.ownsRow 0 52 2 (.slice sa V.length sc) V.length (tcs V)) := mkHid (by rw [hW4]; exact HO.out.alloc _)
  have HB4 : Hid (Below W.heap.size W W4) := mkHid (by rw [hW4]; exact ((Below.refl _ W).drew).alloc (Nat.le_refl _) _)
  have HW4 := mkHid hW4
  clear hW4
  refine wpAnyH_ready (rs := [4, 6]) (by kernel_rfl) (by simp) (AllReadyH.cons rfl (fun K hK => ?_) (AllReadyH.cons rfl (fun K hK => ?_) AllReadyH.nil))
  · go_simp
    refine hK.out _ _ hHeld (fun hHeld => ?_)
    clear hK K
    refine wpAnyH_ready (rs := [6]) (by kernel_rfl) (by simp) (AllReadyH.cons rfl (fun K hK => ?_) AllReadyH.nil)
    go_simp
    rw [← HW4.out]
    refine hK.out _ _ ⟨q0, q1⟩ (fun hHeld => ?_)
    clear hK K
    (try simp only [Act.put])
    refine wpAnyH_ready (rs := [7]) (by kernel_rfl) (by simp) (AllReadyH.cons rfl (fun K hK => ?_) AllReadyH.nil)
    refine step_append_src2 (w := W4) rfl (.tmp 8) (.tmp 10) 28 28 rfl 0 52 ie Tryd.underlying28 hie.out.1 zth 16 hie.out.2.1 HZ.out hie.out.2.2.1 hie.out.2.2.2 (.slice sa V.length sc) V.length (tcs V) (by simp [Act.eval]) HO4.out (.slice (some ⟨W.heap.size, 0, none⟩) 1 1) 1 (tc x) (by simp [Act.eval]) HSRC.out HLN.out.1 HLN.out.2 (Nat.zero_le _) ?_
    intro v5 w5 ho5 hg5 hv5
    obtain ⟨hd5, F', hR7, hF7, hF8, hK7⟩ := HP.out _ w5 v5 HB4.out hg5 hv5 ho5
    have e0 : w5.cell? ⟨p, 0, none⟩ = some (.slice sa V.length sc) := cell_of_block hd5 rfl
    have g0 : w5.frozen? ⟨p, 0, none⟩ = false := frozen_of_block hd5
    have nF : ¬ (Value.slice sa V.length sc).ownBlock = some w.heap.size := fun e => absurd (HF.out _ (HSF.out _ e)) (Nat.lt_irrefl _)
    have S7 : w5.cell? ⟨w.heap.size, 0, none⟩ = some (.int .i64 x.1) ∧ w5.cell? ⟨w.heap.size, 1, none⟩ = some (.int .i64 x.2) :=
      ⟨(Kept.grown hg5 (F := fun k => (Value.slice sa V.length sc).ownBlock = some k) (fun k hk => hk)).cell hHeld.1 nF, (Kept.grown hg5 (F := fun k => (Value.slice sa V.length sc).ownBlock = some k) (fun k hk => hk)).cell hHeld.2 nF⟩
    obtain ⟨g5, c5, rfl⟩ : ∃ g cap, v5 = .slice (some ⟨g, 0, none⟩) n1 cap := by
      rw [hn1.out]
      rcases ho5.2 with ⟨_, h0⟩ | ⟨g, cap, _, hv, _⟩
      · omega
      · exact ⟨g, cap, hv⟩
    have HR7 := mkHid hR7
    have HD5 := mkHid hd5
    have HF7 := mkHid hF7
    have HF8 := mkHid hF8
    have HK7 := mkHid hK7
    have n8 : ¬ F' w.heap.size := fun f => by have hWs := HWS.out; rcases hF7 _ f with h | h; exact absurd (HF.out _ h) (Nat.lt_irrefl _); omega
    refine hK.out _ _ S7 (fun hHeld => ?_)
    clear hK K hR7 hF7 hF8 hK7 hd5 ho5 hg5 hv5 HP HO p0 p0d p4 q0 q1
    simp only [Act.put]
    refine wpAnyH_take (i := 8) (v := .pointer (some ⟨p, 0, none⟩)) rfl (by kernel_rfl) (by kernel_rfl) (by kernel_rfl) (fun _ _ _ h => h) (Or.inl ⟨by rfl, by intro w hSw; go_simp⟩) hHeld ?_
    simp only [Act.put]
    refine wpAnyH_take (i := 9) (v := .pointer (some ⟨p, 0, none⟩)) rfl (by kernel_rfl) (by kernel_rfl) (by kernel_rfl) (fun _ _ _ h => h) (Or.inl ⟨by rfl, by intro w hSw; go_simp⟩) hHeld ?_
    simp only [Act.put]
    have y0 : (w5.setCell ⟨p, 0, none⟩ (.slice (some ⟨g5, 0, none⟩) n1 c5)).cell? ⟨w.heap.size, 0, none⟩ = some (.int .i64 x.1) := (Kept.setCell (F := fun k => k = p) w5 (p := ⟨p, 0, none⟩) rfl _).cell hHeld.1 hpne
    have y1 : (w5.setCell ⟨p, 0, none⟩ (.slice (some ⟨g5, 0, none⟩) n1 c5)).cell? ⟨w.heap.size, 1, none⟩ = some (.int .i64 x.2) := (Kept.setCell (F := fun k => k = p) w5 (p := ⟨p, 0, none⟩) rfl _).cell hHeld.2 hpne
    refine wpAnyH_ready (rs := [10]) (by kernel_rfl) (by simp) (AllReadyH.cons rfl (fun K hK => ?_) AllReadyH.nil)
    go_simp
    refine hK.out _ _ ⟨y0, y1⟩ (fun _ => ?_)
    clear hK K hHeld S7
    refine wpAnyH_done (by kernel_rfl) ?_ _
    obtain ⟨W6, hW6⟩ : ∃ W6, W6 = w5.setCell ⟨p, 0, none⟩ (.slice (some ⟨g5, 0, none⟩) n1 c5) := ⟨_, rfl⟩
    have r0 : W6.cell? ⟨p, 0, none⟩ = some (.slice (some ⟨g5, 0, none⟩) n1 c5) := by rw [hW6]; exact cell_of_block (heap_set HD5.out) rfl
    rw [← hW6] at y0 y1 HR7 HK7
    rw [← hW6]
    clear hW6 e0 g0
    have HR8 : Hid (∀ q, Rp F' (W6.drewN q) p T (V ++ [x]) m) := mkHid (fun q => HR7.out.below ⟨rfl, rfl, rfl, Nat.le_refl _, fun _ _ => rfl⟩)
    have HS8 : Hid (∀ q, Sg F' (W6.drewN q) (W6.drewN q) p T (V ++ [x]) x (V ++ [x]) V.length) := mkHid (fun q => ⟨⟨_, m, HR8.out q, ⟨rfl, fun _ _ => rfl⟩, HSG.out.2.1⟩, HSG.out.1, by simp, HSG.out.2.2.1, fun _ => Iff.rfl, rfl, Kept.refl _ _⟩)
    have HK8 : Hid (∀ q, Kept F W (W6.drewN q)) := mkHid (fun q => HK7.out.trans (Kept.drewN F _ q) (fun _ h => .inl h))
    go_wp2
    refine wp_region_held_drew (S := fun w' => w'.cell? ⟨w.heap.size, 0, none⟩ = some (.int .i64 x.1) ∧ w'.cell? ⟨w.heap.size, 1, none⟩ = some (.int .i64 x.2)) (by kernel_rfl) ⟨y0, y1⟩ (fun hHeld => ?_)
    refine wpAnyH_take (i := 0) (v := .pointer (some ⟨p, 0, none⟩)) rfl (by kernel_rfl) (by kernel_rfl) (by kernel_rfl) (fun _ _ _ h => h) (Or.inl ⟨by rfl, by intro w hSw; go_simp⟩) hHeld ?_
    simp only [Act.put]
    refine wpAnyH_take (i := 1) (v := .pointer (some ⟨p, 0, none⟩)) rfl (by kernel_rfl) (by kernel_rfl) (by kernel_rfl) (fun _ _ _ h => h) (Or.inl ⟨by rfl, by intro w hSw; go_simp⟩) hHeld ?_
    simp only [Act.put]
    refine wpAnyH_take (i := 2) (v := .pointer (some ⟨p, 0, none⟩)) rfl (by kernel_rfl) (by kernel_rfl) (by kernel_rfl) (fun _ _ _ h => h) (Or.inl ⟨by rfl, by intro w hSw; go_simp⟩) hHeld ?_
    simp only [Act.put]
    refine wpAnyH_take (i := 3) (v := .pointer (some ⟨p, 0, none⟩)) rfl (by kernel_rfl) (by kernel_rfl) (by kernel_rfl) (fun _ _ _ h => h) (Or.inl ⟨by rfl, by intro w hSw; go_simp⟩) hHeld ?_
    simp only [Act.put]
    refine wpAnyH_take (i := 7) (v := .agg #[.int .i64 x.1, .int .i64 x.2]) rfl (by kernel_rfl) (by kernel_rfl) (by kernel_rfl) (fun _ _ _ h => h) (Or.inl ⟨by rfl, by intro w hSw; obtain ⟨s0, s1⟩ := hSw; go_simp⟩) hHeld ?_
    simp only [Act.put]
    refine wpAnyH_ready (rs := [4]) (by kernel_rfl) (by simp) (AllReadyH.cons rfl (fun K hK => ?_) AllReadyH.nil)
    go_simp
    refine hK.out _ _ hHeld (fun hHeld => ?_)
    clear hK K
    (try simp only [Act.put])
    refine wpAnyH_take (i := 5) (v := .int .i64 (n1 : Int)) rfl (by kernel_rfl) (by kernel_rfl) (by kernel_rfl) (fun _ _ _ h => h) (Or.inl ⟨by rfl, by intro w hSw; go_simp⟩) hHeld ?_
    simp only [Act.put]
    refine wpAnyH_take (i := 6) (v := .int .i64 (V.length : Int)) rfl (by kernel_rfl) (by kernel_rfl) (by kernel_rfl) (fun _ _ _ h => h) (Or.inl ⟨by rfl, by intro w hSw; go_simp⟩) hHeld ?_
    simp only [Act.put]
    refine wpAnyH_ready (rs := [8]) (by kernel_rfl) (by simp) (AllReadyH.cons rfl (fun K hK => ?_) AllReadyH.nil)
    go_simp
    refine (settle_is F' _ p T (V ++ [x]) x V.length (HS8.out 1) HSG.out.2.2.2).mono ?_
    rintro e w9 ⟨rfl, V', hQ, hM9, hL9, hK9⟩
    refine hK.out _ _ ⟨hK9.cell (w := W6.drewN 1) y0 n8, hK9.cell (w := W6.drewN 1) y1 n8⟩ (fun _ => ?_)
    clear hK K
    have HQ := mkHid (And.intro hQ (And.intro hM9 (And.intro hL9 ((HK8.out _).trans hK9 (fun k hk => HF7.out k hk)))))
    clear hQ hM9 hL9 hK9
    refine wpAnyH_done (by kernel_rfl) ?_ _
    (try simp only [Act.put])
    go_wp2
    go_end0
    obtain ⟨hQ, hM9, hL9, hK9⟩ := HQ.out
    have hWs := HWS.out
    refine ⟨rfl, F', V', hQ, fun y => (hM9 y).trans (by simp), by simpa using hL9, fun k hk => ?_, ?_⟩
    · rcases HF7.out k hk with h | h
      · exact .inl h
      · exact .inr (by omega)
    · exact (kept_below F HB.out).trans hK9 (fun _ h => .inl h)
  · go_simp
    rw [← HW4.out]
    refine hK.out _ _ ⟨q0, q1⟩ (fun hHeld => ?_)
    clear hK K
    (try simp only [Act.put])
    refine wpAnyH_ready (rs := [4]) (by kernel_rfl) (by simp) (AllReadyH.cons rfl (fun K hK => ?_) AllReadyH.nil)
    go_simp
    refine hK.out _ _ hHeld (fun hHeld => ?_)
    clear hK K
    (try simp only [Act.put])
    refine wpAnyH_ready (rs := [7]) (by kernel_rfl) (by simp) (AllReadyH.cons rfl (fun K hK => ?_) AllReadyH.nil)
    refine step_append_src2 (w := W4) rfl (.tmp 8) (.tmp 10) 28 28 rfl 0 52 ie Tryd.underlying28 hie.out.1 zth 16 hie.out.2.1 HZ.out hie.out.2.2.1 hie.out.2.2.2 (.slice sa V.length sc) V.length (tcs V) (by simp [Act.eval]) HO4.out (.slice (some ⟨W.heap.size, 0, none⟩) 1 1) 1 (tc x) (by simp [Act.eval]) HSRC.out HLN.out.1 HLN.out.2 (Nat.zero_le _) ?_
    intro v5 w5 ho5 hg5 hv5
    obtain ⟨hd5, F', hR7, hF7, hF8, hK7⟩ := HP.out _ w5 v5 HB4.out hg5 hv5 ho5
    have e0 : w5.cell? ⟨p, 0, none⟩ = some (.slice sa V.length sc) := cell_of_block hd5 rfl
    have g0 : w5.frozen? ⟨p, 0, none⟩ = false := frozen_of_block hd5
    have nF : ¬ (Value.slice sa V.length sc).ownBlock = some w.heap.size := fun e => absurd (HF.out _ (HSF.out _ e)) (Nat.lt_irrefl _)
    have S7 : w5.cell? ⟨w.heap.size, 0, none⟩ = some (.int .i64 x.1) ∧ w5.cell? ⟨w.heap.size, 1, none⟩ = some (.int .i64 x.2) :=
      ⟨(Kept.grown hg5 (F := fun k => (Value.slice sa V.length sc).ownBlock = some k) (fun k hk => hk)).cell hHeld.1 nF, (Kept.grown hg5 (F := fun k => (Value.slice sa V.length sc).ownBlock = some k) (fun k hk => hk)).cell hHeld.2 nF⟩
    obtain ⟨g5, c5, rfl⟩ : ∃ g cap, v5 = .slice (some ⟨g, 0, none⟩) n1 cap := by
      rw [hn1.out]
      rcases ho5.2 with ⟨_, h0⟩ | ⟨g, cap, _, hv, _⟩
      · omega
      · exact ⟨g, cap, hv⟩
    have HR7 := mkHid hR7
    have HD5 := mkHid hd5
    have HF7 := mkHid hF7
    have HF8 := mkHid hF8
    have HK7 := mkHid hK7
    have n8 : ¬ F' w.heap.size := fun f => by have hWs := HWS.out; rcases hF7 _ f with h | h; exact absurd (HF.out _ h) (Nat.lt_irrefl _); omega
    refine hK.out _ _ S7 (fun hHeld => ?_)
    clear hK K hR7 hF7 hF8 hK7 hd5 ho5 hg5 hv5 HP HO p0 p0d p4 q0 q1
    simp only [Act.put]
    refine wpAnyH_take (i := 8) (v := .pointer (some ⟨p, 0, none⟩)) rfl (by kernel_rfl) (by kernel_rfl) (by kernel_rfl) (fun _ _ _ h => h) (Or.inl ⟨by rfl, by intro w hSw; go_simp⟩) hHeld ?_
    simp only [Act.put]
    refine wpAnyH_take (i := 9) (v := .pointer (some ⟨p, 0, none⟩)) rfl (by kernel_rfl) (by kernel_rfl) (by kernel_rfl) (fun _ _ _ h => h) (Or.inl ⟨by rfl, by intro w hSw; go_simp⟩) hHeld ?_
    simp only [Act.put]
    have y0 : (w5.setCell ⟨p, 0, none⟩ (.slice (some ⟨g5, 0, none⟩) n1 c5)).cell? ⟨w.heap.size, 0, none⟩ = some (.int .i64 x.1) := (Kept.setCell (F := fun k => k = p) w5 (p := ⟨p, 0, none⟩) rfl _).cell hHeld.1 hpne
    have y1 : (w5.setCell ⟨p, 0, none⟩ (.slice (some ⟨g5, 0, none⟩) n1 c5)).cell? ⟨w.heap.size, 1, none⟩ = some (.int .i64 x.2) := (Kept.setCell (F := fun k => k = p) w5 (p := ⟨p, 0, none⟩) rfl _).cell hHeld.2 hpne
    refine wpAnyH_ready (rs := [10]) (by kernel_rfl) (by simp) (AllReadyH.cons rfl (fun K hK => ?_) AllReadyH.nil)
    go_simp
    refine hK.out _ _ ⟨y0, y1⟩ (fun _ => ?_)
    clear hK K hHeld S7
    refine wpAnyH_done (by kernel_rfl) ?_ _
    obtain ⟨W6, hW6⟩ : ∃ W6, W6 = w5.setCell ⟨p, 0, none⟩ (.slice (some ⟨g5, 0, none⟩) n1 c5) := ⟨_, rfl⟩
    have r0 : W6.cell? ⟨p, 0, none⟩ = some (.slice (some ⟨g5, 0, none⟩) n1 c5) := by rw [hW6]; exact cell_of_block (heap_set HD5.out) rfl
    rw [← hW6] at y0 y1 HR7 HK7
    rw [← hW6]
    clear hW6 e0 g0
    have HR8 : Hid (∀ q, Rp F' (W6.drewN q) p T (V ++ [x]) m) := mkHid (fun q => HR7.out.below ⟨rfl, rfl, rfl, Nat.le_refl _, fun _ _ => rfl⟩)
    have HS8 : Hid (∀ q, Sg F' (W6.drewN q) (W6.drewN q) p T (V ++ [x]) x (V ++ [x]) V.length) := mkHid (fun q => ⟨⟨_, m, HR8.out q, ⟨rfl, fun _ _ => rfl⟩, HSG.out.2.1⟩, HSG.out.1, by simp, HSG.out.2.2.1, fun _ => Iff.rfl, rfl, Kept.refl _ _⟩)
    have HK8 : Hid (∀ q, Kept F W (W6.drewN q)) := mkHid (fun q => HK7.out.trans (Kept.drewN F _ q) (fun _ h => .inl h))
    go_wp2
    refine wp_region_held_drew (S := fun w' => w'.cell? ⟨w.heap.size, 0, none⟩ = some (.int .i64 x.1) ∧ w'.cell? ⟨w.heap.size, 1, none⟩ = some (.int .i64 x.2)) (by kernel_rfl) ⟨y0, y1⟩ (fun hHeld => ?_)
    refine wpAnyH_take (i := 0) (v := .pointer (some ⟨p, 0, none⟩)) rfl (by kernel_rfl) (by kernel_rfl) (by kernel_rfl) (fun _ _ _ h => h) (Or.inl ⟨by rfl, by intro w hSw; go_simp⟩) hHeld ?_
    simp only [Act.put]
    refine wpAnyH_take (i := 1) (v := .pointer (some ⟨p, 0, none⟩)) rfl (by kernel_rfl) (by kernel_rfl) (by kernel_rfl) (fun _ _ _ h => h) (Or.inl ⟨by rfl, by intro w hSw; go_simp⟩) hHeld ?_
    simp only [Act.put]
    refine wpAnyH_take (i := 2) (v := .pointer (some ⟨p, 0, none⟩)) rfl (by kernel_rfl) (by kernel_rfl) (by kernel_rfl) (fun _ _ _ h => h) (Or.inl ⟨by rfl, by intro w hSw; go_simp⟩) hHeld ?_
    simp only [Act.put]
    refine wpAnyH_take (i := 3) (v := .pointer (some ⟨p, 0, none⟩)) rfl (by kernel_rfl) (by kernel_rfl) (by kernel_rfl) (fun _ _ _ h => h) (Or.inl ⟨by rfl, by intro w hSw; go_simp⟩) hHeld ?_
    simp only [Act.put]
    refine wpAnyH_take (i := 7) (v := .agg #[.int .i64 x.1, .int .i64 x.2]) rfl (by kernel_rfl) (by kernel_rfl) (by kernel_rfl) (fun _ _ _ h => h) (Or.inl ⟨by rfl, by intro w hSw; obtain ⟨s0, s1⟩ := hSw; go_simp⟩) hHeld ?_
    simp only [Act.put]
    refine wpAnyH_ready (rs := [4]) (by kernel_rfl) (by simp) (AllReadyH.cons rfl (fun K hK => ?_) AllReadyH.nil)
    go_simp
    refine hK.out _ _ hHeld (fun hHeld => ?_)
    clear hK K
    (try simp only [Act.put])
    refine wpAnyH_take (i := 5) (v := .int .i64 (n1 : Int)) rfl (by kernel_rfl) (by kernel_rfl) (by kernel_rfl) (fun _ _ _ h => h) (Or.inl ⟨by rfl, by intro w hSw; go_simp⟩) hHeld ?_
    simp only [Act.put]
    refine wpAnyH_take (i := 6) (v := .int .i64 (V.length : Int)) rfl (by kernel_rfl) (by kernel_rfl) (by kernel_rfl) (fun _ _ _ h => h) (Or.inl ⟨by rfl, by intro w hSw; go_simp⟩) hHeld ?_
    simp only [Act.put]
    refine wpAnyH_ready (rs := [8]) (by kernel_rfl) (by simp) (AllReadyH.cons rfl (fun K hK => ?_) AllReadyH.nil)
    go_simp
    refine (settle_is F' _ p T (V ++ [x]) x V.length (HS8.out 1) HSG.out.2.2.2).mono ?_
    rintro e w9 ⟨rfl, V', hQ, hM9, hL9, hK9⟩
    refine hK.out _ _ ⟨hK9.cell (w := W6.drewN 1) y0 n8, hK9.cell (w := W6.drewN 1) y1 n8⟩ (fun _ => ?_)
    clear hK K
    have HQ := mkHid (And.intro hQ (And.intro hM9 (And.intro hL9 ((HK8.out _).trans hK9 (fun k hk => HF7.out k hk)))))
    clear hQ hM9 hL9 hK9
    refine wpAnyH_done (by kernel_rfl) ?_ _
    (try simp only [Act.put])
    go_wp2
    go_end0
    obtain ⟨hQ, hM9, hL9, hK9⟩ := HQ.out
    have hWs := HWS.out
    refine ⟨rfl, F', V', hQ, fun y => (hM9 y).trans (by simp), by simpa using hL9, fun k hk => ?_, ?_⟩
    · rcases HF7.out k hk with h | h
      · exact .inl h
      · exact .inr (by omega)
    · exact (kept_below F HB.out).trans hK9 (fun _ h => .inl h)
end Go.Proofs.YtjlmkmhggkcbhaaDoor
