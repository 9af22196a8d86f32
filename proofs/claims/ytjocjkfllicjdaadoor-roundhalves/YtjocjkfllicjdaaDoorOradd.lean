/- The document's Add. -/
import Derived.Test.YtjocjkfllicjdaaDoorOadd
namespace Go.Proofs.YtjocjkfllicjdaaDoor
open Go.ChangeShapes Go.WideShapes Go.ChangeAt Go.RowKit
set_option maxRecDepth 100000
attribute [local go_sem] World.cell?_alloc_some frozen_alloc_some

set_option maxHeartbeats 6400000 in
theorem radd_there (w : World) (v : Value) (ps : List Ep) (t : Ep) (k : Nat) (h : Ens w v ps) (hl : (ps.length : Int) ≤ 9223372036854775806) (hk : PlIs (fs1 ps) t.1.cl t.1.nu (k + 1)) :
    Calls Tryd.prog 52 #[v, vP t] w fun r w' => r = .returned (.tuple #[v, .int .i64 ((k : Int) + 1), .int .i64 0]) ∧ Below w.heap.size w w' := by
  obtain ⟨e, ta, tc⟩ := t
  have HP := mkHid (fun W (hW : Below w.heap.size w W) => rplace_any W v ps e.cl e.nu (k + 1) (h.below hW) hl hk)
  obtain ⟨a, cap, rfl⟩ : ∃ a c, v = .slice a ps.length c := by obtain ⟨a, c, e, _⟩ := h; exact ⟨a, c, e⟩
  clear h hk hl
  simp only [vP, vN, tv]
  go_enter Tryd.func52, Tryd.ntmps52
  go_wp2_with (go_at_call 53; refine (HP.out _ (ba (Below.refl _ w) _)).mono ?_; rintro r w2 ⟨rfl, hb⟩; have HB2 := mkHid (bt (ba (Below.refl _ w) _) hb); clear hb)
  go_ret3
  exact ⟨rfl, HB2.out⟩
set_option maxHeartbeats 6400000 in
theorem radd_full (w : World) (v : Value) (ps : List Ep) (t : Ep) (h : Ens w v ps) (hl : (ps.length : Int) ≤ 9223372036854775806) (hk : PlIs (fs1 ps) t.1.cl t.1.nu 0) (h64 : 64 ≤ ps.length) :
    Calls Tryd.prog 52 #[v, vP t] w fun r w' => r = .returned (.tuple #[.slice none 0 0, .int .i64 0, .int .i64 7]) ∧ Below w.heap.size w w' := by
  obtain ⟨e, ta, tc⟩ := t
  have HP := mkHid (fun W (hW : Below w.heap.size w W) => rplace_any W v ps e.cl e.nu 0 (h.below hW) hl hk)
  obtain ⟨a, cap, rfl⟩ : ∃ a c, v = .slice a ps.length c := by obtain ⟨a, c, e, _⟩ := h; exact ⟨a, c, e⟩
  have h64' : ¬ (ps.length : Int) < 64 := by omega
  clear h hk hl
  simp only [vP, vN, tv]
  go_enter Tryd.func52, Tryd.ntmps52
  go_wp2_with (go_at_call 53; refine (HP.out _ (ba (Below.refl _ w) _)).mono ?_; rintro r w2 ⟨rfl, hb⟩; have HB2 := mkHid (bt (ba (Below.refl _ w) _) hb); clear hb)
  go_ret3
  exact ⟨rfl, HB2.out⟩
/-- A ledger in new memory and an entry of old memory behind it. -/
theorem radd_ens {base : Nat} {w W w9 : World} {xa ya : Option Addr} {xc yc : Nat} {qs ps : List Ep} {t : Ep} (h : Led base W (.slice xa qs.length xc) qs) (hb : base = w.heap.size) (hqs : ∀ t ∈ ps, small t) (h64 : qs.length ≤ 64) (hq : fs1 qs = fs1 ps) (ht : EnW w t) (hw : Below w.heap.size w W) (ho : w9.ownsRow base 28 10 (.slice ya (qs.length + 1) yc) (qs.length + 1) (qs.flatMap c10 ++ c10 t)) (hg : W.grownBy w9 (Value.slice xa qs.length xc).ownBlock) : Ens w9 (.slice ya (qs.length + 1) yc) (qs ++ [t]) := by
  have hk := Kept.grown hg (F := fun k => (Value.slice xa qs.length xc).ownBlock = some k) (fun k hk => hk)
  have hw9 : Below w.heap.size w w9 := hw.trans (hk.below (fun k e => by have := (h.own.lt k e).1; omega) hw.size)
  obtain ⟨a, c, e, he⟩ := ens_of_owns (ps := qs ++ [t]) (by simp; omega) (v := .slice ya (qs.length + 1) yc) (base := base) (by rw [List.length_append, List.flatMap_append]; simpa using ho) (fun u hu => by
    rcases List.mem_append.mp hu with m | m
    · have := ownN_kept (h.tk u m) hk (fun k e e2 => h.ne u m k e e2)
      obtain ⟨x, y, e9, h9⟩ := tks_of_owns (fs_small hq hqs u m) this
      simp only [tv, Value.slice.injEq] at e9
      unfold EnW tv
      rw [e9.1, e9.2.2]
      exact h9
    · simp at m; subst m; exact ht.below hw9)
  rw [List.length_append] at e
  simp only [Value.slice.injEq] at e
  rw [e.1, e.2.2]
  rw [List.length_append] at he
  exact he
set_option maxHeartbeats 25600000 in
theorem radd_new (w : World) (v : Value) (ps : List Ep) (t : Ep) (h : Ens w v ps) (hs : ∀ t ∈ ps, small t) (ht : EnW w t) (hk : PlIs (fs1 ps) t.1.cl t.1.nu 0) (h64 : ps.length < 64) :
    Calls Tryd.prog 52 #[v, vP t] w fun r w' => ∃ a c, ∃ qs : List Ep, r = .returned (.tuple #[.slice a qs.length c, .int .i64 ((ps.length : Int) + 1), .int .i64 0]) ∧ Ens w' (.slice a qs.length c) qs ∧ fs1 qs = fs1 ps ++ [t.1] ∧ Below w.heap.size w w' := by
  obtain ⟨ie2, hi, hz0, hz1, hz2⟩ := info_parts info_entry
  obtain ⟨zth2, hzth⟩ : ∃ z : Value, z = .agg #[.int .i64 0, .int .i64 0, .int .i64 0, .int .i64 0, .int .i64 0, .int .i64 0, .int .i64 0, .int .i64 0, .slice none 0 0, .int .i64 0] := ⟨_, rfl⟩
  rw [← hzth] at hz0
  have HZ2 : Hid (zth2.cells.size = 10) := mkHid (by rw [hzth]; rfl)
  have hie2 := mkHid (And.intro hi (And.intro hz0 (And.intro hz1 hz2)))
  clear hzth hi hz0 hz1 hz2
  obtain ⟨e, ta, tc⟩ := t
  have HP := mkHid (fun W (hW : Below w.heap.size w W) => rplace_any W v ps e.cl e.nu 0 (h.below hW) (by omega) hk)
  have HC := mkHid (fun W (hW : Below w.heap.size w W) => copy_any W v ps (h.below hW) (by omega) hs)
  have HT := mkHid ht
  have HQS := mkHid hs
  obtain ⟨a, cap, rfl⟩ : ∃ a c, v = .slice a ps.length c := by obtain ⟨a, c, e, _⟩ := h; exact ⟨a, c, e⟩
  have h64' : (ps.length : Int) < 64 := by omega
  have hwp : IntKind.i64.wrap ((ps.length : Int) + 1) = (ps.length : Int) + 1 := by rw [IntKind.wrap_i64]; omega
  clear h hk hs ht
  simp only [vP, vN, tv]
  go_enter Tryd.func52, Tryd.ntmps52
  go_wp2_with (go_at_call 53; refine (HP.out _ (ba (Below.refl _ w) _)).mono ?_; rintro r w2 ⟨rfl, hb⟩; have HB2 := mkHid (bt (ba (Below.refl _ w) _) hb); have hx2 := (hb.block w.heap.size (by simp)).trans (entO w e (.slice ta e.ts.length tc)); have HB0' : Hid (w.heap.size < w2.heap.size) := mkHid (by have := hb.size; simp at this; omega); clear hb)
  obtain ⟨b0, hb0⟩ : ∃ b0, b0 = w.heap.size := ⟨_, rfl⟩
  have HB0 : Hid (b0 < w2.heap.size) := mkHid (by rw [hb0]; exact HB0'.out)
  rw [← hb0] at hx2 ⊢
  clear hb0 HB0'
  have HB2d : Hid (Below w.heap.size w w2.drew) := mkHid HB2.out.drew
  refine wp_region_held_drew (S := fun w' => w'.cell? ⟨b0, 0, none⟩ = some (.int .i64 e.cl) ∧ w'.cell? ⟨b0, 1, none⟩ = some (.int .i64 e.nu) ∧ w'.cell? ⟨b0, 2, none⟩ = some (.int .i64 e.ki) ∧ w'.cell? ⟨b0, 3, none⟩ = some (.int .i64 e.id) ∧ w'.cell? ⟨b0, 4, none⟩ = some (.int .i64 e.sk) ∧ w'.cell? ⟨b0, 5, none⟩ = some (.int .i64 e.sq) ∧ w'.cell? ⟨b0, 6, none⟩ = some (.int .i64 e.st) ∧ w'.cell? ⟨b0, 7, none⟩ = some (.int .i64 e.po) ∧ w'.cell? ⟨b0, 8, none⟩ = some (.slice ta e.ts.length tc) ∧ w'.cell? ⟨b0, 9, none⟩ = some (.int .i64 e.tm)) (by kernel_rfl) (ent_cells (w := w2.drew) hx2) (fun hHeld => ?_)
  clear hx2
  refine takeD 0 21 (.slice a ps.length cap) rfl rfl (by kernel_rfl) (by kernel_rfl) (by kernel_rfl) (fun _ _ _ h => h) (Or.inl ⟨by kernel_rfl, by intro w hSw; (try dsimp only at hSw); go_simp⟩) hHeld ?_
  simp only [List.set_cons_zero, List.set_cons_succ]
  refine takeD 2 23 (.agg #[.int .i64 e.cl, .int .i64 e.nu, .int .i64 e.ki, .int .i64 e.id, .int .i64 e.sk, .int .i64 e.sq, .int .i64 e.st, .int .i64 e.po, .slice ta e.ts.length tc, .int .i64 e.tm]) rfl rfl (by kernel_rfl) (by kernel_rfl) (by kernel_rfl) (fun _ _ _ h => h) (Or.inl ⟨by kernel_rfl, by intro w hSw; (try dsimp only at hSw); go_simp⟩) hHeld ?_
  simp only [List.set_cons_zero, List.set_cons_succ]
  refine takeD 5 26 (.slice a ps.length cap) rfl rfl (by kernel_rfl) (by kernel_rfl) (by kernel_rfl) (fun _ _ _ h => h) (Or.inl ⟨by kernel_rfl, by intro w hSw; (try dsimp only at hSw); go_simp⟩) hHeld ?_
  simp only [List.set_cons_zero, List.set_cons_succ]
  refine takeD 6 27 (.int .i64 (ps.length : Int)) rfl rfl (by kernel_rfl) (by kernel_rfl) (by kernel_rfl) (fun _ _ _ h => h) (Or.inl ⟨by kernel_rfl, by intro w hSw; (try dsimp only at hSw); go_simp⟩) hHeld ?_
  simp only [List.set_cons_zero, List.set_cons_succ]
  refine takeD 7 28 (.int .i64 ((ps.length : Int) + 1)) rfl rfl (by kernel_rfl) (by kernel_rfl) (by kernel_rfl) (fun _ _ _ h => h) (Or.inl ⟨by kernel_rfl, by intro w hSw; (try dsimp only at hSw); go_simp⟩) hHeld ?_
  simp only [List.set_cons_zero, List.set_cons_succ]
  refine wpAnyH_ready (rs := [1, 3]) (by kernel_rfl) (by simp) (AllReadyH.cons rfl (fun K hK => ?_) (AllReadyH.cons rfl (fun K hK => ?_) AllReadyH.nil))
  · go_simp
    refine (HC.out w2.drew HB2d.out).mono ?_
    rintro r w3 ⟨v3, qs, rfl, hl3, hq3, b3⟩
    obtain ⟨xa, xc, rfl, _⟩ := own_sh hl3.own
    have HL3 := mkHid (And.intro hl3 (And.intro hq3 b3))
    have HQ3 := mkHid (And.intro (kc hHeld.1 b3) (And.intro (kc hHeld.2.1 b3) (And.intro (kc hHeld.2.2.1 b3) (And.intro (kc hHeld.2.2.2.1 b3) (And.intro (kc hHeld.2.2.2.2.1 b3) (And.intro (kc hHeld.2.2.2.2.2.1 b3) (And.intro (kc hHeld.2.2.2.2.2.2.1 b3) (And.intro (kc hHeld.2.2.2.2.2.2.2.1 b3) (And.intro (kc hHeld.2.2.2.2.2.2.2.2.1 b3) (kc hHeld.2.2.2.2.2.2.2.2.2 b3))))))))))
    have HB3 := mkHid (bt HB2d.out b3)
    clear hl3 hq3 b3
    refine hK.out _ _ HQ3.out (fun hHeld => ?_)
    clear hK K
    refine wpAnyH_ready (rs := [3]) (by kernel_rfl) (by simp) (AllReadyH.cons rfl (fun K hK => ?_) AllReadyH.nil)
    have HQA := mkHid (And.intro (kc hHeld.1 (ba (Below.refl _ w3) (oE e (.slice ta e.ts.length tc)))) (And.intro (kc hHeld.2.1 (ba (Below.refl _ w3) (oE e (.slice ta e.ts.length tc)))) (And.intro (kc hHeld.2.2.1 (ba (Below.refl _ w3) (oE e (.slice ta e.ts.length tc)))) (And.intro (kc hHeld.2.2.2.1 (ba (Below.refl _ w3) (oE e (.slice ta e.ts.length tc)))) (And.intro (kc hHeld.2.2.2.2.1 (ba (Below.refl _ w3) (oE e (.slice ta e.ts.length tc)))) (And.intro (kc hHeld.2.2.2.2.2.1 (ba (Below.refl _ w3) (oE e (.slice ta e.ts.length tc)))) (And.intro (kc hHeld.2.2.2.2.2.2.1 (ba (Below.refl _ w3) (oE e (.slice ta e.ts.length tc)))) (And.intro (kc hHeld.2.2.2.2.2.2.2.1 (ba (Below.refl _ w3) (oE e (.slice ta e.ts.length tc)))) (And.intro (kc hHeld.2.2.2.2.2.2.2.2.1 (ba (Below.refl _ w3) (oE e (.slice ta e.ts.length tc)))) (kc hHeld.2.2.2.2.2.2.2.2.2 (ba (Below.refl _ w3) (oE e (.slice ta e.ts.length tc)))))))))))))
    go_simp
    refine hK.out _ _ HQA.out (fun hHeld => ?_)
    clear hK K
    (try simp only [Act.put])
    refine wpAnyH_ready (rs := [4]) (by kernel_rfl) (by simp) (AllReadyH.cons rfl (fun K hK => ?_) AllReadyH.nil)
    have HF : Hid (Led w.heap.size (w3.alloc (oE e (.slice ta e.ts.length tc))) (.slice xa qs.length xc) qs ∧ Src Tryd.prog 10 35 (.slice (some ⟨w3.heap.size, 0, none⟩) 1 1) 1 (c10 (e, ta, tc)) (w3.alloc (oE e (.slice ta e.ts.length tc))) ∧ Below w.heap.size w (w3.alloc (oE e (.slice ta e.ts.length tc))) ∧ fs1 qs = fs1 ps) := mkHid ⟨(HL3.out.1.upw HB2d.out.size).below (ba (Below.refl _ w3) _), src_blk (t := (e, ta, tc)) (heap_alloc_new w3 _), ba HB3.out _, HL3.out.2.1⟩
    have hqn : qs.length = ps.length := by have e1 := congrArg List.length HF.out.2.2.2; rwa [fs1, fs1, List.length_map, List.length_map] at e1
    refine step_append_src10 (w := (w3.alloc (oE e (.slice ta e.ts.length tc)))) rfl (.tmp 22) (.tmp 24) 35 35 rfl w.heap.size 28 ie2 Tryd.underlying35 hie2.out.1 zth2 96 hie2.out.2.1 HZ2.out hie2.out.2.2.1 hie2.out.2.2.2 (.slice xa qs.length xc) qs.length (qs.flatMap c10) (by simp [Act.eval]) HF.out.1.own _ 1 (c10 (e, ta, tc)) (by simp [Act.eval]) HF.out.2.1 (by unfold maxLen; omega) (by omega) HF.out.2.2.1.size ?_
    intro v9 w9 ho9 hg9 hv9
    obtain ⟨ya, yc, rfl⟩ := own_shape ho9
    have HE9 := mkHid (And.intro (radd_ens HF.out.1 rfl HQS.out (by omega) HF.out.2.2.2 HT.out HF.out.2.2.1 ho9 hg9) (HF.out.2.2.1.grown hg9 HF.out.2.2.1.size (fun k hk => (HF.out.1.own.lt k hk).1)))
    have HQ9 : Hid (w9.cell? ⟨b0, 0, none⟩ = some (.int .i64 e.cl) ∧ w9.cell? ⟨b0, 1, none⟩ = some (.int .i64 e.nu) ∧ w9.cell? ⟨b0, 2, none⟩ = some (.int .i64 e.ki) ∧ w9.cell? ⟨b0, 3, none⟩ = some (.int .i64 e.id) ∧ w9.cell? ⟨b0, 4, none⟩ = some (.int .i64 e.sk) ∧ w9.cell? ⟨b0, 5, none⟩ = some (.int .i64 e.sq) ∧ w9.cell? ⟨b0, 6, none⟩ = some (.int .i64 e.st) ∧ w9.cell? ⟨b0, 7, none⟩ = some (.int .i64 e.po) ∧ w9.cell? ⟨b0, 8, none⟩ = some (.slice ta e.ts.length tc) ∧ w9.cell? ⟨b0, 9, none⟩ = some (.int .i64 e.tm)) := mkHid (by
      have hk := Kept.grown hg9 (F := fun k => (Value.slice xa qs.length xc).ownBlock = some k) (fun k hk => hk)
      have hn : ¬ (Value.slice xa qs.length xc).ownBlock = some b0 := fun e1 => by have h1 := (HL3.out.1.own.lt b0 e1).1; have h2 := HB0.out; simp at h1; omega
      exact ⟨hk.cell hHeld.1 hn, hk.cell hHeld.2.1 hn, hk.cell hHeld.2.2.1 hn, hk.cell hHeld.2.2.2.1 hn, hk.cell hHeld.2.2.2.2.1 hn, hk.cell hHeld.2.2.2.2.2.1 hn, hk.cell hHeld.2.2.2.2.2.2.1 hn, hk.cell hHeld.2.2.2.2.2.2.2.1 hn, hk.cell hHeld.2.2.2.2.2.2.2.2.1 hn, hk.cell hHeld.2.2.2.2.2.2.2.2.2 hn⟩)
    clear ho9 hg9 hv9
    refine hK.out _ _ HQ9.out (fun hHeld => ?_)
    clear hK K
    (try simp only [Act.put])
    refine takeD 8 4 (.slice ya (qs.length + 1) yc) rfl rfl (by kernel_rfl) (by kernel_rfl) (by kernel_rfl) (fun _ _ _ h => h) (Or.inl ⟨by kernel_rfl, by intro w hSw; (try dsimp only at hSw); go_simp⟩) hHeld ?_
    simp only [List.set_cons_zero, List.set_cons_succ]
    refine takeD 9 5 (.int .i64 ((ps.length : Int) + 1)) rfl rfl (by kernel_rfl) (by kernel_rfl) (by kernel_rfl) (fun _ _ _ h => h) (Or.inl ⟨by kernel_rfl, by intro w hSw; (try dsimp only at hSw); go_simp⟩) hHeld ?_
    simp only [List.set_cons_zero, List.set_cons_succ]
    refine takeD 10 6 (.int .i64 0) rfl rfl (by kernel_rfl) (by kernel_rfl) (by kernel_rfl) (fun _ _ _ h => h) (Or.inl ⟨by kernel_rfl, by intro w hSw; (try dsimp only at hSw); go_simp⟩) hHeld ?_
    simp only [List.set_cons_zero, List.set_cons_succ]
    refine wpAnyH_done (by kernel_rfl) ?_ _
    go_wp2
    go_ret3
    exact ⟨_, _, qs ++ [(e, ta, tc)], by rw [List.length_append]; rfl, by rw [List.length_append]; exact HE9.out.1, by rw [fs1, List.map_append]; show fs1 qs ++ _ = _; rw [HF.out.2.2.2]; rfl, HE9.out.2⟩
  · have HQA := mkHid (And.intro (kc hHeld.1 (ba (Below.refl _ w2.drew) (oE e (.slice ta e.ts.length tc)))) (And.intro (kc hHeld.2.1 (ba (Below.refl _ w2.drew) (oE e (.slice ta e.ts.length tc)))) (And.intro (kc hHeld.2.2.1 (ba (Below.refl _ w2.drew) (oE e (.slice ta e.ts.length tc)))) (And.intro (kc hHeld.2.2.2.1 (ba (Below.refl _ w2.drew) (oE e (.slice ta e.ts.length tc)))) (And.intro (kc hHeld.2.2.2.2.1 (ba (Below.refl _ w2.drew) (oE e (.slice ta e.ts.length tc)))) (And.intro (kc hHeld.2.2.2.2.2.1 (ba (Below.refl _ w2.drew) (oE e (.slice ta e.ts.length tc)))) (And.intro (kc hHeld.2.2.2.2.2.2.1 (ba (Below.refl _ w2.drew) (oE e (.slice ta e.ts.length tc)))) (And.intro (kc hHeld.2.2.2.2.2.2.2.1 (ba (Below.refl _ w2.drew) (oE e (.slice ta e.ts.length tc)))) (And.intro (kc hHeld.2.2.2.2.2.2.2.2.1 (ba (Below.refl _ w2.drew) (oE e (.slice ta e.ts.length tc)))) (kc hHeld.2.2.2.2.2.2.2.2.2 (ba (Below.refl _ w2.drew) (oE e (.slice ta e.ts.length tc)))))))))))))
    go_simp
    refine hK.out _ _ HQA.out (fun hHeld => ?_)
    clear hK K
    (try simp only [Act.put])
    refine wpAnyH_ready (rs := [1]) (by kernel_rfl) (by simp) (AllReadyH.cons rfl (fun K hK => ?_) AllReadyH.nil)
    have HBA := mkHid (ba HB2d.out (oE e (.slice ta e.ts.length tc)))
    go_simp
    refine (HC.out (w2.drew.alloc (oE e (.slice ta e.ts.length tc))) HBA.out).mono ?_
    rintro r w3 ⟨v3, qs, rfl, hl3, hq3, b3⟩
    obtain ⟨xa, xc, rfl, _⟩ := own_sh hl3.own
    have HL3 := mkHid (And.intro hl3 (And.intro hq3 b3))
    have HQ3 := mkHid (And.intro (kc hHeld.1 b3) (And.intro (kc hHeld.2.1 b3) (And.intro (kc hHeld.2.2.1 b3) (And.intro (kc hHeld.2.2.2.1 b3) (And.intro (kc hHeld.2.2.2.2.1 b3) (And.intro (kc hHeld.2.2.2.2.2.1 b3) (And.intro (kc hHeld.2.2.2.2.2.2.1 b3) (And.intro (kc hHeld.2.2.2.2.2.2.2.1 b3) (And.intro (kc hHeld.2.2.2.2.2.2.2.2.1 b3) (kc hHeld.2.2.2.2.2.2.2.2.2 b3))))))))))
    have HB3 := mkHid (bt HBA.out b3)
    clear hl3 hq3 b3
    refine hK.out _ _ HQ3.out (fun hHeld => ?_)
    clear hK K
    refine wpAnyH_ready (rs := [4]) (by kernel_rfl) (by simp) (AllReadyH.cons rfl (fun K hK => ?_) AllReadyH.nil)
    have HF : Hid (Led w.heap.size w3 (.slice xa qs.length xc) qs ∧ Src Tryd.prog 10 35 (.slice (some ⟨w2.heap.size, 0, none⟩) 1 1) 1 (c10 (e, ta, tc)) w3 ∧ Below w.heap.size w w3 ∧ fs1 qs = fs1 ps) := mkHid ⟨HL3.out.1.upw HBA.out.size, src_blk (t := (e, ta, tc)) ((HL3.out.2.2.block w2.heap.size (by simp)).trans (heap_alloc_new w2.drew _)), HB3.out, HL3.out.2.1⟩
    have hqn : qs.length = ps.length := by have e1 := congrArg List.length HF.out.2.2.2; rwa [fs1, fs1, List.length_map, List.length_map] at e1
    refine step_append_src10 (w := w3) rfl (.tmp 22) (.tmp 24) 35 35 rfl w.heap.size 28 ie2 Tryd.underlying35 hie2.out.1 zth2 96 hie2.out.2.1 HZ2.out hie2.out.2.2.1 hie2.out.2.2.2 (.slice xa qs.length xc) qs.length (qs.flatMap c10) (by simp [Act.eval]) HF.out.1.own _ 1 (c10 (e, ta, tc)) (by simp [Act.eval]) HF.out.2.1 (by unfold maxLen; omega) (by omega) HF.out.2.2.1.size ?_
    intro v9 w9 ho9 hg9 hv9
    obtain ⟨ya, yc, rfl⟩ := own_shape ho9
    have HE9 := mkHid (And.intro (radd_ens HF.out.1 rfl HQS.out (by omega) HF.out.2.2.2 HT.out HF.out.2.2.1 ho9 hg9) (HF.out.2.2.1.grown hg9 HF.out.2.2.1.size (fun k hk => (HF.out.1.own.lt k hk).1)))
    have HQ9 : Hid (w9.cell? ⟨b0, 0, none⟩ = some (.int .i64 e.cl) ∧ w9.cell? ⟨b0, 1, none⟩ = some (.int .i64 e.nu) ∧ w9.cell? ⟨b0, 2, none⟩ = some (.int .i64 e.ki) ∧ w9.cell? ⟨b0, 3, none⟩ = some (.int .i64 e.id) ∧ w9.cell? ⟨b0, 4, none⟩ = some (.int .i64 e.sk) ∧ w9.cell? ⟨b0, 5, none⟩ = some (.int .i64 e.sq) ∧ w9.cell? ⟨b0, 6, none⟩ = some (.int .i64 e.st) ∧ w9.cell? ⟨b0, 7, none⟩ = some (.int .i64 e.po) ∧ w9.cell? ⟨b0, 8, none⟩ = some (.slice ta e.ts.length tc) ∧ w9.cell? ⟨b0, 9, none⟩ = some (.int .i64 e.tm)) := mkHid (by
      have hk := Kept.grown hg9 (F := fun k => (Value.slice xa qs.length xc).ownBlock = some k) (fun k hk => hk)
      have hn : ¬ (Value.slice xa qs.length xc).ownBlock = some b0 := fun e1 => by have h1 := (HL3.out.1.own.lt b0 e1).1; have h2 := HB0.out; simp at h1; omega
      exact ⟨hk.cell hHeld.1 hn, hk.cell hHeld.2.1 hn, hk.cell hHeld.2.2.1 hn, hk.cell hHeld.2.2.2.1 hn, hk.cell hHeld.2.2.2.2.1 hn, hk.cell hHeld.2.2.2.2.2.1 hn, hk.cell hHeld.2.2.2.2.2.2.1 hn, hk.cell hHeld.2.2.2.2.2.2.2.1 hn, hk.cell hHeld.2.2.2.2.2.2.2.2.1 hn, hk.cell hHeld.2.2.2.2.2.2.2.2.2 hn⟩)
    clear ho9 hg9 hv9
    refine hK.out _ _ HQ9.out (fun hHeld => ?_)
    clear hK K
    (try simp only [Act.put])
    refine takeD 8 4 (.slice ya (qs.length + 1) yc) rfl rfl (by kernel_rfl) (by kernel_rfl) (by kernel_rfl) (fun _ _ _ h => h) (Or.inl ⟨by kernel_rfl, by intro w hSw; (try dsimp only at hSw); go_simp⟩) hHeld ?_
    simp only [List.set_cons_zero, List.set_cons_succ]
    refine takeD 9 5 (.int .i64 ((ps.length : Int) + 1)) rfl rfl (by kernel_rfl) (by kernel_rfl) (by kernel_rfl) (fun _ _ _ h => h) (Or.inl ⟨by kernel_rfl, by intro w hSw; (try dsimp only at hSw); go_simp⟩) hHeld ?_
    simp only [List.set_cons_zero, List.set_cons_succ]
    refine takeD 10 6 (.int .i64 0) rfl rfl (by kernel_rfl) (by kernel_rfl) (by kernel_rfl) (fun _ _ _ h => h) (Or.inl ⟨by kernel_rfl, by intro w hSw; (try dsimp only at hSw); go_simp⟩) hHeld ?_
    simp only [List.set_cons_zero, List.set_cons_succ]
    refine wpAnyH_done (by kernel_rfl) ?_ _
    go_wp2
    go_ret3
    exact ⟨_, _, qs ++ [(e, ta, tc)], by rw [List.length_append]; rfl, by rw [List.length_append]; exact HE9.out.1, by rw [fs1, List.map_append]; show fs1 qs ++ _ = _; rw [HF.out.2.2.2]; rfl, HE9.out.2⟩
end Go.Proofs.YtjocjkfllicjdaaDoor
