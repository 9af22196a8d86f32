/- Checkpoint. -/
import Derived.Test.YtcbimclgodkflaaDoorWlog1
namespace Go.Proofs.YtcbimclgodkflaaDoor
open Go.ChangeShapes Go.WideShapes Go.ChangeAt Go.RowKit
set_option maxRecDepth 100000

/-- What Checkpoint leaves. -/
def CkPost (F : Nat → Prop) (w : World) (l p n : Nat) (f : Int → List Int) (c : List (Int × List Int)) (nw : Int) (fr2 en2 NX ep : Nat) (r : Rc) (e : Ending) (w' : World) : Prop :=
  e = .returned .nilIface ∧ ∃ (F' F1 : Nat → Prop) (v' : Value) (da : Option Addr) (dc : Nat), Dk F' w' p n (flushed f (c ++ writesOf (frm r) (fr2 : Int) (npc (frm r).length))) [] (nw + (npc (frm r).length : Int)) false ∧ Lg w' l p fr2 en2 v' NX ep ∧ Recs F1 w' v' [(r, da, dc)] ∧ (∀ k, F' k → F k ∨ w.heap.size ≤ k) ∧ (∀ k, F1 k → w.heap.size ≤ k ∧ ¬ F' k) ∧ Kept (fun k => F k ∨ k = l) w w'
/-- Memory ahead of the store of the fresh area. -/
structure CK (w w5 : World) (ab : Nat) (FA : Nat → Prop) (v z : Value) (t : Rp) : Prop where
  bel : Below w.heap.size w w5
  box : w5.heap[ab]? = some oAZ
  hab : w.heap.size ≤ ab
  recs : Recs FA w5 v [t]
  ge : ∀ k, FA k → w.heap.size ≤ k ∧ k ≠ ab
  rd : Rd w5 z (frm t.1)
  zo : ∀ k, z.ownBlock = some k → w.heap.size ≤ k ∧ k < w5.heap.size ∧ k ≠ ab
set_option maxHeartbeats 51200000 in
theorem ck_ok (F : Nat → Prop) (w : World) (l p n fr en nx fr2 en2 g1 ep : Nat) (va : Option Addr) (vc : Nat) (ts : List Rp) (f : Int → List Int) (c : List (Int × List Int)) (nw : Int) (ba : Option Addr) (bc : Nat) (data : List Int) (h : Lg w l p fr en (.slice va ts.length vc) nx ep) (hD : Dk F w p n f c nw false) (hrd : Rd w (.slice ba data.length bc) data) (hd : data.length ≤ 32000)
    (han : ∀ W da dc, Below w.heap.size w W → Rd W (.slice da data.length dc) data → (∀ k, (Value.slice da data.length dc).ownBlock = some k → k < W.heap.size) → Calls Tryd.prog 29 #[.agg #[.int .i64 (fr : Int), .int .i64 (en : Int), .slice va ts.length vc, .int .i64 (nx : Int)], .int .i64 (ep : Int), .slice da data.length dc] W (AnewPost W fr2 en2 ((⟨g1, ep, 0, data⟩ : Rc), da, dc)))
    (hl : l < w.heap.size) (hlF : ¬ F l) (hfit : fr2 + npc (frm (⟨g1, ep, 0, data⟩ : Rc)).length ≤ n) (hfl : ((frm (⟨g1, ep, 0, data⟩ : Rc)).length : Int) ≤ 1000000) (hn2 : (n : Int) ≤ 1024) (hcl : c.length ≤ 100000000) (hnw : 0 ≤ nw ∧ nw ≤ 100000000) (NX : Nat) (hNX : NX = fr2 + npc (frm (⟨g1, ep, 0, data⟩ : Rc)).length) :
    Calls Tryd.prog 16 #[.pointer (some ⟨l, 0, none⟩), .slice ba data.length bc] w (CkPost F w l p n f c nw fr2 en2 NX ep ⟨g1, ep, 0, data⟩) := by
  obtain ⟨l0, l1, l2, l3, l4, l5, _, _, _, _⟩ := h.facts
  have HW := mkHid (wref_ok F w p n f c nw ba data.length bc hD (by omega))
  have HRD := mkHid hrd
  have HDL := mkHid hd
  have HAN := mkHid han
  have HLG := mkHid h
  have HD := mkHid hD
  have hnx : (fr2 : Int) + (npc (frm (⟨g1, ep, 0, data⟩ : Rc)).length : Int) = (NX : Int) := by omega
  have HM := mkHid (And.intro hl (And.intro hlF (And.intro hfit (And.intro hfl (And.intro hn2 (And.intro hcl hnw))))))
  clear h hD hrd hd han hl hlF hfit hfl hn2 hcl hnw hNX
  go_enter Tryd.func16, Tryd.ntmps16
  go_wp2_with (go_at_call 26; refine HW.out.mono ?_; rintro e w2 ⟨rfl, hw2⟩; rw [hw2]; clear hw2)
  have HB1 : Hid (Below w.heap.size w w.drew) := mkHid (Below.refl _ w).drew
  refine wp_region_held_drew (S := fun w' => w'.cell? ⟨l, 1, none⟩ = some (.int .i64 (fr : Int)) ∧ w'.cell? ⟨l, 2, none⟩ = some (.int .i64 (en : Int)) ∧ w'.cell? ⟨l, 3, none⟩ = some (.slice va ts.length vc) ∧ w'.cell? ⟨l, 4, none⟩ = some (.int .i64 (nx : Int)) ∧ w'.cell? ⟨l, 5, none⟩ = some (.int .i64 (ep : Int))) (by kernel_rfl) ⟨l1, l2, l3, l4, l5⟩ (fun hHeld => ?_)
  clear l0 l1 l2 l3 l4 l5
  generalize w.drew = w1 at *
  refine takeD 0 19 (.pointer (some ⟨l, 0, none⟩)) rfl rfl (by kernel_rfl) (by kernel_rfl) (by kernel_rfl) (fun _ _ _ h => h) (Or.inl ⟨by kernel_rfl, by intro w hSw; (try dsimp only at hSw); go_simp⟩) hHeld ?_
  simp only [List.set_cons_zero, List.set_cons_succ]
  refine takeD 1 20 (.pointer (some ⟨l, 0, none⟩)) rfl rfl (by kernel_rfl) (by kernel_rfl) (by kernel_rfl) (fun _ _ _ h => h) (Or.inl ⟨by kernel_rfl, by intro w hSw; (try dsimp only at hSw); go_simp⟩) hHeld ?_
  simp only [List.set_cons_zero, List.set_cons_succ]
  refine takeD 2 21 (.pointer (some ⟨l, 1, none⟩)) rfl rfl (by kernel_rfl) (by kernel_rfl) (by kernel_rfl) (fun _ _ _ h => h) (Or.inl ⟨by kernel_rfl, by intro w hSw; (try dsimp only at hSw); go_simp⟩) hHeld ?_
  simp only [List.set_cons_zero, List.set_cons_succ]
  refine takeD 3 22 (.agg #[.int .i64 (fr : Int), .int .i64 (en : Int), .slice va ts.length vc, .int .i64 (nx : Int)]) rfl rfl (by kernel_rfl) (by kernel_rfl) (by kernel_rfl) (fun _ _ _ h => h) (Or.inl ⟨by kernel_rfl, by intro w hSw; (try dsimp only at hSw); go_simp⟩) hHeld ?_
  simp only [List.set_cons_zero, List.set_cons_succ]
  refine takeD 4 23 (.pointer (some ⟨l, 0, none⟩)) rfl rfl (by kernel_rfl) (by kernel_rfl) (by kernel_rfl) (fun _ _ _ h => h) (Or.inl ⟨by kernel_rfl, by intro w hSw; (try dsimp only at hSw); go_simp⟩) hHeld ?_
  simp only [List.set_cons_zero, List.set_cons_succ]
  refine takeD 5 24 (.pointer (some ⟨l, 0, none⟩)) rfl rfl (by kernel_rfl) (by kernel_rfl) (by kernel_rfl) (fun _ _ _ h => h) (Or.inl ⟨by kernel_rfl, by intro w hSw; (try dsimp only at hSw); go_simp⟩) hHeld ?_
  simp only [List.set_cons_zero, List.set_cons_succ]
  refine takeD 6 25 (.pointer (some ⟨l, 5, none⟩)) rfl rfl (by kernel_rfl) (by kernel_rfl) (by kernel_rfl) (fun _ _ _ h => h) (Or.inl ⟨by kernel_rfl, by intro w hSw; (try dsimp only at hSw); go_simp⟩) hHeld ?_
  simp only [List.set_cons_zero, List.set_cons_succ]
  refine takeD 7 26 (.int .i64 (ep : Int)) rfl rfl (by kernel_rfl) (by kernel_rfl) (by kernel_rfl) (fun _ _ _ h => h) (Or.inl ⟨by kernel_rfl, by intro w hSw; (try dsimp only at hSw); go_simp⟩) hHeld ?_
  simp only [List.set_cons_zero, List.set_cons_succ]
  refine takeD 8 27 (.slice ba data.length bc) rfl rfl (by kernel_rfl) (by kernel_rfl) (by kernel_rfl) (fun _ _ _ h => h) (Or.inl ⟨by kernel_rfl, by intro w hSw; (try dsimp only at hSw); go_simp⟩) hHeld ?_
  simp only [List.set_cons_zero, List.set_cons_succ]
  refine wpAnyH_ready (rs := [9, 15]) (by kernel_rfl) (by simp) (AllReadyH.cons rfl (fun K hK => ?_) (AllReadyH.cons rfl (fun K hK => ?_) AllReadyH.nil))
  · go_simp
    refine (clone_any w1 _ data (HRD.out.later HB1.out) (by have := HDL.out; omega)).mono ?_
    rintro e w3 ⟨v3, rfl, ho3, b3⟩
    obtain ⟨da, dc, rfl⟩ := own_shape ho3
    have HO3 := mkHid ho3
    have HC3 := mkHid b3
    have HB3 := mkHid (HB1.out.trans (b3.mono HB1.out.size))
    refine hK.out _ _ ⟨cell_lat b3 hHeld.1, cell_lat b3 hHeld.2.1, cell_lat b3 hHeld.2.2.1, cell_lat b3 hHeld.2.2.2.1, cell_lat b3 hHeld.2.2.2.2⟩ (fun hHeld => ?_)
    clear hK K b3 ho3
    refine wpAnyH_ready (rs := [10, 15]) (by kernel_rfl) (by simp) (AllReadyH.cons rfl (fun K hK => ?_) (AllReadyH.cons rfl (fun K hK => ?_) AllReadyH.nil))
    · go_simp
      refine (HAN.out w3 da dc HB3.out (Rd.of_owns HRD.out.1 HO3.out) (fun k e => (HO3.out.lt k e).2)).mono ?_
      rintro e w4 ⟨v4, z4, F4, rfl, hR4, hF4, hz4, hzo4, hb4⟩
      obtain ⟨xa, xc, rfl⟩ := hR4.shape
      obtain ⟨za, zc, rfl⟩ : ∃ a c, z4 = .slice a (frm (⟨g1, ep, 0, data⟩ : Rc)).length c := hz4.2.imp fun a h => h.imp fun c h => h.1
      simp only [List.length_singleton]
      rw [hnx]
      have HP4 := mkHid (And.intro hR4 (And.intro hF4 (And.intro hz4 hzo4)))
      have HC4 := mkHid hb4
      have HB4 := mkHid (HB3.out.trans (hb4.mono HB3.out.size))
      refine hK.out _ _ ⟨cell_lat hb4 hHeld.1, cell_lat hb4 hHeld.2.1, cell_lat hb4 hHeld.2.2.1, cell_lat hb4 hHeld.2.2.2.1, cell_lat hb4 hHeld.2.2.2.2⟩ (fun hHeld => ?_)
      clear hK K hR4 hF4 hz4 hzo4 hb4
      (try simp only [Act.put])
      refine takeD 11 18 (.tuple #[.agg #[.int .i64 (fr2 : Int), .int .i64 (en2 : Int), .slice xa 1 xc, .int .i64 (NX : Int)], .slice za (frm (⟨g1, ep, 0, data⟩ : Rc)).length zc, .nilIface]) rfl rfl (by kernel_rfl) (by kernel_rfl) (by kernel_rfl) (fun _ _ _ h => h) (Or.inl ⟨by kernel_rfl, by intro w hSw; (try dsimp only at hSw); go_simp⟩) hHeld ?_
      simp only [List.set_cons_zero, List.set_cons_succ]
      refine takeD 12 30 (.agg #[.int .i64 (fr2 : Int), .int .i64 (en2 : Int), .slice xa 1 xc, .int .i64 (NX : Int)]) rfl rfl (by kernel_rfl) (by kernel_rfl) (by kernel_rfl) (fun _ _ _ h => h) (Or.inl ⟨by kernel_rfl, by intro w hSw; (try dsimp only at hSw); go_simp⟩) hHeld ?_
      simp only [List.set_cons_zero, List.set_cons_succ]
      refine takeD 13 31 (.slice za (frm (⟨g1, ep, 0, data⟩ : Rc)).length zc) rfl rfl (by kernel_rfl) (by kernel_rfl) (by kernel_rfl) (fun _ _ _ h => h) (Or.inl ⟨by kernel_rfl, by intro w hSw; (try dsimp only at hSw); go_simp⟩) hHeld ?_
      simp only [List.set_cons_zero, List.set_cons_succ]
      refine takeD 14 32 (.nilIface) rfl rfl (by kernel_rfl) (by kernel_rfl) (by kernel_rfl) (fun _ _ _ h => h) (Or.inl ⟨by kernel_rfl, by intro w hSw; (try dsimp only at hSw); go_simp⟩) hHeld ?_
      simp only [List.set_cons_zero, List.set_cons_succ]
      refine wpAnyH_ready (rs := [15]) (by kernel_rfl) (by simp) (AllReadyH.cons rfl (fun K hK => ?_) AllReadyH.nil)
      obtain ⟨w5, hw5⟩ : ∃ w5, w5 = w4.alloc oAZ := ⟨_, rfl⟩
      have hb5 : Below w4.heap.size w4 w5 := by rw [hw5]; exact (Below.refl _ _).alloc (Nat.le_refl _) _
      have HX5 : Hid (w5.heap[w4.heap.size]? = some oAZ) := mkHid (by rw [hw5]; exact heap_alloc_new w4 _)
      have HB5 := mkHid (HB4.out.trans (hb5.mono HB4.out.size))
      have HC5 := mkHid hb5
      obtain ⟨ab, hab⟩ : ∃ ab, ab = w4.heap.size := ⟨_, rfl⟩
      have HAB := mkHid hab
      rw [← hab] at HX5
      go_simp
      rw [← hw5, ← hab]
      refine hK.out _ _ ⟨cell_lat hb5 hHeld.1, cell_lat hb5 hHeld.2.1, cell_lat hb5 hHeld.2.2.1, cell_lat hb5 hHeld.2.2.2.1, cell_lat hb5 hHeld.2.2.2.2⟩ (fun hHeld => ?_)
      clear hK K hb5 hw5 hab
      (try simp only [Act.put])
      have HCK : Hid (CK w w5 ab _ (.slice xa 1 xc) (.slice za (frm (⟨g1, ep, 0, data⟩ : Rc)).length zc) ((⟨g1, ep, 0, data⟩ : Rc), da, dc)) := mkHid (by
        have hs1 := HB1.out.size
        have hq : ∀ k, F4 k → w.heap.size ≤ k ∧ k ≠ ab := fun k hk => by
          have hl := HP4.out.1.lt k hk
          have hab := HAB.out
          rcases HP4.out.2.1 k hk with a | a
          · have := HO3.out.lt k a; have := HC3.out.size; have := HC4.out.size; omega
          · have := HC3.out.size; have := HC4.out.size; omega
        have hz : ∀ k, (.slice za (frm (⟨g1, ep, 0, data⟩ : Rc)).length zc : Value).ownBlock = some k → w.heap.size ≤ k ∧ k < w4.heap.size ∧ k ≠ ab := fun k e => by
          have h1 := HP4.out.2.2.2 k e
          have hab := HAB.out
          have := HC3.out.size; have := HC4.out.size; omega
        exact ⟨HB5.out, HX5.out, by have := HAB.out; have := HB4.out.size; omega, HP4.out.1.below HC5.out, hq, HP4.out.2.2.1.later HC5.out, fun k e => ⟨(hz k e).1, Nat.lt_of_lt_of_le (hz k e).2.1 HC5.out.size, (hz k e).2.2⟩⟩)
      obtain ⟨c0, c1, c2, c3, fc0, fc1, fc2, fc3⟩ := azero_facts HCK.out.box
      have hm := HM.out
      have hlab : ¬ l = ab := by have := HCK.out.hab; omega
      refine wpAnyH_ready (rs := [16]) (by kernel_rfl) (by simp) (AllReadyH.cons rfl (fun K hK => ?_) AllReadyH.nil)
      go_simp
      have HK7 := mkHid (kept_four (F := fun k => k = ab) (R := ab) (Kept.refl _ w5) rfl (.int .i64 (fr2 : Int)) (.int .i64 (en2 : Int)) (.slice xa 1 xc) (.int .i64 (NX : Int)))
      have HX7 := mkHid (afour_leaves HCK.out.box (.int .i64 (fr2 : Int)) (.int .i64 (en2 : Int)) (.slice xa 1 xc) (.int .i64 (NX : Int)))
      refine hK.out _ _ ⟨HK7.out.cell hHeld.1 hlab, HK7.out.cell hHeld.2.1 hlab, HK7.out.cell hHeld.2.2.1 hlab, HK7.out.cell hHeld.2.2.2.1 hlab, HK7.out.cell hHeld.2.2.2.2 hlab⟩ (fun hHeld => ?_)
      clear hK K
      (try simp only [Act.put])
      refine takeD 17 7 (.slice za (frm (⟨g1, ep, 0, data⟩ : Rc)).length zc) rfl rfl (by kernel_rfl) (by kernel_rfl) (by kernel_rfl) (fun _ _ _ h => h) (Or.inl ⟨by kernel_rfl, by intro w hSw; (try dsimp only at hSw); go_simp⟩) hHeld ?_
      simp only [List.set_cons_zero, List.set_cons_succ]
      refine takeD 18 8 (.nilIface) rfl rfl (by kernel_rfl) (by kernel_rfl) (by kernel_rfl) (fun _ _ _ h => h) (Or.inl ⟨by kernel_rfl, by intro w hSw; (try dsimp only at hSw); go_simp⟩) hHeld ?_
      simp only [List.set_cons_zero, List.set_cons_succ]
      refine wpAnyH_done (by kernel_rfl) ?_ _
      clear hHeld c0 c1 c2 c3 fc0 fc1 fc2 fc3
      generalize ((((w5.setCell ⟨ab, 0, none⟩ (.int .i64 (fr2 : Int))).setCell ⟨ab, 1, none⟩ (.int .i64 (en2 : Int))).setCell ⟨ab, 2, none⟩ (.slice xa 1 xc)).setCell ⟨ab, 3, none⟩ (.int .i64 (NX : Int))) = w7 at *
      obtain ⟨x0, x1, x2, x3, _, _, _, _⟩ := four_facts HX7.out
      have HB7 : Hid (Below w.heap.size w w7) := mkHid (HCK.out.bel.trans (HK7.out.below (fun k e => by have := HCK.out.hab; omega) HCK.out.bel.size))
      have HMV := mkHid (moveTo_ok F w7 l p n f c nw fr en nx ep fr2 en2 NX _ xa 1 xc _ (frm (⟨g1, ep, 0, data⟩ : Rc)) (HD.out.below HB7.out) ((HB7.out.block l hm.1).trans HLG.out) hm.2.1 (HCK.out.rd.kept HK7.out (fun k e e2 => (HCK.out.zo k e).2.2 e2)) (fun k e hf => by have h1 := HD.out.1 k hf; have h2 := (HCK.out.zo k e).1; omega) (fun k e => Nat.lt_of_lt_of_le (HCK.out.zo k e).2.1 HK7.out.size) hm.2.2.1 hm.2.2.2.1 hm.2.2.2.2.1 hm.2.2.2.2.2.1 hm.2.2.2.2.2.2)
      clear hm hlab
      go_wp2_with (go_at_call 32; refine HMV.out.mono ?_; rintro e w8 ⟨rfl, F8, hD8, hL8, hF8, hk8⟩; have HE8 := mkHid (And.intro hD8 (And.intro hL8 (And.intro hF8 hk8))); clear hD8 hL8 hF8 hk8)
      go_ret
      have hs7 := HB7.out.size
      have hr7 := HCK.out.recs.kept HK7.out (fun k hk e => (HCK.out.ge k hk).2 e)
      have hF8 : ∀ k, F8 k → F k ∨ w.heap.size ≤ k := fun k hk => by
        rcases HE8.out.2.2.1 k hk with a | a
        · exact .inl a
        · exact .inr (by omega)
      have hb7 : Kept (fun k => F k ∨ k = l) w w7 := ⟨HB7.out.os, HB7.out.tape, HB7.out.output, HB7.out.size, fun k hk _ => HB7.out.block k hk⟩
      refine ⟨rfl, F8, _, _, da, dc, HE8.out.1, HE8.out.2.1, hr7.kept HE8.out.2.2.2 (fun k hk e => ?_), hF8, fun k hk => ⟨(HCK.out.ge k hk).1, fun hf => ?_⟩, hb7.trans HE8.out.2.2.2 (fun k e => .inl e)⟩
      · have h1 := (HCK.out.ge k hk).1
        rcases e with a | a
        · have := HD.out.1 k a; omega
        · have := HM.out.1; omega
      · have h1 := (HCK.out.ge k hk).1
        have h2 := hr7.lt k hk
        rcases HE8.out.2.2.1 k hf with a | a
        · have := HD.out.1 k a; omega
        · omega
    · obtain ⟨w4, hw4⟩ : ∃ w4, w4 = w3.alloc oAZ := ⟨_, rfl⟩
      have hb4 : Below w3.heap.size w3 w4 := by rw [hw4]; exact (Below.refl _ _).alloc (Nat.le_refl _) _
      have HX4 : Hid (w4.heap[w3.heap.size]? = some oAZ) := mkHid (by rw [hw4]; exact heap_alloc_new w3 _)
      have HB4 := mkHid (HB3.out.trans (hb4.mono HB3.out.size))
      have HC4 := mkHid hb4
      obtain ⟨ab, hab⟩ : ∃ ab, ab = w3.heap.size := ⟨_, rfl⟩
      have HAB := mkHid hab
      rw [← hab] at HX4
      go_simp
      rw [← hw4, ← hab]
      refine hK.out _ _ ⟨cell_lat hb4 hHeld.1, cell_lat hb4 hHeld.2.1, cell_lat hb4 hHeld.2.2.1, cell_lat hb4 hHeld.2.2.2.1, cell_lat hb4 hHeld.2.2.2.2⟩ (fun hHeld => ?_)
      clear hK K hb4 hw4 hab
      (try simp only [Act.put])
      refine wpAnyH_ready (rs := [10]) (by kernel_rfl) (by simp) (AllReadyH.cons rfl (fun K hK => ?_) AllReadyH.nil)
      go_simp
      refine (HAN.out w4 da dc HB4.out ((Rd.of_owns HRD.out.1 HO3.out).later HC4.out) (fun k e => Nat.lt_of_lt_of_le (HO3.out.lt k e).2 HC4.out.size)).mono ?_
      rintro e w5 ⟨v5, z5, F5, rfl, hR5, hF5, hz5, hzo5, hb5⟩
      obtain ⟨xa, xc, rfl⟩ := hR5.shape
      obtain ⟨za, zc, rfl⟩ : ∃ a c, z5 = .slice a (frm (⟨g1, ep, 0, data⟩ : Rc)).length c := hz5.2.imp fun a h => h.imp fun c h => h.1
      simp only [List.length_singleton]
      rw [hnx]
      have HP5 := mkHid (And.intro hR5 (And.intro hF5 (And.intro hz5 hzo5)))
      have HC5 := mkHid hb5
      have HB5 := mkHid (HB4.out.trans (hb5.mono HB4.out.size))
      refine hK.out _ _ ⟨cell_lat hb5 hHeld.1, cell_lat hb5 hHeld.2.1, cell_lat hb5 hHeld.2.2.1, cell_lat hb5 hHeld.2.2.2.1, cell_lat hb5 hHeld.2.2.2.2⟩ (fun hHeld => ?_)
      clear hK K hR5 hF5 hz5 hzo5 hb5
      (try simp only [Act.put])
      refine takeD 11 18 (.tuple #[.agg #[.int .i64 (fr2 : Int), .int .i64 (en2 : Int), .slice xa 1 xc, .int .i64 (NX : Int)], .slice za (frm (⟨g1, ep, 0, data⟩ : Rc)).length zc, .nilIface]) rfl rfl (by kernel_rfl) (by kernel_rfl) (by kernel_rfl) (fun _ _ _ h => h) (Or.inl ⟨by kernel_rfl, by intro w hSw; (try dsimp only at hSw); go_simp⟩) hHeld ?_
      simp only [List.set_cons_zero, List.set_cons_succ]
      refine takeD 12 30 (.agg #[.int .i64 (fr2 : Int), .int .i64 (en2 : Int), .slice xa 1 xc, .int .i64 (NX : Int)]) rfl rfl (by kernel_rfl) (by kernel_rfl) (by kernel_rfl) (fun _ _ _ h => h) (Or.inl ⟨by kernel_rfl, by intro w hSw; (try dsimp only at hSw); go_simp⟩) hHeld ?_
      simp only [List.set_cons_zero, List.set_cons_succ]
      refine takeD 13 31 (.slice za (frm (⟨g1, ep, 0, data⟩ : Rc)).length zc) rfl rfl (by kernel_rfl) (by kernel_rfl) (by kernel_rfl) (fun _ _ _ h => h) (Or.inl ⟨by kernel_rfl, by intro w hSw; (try dsimp only at hSw); go_simp⟩) hHeld ?_
      simp only [List.set_cons_zero, List.set_cons_succ]
      refine takeD 14 32 (.nilIface) rfl rfl (by kernel_rfl) (by kernel_rfl) (by kernel_rfl) (fun _ _ _ h => h) (Or.inl ⟨by kernel_rfl, by intro w hSw; (try dsimp only at hSw); go_simp⟩) hHeld ?_
      simp only [List.set_cons_zero, List.set_cons_succ]
      have HCK : Hid (CK w w5 ab _ (.slice xa 1 xc) (.slice za (frm (⟨g1, ep, 0, data⟩ : Rc)).length zc) ((⟨g1, ep, 0, data⟩ : Rc), da, dc)) := mkHid (by
        have hs1 := HB1.out.size
        have hq : ∀ k, F5 k → w.heap.size ≤ k ∧ k ≠ ab := fun k hk => by
          have hl := HP5.out.1.lt k hk
          have hab := HAB.out
          rcases HP5.out.2.1 k hk with a | a
          · have := HO3.out.lt k a; have := HC3.out.size; have := lt_of_heap HX4.out; have := HC5.out.size; omega
          · have := HC3.out.size; have := lt_of_heap HX4.out; have := HC5.out.size; omega
        have hz : ∀ k, (.slice za (frm (⟨g1, ep, 0, data⟩ : Rc)).length zc : Value).ownBlock = some k → w.heap.size ≤ k ∧ k < w5.heap.size ∧ k ≠ ab := fun k e => by
          have h1 := HP5.out.2.2.2 k e
          have hab := HAB.out
          have := HC3.out.size; have := lt_of_heap HX4.out; have := HC5.out.size; omega
        exact ⟨HB5.out, (HC5.out.block ab (lt_of_heap HX4.out)).trans HX4.out, by have := HAB.out; have := HC3.out.size; omega, HP5.out.1, hq, HP5.out.2.2.1, hz⟩)
      obtain ⟨c0, c1, c2, c3, fc0, fc1, fc2, fc3⟩ := azero_facts HCK.out.box
      have hm := HM.out
      have hlab : ¬ l = ab := by have := HCK.out.hab; omega
      refine wpAnyH_ready (rs := [16]) (by kernel_rfl) (by simp) (AllReadyH.cons rfl (fun K hK => ?_) AllReadyH.nil)
      go_simp
      have HK7 := mkHid (kept_four (F := fun k => k = ab) (R := ab) (Kept.refl _ w5) rfl (.int .i64 (fr2 : Int)) (.int .i64 (en2 : Int)) (.slice xa 1 xc) (.int .i64 (NX : Int)))
      have HX7 := mkHid (afour_leaves HCK.out.box (.int .i64 (fr2 : Int)) (.int .i64 (en2 : Int)) (.slice xa 1 xc) (.int .i64 (NX : Int)))
      refine hK.out _ _ ⟨HK7.out.cell hHeld.1 hlab, HK7.out.cell hHeld.2.1 hlab, HK7.out.cell hHeld.2.2.1 hlab, HK7.out.cell hHeld.2.2.2.1 hlab, HK7.out.cell hHeld.2.2.2.2 hlab⟩ (fun hHeld => ?_)
      clear hK K
      (try simp only [Act.put])
      refine takeD 17 7 (.slice za (frm (⟨g1, ep, 0, data⟩ : Rc)).length zc) rfl rfl (by kernel_rfl) (by kernel_rfl) (by kernel_rfl) (fun _ _ _ h => h) (Or.inl ⟨by kernel_rfl, by intro w hSw; (try dsimp only at hSw); go_simp⟩) hHeld ?_
      simp only [List.set_cons_zero, List.set_cons_succ]
      refine takeD 18 8 (.nilIface) rfl rfl (by kernel_rfl) (by kernel_rfl) (by kernel_rfl) (fun _ _ _ h => h) (Or.inl ⟨by kernel_rfl, by intro w hSw; (try dsimp only at hSw); go_simp⟩) hHeld ?_
      simp only [List.set_cons_zero, List.set_cons_succ]
      refine wpAnyH_done (by kernel_rfl) ?_ _
      clear hHeld c0 c1 c2 c3 fc0 fc1 fc2 fc3
      generalize ((((w5.setCell ⟨ab, 0, none⟩ (.int .i64 (fr2 : Int))).setCell ⟨ab, 1, none⟩ (.int .i64 (en2 : Int))).setCell ⟨ab, 2, none⟩ (.slice xa 1 xc)).setCell ⟨ab, 3, none⟩ (.int .i64 (NX : Int))) = w7 at *
      obtain ⟨x0, x1, x2, x3, _, _, _, _⟩ := four_facts HX7.out
      have HB7 : Hid (Below w.heap.size w w7) := mkHid (HCK.out.bel.trans (HK7.out.below (fun k e => by have := HCK.out.hab; omega) HCK.out.bel.size))
      have HMV := mkHid (moveTo_ok F w7 l p n f c nw fr en nx ep fr2 en2 NX _ xa 1 xc _ (frm (⟨g1, ep, 0, data⟩ : Rc)) (HD.out.below HB7.out) ((HB7.out.block l hm.1).trans HLG.out) hm.2.1 (HCK.out.rd.kept HK7.out (fun k e e2 => (HCK.out.zo k e).2.2 e2)) (fun k e hf => by have h1 := HD.out.1 k hf; have h2 := (HCK.out.zo k e).1; omega) (fun k e => Nat.lt_of_lt_of_le (HCK.out.zo k e).2.1 HK7.out.size) hm.2.2.1 hm.2.2.2.1 hm.2.2.2.2.1 hm.2.2.2.2.2.1 hm.2.2.2.2.2.2)
      clear hm hlab
      go_wp2_with (go_at_call 32; refine HMV.out.mono ?_; rintro e w8 ⟨rfl, F8, hD8, hL8, hF8, hk8⟩; have HE8 := mkHid (And.intro hD8 (And.intro hL8 (And.intro hF8 hk8))); clear hD8 hL8 hF8 hk8)
      go_ret
      have hs7 := HB7.out.size
      have hr7 := HCK.out.recs.kept HK7.out (fun k hk e => (HCK.out.ge k hk).2 e)
      have hF8 : ∀ k, F8 k → F k ∨ w.heap.size ≤ k := fun k hk => by
        rcases HE8.out.2.2.1 k hk with a | a
        · exact .inl a
        · exact .inr (by omega)
      have hb7 : Kept (fun k => F k ∨ k = l) w w7 := ⟨HB7.out.os, HB7.out.tape, HB7.out.output, HB7.out.size, fun k hk _ => HB7.out.block k hk⟩
      refine ⟨rfl, F8, _, _, da, dc, HE8.out.1, HE8.out.2.1, hr7.kept HE8.out.2.2.2 (fun k hk e => ?_), hF8, fun k hk => ⟨(HCK.out.ge k hk).1, fun hf => ?_⟩, hb7.trans HE8.out.2.2.2 (fun k e => .inl e)⟩
      · have h1 := (HCK.out.ge k hk).1
        rcases e with a | a
        · have := HD.out.1 k a; omega
        · have := HM.out.1; omega
      · have h1 := (HCK.out.ge k hk).1
        have h2 := hr7.lt k hk
        rcases HE8.out.2.2.1 k hf with a | a
        · have := HD.out.1 k a; omega
        · omega
  · obtain ⟨w3, hw3⟩ : ∃ w3, w3 = w1.alloc oAZ := ⟨_, rfl⟩
    have hb3 : Below w1.heap.size w1 w3 := by rw [hw3]; exact (Below.refl _ _).alloc (Nat.le_refl _) _
    have HX3 : Hid (w3.heap[w1.heap.size]? = some oAZ) := mkHid (by rw [hw3]; exact heap_alloc_new w1 _)
    have HB3 := mkHid (HB1.out.trans (hb3.mono HB1.out.size))
    have HC3 := mkHid hb3
    obtain ⟨ab, hab⟩ : ∃ ab, ab = w1.heap.size := ⟨_, rfl⟩
    have HAB := mkHid hab
    rw [← hab] at HX3
    go_simp
    rw [← hw3, ← hab]
    refine hK.out _ _ ⟨cell_lat hb3 hHeld.1, cell_lat hb3 hHeld.2.1, cell_lat hb3 hHeld.2.2.1, cell_lat hb3 hHeld.2.2.2.1, cell_lat hb3 hHeld.2.2.2.2⟩ (fun hHeld => ?_)
    clear hK K hb3 hw3 hab
    (try simp only [Act.put])
    refine wpAnyH_ready (rs := [9]) (by kernel_rfl) (by simp) (AllReadyH.cons rfl (fun K hK => ?_) AllReadyH.nil)
    go_simp
    refine (clone_any w3 _ data (HRD.out.later HB3.out) (by have := HDL.out; omega)).mono ?_
    rintro e w4 ⟨v4, rfl, ho4, b4⟩
    obtain ⟨da, dc, rfl⟩ := own_shape ho4
    have HO4 := mkHid ho4
    have HC4 := mkHid b4
    have HB4 := mkHid (HB3.out.trans (b4.mono HB3.out.size))
    refine hK.out _ _ ⟨cell_lat b4 hHeld.1, cell_lat b4 hHeld.2.1, cell_lat b4 hHeld.2.2.1, cell_lat b4 hHeld.2.2.2.1, cell_lat b4 hHeld.2.2.2.2⟩ (fun hHeld => ?_)
    clear hK K b4 ho4
    refine wpAnyH_ready (rs := [10]) (by kernel_rfl) (by simp) (AllReadyH.cons rfl (fun K hK => ?_) AllReadyH.nil)
    go_simp
    refine (HAN.out w4 da dc HB4.out (Rd.of_owns HRD.out.1 HO4.out) (fun k e => (HO4.out.lt k e).2)).mono ?_
    rintro e w5 ⟨v5, z5, F5, rfl, hR5, hF5, hz5, hzo5, hb5⟩
    obtain ⟨xa, xc, rfl⟩ := hR5.shape
    obtain ⟨za, zc, rfl⟩ : ∃ a c, z5 = .slice a (frm (⟨g1, ep, 0, data⟩ : Rc)).length c := hz5.2.imp fun a h => h.imp fun c h => h.1
    simp only [List.length_singleton]
    rw [hnx]
    have HP5 := mkHid (And.intro hR5 (And.intro hF5 (And.intro hz5 hzo5)))
    have HC5 := mkHid hb5
    have HB5 := mkHid (HB4.out.trans (hb5.mono HB4.out.size))
    refine hK.out _ _ ⟨cell_lat hb5 hHeld.1, cell_lat hb5 hHeld.2.1, cell_lat hb5 hHeld.2.2.1, cell_lat hb5 hHeld.2.2.2.1, cell_lat hb5 hHeld.2.2.2.2⟩ (fun hHeld => ?_)
    clear hK K hR5 hF5 hz5 hzo5 hb5
    (try simp only [Act.put])
    refine takeD 11 18 (.tuple #[.agg #[.int .i64 (fr2 : Int), .int .i64 (en2 : Int), .slice xa 1 xc, .int .i64 (NX : Int)], .slice za (frm (⟨g1, ep, 0, data⟩ : Rc)).length zc, .nilIface]) rfl rfl (by kernel_rfl) (by kernel_rfl) (by kernel_rfl) (fun _ _ _ h => h) (Or.inl ⟨by kernel_rfl, by intro w hSw; (try dsimp only at hSw); go_simp⟩) hHeld ?_
    simp only [List.set_cons_zero, List.set_cons_succ]
    refine takeD 12 30 (.agg #[.int .i64 (fr2 : Int), .int .i64 (en2 : Int), .slice xa 1 xc, .int .i64 (NX : Int)]) rfl rfl (by kernel_rfl) (by kernel_rfl) (by kernel_rfl) (fun _ _ _ h => h) (Or.inl ⟨by kernel_rfl, by intro w hSw; (try dsimp only at hSw); go_simp⟩) hHeld ?_
    simp only [List.set_cons_zero, List.set_cons_succ]
    refine takeD 13 31 (.slice za (frm (⟨g1, ep, 0, data⟩ : Rc)).length zc) rfl rfl (by kernel_rfl) (by kernel_rfl) (by kernel_rfl) (fun _ _ _ h => h) (Or.inl ⟨by kernel_rfl, by intro w hSw; (try dsimp only at hSw); go_simp⟩) hHeld ?_
    simp only [List.set_cons_zero, List.set_cons_succ]
    refine takeD 14 32 (.nilIface) rfl rfl (by kernel_rfl) (by kernel_rfl) (by kernel_rfl) (fun _ _ _ h => h) (Or.inl ⟨by kernel_rfl, by intro w hSw; (try dsimp only at hSw); go_simp⟩) hHeld ?_
    simp only [List.set_cons_zero, List.set_cons_succ]
    have HCK : Hid (CK w w5 ab _ (.slice xa 1 xc) (.slice za (frm (⟨g1, ep, 0, data⟩ : Rc)).length zc) ((⟨g1, ep, 0, data⟩ : Rc), da, dc)) := mkHid (by
      have hs1 := HB1.out.size
      have hq : ∀ k, F5 k → w.heap.size ≤ k ∧ k ≠ ab := fun k hk => by
        have hl := HP5.out.1.lt k hk
        have hab := HAB.out
        rcases HP5.out.2.1 k hk with a | a
        · have := HO4.out.lt k a; have := lt_of_heap HX3.out; have := HC4.out.size; have := HC5.out.size; omega
        · have := lt_of_heap HX3.out; have := HC4.out.size; have := HC5.out.size; omega
      have hz : ∀ k, (.slice za (frm (⟨g1, ep, 0, data⟩ : Rc)).length zc : Value).ownBlock = some k → w.heap.size ≤ k ∧ k < w5.heap.size ∧ k ≠ ab := fun k e => by
        have h1 := HP5.out.2.2.2 k e
        have hab := HAB.out
        have := lt_of_heap HX3.out; have := HC4.out.size; have := HC5.out.size; omega
      exact ⟨HB5.out, (HC5.out.block ab (Nat.lt_of_lt_of_le (lt_of_heap HX3.out) HC4.out.size)).trans ((HC4.out.block ab (lt_of_heap HX3.out)).trans HX3.out), by have := HAB.out; omega, HP5.out.1, hq, HP5.out.2.2.1, hz⟩)
    obtain ⟨c0, c1, c2, c3, fc0, fc1, fc2, fc3⟩ := azero_facts HCK.out.box
    have hm := HM.out
    have hlab : ¬ l = ab := by have := HCK.out.hab; omega
    refine wpAnyH_ready (rs := [16]) (by kernel_rfl) (by simp) (AllReadyH.cons rfl (fun K hK => ?_) AllReadyH.nil)
    go_simp
    have HK7 := mkHid (kept_four (F := fun k => k = ab) (R := ab) (Kept.refl _ w5) rfl (.int .i64 (fr2 : Int)) (.int .i64 (en2 : Int)) (.slice xa 1 xc) (.int .i64 (NX : Int)))
    have HX7 := mkHid (afour_leaves HCK.out.box (.int .i64 (fr2 : Int)) (.int .i64 (en2 : Int)) (.slice xa 1 xc) (.int .i64 (NX : Int)))
    refine hK.out _ _ ⟨HK7.out.cell hHeld.1 hlab, HK7.out.cell hHeld.2.1 hlab, HK7.out.cell hHeld.2.2.1 hlab, HK7.out.cell hHeld.2.2.2.1 hlab, HK7.out.cell hHeld.2.2.2.2 hlab⟩ (fun hHeld => ?_)
    clear hK K
    (try simp only [Act.put])
    refine takeD 17 7 (.slice za (frm (⟨g1, ep, 0, data⟩ : Rc)).length zc) rfl rfl (by kernel_rfl) (by kernel_rfl) (by kernel_rfl) (fun _ _ _ h => h) (Or.inl ⟨by kernel_rfl, by intro w hSw; (try dsimp only at hSw); go_simp⟩) hHeld ?_
    simp only [List.set_cons_zero, List.set_cons_succ]
    refine takeD 18 8 (.nilIface) rfl rfl (by kernel_rfl) (by kernel_rfl) (by kernel_rfl) (fun _ _ _ h => h) (Or.inl ⟨by kernel_rfl, by intro w hSw; (try dsimp only at hSw); go_simp⟩) hHeld ?_
    simp only [List.set_cons_zero, List.set_cons_succ]
    refine wpAnyH_done (by kernel_rfl) ?_ _
    clear hHeld c0 c1 c2 c3 fc0 fc1 fc2 fc3
    generalize ((((w5.setCell ⟨ab, 0, none⟩ (.int .i64 (fr2 : Int))).setCell ⟨ab, 1, none⟩ (.int .i64 (en2 : Int))).setCell ⟨ab, 2, none⟩ (.slice xa 1 xc)).setCell ⟨ab, 3, none⟩ (.int .i64 (NX : Int))) = w7 at *
    obtain ⟨x0, x1, x2, x3, _, _, _, _⟩ := four_facts HX7.out
    have HB7 : Hid (Below w.heap.size w w7) := mkHid (HCK.out.bel.trans (HK7.out.below (fun k e => by have := HCK.out.hab; omega) HCK.out.bel.size))
    have HMV := mkHid (moveTo_ok F w7 l p n f c nw fr en nx ep fr2 en2 NX _ xa 1 xc _ (frm (⟨g1, ep, 0, data⟩ : Rc)) (HD.out.below HB7.out) ((HB7.out.block l hm.1).trans HLG.out) hm.2.1 (HCK.out.rd.kept HK7.out (fun k e e2 => (HCK.out.zo k e).2.2 e2)) (fun k e hf => by have h1 := HD.out.1 k hf; have h2 := (HCK.out.zo k e).1; omega) (fun k e => Nat.lt_of_lt_of_le (HCK.out.zo k e).2.1 HK7.out.size) hm.2.2.1 hm.2.2.2.1 hm.2.2.2.2.1 hm.2.2.2.2.2.1 hm.2.2.2.2.2.2)
    clear hm hlab
    go_wp2_with (go_at_call 32; refine HMV.out.mono ?_; rintro e w8 ⟨rfl, F8, hD8, hL8, hF8, hk8⟩; have HE8 := mkHid (And.intro hD8 (And.intro hL8 (And.intro hF8 hk8))); clear hD8 hL8 hF8 hk8)
    go_ret
    have hs7 := HB7.out.size
    have hr7 := HCK.out.recs.kept HK7.out (fun k hk e => (HCK.out.ge k hk).2 e)
    have hF8 : ∀ k, F8 k → F k ∨ w.heap.size ≤ k := fun k hk => by
      rcases HE8.out.2.2.1 k hk with a | a
      · exact .inl a
      · exact .inr (by omega)
    have hb7 : Kept (fun k => F k ∨ k = l) w w7 := ⟨HB7.out.os, HB7.out.tape, HB7.out.output, HB7.out.size, fun k hk _ => HB7.out.block k hk⟩
    refine ⟨rfl, F8, _, _, da, dc, HE8.out.1, HE8.out.2.1, hr7.kept HE8.out.2.2.2 (fun k hk e => ?_), hF8, fun k hk => ⟨(HCK.out.ge k hk).1, fun hf => ?_⟩, hb7.trans HE8.out.2.2.2 (fun k e => .inl e)⟩
    · have h1 := (HCK.out.ge k hk).1
      rcases e with a | a
      · have := HD.out.1 k a; omega
      · have := HM.out.1; omega
    · have h1 := (HCK.out.ge k hk).1
      have h2 := hr7.lt k hk
      rcases HE8.out.2.2.1 k hf with a | a
      · have := HD.out.1 k a; omega
      · omega
end Go.Proofs.YtcbimclgodkflaaDoor
