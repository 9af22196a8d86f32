/- WireSums: Sum, Seal, Open of all bytes. -/
import Derived.Test.YtghpehgefbikeaaDoorApart
import Derived.Test.YtghpehgefbikeaaDoorOpenRef
import Derived.Test.YtghpehgefbikeaaDoorErrNum
import Derived.Deep.RegionHeld
import Derived.Deep.RegionHeldLaw
namespace Go.Proofs.YtghpehgefbikeaaDoor
open Go.ChangeShapes Go.WideShapes Go.ChangeAt Go.RowKit

theorem own_lift {w : World} {b c : Nat} {e : TypeId} {v : Value} {n : Nat} {xs : List Value} (h : w.ownsRow c e 1 v n xs) (hb : b ≤ c) : w.ownsRow b e 1 v n xs :=
  ⟨h.1, h.2.imp id fun ⟨g, cap, cur, e1, hg, rest⟩ => ⟨g, cap, cur, e1, Nat.le_trans hb hg, rest⟩⟩
def Dis (u v : Value) : Prop := ∀ k, u.ownBlock = some k → v.ownBlock ≠ some k
/-- What lies in memory ahead of the last line. -/
structure SumSt (w0 w : World) (g cap : Nat) (bs zs : List Int) (vs vo vb : Value) : Prop where
  bel : Below w0.heap.size w0 w
  mkk : Mk w w0.heap.size g cap bs
  s : w.ownsRow w0.heap.size 5 1 vs (bs ++ sumb (fnv bs)).length ((bs ++ sumb (fnv bs)).map (Value.int .u8))
  o : w.ownsRow w0.heap.size 5 1 vo zs.length (zs.map (Value.int .u8))
  b : w.ownsRow w0.heap.size 5 1 vb bs.length (bs.map (Value.int .u8))
  gs : vs.ownBlock ≠ some g
  go : vo.ownBlock ≠ some g
  gb : vb.ownBlock ≠ some g
  so : Dis vs vo
  bo : Dis vb vo
  bsd : Dis vb vs
theorem own_keep {F : Nat → Prop} {w w' : World} {base : Nat} {e : TypeId} {v : Value} {n : Nat} {xs : List Value} (h : w.ownsRow base e 1 v n xs) (hk : Kept F w w') (hn : ∀ k, v.ownBlock = some k → ¬ F k) : w'.ownsRow base e 1 v n xs := by
  refine ⟨h.1, h.2.imp id ?_⟩
  rintro ⟨g, cap, cur, rfl, hb, hg, rest⟩
  exact ⟨g, cap, cur, rfl, hb, by rw [hk.block g (Array.getElem?_eq_some_iff.1 hg).1 (hn g rfl)]; exact hg, rest⟩
theorem own_late {w w' : World} {base : Nat} {e : TypeId} {v : Value} {n : Nat} {xs : List Value} (h : w.ownsRow base e 1 v n xs) (hb : Below w.heap.size w w') : w'.ownsRow base e 1 v n xs :=
  own_keep h (kept_of_below hb) (fun k hk hge => by have := (h.lt k hk).2; omega)
theorem SumSt.make {w0 w1 w2 w3 w4 w5 w6 : World} {g cap : Nat} {bs zs : List Int} {vs vo vb : Value} (h1 : w0.heap.size ≤ w1.heap.size) (h2 : w1.heap.size ≤ w2.heap.size) (hm : Mk w3 w1.heap.size g cap bs) (hg : g < w2.heap.size)
    (hs : w3.ownsRow w2.heap.size 5 1 vs (bs ++ sumb (fnv bs)).length ((bs ++ sumb (fnv bs)).map (Value.int .u8))) (hb23 : w2.heap.size ≤ w3.heap.size) (ho : w4.ownsRow w3.heap.size 5 1 vo zs.length (zs.map (Value.int .u8))) (hb34 : Below w3.heap.size w3 w4) (hb45 : Below w4.heap.size w4 w5)
    (hv : w6.ownsRow w5.heap.size 5 1 vb bs.length (bs.map (Value.int .u8))) (hb56 : Below w5.heap.size w5 w6) (hbel : Below w0.heap.size w0 w6) : SumSt w0 w6 g cap bs zs vs vo vb := by
  have e34 := hb34.size
  have e45 := hb45.size
  have b46 : Below w4.heap.size w4 w6 := hb45.trans (hb56.mono e45)
  have b36 : Below w3.heap.size w3 w6 := hb34.trans (b46.mono e34)
  have hm6 : Mk w6 w1.heap.size g cap bs := hm.kept (kept_of_below b36) (by have := hm.lt; omega)
  refine ⟨hbel, own_lift hm6 (by omega), own_lift (own_late hs b36) (by omega), own_lift (own_late ho b46) (by omega), own_lift hv (by omega), ?_, ?_, ?_, ?_, ?_, ?_⟩
  · intro e; have := (hs.lt g e).1; omega
  · intro e; have := (ho.lt g e).1; omega
  · intro e; have := (hv.lt g e).1; omega
  · intro k e e'; have := hs.lt k e; have := ho.lt k e'; omega
  · intro k e e'; have := hv.lt k e; have := ho.lt k e'; omega
  · intro k e e'; have := hv.lt k e; have := hs.lt k e'; omega
theorem SumSt.below {w0 w w' : World} {g cap : Nat} {bs zs : List Int} {vs vo vb : Value} (h : SumSt w0 w g cap bs zs vs vo vb) (hb : Below w.heap.size w w') : SumSt w0 w' g cap bs zs vs vo vb :=
  ⟨h.bel.trans (hb.mono h.bel.size), h.mkk.kept (kept_of_below hb) (by have := h.mkk.lt; omega), own_late h.s hb, own_late h.o hb, own_late h.b hb, h.gs, h.go, h.gb, h.so, h.bo, h.bsd⟩
theorem SumSt.dr {w0 w : World} {g cap : Nat} {bs zs : List Int} {vs vo vb : Value} (h : SumSt w0 w g cap bs zs vs vo vb) : SumSt w0 w.drew g cap bs zs vs vo vb := h.below ⟨rfl, rfl, rfl, Nat.le_refl _, fun _ _ => rfl⟩
/-- Behind the first Apart. -/
theorem SumSt.ap1 {w0 w w' : World} {g cap : Nat} {bs zs : List Int} {vs vo vb : Value} (h : SumSt w0 w g cap bs zs vs vo vb) (hk : Kept (fun k => vo.ownBlock = some k) w w') :
    Below w0.heap.size w0 w' ∧ Mk w' w0.heap.size g cap bs ∧ w'.ownsRow w0.heap.size 5 1 vs (bs ++ sumb (fnv bs)).length ((bs ++ sumb (fnv bs)).map (Value.int .u8)) ∧ w'.ownsRow w0.heap.size 5 1 vb bs.length (bs.map (Value.int .u8)) :=
  ⟨h.bel.trans (hk.below (fun k hk => (h.o.lt k hk).1) h.bel.size), h.mkk.kept hk h.go, own_keep h.s hk (fun k e => h.so k e), own_keep h.b hk (fun k e => h.bo k e)⟩
set_option maxHeartbeats 60000000 in
theorem sums_walk (w0 : World) (v0 : Value) (bs zs : List Int) (err : Value) (N : Int) (h : Rd w0 v0 bs) (hl : (bs.length : Int) ≤ 140737488355200) (hZ : Byts zs) (hzl : zs.length ≤ bs.length)
    (HO : ∀ W g cap, Below w0.heap.size w0 W → Rd W (.slice (some ⟨g, 0, none⟩) bs.length cap) bs → Calls Tryd.prog 29 #[.slice (some ⟨g, 0, none⟩) bs.length cap] W fun e W' => ∃ vo, e = .returned (.tuple #[vo, err]) ∧ W'.ownsRow W.heap.size 5 1 vo zs.length (zs.map (Value.int .u8)) ∧ Below W.heap.size W W')
    (HRO : ∀ W, Rd W v0 bs → Calls Tryd.prog 30 #[v0] W fun e W' => ∃ vw, e = .returned (.tuple #[vw, .int .i64 N]) ∧ Rd W' vw zs ∧ Below W.heap.size W W')
    (HNum : ∀ W, Below w0.heap.size w0 W → Calls Tryd.prog 22 #[err] W fun e W' => e = .returned (.int .i64 N) ∧ Below W.heap.size W W') :
    Calls Tryd.prog 5 #[v0] w0 fun e w' => e = .returned (.bool true) ∧ Below w0.heap.size w0 w' := by
  have H1 := mkHid HO
  have H2 := mkHid HRO
  have H3 := mkHid HNum
  clear HO HRO HNum
  have M1 : Hid True := trivial
  go_enter Tryd.func5, Tryd.ntmps5
  go_wp2_with (first | (go_at_call 9; refine (alive_any _).mono ?_; rintro e w1 ⟨rfl, hb1⟩; have r1 := h.later hb1) | (go_at_call 15; refine (nbytes_any _ _ bs r1 (by omega)).mono ?_; rintro e w2 ⟨g, cap, rfl, hmk, hb2⟩; have hb2' := hb1.trans (hb2.mono hb1.size); have ri := hmk.rd h.1; have hg := hmk.lt; clear r1 hb2) | (go_at_call 28; refine (seal_any _ _ bs ri (by omega)).mono ?_; rintro e w3 ⟨vs, rfl, hs3, hb3⟩; have hb3' := hb2'.trans (hb3.mono hb2'.size); have ri3 := ri.later hb3; have mk3 : Mk w3 w1.heap.size g cap bs := hmk.kept (kept_of_below hb3) (by omega); have hb23 := hb3.size; clear ri hb3) | (go_at_call 29; clear M1; refine (H1.out _ _ _ hb3' ri3).mono ?_; rintro e w4 ⟨vo, rfl, ho4, hb4⟩; have hb4' := hb3'.trans (hb4.mono hb3'.size); have HVs : Hid (∃ gs cs, vs = .slice (some ⟨gs, 0, none⟩) (bs.length + 4) cs) := (by obtain ⟨gs, cs, e, _⟩ := own_spot hs3 (by rw [sealed_len]; omega); rw [sealed_len] at e; exact ⟨gs, cs, e⟩); clear ri3) | (go_at_call 30; refine (H2.out _ (h.later hb4')).mono ?_; rintro e w5 ⟨vw, rfl, hw5, hb5⟩; have hb5' := hb4'.trans (hb5.mono hb4'.size); have rs5 := Rd.of_owns (sealed_byts h.1) (own_late hs3 (hb4.trans (hb5.mono hb4.size)))) | (go_at_call 29; obtain ⟨gs, cs, evs⟩ := HVs.out; subst evs; refine (open_good _ gs 0 cs bs.length bs (sumb (fnv bs)) rfl (sumb_len _) rs5 (by omega) rfl).mono ?_; rintro e w6 ⟨vb, rfl, hv6, hb6⟩; have hb6' := hb5'.trans (hb6.mono hb5'.size); have HST : Hid (SumSt w0 w6 g cap bs zs (.slice (some ⟨gs, 0, none⟩) (bs.length + 4) cs) vo vb) := mkHid (SumSt.make hb1.size (by omega) mk3 hg.2 hs3 hb23 ho4 hb4 hb5 hv6 hb6 hb6'); have hw6 := hw5.later hb6; clear hv6 hb6 rs5 hw5 hb5 hb4 ho4 hs3 mk3 hmk))
  clear H1 H2 HVs hb1 hb2' hg hb3' hb23 hb4' hb5' hb6'
  have HR : Hid (Rd w6.drew (.slice (some ⟨g, 0, none⟩) bs.length cap) bs ∧ Rd w6.drew v0 bs ∧ Rd w6.drew vw zs) := ⟨HST.out.dr.mkk.rd h.1, h.later HST.out.dr.bel, hw6.later ⟨rfl, rfl, rfl, Nat.le_refl _, fun _ _ => rfl⟩⟩
  have cvs0 := (Rd.of_owns (sealed_byts h.1) HST.out.dr.s).conv
  have hlI : (bs.length : Int) ≤ 140737488355328 := by omega
  have hlJ : (bs.length : Int) ≤ 140737488355320 := by omega
  have hlK : (bs.length : Int) ≤ 140737488355300 := by omega
  have hlZ : (zs.length : Int) ≤ 140737488355300 := by omega
  have hlS : ((bs ++ sumb (fnv bs)).length : Int) ≤ 140737488355300 := by rw [sealed_len]; omega
  have MA : Hid True := trivial
  have cw6 := HR.out.2.2.conv
  have cb6 := (Rd.of_owns h.1 HST.out.dr.b).conv
  have cv06 := HR.out.2.1.conv
  clear hw6 hzl
  go_region_held (fun w' => (convert 27 9 vb).run Tryd.prog w' = .ok (.string (strOfNums bs)) w' ∧ (convert 27 9 v0).run Tryd.prog w' = .ok (.string (strOfNums bs)) w') (first | exact ⟨by assumption, by assumption⟩ | (refine ⟨?_, ?_⟩ <;> first | assumption | (exact (HBR.out _).1) | (exact (HBR.out _).2))) (first | (go_at_call 31; refine (sum_any _ _ bs HR.out.1 hlI).mono ?_; rintro e wx ⟨rfl, hw⟩; rw [hw]; clear hw) | (go_at_call 32; refine (refsum_any _ _ bs HR.out.2.1 hlI).mono ?_; rintro e wx ⟨rfl, hw⟩; rw [hw]; clear hw) | (go_at_call 33; refine (refseal_any _ _ bs HR.out.2.1 hlJ).mono ?_; rintro e w7 ⟨v7, rfl, ho7, hb7⟩; have cv7 := (Rd.of_owns (sealed_byts h.1) ho7).conv; have HST7 := mkHid (HST.out.dr.below hb7); have cvs7 := (Rd.of_owns (sealed_byts h.1) HST7.out.s).conv; have hw7 := mkHid (HR.out.2.2.later hb7); have cw7 := hw7.out.conv; have cb7 := (Rd.of_owns h.1 HST7.out.b).conv; have cv07 := (h.later HST7.out.bel).conv; clear ho7 hb7) | (go_at_call 22; refine (H3.out _ HST7.out.bel).mono ?_; rintro e w8 ⟨rfl, hb8⟩; have HST8 := mkHid (HST7.out.below hb8); have cvo := (Rd.of_owns hZ HST8.out.o).conv; have hw8 := mkHid (hw7.out.later hb8); have cw8 := hw8.out.conv; have cb8 := (Rd.of_owns h.1 HST8.out.b).conv; have cv08 := (h.later HST8.out.bel).conv; have HWB : Hid (∀ k, vw.ownBlock = some k → True) := mkHid (fun _ _ => trivial); clear hb8 cv7 cvs7 cvs0 cw7 cb7 cv07 cw6 cb6 cv06) | (go_at_call 34; clear MA; refine (apart_any _ _ vo _ zs w0.heap.size zs.length (fun k => vo.ownBlock = some k) (fun w' hk => Rd.of_owns (sealed_byts h.1) (HST8.out.ap1 hk).2.2.1) HST8.out.o hZ (fun k hk => hk) HST8.out.bel.size hlZ).mono ?_; rintro e w9 ⟨rfl, hk9⟩; have HA := mkHid (HST8.out.ap1 hk9); have cb9 := (Rd.of_owns h.1 HA.out.2.2.2).conv; have cv09 := (h.later HA.out.1).conv; clear hk9 cvo) | (go_at_call 34; refine (apart_any _ _ _ bs (bs ++ sumb (fnv bs)) w0.heap.size (bs ++ sumb (fnv bs)).length (fun k => (Value.slice (some ⟨gs, 0, none⟩) (bs.length + 4) cs).ownBlock = some k) (fun w' hk => Rd.of_owns h.1 (own_keep HA.out.2.2.2 hk (fun k e => HST.out.bsd k e))) HA.out.2.2.1 (sealed_byts h.1) (fun k hk => hk) HA.out.1.size hlS).mono ?_; rintro e w10 ⟨rfl, hk10⟩; have HB : Hid (Below w0.heap.size w0 w10 ∧ Mk w10 w0.heap.size g cap bs) := mkHid ⟨HA.out.1.trans (hk10.below (fun k hk => (HA.out.2.2.1.lt k hk).1) HA.out.1.size), HA.out.2.1.kept hk10 HST.out.gs⟩; have cb10 := (Rd.of_owns h.1 (own_keep HA.out.2.2.2 hk10 (fun k e => HST.out.bsd k e))).conv; have cv010 := (h.later HB.out.1).conv; have HBR : Hid (∀ n, ((convert 27 9 vb).run Tryd.prog (w10.drewN n) = .ok (.string (strOfNums bs)) (w10.drewN n)) ∧ ((convert 27 9 v0).run Tryd.prog (w10.drewN n) = .ok (.string (strOfNums bs)) (w10.drewN n))) := mkHid (fun n => ⟨(Rd.of_owns h.1 (own_keep HA.out.2.2.2 hk10 (fun k e => HST.out.bsd k e))).convs n, (h.later HB.out.1).convs n⟩); clear hk10) | (go_at_call 17; refine (nkept_any _ w0.heap.size g cap v0 bs HB.out.2 (h.later HB.out.1) hlK).mono ?_; rintro e w11 ⟨rfl, nq, hw⟩; rw [hw]; clear hw))
  all_goals go_wp2
  all_goals go_ret
  all_goals exact ⟨rfl, HB.out.1.trans ⟨rfl, rfl, rfl, Nat.le_refl _, fun _ _ => rfl⟩⟩
end Go.Proofs.YtghpehgefbikeaaDoor
