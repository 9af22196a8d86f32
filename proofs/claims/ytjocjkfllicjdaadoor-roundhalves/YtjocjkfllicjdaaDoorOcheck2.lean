/- Which entries are in form: inRange, kindAllows, Check. -/
import Derived.Test.YtjocjkfllicjdaaDoorOcheck
import Derived.Test.YtjocjkfllicjdaaDoorLaid
namespace Go.Proofs.YtjocjkfllicjdaaDoor
open Go.ChangeShapes Go.WideShapes Go.ChangeAt Go.RowKit
set_option maxRecDepth 100000
attribute [local go_sem] World.cell?_alloc_some frozen_alloc_some

set_option maxHeartbeats 3200000 in
theorem inRange_no (w : World) (t : Ep) (h : EnW w t) (hr : ¬ rangeF t.1) : Calls Tryd.prog 49 #[vP t] w fun r w' => r = .returned (.bool false) ∧ Below w.heap.size w w' := by
  obtain ⟨e, a, cap⟩ := t
  have HS := mkHid h
  have HX := mkHid hr
  clear h hr
  simp only [vP, vN, tv] at ⊢
  by_cases hn : (8 : Int) < (e.ts.length : Int)
  · go_enter Tryd.func49, Tryd.ntmps49
    go_wp2
    go_ret
    exact ⟨rfl, ba (Below.refl _ _) _⟩
  · by_cases hh : ∃ x ∈ hnum e, ¬ amt x
    · have HH := mkHid (contOut_yes · · 0 9 (hnum e) (by simp [hnum]) · hh)
      clear hh
      go_enter Tryd.func49, Tryd.ntmps49
      go_wp2_with (first | (go_at_call 58; refine (headOf_any _ e a e.ts.length cap).mono ?_; rintro r w1 ⟨rfl, b1⟩; simp only [v9, a9]; have HB1 := mkHid (bt (ba (Below.refl _ w) _) b1); clear b1) | (go_at_call 59; refine (HH.out _ _ (row_new w1 (hnum e) 100 (a9 e) rfl)).mono ?_; rintro r w2 ⟨rfl, rfl⟩; simp only [a9]; have HB2 := mkHid (ba HB1.out (.cells (a9 e) 100))))
      go_ret
      exact ⟨rfl, HB2.out⟩
    · have hh' : ∀ x ∈ hnum e, amt x := fun x hx => Classical.byContradiction fun hn => hh ⟨x, hx, hn⟩
      have HH := mkHid (contOut_no · · 0 9 (hnum e) (by simp [hnum]) · hh')
      have HN := mkHid hn
      have HH' := mkHid hh'
      clear hh hh'
      go_enter Tryd.func49, Tryd.ntmps49
      go_wp2_with (first | (go_at_call 58; refine (headOf_any _ e a e.ts.length cap).mono ?_; rintro r w1 ⟨rfl, b1⟩; simp only [v9, a9]; have q8 := kc (ent8 w e (.slice a e.ts.length cap)) b1; have HB1 := mkHid (bt (ba (Below.refl _ w) _) b1); clear b1) | (go_at_call 59; refine (HH.out _ _ (row_new w1 (hnum e) 100 (a9 e) rfl)).mono ?_; rintro r w2 ⟨rfl, rfl⟩; simp only [a9]; have HB2 := mkHid (ba HB1.out (.cells (a9 e) 100))))
      clear q8
      go_loopw [20] (fun iv wr => ∃ j : Nat, iv = .int .i64 (j : Int) ∧ j ≤ e.ts.length ∧ Hid (∀ i x, i < j → e.ts[i]? = some x → okT x) ∧ Hid (Below w.heap.size w wr)) (fun iv _ => e.ts.length - (intOf iv).toNat)
      case atStart => exact ⟨0, rfl, Nat.zero_le _, mkHid (fun i x hi => by omega), HB2⟩
      case round =>
        obtain ⟨j, rfl, hj, HO, HB⟩ := hrel
        by_cases hlt : j < e.ts.length
        · obtain ⟨b, off, c, p, d, s, rfl, hxj, c0, c1, c2, c3⟩ := Tks.at HS.out HB.out j hlt
          have hji : (j : Int) < e.ts.length := by omega
          by_cases hk : okT (c, p, d, s)
          · have HK := mkHid (contOut_no · · 0 4 (tnum (c, p, d, s)) (by simp [tnum]) · (okT_all.mp hk))
            have HO2 : Hid (∀ i x, i < j + 1 → e.ts[i]? = some x → okT x) := mkHid fun i x hi hx => by
              by_cases e' : i = j
              · subst e'; rw [hxj] at hx; simp at hx; rw [← hx]; exact hk
              · exact HO.out i x (by omega) hx
            clear hxj hk
            go_wp2_with (first | (go_at_call 61; refine (partsOf_any _ (c, p, d, s)).mono ?_; rintro r w1 ⟨rfl, b1⟩; have HB3 := mkHid (bt (ba HB.out _) b1); clear b1) | (go_at_call 59; refine (HK.out _ _ (row_new w1 (tnum (c, p, d, s)) 103 #[.int .i64 c, .int .i64 p, .int .i64 d, .int .i64 s] rfl)).mono ?_; rintro r w2 ⟨rfl, rfl⟩; have HB4 := mkHid (ba HB3.out (.cells #[.int .i64 c, .int .i64 p, .int .i64 d, .int .i64 s] 103))))
            go_roundw
            case rel => exact ⟨j + 1, by go_num, by omega, HO2, HB4⟩
            case measure => simp [intOf]; omega
          · have HK := mkHid (contOut_yes · · 0 4 (tnum (c, p, d, s)) (by simp [tnum]) · (okT_bad hk))
            clear hxj hk
            go_wp2_with (first | (go_at_call 61; refine (partsOf_any _ (c, p, d, s)).mono ?_; rintro r w1 ⟨rfl, b1⟩; have HB3 := mkHid (bt (ba HB.out _) b1); clear b1) | (go_at_call 59; refine (HK.out _ _ (row_new w1 (tnum (c, p, d, s)) 103 #[.int .i64 c, .int .i64 p, .int .i64 d, .int .i64 s] rfl)).mono ?_; rintro r w2 ⟨rfl, rfl⟩; have HB4 := mkHid (ba HB3.out (.cells #[.int .i64 c, .int .i64 p, .int .i64 d, .int .i64 s] 103))))
            go_ret
            exact ⟨rfl, HB4.out⟩
        · exfalso
          refine HX.out ⟨by have := HN.out; omega, HH'.out, fun x hm => ?_⟩
          obtain ⟨i, hi, rfl⟩ := List.getElem_of_mem hm
          exact HO.out i _ (by omega) (List.getElem?_eq_getElem hi)
abbrev vO (e : En) (tv : Value) : Value := .agg #[.int .i64 e.ki, .int .i64 e.id, .int .i64 e.sk, .int .i64 e.sq, .int .i64 e.st, .int .i64 e.po, tv, .int .i64 e.tm]
def kindB (e : En) : Bool :=
  let s := e.sk == 0 && (e.sq == 0 && e.st == 0)
  let g := e.po == 0 && e.ts.length == 0
  if e.ki = 1 then g else if e.ki = 2 then g else if e.ki = 3 then s && g else if e.ki = 4 then s else false
theorem kindB_iff {e : En} : kindB e = true ↔ kindF e := by
  unfold kindB kindF
  by_cases h1 : e.ki = 1
  · simp [h1]
  · by_cases h2 : e.ki = 2
    · simp [h2]
    · by_cases h3 : e.ki = 3
      · simp [h3, and_assoc]
      · by_cases h4 : e.ki = 4
        · simp [h4]
        · simp [h1, h2, h3, h4]
theorem int0 (n : Nat) : ((n : Int) == 0) = (n == 0) := by
  rw [Bool.eq_iff_iff]
  simp
set_option maxHeartbeats 3200000 in
theorem kindAllows_any (w : World) (e : En) (a : Option Addr) (cap : Nat) : Calls Tryd.prog 50 #[vO e (.slice a e.ts.length cap)] w fun r w' => r = .returned (.bool (kindB e)) ∧ Below w.heap.size w w' := by
  obtain ⟨cl, nu, ki, id, sk, sq, st, po, ts, tm⟩ := e
  obtain ⟨b, hb⟩ : ∃ b, b = kindB ⟨cl, nu, ki, id, sk, sq, st, po, ts, tm⟩ := ⟨_, rfl⟩
  rw [← hb]
  have HQ := mkHid hb
  clear hb
  simp only [vO]
  have hk : ki = 1 ∨ ki = 2 ∨ ki = 3 ∨ ki = 4 ∨ ((ki == 1) = false ∧ (ki == 2) = false ∧ (ki == 3) = false ∧ (ki == 4) = false) := by simp; omega
  rcases hk with rfl | rfl | rfl | rfl | ⟨h1, h2, h3, h4⟩
  all_goals
    go_enter Tryd.func50, Tryd.ntmps50
    go_wp2
  all_goals go_ret
  all_goals refine ⟨?_, ba (Below.refl _ _) _⟩
  all_goals
    rw [HQ.out]
    simp_all [kindB, int0]
theorem kindAllows_yes (w : World) (e : En) (a : Option Addr) (cap : Nat) (h : kindF e) : Calls Tryd.prog 50 #[vO e (.slice a e.ts.length cap)] w fun r w' => r = .returned (.bool true) ∧ Below w.heap.size w w' := by
  have := kindAllows_any w e a cap
  rwa [kindB_iff.mpr h] at this
theorem kindAllows_no (w : World) (e : En) (a : Option Addr) (cap : Nat) (h : ¬ kindF e) : Calls Tryd.prog 50 #[vO e (.slice a e.ts.length cap)] w fun r w' => r = .returned (.bool false) ∧ Below w.heap.size w w' := by
  have := kindAllows_any w e a cap
  rwa [show kindB e = false by rw [← Bool.not_eq_true, kindB_iff]; exact h] at this
theorem entO (w : World) (e : En) (tv : Value) : (w.alloc (.cells #[.int .i64 e.cl, .int .i64 e.nu, .int .i64 e.ki, .int .i64 e.id, .int .i64 e.sk, .int .i64 e.sq, .int .i64 e.st, .int .i64 e.po, tv, .int .i64 e.tm] 28)).heap[w.heap.size]? = some (.cells #[.int .i64 e.cl, .int .i64 e.nu, .int .i64 e.ki, .int .i64 e.id, .int .i64 e.sk, .int .i64 e.sq, .int .i64 e.st, .int .i64 e.po, tv, .int .i64 e.tm] 28 (0, 0)) := heap_alloc_new w _
/-- The cells of a block that holds an entry. -/
theorem ent_cells {w : World} {b : Nat} {c0 c1 c2 c3 c4 c5 c6 c7 c8 c9 : Value} (h : w.heap[b]? = some (.cells #[c0, c1, c2, c3, c4, c5, c6, c7, c8, c9] 28 (0, 0))) : w.cell? ⟨b, 0, none⟩ = some c0 ∧ w.cell? ⟨b, 1, none⟩ = some c1 ∧ w.cell? ⟨b, 2, none⟩ = some c2 ∧ w.cell? ⟨b, 3, none⟩ = some c3 ∧ w.cell? ⟨b, 4, none⟩ = some c4 ∧ w.cell? ⟨b, 5, none⟩ = some c5 ∧ w.cell? ⟨b, 6, none⟩ = some c6 ∧ w.cell? ⟨b, 7, none⟩ = some c7 ∧ w.cell? ⟨b, 8, none⟩ = some c8 ∧ w.cell? ⟨b, 9, none⟩ = some c9 :=
  ⟨cell_of_block h rfl, cell_of_block h rfl, cell_of_block h rfl, cell_of_block h rfl, cell_of_block h rfl, cell_of_block h rfl, cell_of_block h rfl, cell_of_block h rfl, cell_of_block h rfl, cell_of_block h rfl⟩
abbrev vErr (a : Addr) : Value := .iface 108 (.pointer (some a))
set_option maxHeartbeats 3200000 in
theorem check_yes (w : World) (t : Ep) (h : EnW w t) (hf : inF t.1) : Calls Tryd.prog 27 #[vP t] w fun r w' => r = .returned .nilIface ∧ Below w.heap.size w w' := by
  obtain ⟨e, a, cap⟩ := t
  obtain ⟨⟨h1, h2⟩, hr, hk⟩ := hf
  have HR := mkHid (fun W (hW : Below w.heap.size w W) => inRange_yes W (e, a, cap) (h.below hW) hr)
  have HK := mkHid hk
  have h1' : ¬ 16 ≤ e.cl := by simp only at h1; omega
  have h2' : ¬ e.nu < 1 := by simp only at h2; omega
  clear h hr hk h1 h2
  simp only [vP, vN, tv] at HR ⊢
  go_enter Tryd.func27, Tryd.ntmps27
  go_wp2_with (first | (go_at_call 49; refine (HR.out _ (ba (Below.refl _ w) _)).mono ?_; rintro r w1 ⟨rfl, b1⟩; obtain ⟨q0, q1, q2, q3, q4, q5, q6, q7, q8, q9⟩ := ent_cells ((b1.block w.heap.size (by simp)).trans (entO w e (.slice a e.ts.length cap))); have HB1 := mkHid (bt (ba (Below.refl _ w) _) b1); clear b1) | (go_at_call 50; refine (kindAllows_yes _ e a cap HK.out).mono ?_; rintro r w2 ⟨rfl, b2⟩; have HB2 := mkHid (bt HB1.out b2); clear b2))
  go_ret
  exact ⟨rfl, HB2.out⟩
set_option maxHeartbeats 3200000 in
theorem check_no (w : World) (t : Ep) (ea : Addr) (h : EnW w t) (hf : ¬ inF t.1) (he : w.cell? ⟨0, 0, none⟩ = some (vErr ea)) : Calls Tryd.prog 27 #[vP t] w fun r w' => r = .returned (vErr ea) ∧ Below w.heap.size w w' := by
  obtain ⟨e, a, cap⟩ := t
  have HE := mkHid he
  have hq := kl he (.cells #[.int .i64 e.cl, .int .i64 e.nu, .int .i64 e.ki, .int .i64 e.id, .int .i64 e.sk, .int .i64 e.sq, .int .i64 e.st, .int .i64 e.po, .slice a e.ts.length cap, .int .i64 e.tm] 28)
  clear he
  by_cases h1 : 16 ≤ e.cl
  · clear h hf
    simp only [vP, vN, tv]
    go_enter Tryd.func27, Tryd.ntmps27
    go_wp2
    go_ret
    exact ⟨rfl, ba (Below.refl _ _) _⟩
  · by_cases h2 : e.nu < 1
    · clear h hf
      simp only [vP, vN, tv]
      go_enter Tryd.func27, Tryd.ntmps27
      go_wp2
      go_ret
      exact ⟨rfl, ba (Below.refl _ _) _⟩
    · by_cases hr : rangeF e
      · have HR := mkHid (fun W (hW : Below w.heap.size w W) => inRange_yes W (e, a, cap) (h.below hW) hr)
        have HK : Hid (¬ kindF e) := mkHid (fun hk => hf ⟨⟨by simp only; omega, by simp only; omega⟩, hr, hk⟩)
        clear h hf hr
        simp only [vP, vN, tv] at HR ⊢
        go_enter Tryd.func27, Tryd.ntmps27
        go_wp2_with (first | (go_at_call 49; refine (HR.out _ (ba (Below.refl _ w) _)).mono ?_; rintro r w1 ⟨rfl, b1⟩; obtain ⟨q0, q1, q2, q3, q4, q5, q6, q7, q8, q9⟩ := ent_cells ((b1.block w.heap.size (by simp)).trans (entO w e (.slice a e.ts.length cap))); have HB1 := mkHid (bt (ba (Below.refl _ w) _) b1); clear b1) | (go_at_call 50; refine (kindAllows_no _ e a cap HK.out).mono ?_; rintro r w2 ⟨rfl, b2⟩; have HB2 := mkHid (bt HB1.out b2); have ce := kc HE.out HB2.out; clear b2))
        go_ret
        exact ⟨rfl, HB2.out⟩
      · have HR := mkHid (fun W (hW : Below w.heap.size w W) => inRange_no W (e, a, cap) (h.below hW) hr)
        clear h hf hr
        simp only [vP, vN, tv] at HR ⊢
        go_enter Tryd.func27, Tryd.ntmps27
        go_wp2_with (first | (go_at_call 49; refine (HR.out _ (ba (Below.refl _ w) _)).mono ?_; rintro r w1 ⟨rfl, b1⟩; have HB1 := mkHid (bt (ba (Below.refl _ w) _) b1); have ce := kc HE.out HB1.out; clear b1))
        go_ret
        exact ⟨rfl, HB1.out⟩
end Go.Proofs.YtjocjkfllicjdaaDoor
