/- Which entries are in form: order.Check. -/
import Derived.Test.YtjocjkfllicjdaaDoorOtask
import Derived.Test.YtjocjkfllicjdaaDoorAlive
import Derived.RegionTactic
import Derived.BigRegion
import Derived.ChangeAlike
namespace Go.Proofs.YtjocjkfllicjdaaDoor
open Go.ChangeShapes Go.WideShapes Go.ChangeAt Go.RowKit
set_option maxRecDepth 100000
attribute [local go_sem] World.cell?_alloc_some frozen_alloc_some

theorem outOf_any (w : World) (n : Int) : ∃ b : Bool, (b = true ↔ ¬ amt n) ∧ Calls Tryd.prog 60 #[.int .i64 n] w fun e w' => e = .returned (.bool b) ∧ w' = w := by
  unfold amt
  by_cases h0 : n < 0
  · refine ⟨true, by simp; omega, ?_⟩
    go_enter Tryd.func60, Tryd.ntmps60
    go_wp2
    go_ret
    exact ⟨rfl, rfl⟩
  · by_cases h1 : 1099511627776 < n
    · refine ⟨true, by simp; omega, ?_⟩
      have h0' : 0 ≤ n := by omega
      go_enter Tryd.func60, Tryd.ntmps60
      go_wp2
      go_ret
      exact ⟨rfl, rfl⟩
    · refine ⟨false, by simp; omega, ?_⟩
      have h0' : 0 ≤ n := by omega
      have h1' : n ≤ 1099511627776 := by omega
      go_enter Tryd.func60, Tryd.ntmps60
      go_wp2
      go_ret
      exact ⟨rfl, rfl⟩
def Row (w : World) (b off : Nat) (xs : List Int) : Prop := ∀ i x, xs[i]? = some x → w.cell? ⟨b, off + i, none⟩ = some (.int .i64 x)
abbrev outFn : Value := .func (.func 60) #[] #[]
set_option maxHeartbeats 1600000 in
theorem idxOut (w : World) (b off c : Nat) (xs : List Int) (hl : (xs.length : Int) ≤ 9223372036854775807) (h : Row w b off xs) : ∃ k : Int, (0 ≤ k ↔ ∃ x ∈ xs, ¬ amt x) ∧
    Calls Tryd.prog 66 #[.slice (some ⟨b, off, none⟩) xs.length c, outFn] w fun e w' => e = .returned (.int .i64 k) ∧ w' = w := by
  have HR := mkHid h
  clear h
  obtain ⟨k, hk⟩ : ∃ k : Int, (k = -1 ∧ ∀ x ∈ xs, amt x) ∨ (∃ j : Nat, k = j ∧ j < xs.length ∧ (∃ x, xs[j]? = some x ∧ ¬ amt x) ∧ ∀ i x, i < j → xs[i]? = some x → amt x) := by
    clear HR hl
    induction xs with
    | nil => exact ⟨-1, .inl ⟨rfl, by simp⟩⟩
    | cons y l ih =>
      by_cases hy : amt y
      · obtain ⟨k, ⟨rfl, h⟩ | ⟨j, rfl, hj, ⟨x, hx, hn⟩, ha⟩⟩ := ih
        · exact ⟨-1, .inl ⟨rfl, fun x hx => by rcases List.mem_cons.mp hx with rfl | hm; exact hy; exact h x hm⟩⟩
        · refine ⟨((j + 1 : Nat) : Int), .inr ⟨j + 1, rfl, by simp; omega, ⟨x, by simpa using hx, hn⟩, fun i z hi hz => ?_⟩⟩
          cases i with
          | zero => simp at hz; rw [← hz]; exact hy
          | succ i => exact ha i z (by omega) (by simpa using hz)
      · exact ⟨((0 : Nat) : Int), .inr ⟨0, rfl, by simp, ⟨y, rfl, hy⟩, fun i z hi => by omega⟩⟩
  refine ⟨k, ?_, ?_⟩
  · rcases hk with ⟨rfl, h⟩ | ⟨j, rfl, hj, ⟨x, hx, hn⟩, ha⟩
    · constructor
      · intro h; omega
      · rintro ⟨x, hx, hn⟩; exact absurd (h x hx) hn
    · exact ⟨fun _ => ⟨x, List.mem_of_getElem? hx, hn⟩, fun _ => by omega⟩
  have HK := mkHid hk
  clear hk
  go_enter Tryd.func66, Tryd.ntmps66
  go_wp2
  go_loopw [5, 8] (fun _ iv wr => ∃ j : Nat, iv = .int .i64 (j : Int) ∧ j ≤ xs.length ∧ wr = w ∧ Hid (∀ i x, i < j → xs[i]? = some x → amt x)) (fun _ iv _ => xs.length - (intOf iv).toNat)
  case atStart => exact ⟨0, rfl, Nat.zero_le _, rfl, mkHid (fun i x hi => by omega)⟩
  case round =>
    obtain ⟨j, rfl, hj, rfl, HO⟩ := hrel
    by_cases hlt : j < xs.length
    · obtain ⟨y, hy⟩ : ∃ x, xs[j]? = some x := ⟨_, List.getElem?_eq_getElem hlt⟩
      have hcell := HR.out j y hy
      have hji : (j : Int) < xs.length := by omega
      obtain ⟨bb, hbb, hcall⟩ := outOf_any wr y
      have HY := mkHid (And.intro hy hbb)
      clear hy hbb
      cases bb with
      | true =>
        go_wp2_with (go_at_call 60; refine hcall.mono ?_; rintro e w' ⟨rfl, rfl⟩)
        go_ret
        refine ⟨?_, rfl⟩
        obtain ⟨hy, hbb⟩ := HY.out
        have hn := hbb.mp (by first | rfl | trivial)
        rcases HK.out with ⟨_, h⟩ | ⟨j', rfl, hj', ⟨x, hx, hn'⟩, ha⟩
        · exact absurd (h y (List.mem_of_getElem? hy)) hn
        · have : j' = j := by
            rcases Nat.lt_trichotomy j' j with h1 | h1 | h1
            · exact absurd (HO.out j' x h1 hx) hn'
            · exact h1
            · exact absurd (ha j y h1 hy) hn
          subst this
          rfl
      | false =>
        go_wp2_with (go_at_call 60; refine hcall.mono ?_; rintro e w' ⟨rfl, rfl⟩)
        go_roundw
        case rel =>
          refine ⟨j + 1, by go_num, by omega, by first | rfl | trivial, mkHid (fun i x hi hx => ?_)⟩
          by_cases e : i = j
          · subst e
            obtain ⟨hy, hbb⟩ := HY.out
            rw [hy] at hx
            simp at hx
            rw [← hx]
            exact Classical.byContradiction fun hn => by have := hbb.mpr hn; simp at this
          · exact HO.out i x (by omega) hx
        case measure => simp [intOf]; omega
    · obtain rfl : j = xs.length := by omega
      go_wp2
      go_ret
      refine ⟨?_, rfl⟩
      rcases HK.out with ⟨rfl, h⟩ | ⟨j', rfl, hj', ⟨x, hx, hn'⟩, ha⟩
      · rfl
      · exact absurd (HO.out j' x hj' hx) hn'
theorem contOut (w : World) (b off c : Nat) (xs : List Int) (hl : (xs.length : Int) ≤ 9223372036854775807) (h : Row w b off xs) : ∃ k : Bool, (k = true ↔ ∃ x ∈ xs, ¬ amt x) ∧
    Calls Tryd.prog 59 #[.slice (some ⟨b, off, none⟩) xs.length c, outFn] w fun e w' => e = .returned (.bool k) ∧ w' = w := by
  obtain ⟨k, hk, hc⟩ := idxOut w b off c xs hl h
  by_cases h0 : 0 ≤ k
  · refine ⟨true, by simp only [true_iff]; exact hk.mp h0, ?_⟩
    clear h hk
    go_enter Tryd.func59, Tryd.ntmps59
    go_wp2_with (go_at_call 66; refine hc.mono ?_; rintro e w' ⟨rfl, rfl⟩)
    go_ret
    exact ⟨rfl, rfl⟩
  · refine ⟨false, by simp only [Bool.false_eq_true, false_iff]; exact fun h => h0 (hk.mpr h), ?_⟩
    have h1 : k < 0 := by omega
    clear h hk h0
    go_enter Tryd.func59, Tryd.ntmps59
    go_wp2_with (go_at_call 66; refine hc.mono ?_; rintro e w' ⟨rfl, rfl⟩)
    go_ret
    exact ⟨by show Ending.returned (.bool (decide (0 ≤ k))) = _; rw [decide_eq_false (by omega)], rfl⟩
theorem contOut_yes (w : World) (b off c : Nat) (xs : List Int) (hl : (xs.length : Int) ≤ 9223372036854775807) (h : Row w b off xs) (hx : ∃ x ∈ xs, ¬ amt x) :
    Calls Tryd.prog 59 #[.slice (some ⟨b, off, none⟩) xs.length c, outFn] w fun e w' => e = .returned (.bool true) ∧ w' = w := by
  obtain ⟨k, hk, hc⟩ := contOut w b off c xs hl h
  rw [hk.mpr hx] at hc
  exact hc
theorem contOut_no (w : World) (b off c : Nat) (xs : List Int) (hl : (xs.length : Int) ≤ 9223372036854775807) (h : Row w b off xs) (hx : ∀ x ∈ xs, amt x) :
    Calls Tryd.prog 59 #[.slice (some ⟨b, off, none⟩) xs.length c, outFn] w fun e w' => e = .returned (.bool false) ∧ w' = w := by
  obtain ⟨k, hk, hc⟩ := contOut w b off c xs hl h
  cases k with
  | false => exact hc
  | true => obtain ⟨x, hm, hn⟩ := hk.mp rfl; exact absurd (hx x hm) hn
theorem results_cell1 {fn : Func} {p : Tmp} {ty : TypeId} (h : fn.results = #[.cell p ty]) (tmps : Array Value) (P : Program) (w : World) :
    (results fn tmps).run P w = ((asAddr (tmps.getD p undef)).run P w).andThen fun a w₁ => (loadVar ty a).run P w₁ := by
  simp only [results, h]
  simp [Sem.run_bind, Result.andThen]
theorem arr_leaves {W : World} {R : Nat} {p : Tmp} {fn : Func} {ty : TypeId} {cs : Array Value} (hf : fn.results = #[.cell p ty]) (hl : (loadVar ty ⟨R, 0, none⟩).run Tryd.prog W = .ok (.agg cs) W) (tmps : Array Value) (h2 : tmps.getD p undef = .pointer (some ⟨R, 0, none⟩)) : (results fn tmps).run Tryd.prog W = .ok (.agg cs) W := by
  rw [results_cell1 hf, h2]
  simp [asAddr, Result.andThen, hl]
theorem size9 : (Tryd.prog.info? 100).map (·.size) = some 9 := by kernel_rfl
theorem size4 : (Tryd.prog.info? 103).map (·.size) = some 4 := by kernel_rfl
theorem two_of_two (w : World) (o1 o2 : Obj) : ((w.alloc o1).alloc o2).heap[w.heap.size + 1]? = some o2 := by
  have := heap_alloc_new (w.alloc o1) o2
  rw [show (w.alloc o1).heap.size = w.heap.size + 1 by simp] at this
  exact this
theorem two_of_four (w : World) (o1 o2 o3 o4 : Obj) : ((((w.alloc o1).alloc o2).alloc o3).alloc o4).drew.heap[w.heap.size + 1]? = some o2 := by
  show ((((w.alloc o1).alloc o2).alloc o3).alloc o4).heap[w.heap.size + 1]? = some o2
  rw [heap_alloc_old _ _ (by simp), heap_alloc_old _ _ (by simp)]
  exact two_of_two w o1 o2
abbrev a9 (e : En) : Array Value := #[.int .i64 e.cl, .int .i64 e.nu, .int .i64 e.ki, .int .i64 e.tm, .int .i64 e.id, .int .i64 e.sk, .int .i64 e.sq, .int .i64 e.st, .int .i64 e.po]
abbrev v9 (e : En) : Value := .agg (a9 e)
set_option maxHeartbeats 1600000 in
theorem headOf_any (w : World) (e : En) (a : Option Addr) (n c : Nat) : Calls Tryd.prog 58 #[vN e (.slice a n c)] w fun r w' => r = .returned (v9 e) ∧ Below w.heap.size w w' := by
  obtain ⟨cl, nu, ki, id, sk, sq, st, po, ts, tm⟩ := e
  simp only [vN, v9, a9]
  go_enter Tryd.func58, Tryd.ntmps58
  go_wp2
  go_region
  all_goals
    go_wp2
    refine bodyPost_ret (arr_leaves (p := 2) rfl (run_loadVar_row _ _ _ 100 _ _ _ (two_of_four w _ _ _ _) Tryd.underlying100 rfl ?_) _ rfl) rfl ⟨rfl, (ba (ba (ba (ba (Below.refl _ _) _) _) _) _).drew⟩
    exact size9
theorem partsOf_any (w : World) (t : Tk) : Calls Tryd.prog 61 #[vT t] w fun r w' => r = .returned (vT t) ∧ Below w.heap.size w w' := by
  obtain ⟨c, p, d, s⟩ := t
  simp only [vT]
  go_enter Tryd.func61, Tryd.ntmps61
  go_wp2
  refine bodyPost_ret (arr_leaves (p := 2) rfl (run_loadVar_row _ _ _ 103 _ _ _ (two_of_two w _ _) Tryd.underlying103 rfl ?_) _ rfl) rfl ⟨rfl, ba (ba (Below.refl _ _) _) _⟩
  exact size4
theorem row_new (w : World) (xs : List Int) (ty : TypeId) (cs : Array Value) (h : cs = (xs.map (Value.int .i64)).toArray) : Row (w.alloc (.cells cs ty)) w.heap.size 0 xs := by
  intro i x hx
  refine cell_of_block (heap_alloc_new w (.cells cs ty)) ?_
  rw [h, Nat.zero_add]
  simp [hx]
theorem ent8 (w : World) (e : En) (tv : Value) : (w.alloc (.cells #[.int .i64 e.cl, .int .i64 e.nu, .int .i64 e.ki, .int .i64 e.id, .int .i64 e.sk, .int .i64 e.sq, .int .i64 e.st, .int .i64 e.po, tv, .int .i64 e.tm] 28)).cell? ⟨w.heap.size, 8, none⟩ = some tv := cell_of_block (heap_alloc_new w _) rfl
def rangeF (e : En) : Prop := e.ts.length ≤ 8 ∧ (∀ n ∈ hnum e, amt n) ∧ ∀ t ∈ e.ts, okT t
theorem okT_all {t : Tk} : okT t ↔ ∀ x ∈ tnum t, amt x := by simp [okT, tnum]
theorem okT_bad {t : Tk} (h : ¬ okT t) : ∃ x ∈ tnum t, ¬ amt x := Classical.byContradiction fun hn => h (okT_all.mpr fun x hx => Classical.byContradiction fun hx' => hn ⟨x, hx, hx'⟩)
set_option maxHeartbeats 3200000 in
theorem inRange_yes (w : World) (t : Ep) (h : EnW w t) (hr : rangeF t.1) : Calls Tryd.prog 49 #[vP t] w fun r w' => r = .returned (.bool true) ∧ Below w.heap.size w w' := by
  obtain ⟨e, a, cap⟩ := t
  have HS := mkHid h
  have HX := mkHid hr.2
  have hn : ¬ (8 : Int) < (e.ts.length : Int) := by have := hr.1; simp only at this; omega
  have HH := mkHid (contOut_no · · 0 9 (hnum e) (by simp [hnum]) · hr.2.1)
  clear h hr
  simp only [vP, vN, tv] at ⊢
  go_enter Tryd.func49, Tryd.ntmps49
  go_wp2_with (first | (go_at_call 58; refine (headOf_any _ e a e.ts.length cap).mono ?_; rintro r w1 ⟨rfl, b1⟩; simp only [v9, a9]; have q8 := kc (ent8 w e (.slice a e.ts.length cap)) b1; have HB1 := mkHid (bt (ba (Below.refl _ w) _) b1); clear b1) | (go_at_call 59; refine (HH.out _ _ (row_new w1 (hnum e) 100 (a9 e) rfl)).mono ?_; rintro r w2 ⟨rfl, rfl⟩; simp only [a9]; have HB2 := mkHid (ba HB1.out (.cells (a9 e) 100))))
  clear q8
  go_loopw [20] (fun iv wr => ∃ j : Nat, iv = .int .i64 (j : Int) ∧ j ≤ e.ts.length ∧ Hid (Below w.heap.size w wr)) (fun iv _ => e.ts.length - (intOf iv).toNat)
  case atStart => exact ⟨0, rfl, Nat.zero_le _, HB2⟩
  case round =>
    obtain ⟨j, rfl, hj, HB⟩ := hrel
    by_cases hlt : j < e.ts.length
    · obtain ⟨b, off, c, p, d, s, rfl, hxj, c0, c1, c2, c3⟩ := Tks.at HS.out HB.out j hlt
      have hji : (j : Int) < e.ts.length := by omega
      have HK := mkHid (contOut_no · · 0 4 (tnum (c, p, d, s)) (by simp [tnum]) · (okT_all.mp (HX.out.2 _ (List.mem_of_getElem? hxj))))
      clear hxj
      go_wp2_with (first | (go_at_call 61; refine (partsOf_any _ (c, p, d, s)).mono ?_; rintro r w1 ⟨rfl, b1⟩; have HB3 := mkHid (bt (ba HB.out _) b1); clear b1) | (go_at_call 59; refine (HK.out _ _ (row_new w1 (tnum (c, p, d, s)) 103 #[.int .i64 c, .int .i64 p, .int .i64 d, .int .i64 s] rfl)).mono ?_; rintro r w2 ⟨rfl, rfl⟩; have HB4 := mkHid (ba HB3.out (.cells #[.int .i64 c, .int .i64 p, .int .i64 d, .int .i64 s] 103))))
      go_roundw
      case rel => exact ⟨j + 1, by go_num, by omega, HB4⟩
      case measure => simp [intOf]; omega
    · obtain rfl : j = e.ts.length := by omega
      go_wp2
      go_ret
      exact ⟨rfl, HB.out⟩
end Go.Proofs.YtjocjkfllicjdaaDoor
