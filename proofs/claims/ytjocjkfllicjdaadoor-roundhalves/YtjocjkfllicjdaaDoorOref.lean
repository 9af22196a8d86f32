/- The document's SameOrder, Same, InForm. -/
import Derived.Test.YtjocjkfllicjdaaDoorOsame
namespace Go.Proofs.YtjocjkfllicjdaaDoor
open Go.ChangeShapes Go.WideShapes Go.ChangeAt Go.RowKit
set_option maxRecDepth 100000
attribute [local go_sem] World.cell?_alloc_some frozen_alloc_some

def oHead (e f : En) : Prop := e.ki = f.ki ∧ e.id = f.id ∧ (e.sk, e.sq, e.st) = (f.sk, f.sq, f.st) ∧ e.po = f.po ∧ e.tm = f.tm ∧ e.ts.length = f.ts.length
set_option maxHeartbeats 6400000 in
theorem sameO_no (w : World) (e f : En) (a a2 : Option Addr) (cap cap2 : Nat) (h : ¬ oHead e f) : Calls Tryd.prog 48 #[vO e (.slice a e.ts.length cap), vO f (.slice a2 f.ts.length cap2)] w fun r w' => r = .returned (.bool false) ∧ Below w.heap.size w w' := by
  obtain ⟨cl, nu, ki, id, sk, sq, st, po, ts, tm⟩ := e
  obtain ⟨cl', nu', ki', id', sk', sq', st', po', ts', tm'⟩ := f
  simp only [oHead] at h
  simp only [vO]
  have hc : (ki != ki') = true ∨ (ki = ki' ∧ ((id != id') = true ∨ (id = id' ∧ (((sk, sq, st) ≠ (sk', sq', st')) ∨ ((sk, sq, st) = (sk', sq', st') ∧ ((po != po') = true ∨ (po = po' ∧ ((tm != tm') = true ∨ (tm = tm' ∧ ((ts.length : Int) != (ts'.length : Int)) = true))))))))) := by
    by_cases h1 : ki = ki'
    case neg => exact .inl (by simpa using h1)
    refine .inr ⟨h1, ?_⟩
    by_cases h2 : id = id'
    case neg => exact .inl (by simpa using h2)
    refine .inr ⟨h2, ?_⟩
    by_cases h3 : (sk, sq, st) = (sk', sq', st')
    case neg => exact .inl h3
    refine .inr ⟨h3, ?_⟩
    by_cases h4 : po = po'
    case neg => exact .inl (by simpa using h4)
    refine .inr ⟨h4, ?_⟩
    by_cases h5 : tm = tm'
    case neg => exact .inl (by simpa using h5)
    refine .inr ⟨h5, ?_⟩
    simp only [bne_iff_ne, ne_eq]
    intro e
    exact h ⟨h1, h2, h3, h4, h5, by omega⟩
  clear h
  rcases hc with h1 | ⟨rfl, h2 | ⟨rfl, h3 | ⟨h3, h4 | ⟨rfl, h5 | ⟨rfl, h6⟩⟩⟩⟩⟩
  · go_enter Tryd.func48, Tryd.ntmps48
    go_wp2
    go_ret
    exact ⟨rfl, ba (ba (Below.refl _ _) _) _⟩
  · go_enter Tryd.func48, Tryd.ntmps48
    go_wp2
    go_ret
    exact ⟨rfl, ba (ba (Below.refl _ _) _) _⟩
  · have h3' : ¬ sk = sk' ∨ (sk = sk' ∧ ¬ sq = sq') ∨ (sk = sk' ∧ sq = sq' ∧ ¬ st = st') := by
      by_cases e1 : sk = sk'
      case neg => exact .inl e1
      by_cases e2 : sq = sq'
      case neg => exact .inr (.inl ⟨e1, e2⟩)
      by_cases e3 : st = st'
      case neg => exact .inr (.inr ⟨e1, e2, e3⟩)
      exact absurd (by rw [e1, e2, e3]) h3
    clear h3
    rcases h3' with e1 | ⟨rfl, e2⟩ | ⟨rfl, rfl, e3⟩
    all_goals
      go_enter Tryd.func48, Tryd.ntmps48
      go_wp2
      go_ret
      exact ⟨rfl, ba (ba (Below.refl _ _) _) _⟩
  all_goals
    simp only [Prod.mk.injEq] at h3
    obtain ⟨rfl, rfl, rfl⟩ := h3
    go_enter Tryd.func48, Tryd.ntmps48
    go_wp2
    go_ret
    exact ⟨rfl, ba (ba (Below.refl _ _) _) _⟩
set_option maxHeartbeats 6400000 in
theorem sameO_yes (w : World) (e f : En) (a a2 : Option Addr) (cap cap2 : Nat) (h : oHead e f) (hv : Tks w (.slice a e.ts.length cap) e.ts) (hu : Tks w (.slice a2 f.ts.length cap2) f.ts) : Calls Tryd.prog 48 #[vO e (.slice a e.ts.length cap), vO f (.slice a2 f.ts.length cap2)] w fun r w' => r = .returned (.bool (decide (e.ts = f.ts))) ∧ Below w.heap.size w w' := by
  obtain ⟨cl, nu, ki, id, sk, sq, st, po, xs, tm⟩ := e
  obtain ⟨cl', nu', ki', id', sk', sq', st', po', ys, tm'⟩ := f
  simp only [oHead, Prod.mk.injEq] at h
  obtain ⟨rfl, rfl, ⟨rfl, rfl, rfl⟩, rfl, rfl, hlen⟩ := h
  simp only [vO] at hv hu ⊢
  obtain ⟨b, hb⟩ : ∃ b, b = decide (xs = ys) := ⟨_, rfl⟩
  rw [← hb]
  have HQ := mkHid hb
  have hv' := hv
  obtain ⟨_, _, _, hl0, _⟩ := hv'
  have HLN := mkHid hlen
  have hleni : (xs.length : Int) = (ys.length : Int) := by omega
  obtain ⟨W, hW⟩ : ∃ W, W = (w.alloc (.cells #[.int .i64 ki, .int .i64 id, .int .i64 sk, .int .i64 sq, .int .i64 st, .int .i64 po, .slice a xs.length cap, .int .i64 tm] 26)).alloc (.cells #[.int .i64 ki, .int .i64 id, .int .i64 sk, .int .i64 sq, .int .i64 st, .int .i64 po, .slice a2 ys.length cap2, .int .i64 tm] 26) := ⟨_, rfl⟩
  have hbW : Below w.heap.size w W := by rw [hW]; exact ba (ba (Below.refl _ w) _) _
  have HV := mkHid (hv.below hbW)
  have HU := mkHid (hu.below hbW)
  have HX : Hid (∀ W', Below W.heap.size W W' → W'.cell? ⟨w.heap.size, 6, none⟩ = some (.slice a xs.length cap) ∧ W'.cell? ⟨w.heap.size + 1, 6, none⟩ = some (.slice a2 ys.length cap2)) := mkHid (fun W' hb => by
    rw [hW] at hb
    exact ⟨cell_of_block (two_facts hb).1 rfl, cell_of_block (two_facts hb).2 rfl⟩)
  have HBW := mkHid hbW
  clear hv hu hb hlen hbW
  go_enter Tryd.func48, Tryd.ntmps48
  go_wp2
  rw [← hW]
  clear hW
  go_loopw [5, 51] (fun _ iv wr => ∃ j : Nat, iv = .int .i64 (j : Int) ∧ j ≤ xs.length ∧ Hid ((∀ i, i < j → xs[i]? = ys[i]?) ∧ Below W.heap.size W wr)) (fun _ iv _ => xs.length - (intOf iv).toNat)
  case atStart => exact ⟨0, rfl, Nat.zero_le _, mkHid ⟨fun i hi => by omega, Below.refl _ _⟩⟩
  case round =>
    obtain ⟨j, rfl, hj, HB⟩ := hrel
    by_cases hlt : j < xs.length
    · obtain ⟨b0, o0, x0, x1, x2, x3, rfl, hx, c0, c1, c2, c3⟩ := HV.out.at HB.out.2 j hlt
      obtain ⟨b1, o1, y0, y1, y2, y3, rfl, hy, d0, d1, d2, d3⟩ := HU.out.at HB.out.2 j (by omega)
      obtain ⟨p6, q6⟩ := HX.out wr HB.out.2
      have hji : (j : Int) < xs.length := by omega
      have hji2 : (j : Int) < ys.length := by omega
      have HXY := mkHid (And.intro hx hy)
      clear hx hy
      by_cases he : ((x0, x1, x2, x3) : Tk) = (y0, y1, y2, y3)
      · simp only [Prod.mk.injEq] at he
        obtain ⟨rfl, rfl, rfl, rfl⟩ := he
        go_wp2
        go_quiet (fail)
        go_wp2
        go_roundw
        case rel => exact ⟨j + 1, by go_num, by omega, mkHid ⟨fun i hi => by
          by_cases e : i = j
          · subst e; rw [HXY.out.1, HXY.out.2]
          · exact HB.out.1 i (by omega), drb HB.out.2 nq⟩⟩
        case measure => simp [intOf]; omega
      · have hbin : ∀ W, (binOp .neq 45 (.agg #[.int .i64 x0, .int .i64 x1, .int .i64 x2, .int .i64 x3]) (.agg #[.int .i64 y0, .int .i64 y1, .int .i64 y2, .int .i64 y3])).run Tryd.prog W = .ok (.bool true) W := fun W => by
          rw [run_neq_struct, eqT, decide_eq_false he]; rfl
        have HE := mkHid he
        clear he
        go_wp2
        go_quiet (fail)
        go_wp2
        go_ret
        refine ⟨?_, bt HBW.out (drb HB.out.2 nq)⟩
        rw [HQ.out, decide_eq_false (fun e => HE.out (by have := HXY.out; rw [e] at this; have := this.1.symm.trans this.2; simpa using this))]
        rfl
    · obtain rfl : j = xs.length := by omega
      go_wp2
      go_ret
      refine ⟨?_, bt HBW.out HB.out.2⟩
      rw [HQ.out, decide_eq_true]
      · rfl
      · apply List.ext_getElem?
        intro i
        by_cases hi : i < xs.length
        · exact HB.out.1 i hi
        · rw [List.getElem?_eq_none (by omega), List.getElem?_eq_none (by have := HLN.out; omega)]
def oEq (e f : En) : Prop := oHead e f ∧ e.ts = f.ts
theorem sameO_any (w : World) (e f : En) (a a2 : Option Addr) (cap cap2 : Nat) (hv : Tks w (.slice a e.ts.length cap) e.ts) (hu : Tks w (.slice a2 f.ts.length cap2) f.ts) : ∃ b : Bool, (b = true ↔ oEq e f) ∧ Calls Tryd.prog 48 #[vO e (.slice a e.ts.length cap), vO f (.slice a2 f.ts.length cap2)] w fun r w' => r = .returned (.bool b) ∧ Below w.heap.size w w' := by
  by_cases h : oHead e f
  · exact ⟨_, by rw [decide_eq_true_iff]; simp [oEq, h], sameO_yes w e f a a2 cap cap2 h hv hu⟩
  · exact ⟨false, by simp [oEq, h], sameO_no w e f a a2 cap cap2 h⟩
theorem same_of {e f : En} : e = f ↔ (e.cl = f.cl ∧ e.nu = f.nu) ∧ oEq e f := by
  cases e; cases f
  simp only [En.mk.injEq, oEq, oHead, Prod.mk.injEq]
  constructor
  · rintro ⟨rfl, rfl, rfl, rfl, rfl, rfl, rfl, rfl, rfl, rfl⟩; simp
  · rintro ⟨⟨rfl, rfl⟩, ⟨rfl, rfl, ⟨rfl, rfl, rfl⟩, rfl, rfl, _⟩, rfl⟩; simp
set_option maxHeartbeats 6400000 in
theorem refSame_any (w : World) (t u : Ep) (ht : EnW w t) (hu : EnW w u) : ∃ b : Bool, (b = true ↔ t.1 = u.1) ∧ Calls Tryd.prog 26 #[vP t, vP u] w fun r w' => r = .returned (.bool b) ∧ Below w.heap.size w w' := by
  obtain ⟨⟨cl, nu, ki, di, sk, sq, st, po, xs, tm⟩, a, cap⟩ := t
  obtain ⟨⟨cl', nu', ki', di', sk', sq', st', po', ys, tm'⟩, a2, cap2⟩ := u
  by_cases h1 : cl = cl'
  · subst h1
    by_cases h2 : nu = nu'
    · subst h2
      have HC := mkHid (fun W hb => sameO_any W ⟨cl, nu, ki, di, sk, sq, st, po, xs, tm⟩ ⟨cl, nu, ki', di', sk', sq', st', po', ys, tm'⟩ a a2 cap cap2 (Tks.below ht hb) (Tks.below hu hb))
      obtain ⟨b, hb⟩ := ex_bool (oEq ⟨cl, nu, ki, di, sk, sq, st, po, xs, tm⟩ ⟨cl, nu, ki', di', sk', sq', st', po', ys, tm'⟩)
      refine ⟨b, by rw [same_of]; simp only [true_and, and_self]; exact hb, ?_⟩
      have HBB := mkHid hb
      clear hb ht hu
      simp only [vP, vN, tv]
      go_enter Tryd.func26, Tryd.ntmps26
      go_wp2_with (go_at_call 48; obtain ⟨b', hb', hc'⟩ := HC.out _ (ba (ba (Below.refl _ w) _) _); have hbe : b' = b := (by rw [Bool.eq_iff_iff, hb', HBB.out]); subst hbe; refine hc'.mono ?_; rintro r w1 ⟨rfl, b1⟩; have HB1 := mkHid (bt (ba (ba (Below.refl _ w) _) _) b1); clear b1 hc' hb')
      go_ret
      exact ⟨rfl, HB1.out⟩
    · refine ⟨false, by rw [same_of]; simp [h2], ?_⟩
      clear ht hu
      simp only [vP, vN, tv]
      go_enter Tryd.func26, Tryd.ntmps26
      go_wp2
      go_ret
      exact ⟨rfl, ba (ba (Below.refl _ w) _) _⟩
  · refine ⟨false, by rw [same_of]; simp [h1], ?_⟩
    clear ht hu
    simp only [vP, vN, tv]
    go_enter Tryd.func26, Tryd.ntmps26
    go_wp2
    go_ret
    exact ⟨rfl, ba (ba (Below.refl _ w) _) _⟩
end Go.Proofs.YtjocjkfllicjdaaDoor
