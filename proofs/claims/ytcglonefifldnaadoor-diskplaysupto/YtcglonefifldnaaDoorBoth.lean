/- A disk and the document's disk beside it: what both answer to a call. -/
import Derived.Test.YtcglonefifldnaaDoorRcrash
import Derived.Test.YtcglonefifldnaaDoorDmore
import Derived.Test.YtcglonefifldnaaDoorMarked
namespace Go.Proofs.YtcglonefifldnaaDoor
open Go.ChangeShapes Go.WideShapes Go.ChangeAt Go.RowKit

/-- An error's value and its number. -/
def ErrNo (a : Nat → Addr) (ev : Value) (k : Int) : Prop := (ev = .nilIface ∧ k = 0) ∨ (ev = .iface 75 (.pointer (some (a 0))) ∧ k = 1) ∨ (ev = .iface 75 (.pointer (some (a 7))) ∧ k = 8) ∨ (ev = .iface 75 (.pointer (some (a 8))) ∧ k = 9)
theorem errnum_no (w : World) (a : Nat → Addr) (E : Errs w a) (ev : Value) (k : Int) (h : ErrNo a ev k) : Calls Tryd.prog 9 #[ev] w fun e w' => e = .returned (.int .i64 k) ∧ Below w.heap.size w w' := by
  rcases h with ⟨rfl, rfl⟩ | ⟨rfl, rfl⟩ | ⟨rfl, rfl⟩ | ⟨rfl, rfl⟩
  · refine (errnum_nil w).mono ?_
    rintro e w' ⟨rfl, rfl⟩
    exact ⟨rfl, Below.refl _ _⟩
  · exact errnum_number w a E
  · exact errnum_large w a E
  · exact errnum_lost w a E
/-- What a write answers. -/
def wcode (lost : Bool) (n : Nat) (i : Int) (len : Nat) : Int := if lost then 9 else if 0 ≤ i ∧ i < (n : Int) then (if len = 64 then 0 else 8) else 1
def wput (k : Int) (c : List (Int × List Int)) (i : Int) (bs : List Int) : List (Int × List Int) := if k = 0 then c ++ [(i, bs)] else c
def wnum (k nw : Int) : Int := if k = 0 then nw + 1 else nw
theorem dwrite_all (F : Nat → Prop) (w : World) (p n : Nat) (f : Int → List Int) (c : List (Int × List Int)) (nw : Int) (lost : Bool) (i : Int) (v : Value) (bs : List Int) (a : Nat → Addr) (E : Errs w a) (h : Dk F w p n f c nw lost) (hv : Rd w v bs) (hcl : c.length ≤ 1000000000000) (hnw : 0 ≤ nw ∧ nw ≤ 1000000000000000) :
    Calls Tryd.prog 17 #[.pointer (some ⟨p, 0, none⟩), .int .i64 i, v] w fun e w' => ∃ ev F', e = .returned ev ∧ ErrNo a ev (wcode lost n i bs.length) ∧ Dk F' w' p n f (wput (wcode lost n i bs.length) c i bs) (wnum (wcode lost n i bs.length) nw) lost ∧ (∀ k, F' k → F k ∨ w.heap.size ≤ k) ∧ Kept F w w' := by
  cases lost with
  | true =>
    refine (write_lost F w p n f c nw i v _ h ⟨_, rfl⟩ E.cell_lost).mono ?_
    rintro e w' ⟨rfl, rfl⟩
    exact ⟨_, F, rfl, .inr (.inr (.inr ⟨rfl, rfl⟩)), h, fun k e => .inl e, Kept.refl _ _⟩
  | false =>
    by_cases hi : 0 ≤ i ∧ i < (n : Int)
    · by_cases hl : bs.length = 64
      · have e : wcode false n i bs.length = 0 := by simp [wcode, hi, hl]
        rw [e]
        refine (write_ok F w p n f c nw i v bs h hi.1 hi.2 hv hl hcl hnw).mono ?_
        rintro e w' ⟨rfl, F', hD, hF, hk⟩
        exact ⟨_, F', rfl, .inl ⟨rfl, rfl⟩, hD, hF, hk⟩
      · have e : wcode false n i bs.length = 8 := by simp [wcode, hi, hl]
        rw [e]
        refine (write_large F w p n f c nw i v _ bs h E.cell_large hi.1 hi.2 hv hl).mono ?_
        rintro e w' ⟨rfl, rfl⟩
        exact ⟨_, F, rfl, .inr (.inr (.inl ⟨rfl, rfl⟩)), h, fun k e => .inl e, Kept.refl _ _⟩
    · have e : wcode false n i bs.length = 1 := by simp [wcode, hi]
      rw [e]
      refine (write_num F w p n f c nw i v _ h ⟨_, rfl⟩ E.cell_number hi).mono ?_
      rintro e w' ⟨rfl, rfl⟩
      exact ⟨_, F, rfl, .inr (.inl ⟨rfl, rfl⟩), h, fun k e => .inl e, Kept.refl _ _⟩
theorem rwrite_all (F : Nat → Prop) (w : World) (q n : Nat) (fs fn : Int → List Int) (c : List (Int × List Int)) (nw : Int) (gone : Bool) (sb nb : Nat) (av dv : Value) (H : Nat → Prop) (i : Int) (v : Value) (bs : List Int) (h : Rk F w q n fs fn c nw gone sb nb av dv H) (hv : Rd w v bs) (hvF : ∀ k, v.ownBlock = some k → ¬ F k) (hcl : c.length ≤ 1000000000) (hnw : 0 ≤ nw ∧ nw ≤ 1000000000000000) :
    Calls Tryd.prog 22 #[.pointer (some ⟨q, 0, none⟩), .int .i64 i, v] w fun r w' => r = .returned (.int .i64 (wcode gone n i bs.length)) ∧ ∃ F' av' dv' H', Rk F' w' q n fs (if wcode gone n i bs.length = 0 then updI fn i bs else fn) (wput (wcode gone n i bs.length) c i bs) (wnum (wcode gone n i bs.length) nw) gone sb nb av' dv' H' ∧ (∀ k, F' k → F k ∨ w.heap.size ≤ k) ∧ Kept F w w' := by
  by_cases hc : chk gone n i = 0
  · have hg : gone = false := by cases gone with | true => simp [chk] at hc | false => rfl
    subst hg
    have hi : 0 ≤ i ∧ i < (n : Int) := by
      unfold chk at hc
      by_cases e : 0 ≤ i ∧ i < (n : Int)
      · exact e
      · simp [e] at hc
    by_cases hl : bs.length = 64
    · have e : wcode false n i bs.length = 0 := by simp [wcode, hi, hl]
      rw [e]
      obtain ⟨i, rfl⟩ := Int.eq_ofNat_of_zero_le hi.1
      refine (rwrite_ok F w q n fs fn c nw sb nb av dv H i v bs h (by omega) hv hvF hl hcl hnw).mono ?_
      rintro r w' ⟨rfl, F', av', dv', H', hR, hF, hk⟩
      exact ⟨rfl, F', av', dv', H', hR, hF, hk⟩
    · have e : wcode false n i bs.length = 8 := by simp [wcode, hi, hl]
      rw [e]
      refine (rwrite_large F w q n fs fn c nw false sb nb av dv H i v bs h hc hv hl).mono ?_
      rintro r w' ⟨rfl, rfl⟩
      exact ⟨rfl, F, av, dv, H, h, fun k e => .inl e, Kept.refl _ _⟩
  · have e : wcode gone n i bs.length = chk gone n i := by
      unfold wcode chk at *
      cases gone with
      | true => rfl
      | false =>
        by_cases e : 0 ≤ i ∧ i < (n : Int)
        · simp [e] at hc
        · simp [e]
    rw [e]
    refine (rwrite_bad F w q n fs fn c nw gone sb nb av dv H i _ v h rfl hc).mono ?_
    rintro r w' ⟨rfl, rfl⟩
    refine ⟨rfl, F, av, dv, H, ?_, fun k e => .inl e, Kept.refl _ _⟩
    rw [if_neg hc, wput, wnum, if_neg hc, if_neg hc]
    exact h
/-- What a read gives. -/
def rgot (k : Int) (s : List Int) : List Int := if k = 0 then s else []
theorem own_none (w : World) (base : Nat) : w.ownsRow base 5 1 (.slice none 0 0) ([] : List Int).length (([] : List Int).map (Value.int .u8)) := World.ownsRow_nil _ _ _ _
theorem dread_all (F : Nat → Prop) (w : World) (p n : Nat) (f : Int → List Int) (c : List (Int × List Int)) (nw : Int) (lost : Bool) (i : Int) (a : Nat → Addr) (E : Errs w a) (h : Dk F w p n f c nw lost) (hcl : c.length ≤ 1000000000000) :
    Calls Tryd.prog 20 #[.pointer (some ⟨p, 0, none⟩), .int .i64 i] w fun e w' => ∃ z ev, e = .returned (.tuple #[z, ev]) ∧ ErrNo a ev (chk lost n i) ∧ w'.ownsRow w.heap.size 5 1 z (rgot (chk lost n i) (seenOf f c i)).length ((rgot (chk lost n i) (seenOf f c i)).map (Value.int .u8)) ∧ Below w.heap.size w w' := by
  cases lost with
  | true =>
    refine (read_lost F w p n f c nw i _ h ⟨_, rfl⟩ E.cell_lost).mono ?_
    rintro e w' ⟨rfl, rfl⟩
    exact ⟨_, _, rfl, .inr (.inr (.inr ⟨rfl, rfl⟩)), own_none _ _, Below.refl _ _⟩
  | false =>
    by_cases hi : 0 ≤ i ∧ i < (n : Int)
    · have e : chk false n i = 0 := by simp [chk, hi]
      rw [e]
      refine (read_ok F w p n f c nw i h hcl hi.1 hi.2).mono ?_
      rintro e w' ⟨z, rfl, ho, hb⟩
      exact ⟨z, _, rfl, .inl ⟨rfl, rfl⟩, ho, hb⟩
    · have e : chk false n i = 1 := by simp [chk, hi]
      rw [e]
      refine (read_num F w p n f c nw i _ h ⟨_, rfl⟩ E.cell_number hi).mono ?_
      rintro e w' ⟨rfl, rfl⟩
      exact ⟨_, _, rfl, .inr (.inl ⟨rfl, rfl⟩), own_none _ _, Below.refl _ _⟩
theorem rread_all (F : Nat → Prop) (w : World) (q n : Nat) (fs fn : Int → List Int) (c : List (Int × List Int)) (nw : Int) (gone : Bool) (sb nb : Nat) (av dv : Value) (H : Nat → Prop) (i : Int) (h : Rk F w q n fs fn c nw gone sb nb av dv H) :
    Calls Tryd.prog 23 #[.pointer (some ⟨q, 0, none⟩), .int .i64 i] w fun r w' => ∃ z, r = .returned (.tuple #[z, .int .i64 (chk gone n i)]) ∧ w'.ownsRow w.heap.size 5 1 z (rgot (chk gone n i) (fn i)).length ((rgot (chk gone n i) (fn i)).map (Value.int .u8)) ∧ Below w.heap.size w w' := by
  by_cases hc : chk gone n i = 0
  · have hg : gone = false := by cases gone with | true => simp [chk] at hc | false => rfl
    subst hg
    have hi : 0 ≤ i ∧ i < (n : Int) := by
      unfold chk at hc
      by_cases e : 0 ≤ i ∧ i < (n : Int)
      · exact e
      · simp [e] at hc
    rw [hc]
    obtain ⟨i, rfl⟩ := Int.eq_ofNat_of_zero_le hi.1
    refine (rread_ok F w q n fs fn c nw sb nb av dv H i h (by omega)).mono ?_
    rintro r w' ⟨z, rfl, ho, hb⟩
    exact ⟨z, rfl, ho, hb⟩
  · refine (rread_bad F w q n fs fn c nw gone sb nb av dv H i _ h rfl hc).mono ?_
    rintro r w' ⟨rfl, rfl⟩
    refine ⟨_, rfl, ?_, Below.refl _ _⟩
    rw [rgot, if_neg hc]
    exact own_none _ _
def fcode (lost : Bool) : Int := if lost then 9 else 0
theorem dflush_all (F : Nat → Prop) (w : World) (p n : Nat) (f : Int → List Int) (c : List (Int × List Int)) (nw : Int) (lost : Bool) (a : Nat → Addr) (E : Errs w a) (h : Dk F w p n f c nw lost) (hcl : c.length ≤ 1000000000000) :
    Calls Tryd.prog 18 #[.pointer (some ⟨p, 0, none⟩)] w fun e w' => ∃ ev, e = .returned ev ∧ ErrNo a ev (fcode lost) ∧ Dk F w' p n (if lost then f else flushed f c) (if lost then c else []) nw lost ∧ Kept F w w' := by
  cases lost with
  | true =>
    refine (flush_lost F w p n f c nw _ h E.cell_lost).mono ?_
    rintro e w' ⟨rfl, rfl⟩
    exact ⟨_, rfl, .inr (.inr (.inr ⟨rfl, rfl⟩)), h, Kept.refl _ _⟩
  | false =>
    refine (flush_ok F w p n f c nw h hcl).mono ?_
    rintro e w' ⟨rfl, hD, hk⟩
    exact ⟨_, rfl, .inl ⟨rfl, rfl⟩, hD, hk⟩
theorem rflush_all (F : Nat → Prop) (w : World) (q n : Nat) (fs fn : Int → List Int) (c : List (Int × List Int)) (nw : Int) (gone : Bool) (sb nb : Nat) (av dv : Value) (H : Nat → Prop) (h : Rk F w q n fs fn c nw gone sb nb av dv H) :
    Calls Tryd.prog 24 #[.pointer (some ⟨q, 0, none⟩)] w fun r w' => r = .returned (.int .i64 (fcode gone)) ∧ ∃ av' dv' H', Rk F w' q n (if gone then fs else fn) fn (if gone then c else []) nw gone sb nb av' dv' H' ∧ Kept F w w' := by
  cases gone with
  | true =>
    refine (rflush_lost F w q n fs fn c nw sb nb av dv H h).mono ?_
    rintro r w' ⟨rfl, rfl⟩
    exact ⟨rfl, av, dv, H, h, Kept.refl _ _⟩
  | false =>
    refine (rflush_ok F w q n fs fn c nw sb nb av dv H h).mono ?_
    rintro r w' ⟨rfl, hR, hk⟩
    exact ⟨rfl, _, _, _, hR, hk⟩
end Go.Proofs.YtcglonefifldnaaDoor
