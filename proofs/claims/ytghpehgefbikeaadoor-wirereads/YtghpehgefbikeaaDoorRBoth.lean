/- A reader of package wire and the document's reader of the same bytes answer the same. -/
import Derived.Test.YtghpehgefbikeaaDoorRefRdc
import Derived.Test.YtghpehgefbikeaaDoorPiece2
import Derived.Test.YtghpehgefbikeaaDoorErrNum
namespace Go.Proofs.YtghpehgefbikeaaDoor
open Go.ChangeShapes Go.WideShapes Go.ChangeAt Go.RowKit

def ErrBoth (w0 : World) (err : Value) (en : Int) : Prop := ∀ W, Below w0.heap.size w0 W → Calls Tryd.prog 22 #[err] W fun e w' => e = .returned (.int .i64 en) ∧ Below W.heap.size W w'
structure NumBoth (w0 : World) (v : Value) (bs : List Int) (i : Nat) (most n : Int) (i' : Nat) (err : Value) (en : Int) : Prop where
  le : i' ≤ bs.length
  real : ∀ (F : Nat → Prop) (W : World) (p : Nat), Below w0.heap.size w0 W → Rr F W p bs i → Calls Tryd.prog 20 #[.pointer (some ⟨p, 0, none⟩), .int .i64 most] W fun e w' => e = .returned (.tuple #[.int .i64 n, err]) ∧ Rr F w' p bs i' ∧ Kept F W w'
  ref : ∀ (W : World) (m : Nat), Below w0.heap.size w0 W → MR W m v i → Calls Tryd.prog 21 #[.pointer (some ⟨m, 0, none⟩), .int .i64 most] W fun e w' => e = .returned (.tuple #[.int .i64 n, .int .i64 en]) ∧ MR w' m v i' ∧ Kept (fun j => j = m) W w'
  err : ErrBoth w0 err en
theorem errBoth_nil (w0 : World) : ErrBoth w0 .nilIface 0 := fun W _ => (errnum_nil W).mono (by rintro e w' ⟨rfl, rfl⟩; exact ⟨rfl, Below.refl _ _⟩)
theorem errBoth_bytes (w0 : World) (a : Nat → Addr) (hE : Errs w0 a) : ErrBoth w0 (.iface 86 (.pointer (some (a 1)))) 3 := fun W hb => errnum_bytes W a (hE.late hb)
theorem num_both (w0 : World) (a : Nat → Addr) (hE : Errs w0 a) (v : Value) (bs : List Int) (i : Nat) (most : Int) (hv : Rd w0 v bs) (hi : i ≤ bs.length) (hl : (bs.length : Int) ≤ 140737488355328) : ∃ n i' err en, NumBoth w0 v bs i most n i' err en := by
  by_cases hy : ∃ (N : Nat) (r : List Int), (N : Int) ≤ 9223372036854775807 ∧ bs.drop i = enc N ++ r
  · obtain ⟨N, r, hN, he⟩ := hy
    have hlen := congrArg List.length he
    rw [List.length_drop, List.length_append] at hlen
    by_cases hm : (N : Int) ≤ most
    · refine ⟨N, i + (enc N).length, .nilIface, 0, by omega, fun F W p hb h => ?_, fun W m hb h => ?_, errBoth_nil w0⟩
      · refine (rnum_any F W p bs i most _ h hl (hE.late hb).cell_bytes).mono ?_
        rintro e w' (⟨M, s, he2, hM, hMm, rfl, hr, hk⟩ | ⟨hno, _⟩)
        · obtain ⟨rfl, rfl⟩ := enc_free N M r s (he.symm.trans he2)
          exact ⟨rfl, hr, hk⟩
        · exact absurd he (hno N r hN hm)
      · exact refrnum_yes W m v bs i N r most h (hv.later hb) hi hl hN he hm
    · refine ⟨0, i, .iface 86 (.pointer (some (a 1))), 3, hi, fun F W p hb h => ?_, fun W m hb h => ?_, errBoth_bytes w0 a hE⟩
      · refine (rnum_any F W p bs i most _ h hl (hE.late hb).cell_bytes).mono ?_
        rintro e w' (⟨M, s, he2, hM, hMm, rfl, hr, hk⟩ | ⟨hno, rfl, hr, hk⟩)
        · obtain ⟨rfl, rfl⟩ := enc_free N M r s (he.symm.trans he2)
          exact absurd hMm hm
        · exact ⟨rfl, hr, hk⟩
      · refine (refrnum_much W m v bs i N r most h (hv.later hb) hi hl hN he (by omega)).mono ?_
        rintro e w' ⟨rfl, hb'⟩
        exact ⟨rfl, h.late hb', below_kept _ hb'⟩
  · have hno : ∀ (N : Nat) (r : List Int), (N : Int) ≤ 9223372036854775807 → bs.drop i ≠ enc N ++ r := fun N r h1 h2 => hy ⟨N, r, h1, h2⟩
    refine ⟨0, i, .iface 86 (.pointer (some (a 1))), 3, hi, fun F W p hb h => ?_, fun W m hb h => ?_, errBoth_bytes w0 a hE⟩
    · refine (rnum_any F W p bs i most _ h hl (hE.late hb).cell_bytes).mono ?_
      rintro e w' (⟨M, s, he2, hM, hMm, rfl, hr, hk⟩ | ⟨_, rfl, hr, hk⟩)
      · exact absurd he2 (hno M s hM)
      · exact ⟨rfl, hr, hk⟩
    · refine (refrnum_none W m v bs i most h (hv.later hb) hi hl hno).mono ?_
      rintro e w' ⟨rfl, hb'⟩
      exact ⟨rfl, h.late hb', below_kept _ hb'⟩
structure PieceBoth (w0 : World) (v : Value) (bs : List Int) (i : Nat) (most : Int) (zs : List Int) (i' : Nat) (err : Value) (en : Int) : Prop where
  le : i' ≤ bs.length
  zl : zs.length ≤ bs.length
  zb : Byts zs
  text : ∀ (F : Nat → Prop) (W : World) (p : Nat), Below w0.heap.size w0 W → Rr F W p bs i → Calls Tryd.prog 23 #[.pointer (some ⟨p, 0, none⟩), .int .i64 most] W fun e w' => e = .returned (.tuple #[.string (strOfNums zs), err]) ∧ Rr F w' p bs i' ∧ Kept F W w'
  bytes : ∀ (F : Nat → Prop) (W : World) (p : Nat), Below w0.heap.size w0 W → Rr F W p bs i → Calls Tryd.prog 25 #[.pointer (some ⟨p, 0, none⟩), .int .i64 most] W fun e w' => ∃ z, e = .returned (.tuple #[z, err]) ∧ w'.ownsRow W.heap.size 5 1 z zs.length (zs.map (Value.int .u8)) ∧ Rr F w' p bs i' ∧ Kept F W w'
  ref : ∀ (W : World) (m : Nat), Below w0.heap.size w0 W → w0.heap.size ≤ m → MR W m v i → Calls Tryd.prog 24 #[.pointer (some ⟨m, 0, none⟩), .int .i64 most] W fun e w' => ∃ z, e = .returned (.tuple #[z, .int .i64 en]) ∧ Rd w' z zs ∧ MR w' m v i' ∧ Kept (fun j => j = m) W w'
  err : ErrBoth w0 err en
theorem piece_none (w0 : World) (a : Nat → Addr) (hE : Errs w0 a) (v : Value) (bs : List Int) (i : Nat) (most : Int) (hi : i ≤ bs.length) (hl : (bs.length : Int) ≤ 140737488355328) (hno : PieceNo bs i most)
    (href : ∀ (W : World) (m : Nat), Below w0.heap.size w0 W → MR W m v i → Calls Tryd.prog 24 #[.pointer (some ⟨m, 0, none⟩), .int .i64 most] W fun e w' => e = .returned (.tuple #[.slice none 0 0, .int .i64 3]) ∧ Below W.heap.size W w') : ∃ zs i' err en, PieceBoth w0 v bs i most zs i' err en := by
  refine ⟨[], i, .iface 86 (.pointer (some (a 1))), 3, hi, Nat.zero_le _, Byts.nil, fun F W p hb h => ?_, fun F W p hb h => ?_, fun W m hb _ h => ?_, errBoth_bytes w0 a hE⟩
  · refine (rtext_any F W p bs i most _ h hl (hE.late hb).cell_bytes).mono ?_
    rintro e w' (⟨M, s, hy, _⟩ | ⟨_, rfl, hr, hk⟩)
    · exact absurd hy (hno M s)
    · exact ⟨rfl, hr, hk⟩
  · refine (rbytes_any F W p bs i most _ h hl (hE.late hb).cell_bytes).mono ?_
    rintro e w' (⟨M, s, z, hy, _⟩ | ⟨z, _, rfl, ho, hr, hk⟩)
    · exact absurd hy (hno M s)
    · exact ⟨z, rfl, ho, hr, hk⟩
  · refine (href W m hb h).mono ?_
    rintro e w' ⟨rfl, hb'⟩
    exact ⟨_, rfl, rd_nil _, h.late hb', below_kept _ hb'⟩
theorem rd_block {w : World} {v : Value} {bs : List Int} (h : Rd w v bs) (hp : 1 ≤ bs.length) (m : Nat) (hm : w.heap.size ≤ m) : v.ownBlock ≠ some m := by
  obtain ⟨_, a, cap, rfl, _, _, hc⟩ := h
  obtain ⟨b, off, rfl, hb, _⟩ := hc (by omega)
  intro e
  simp [Value.ownBlock] at e
  omega
theorem piece_both (w0 : World) (a : Nat → Addr) (hE : Errs w0 a) (v : Value) (bs : List Int) (i : Nat) (most : Int) (hv : Rd w0 v bs) (hi : i ≤ bs.length) (hl : (bs.length : Int) ≤ 140737488355328) : ∃ zs i' err en, PieceBoth w0 v bs i most zs i' err en := by
  by_cases hy : ∃ (N : Nat) (r : List Int), (N : Int) ≤ 9223372036854775807 ∧ bs.drop i = enc N ++ r
  · obtain ⟨N, r, hN, he⟩ := hy
    have hlen := congrArg List.length he
    rw [List.length_drop, List.length_append] at hlen
    by_cases hm : (N : Int) ≤ most
    · by_cases hr : N ≤ r.length
      · have hY : PieceYes bs i most N r := ⟨he, hm, hr⟩
        have hrB : Byts (r.take N) := fun b hb => hv.1 b (List.mem_of_mem_drop (by rw [he]; exact List.mem_append.mpr (.inr (List.mem_of_mem_take hb))))
        have h1 : 1 ≤ (enc N).length := by
          obtain ⟨q, c, e, _⟩ := enc_last N
          rw [e, List.length_append]
          simp
        refine ⟨r.take N, i + (enc N).length + N, .nilIface, 0, by omega, by rw [List.length_take]; omega, hrB, fun F W p hb h => ?_, fun F W p hb h => ?_, fun W m hb hw h => ?_, errBoth_nil w0⟩
        · refine (rtext_any F W p bs i most _ h hl (hE.late hb).cell_bytes).mono ?_
          rintro e w' (⟨M, s, hy2, rfl, hrr, hk⟩ | ⟨hno, _⟩)
          · obtain ⟨rfl, rfl⟩ := enc_free N M r s (he.symm.trans hy2.1)
            exact ⟨rfl, hrr, hk⟩
          · exact absurd hY (hno N r)
        · refine (rbytes_any F W p bs i most _ h hl (hE.late hb).cell_bytes).mono ?_
          rintro e w' (⟨M, s, z, hy2, rfl, ho, hrr, hk⟩ | ⟨z, hno, _⟩)
          · obtain ⟨rfl, rfl⟩ := enc_free N M r s (he.symm.trans hy2.1)
            exact ⟨z, rfl, ho, hrr, hk⟩
          · exact absurd hY (hno N r)
        · exact refrbytes_yes W m v bs i N r most h (hv.later hb) (rd_block hv (by omega) m hw) hi hl hN he hm hr
      · refine piece_none w0 a hE v bs i most hi hl (fun M s hy => ?_) (fun W m hb h => refrbytes_short W m v bs i N r most h (hv.later hb) hi hl hN he hm (by omega))
        obtain ⟨rfl, rfl⟩ := enc_free N M r s (he.symm.trans hy.1)
        exact hr hy.2.2
    · refine piece_none w0 a hE v bs i most hi hl (fun M s hy => ?_) (fun W m hb h => refrbytes_much W m v bs i N r most h (hv.later hb) hi hl hN he (by omega))
      obtain ⟨rfl, rfl⟩ := enc_free N M r s (he.symm.trans hy.1)
      exact hm hy.2.1
  · have hno : ∀ (N : Nat) (r : List Int), (N : Int) ≤ 9223372036854775807 → bs.drop i ≠ enc N ++ r := fun N r h1 h2 => hy ⟨N, r, h1, h2⟩
    refine piece_none w0 a hE v bs i most hi hl (fun M s hy => ?_) (fun W m hb h => refrbytes_none W m v bs i most h (hv.later hb) hi hl hno)
    have := congrArg List.length hy.1
    rw [List.length_drop, List.length_append] at this
    exact hno M s (by have := hy.2.2; omega) hy.1
end Go.Proofs.YtghpehgefbikeaaDoor
