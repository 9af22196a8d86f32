/- The document's disk in memory. -/
import Derived.Test.YtcglonefifldnaaDoorConc
import Derived.Test.YtcglonefifldnaaDoorLists
import Derived.Test.YtcglonefifldnaaDoorCut
import Derived.Test.YtcglonefifldnaaDoorSeal
namespace Go.Proofs.YtcglonefifldnaaDoor
open Go.ChangeShapes Go.WideShapes Go.ChangeAt Go.RowKit

theorem Tryd.info3 : (Tryd.prog.info? 3).map (fun i => (i.zero, i.size, i.bytes)) = some (some (.int .i64 0), 1, 8) := by kernel_rfl
def places (c : List (Int × List Int)) : List Value := c.map (fun x => Value.int .i64 x.1)
def datas (c : List (Int × List Int)) : List (List Int) := c.map (fun x => x.2)
theorem datas_len (c : List (Int × List Int)) : (datas c).length = c.length := by simp [datas]
theorem places_snoc (c : List (Int × List Int)) (i : Int) (bs : List Int) : places (c ++ [(i, bs)]) = places c ++ [.int .i64 i] := by simp [places]
theorem datas_snoc (c : List (Int × List Int)) (i : Int) (bs : List Int) : datas (c ++ [(i, bs)]) = datas c ++ [bs] := by simp [datas]
/-- The document's disk of n sectors at block q: safe, now, the writes that wait, how many there were, whether it is gone. -/
structure Rk (F : Nat → Prop) (w : World) (q n : Nat) (fs fn : Int → List Int) (c : List (Int × List Int)) (nw : Int) (gone : Bool) (sb nb : Nat) (av dv : Value) (H : Nat → Prop) : Prop where
  lt : ∀ k, F k → k < w.heap.size
  fq : F q
  ss : ∀ i, Sec (fs i)
  sn : ∀ i, Sec (fn i)
  sc : ∀ x ∈ c, Sec x.2
  pc : ∀ x ∈ c, 0 ≤ x.1 ∧ x.1 < (n : Int)
  n0 : 1 ≤ n
  n1 : n ≤ 1024
  hd : w.heap[q]? = some (.cells #[.slice (some ⟨sb, 0, none⟩) (64 * n) (64 * n), .slice (some ⟨nb, 0, none⟩) (64 * n) (64 * n), av, dv, .int .i64 nw, .bool gone] 41 (0, 0))
  hs : w.heap[sb]? = some (.cells ((conc n fs).map (Value.int .u8)).toArray 5 (0, 0))
  hn : w.heap[nb]? = some (.cells ((conc n fn).map (Value.int .u8)).toArray 5 (0, 0))
  ha : w.ownsRow 0 3 1 av c.length (places c)
  hl : Lst H 0 w dv (datas c)
  fs_ : F sb ∧ sb ≠ q
  fn_ : F nb ∧ nb ≠ q ∧ nb ≠ sb
  fa : ∀ k, av.ownBlock = some k → F k ∧ k ≠ q ∧ k ≠ sb ∧ k ≠ nb
  fd : ∀ k, dv.ownBlock = some k → F k ∧ k ≠ q ∧ k ≠ sb ∧ k ≠ nb ∧ av.ownBlock ≠ some k
  fh : ∀ k, H k → F k ∧ k ≠ q ∧ k ≠ sb ∧ k ≠ nb ∧ av.ownBlock ≠ some k
theorem Rk.kept {F G : Nat → Prop} {w w' : World} {q n : Nat} {fs fn : Int → List Int} {c : List (Int × List Int)} {nw : Int} {gone : Bool} {sb nb : Nat} {av dv : Value} {H : Nat → Prop} (h : Rk F w q n fs fn c nw gone sb nb av dv H) (hk : Kept G w w') (hf : ∀ k, F k → ¬ G k) : Rk F w' q n fs fn c nw gone sb nb av dv H := by
  refine ⟨fun k e => Nat.lt_of_lt_of_le (h.lt k e) hk.size, h.fq, h.ss, h.sn, h.sc, h.pc, h.n0, h.n1, ?_, ?_, ?_, own_keptV h.ha hk (fun k e => hf k (h.fa k e).1), h.hl.kept hk (fun k e => hf k (h.fh k e).1) (fun k e => hf k (h.fd k e).1), h.fs_, h.fn_, h.fa, h.fd, h.fh⟩
  · rw [hk.block q (h.lt q h.fq) (hf q h.fq)]; exact h.hd
  · rw [hk.block sb (h.lt sb h.fs_.1) (hf sb h.fs_.1)]; exact h.hs
  · rw [hk.block nb (h.lt nb h.fn_.1) (hf nb h.fn_.1)]; exact h.hn
theorem Rk.below {F : Nat → Prop} {w w' : World} {q n : Nat} {fs fn : Int → List Int} {c : List (Int × List Int)} {nw : Int} {gone : Bool} {sb nb : Nat} {av dv : Value} {H : Nat → Prop} (h : Rk F w q n fs fn c nw gone sb nb av dv H) (hb : Below w.heap.size w w') : Rk F w' q n fs fn c nw gone sb nb av dv H :=
  h.kept (kept_of_below hb) (fun k hf hge => by have := h.lt k hf; omega)
theorem Rk.rows {F : Nat → Prop} {w : World} {q n : Nat} {fs fn : Int → List Int} {c : List (Int × List Int)} {nw : Int} {gone : Bool} {sb nb : Nat} {av dv : Value} {H : Nat → Prop} (h : Rk F w q n fs fn c nw gone sb nb av dv H) : Rd w (.slice (some ⟨sb, 0, none⟩) (64 * n) (64 * n)) (conc n fs) ∧ Rd w (.slice (some ⟨nb, 0, none⟩) (64 * n) (64 * n)) (conc n fn) := by
  have l1 := conc_len n fs h.ss
  have l2 := conc_len n fn h.sn
  refine ⟨⟨conc_byts n fs h.ss, _, _, by rw [l1], by omega, fun e => by simp at e, fun _ => ⟨sb, 0, rfl, h.lt sb h.fs_.1, fun k hk => ?_⟩⟩, ⟨conc_byts n fn h.sn, _, _, by rw [l2], by omega, fun e => by simp at e, fun _ => ⟨nb, 0, rfl, h.lt nb h.fn_.1, fun k hk => ?_⟩⟩⟩
  · rw [Nat.zero_add]
    exact cell_of_block h.hs (by simp [List.getD, hk])
  · rw [Nat.zero_add]
    exact cell_of_block h.hn (by simp [List.getD, hk])
/-- What check answers. -/
def chk (gone : Bool) (n : Nat) (i : Int) : Int := if gone then 9 else if 0 ≤ i ∧ i < n then 0 else 1
theorem rcheck_any (F : Nat → Prop) (w : World) (q n : Nat) (fs fn : Int → List Int) (c : List (Int × List Int)) (nw : Int) (gone : Bool) (sb nb : Nat) (av dv : Value) (H : Nat → Prop) (i : Int) (h : Rk F w q n fs fn c nw gone sb nb av dv H) :
    Calls Tryd.prog 32 #[.pointer (some ⟨q, 0, none⟩), .int .i64 i] w fun e w' => e = .returned (.int .i64 (chk gone n i)) ∧ w' = w := by
  have c0 : w.cell? ⟨q, 0, none⟩ = some (.slice (some ⟨sb, 0, none⟩) (64 * n) (64 * n)) := cell_of_block h.hd rfl
  have c5 : w.cell? ⟨q, 5, none⟩ = some (.bool gone) := cell_of_block h.hd rfl
  have hn := h.n1
  cases gone with
  | true =>
    go_enter Tryd.func32, Tryd.ntmps32
    go_wp2
    go_ret
    exact ⟨rfl, rfl⟩
  | false =>
    obtain ⟨m, hm, hq⟩ : ∃ m : Nat, m = 64 * n ∧ ((m : Nat) : Int) / 64 = (n : Int) := ⟨_, rfl, by omega⟩
    rw [← hm] at c0
    have hm2 : (m : Int) ≤ 65536 := by omega
    clear hm
    by_cases h0 : i < 0
    · have e : chk false n i = 1 := by simp [chk]; omega
      rw [e]
      go_enter Tryd.func32, Tryd.ntmps32
      go_wp2
      go_ret
      exact ⟨rfl, rfl⟩
    · by_cases h1 : (n : Int) ≤ i
      · have e : chk false n i = 1 := by simp [chk]; omega
        rw [e]
        go_enter Tryd.func32, Tryd.ntmps32
        go_wp2
        go_ret
        exact ⟨rfl, rfl⟩
      · have e : chk false n i = 0 := by simp [chk]; omega
        rw [e]
        go_enter Tryd.func32, Tryd.ntmps32
        go_wp2
        go_ret
        exact ⟨rfl, rfl⟩
theorem rread_bad (F : Nat → Prop) (w : World) (q n : Nat) (fs fn : Int → List Int) (c : List (Int × List Int)) (nw : Int) (gone : Bool) (sb nb : Nat) (av dv : Value) (H : Nat → Prop) (i e : Int) (h : Rk F w q n fs fn c nw gone sb nb av dv H) (he : chk gone n i = e) (hne : e ≠ 0) :
    Calls Tryd.prog 23 #[.pointer (some ⟨q, 0, none⟩), .int .i64 i] w fun r w' => r = .returned (.tuple #[.slice none 0 0, .int .i64 e]) ∧ w' = w := by
  have hc := rcheck_any F w q n fs fn c nw gone sb nb av dv H i h
  rw [he] at hc
  go_enter Tryd.func23, Tryd.ntmps23
  go_wp2_with (go_at_call 32; refine hc.mono ?_; rintro r w1 ⟨rfl, rfl⟩)
  go_ret2
  exact ⟨rfl, rfl⟩
set_option maxHeartbeats 3200000 in
theorem rread_ok (F : Nat → Prop) (w : World) (q n : Nat) (fs fn : Int → List Int) (c : List (Int × List Int)) (nw : Int) (sb nb : Nat) (av dv : Value) (H : Nat → Prop) (i : Nat) (h : Rk F w q n fs fn c nw false sb nb av dv H) (hi : i < n) :
    Calls Tryd.prog 23 #[.pointer (some ⟨q, 0, none⟩), .int .i64 (i : Int)] w fun r w' => ∃ z, r = .returned (.tuple #[z, .int .i64 0]) ∧ w'.ownsRow w.heap.size 5 1 z (fn (i : Int)).length ((fn (i : Int)).map (Value.int .u8)) ∧ Below w.heap.size w w' := by
  obtain ⟨i0, hi0, hz0, hz1, hz2⟩ := info_parts Tryd.info5
  have hc := rcheck_any F w q n fs fn c nw false sb nb av dv H i h
  rw [show chk false n (i : Int) = 0 by simp [chk]; omega] at hc
  have c1 : w.cell? ⟨q, 1, none⟩ = some (.slice (some ⟨nb, 0, none⟩) (64 * n) (64 * n)) := cell_of_block h.hd rfl
  have hn := h.n1
  obtain ⟨v1, sv1, rv1⟩ := h.rows.2.midS (64 * (i : Int)) (64 * (i : Int) + 64) (64 * i) (64 * i + 64) (by omega) (by omega) (by omega) (by rw [conc_len n fn h.sn]; omega)
  rw [show 64 * i + 64 - 64 * i = 64 by omega, conc_at n fn h.sn i hi] at rv1
  have hlen := (h.sn (i : Int)).len
  generalize fn (i : Int) = s at *
  generalize hbv : Value.slice (some ⟨nb, 0, none⟩) (64 * n) (64 * n) = bv at *
  have m1 : IntKind.i64.wrap (64 * (i : Int)) = 64 * (i : Int) := by rw [IntKind.wrap_i64]; omega
  have m2 : IntKind.i64.wrap (64 * (i : Int) + 64) = 64 * (i : Int) + 64 := by rw [IntKind.wrap_i64]; omega
  have HM : Hid ((w.alloc (.cells #[] 5)).ownsRow w.heap.size 5 1 (.slice (some ⟨w.heap.size, 0, none⟩) 0 0) 0 []) := mkHid (World.ownsRow_made (base := w.heap.size) (e := 5) (size := 1) w #[] 0 (Nat.le_refl _) (by unfold maxLen; omega) rfl)
  have HR := mkHid rv1
  have HL := mkHid hlen
  have HC := mkHid hc
  have c1' : (w.alloc (.cells #[] 5)).cell? ⟨q, 1, none⟩ = some bv := cell_later ((Below.refl _ w).alloc (Nat.le_refl _) _) c1
  clear rv1 hbv h hlen hc
  go_enter Tryd.func23, Tryd.ntmps23
  go_wp2_with (first
    | (go_at_call 32; refine HC.out.mono ?_; rintro r w1 ⟨rfl, rfl⟩)
    | (at_builtin; refine wpList_append_src _ rfl (.tmp 13) (.tmp 23) 33 33 rfl w1.heap.size 5 i0 Tryd.underlying33 hi0 hz0 hz1 hz2 _ _ _ rfl HM.out _ _ _ rfl (HR.out.alloc _).src (by have := HL.out; unfold maxLen; omega) (by have := HL.out; omega) (by simp) ?_; intro v7 w7 ho7 hg7 _; rw [Nat.zero_add, List.nil_append] at ho7; have hb7 := ((Below.refl w1.heap.size w1).alloc (Nat.le_refl _) _).grown hg7 (by simp) (fun k hk => (HM.out.lt k hk).1); have HO7 := mkHid ho7; have HB7 := mkHid hb7; clear ho7 hg7 hb7))
  go_ret2
  exact ⟨v7, rfl, HO7.out, HB7.out⟩
end Go.Proofs.YtcglonefifldnaaDoor
