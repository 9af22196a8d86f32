/- Package supply: the row's function, and Row. -/
import Derived.Test.YtldfngkooilmnaaDoorRowIt2
namespace Go.Proofs.YtldfngkooilmnaaDoor
open Go.ChangeShapes Go.WideShapes Go.ChangeAt Go.RowKit Go.Shelf

attribute [local go_sem] Oper.semAt_some
theorem at_part {g d q : Int} (k r : Int) (_hq : 1 ≤ q) (_hd : 0 ≤ d) (hk : 0 ≤ k) (h0 : 0 ≤ r) (h1 : r < d + q) : sbAt g d q (g + k * (d + q) + r) = decide (d ≤ r) := by
  have hn := Int.mul_nonneg hk (show 0 ≤ d + q by omega)
  unfold sbAt
  rw [(dm (T := d + q) (m := g + k * (d + q) + r - g) (a := k) (r := r) h0 h1 (by omega)).2]
  by_cases e : d ≤ r
  · rw [decide_eq_true e, decide_eq_true ⟨by omega, e⟩]
  · rw [decide_eq_false e, decide_eq_false (fun h => e h.2)]
/-- The greatest number up to n of which p holds, or 0. -/
noncomputable def mx (p : Nat → Prop) : Nat → Nat
  | 0 => 0
  | n + 1 => @ite _ (p (n + 1)) (Classical.propDecidable _) (n + 1) (mx p n)
theorem mx_le (p : Nat → Prop) (n : Nat) : mx p n ≤ n := by
  induction n with
  | zero => exact Nat.le_refl _
  | succ n ih => unfold mx; split <;> omega
theorem mx_at (p : Nat → Prop) (n k : Nat) (hk : k ≤ n) (h : p k) : k ≤ mx p n ∧ p (mx p n) := by
  induction n with
  | zero => obtain rfl : k = 0 := by omega
            exact ⟨Nat.le_refl _, h⟩
  | succ n ih =>
    unfold mx
    split
    · rename_i hp; exact ⟨hk, hp⟩
    · rename_i hp
      by_cases e : k = n + 1
      · subst e; exact absurd h hp
      · exact ih (by omega)
def encB (g d q : Int) (i : Nat) : Array Value := #[.bool (sbAt g d q (i : Int))]
set_option maxHeartbeats 6400000 in
theorem row1_yes (F : Fence) (n : Nat) (hf1 : F.fn 26) (hf2 : F.fn 27) (hro : F.round = none) (hn : 3 ≤ n) (g d q n₀ Be Bs : Nat) (hd : g + d + q ≤ 1000) (hq : 1 ≤ q) (w0 : World) (he : w0.cell? ⟨Be, 0, none⟩ = some .nilIface) (hs : w0.heap[Bs]? = some (.cells #[.int .i64 (g : Int), .int .i64 (d : Int), .int .i64 (q : Int)] 41 (0, 0))) (hBe : Be < n₀) (hBs : Bs < n₀) :
    RowIt F n (n - 1 - 1) Tryd.prog 26 #[.pointer (some ⟨Be, 0, none⟩), .pointer (some ⟨Bs, 0, none⟩)] (encB g d q) n₀ False w0 := by
  intro l N J Jx W hW hN hY0 h0
  have hY := hY0 (fun h => h)
  clear hY0
  refine callsIn_of_wp Tryd.func26 rfl hf1 ?_ hro
  simp only [Tryd.ntmps26, List.size_toArray, List.length_cons, List.length_nil, Nat.reduceAdd, Nat.reduceSub, Array.replicate_succ, Array.replicate_zero, List.push_toArray, List.append_toArray, List.nil_append, List.cons_append]
  have hsW : ∀ {V : World}, Below n₀ w0 V → V.heap[Bs]? = some (.cells #[.int .i64 (g : Int), .int .i64 (d : Int), .int .i64 (q : Int)] 41 (0, 0)) := fun hV => (hV.block _ hBs).trans hs
  have HSW := @mkHid (∀ {V : World}, Below n₀ w0 V → V.heap[Bs]? = some (.cells #[.int .i64 (g : Int), .int .i64 (d : Int), .int .i64 (q : Int)] 41 (0, 0))) hsW
  have c0 : W.cell? ⟨Bs, 0, none⟩ = some (.int .i64 (g : Int)) := cell_of_block (i := 0) (hsW hW) rfl
  have ce : W.cell? ⟨Be, 0, none⟩ = some .nilIface := (hW.cell (p := ⟨Be, 0, none⟩) hBe).trans he
  have HW := mkHid hW
  have HN := mkHid hN
  have HY := mkHid hY
  have H0 := mkHid h0
  have R0 : Hid (∀ V, J 0 V → CallsIn F (n - 1) Tryd.prog 27 #[.int .i64 (g : Int), .bool false, .func (.yield l) #[] #[]] V (Told J Jx n₀ (0 + g) V)) := mkHid (fun V hV => repeat_in F (n - 1) hf2 hro (by omega) l n₀ 0 g false J Jx (by omega) (fun j V' _ hj hJ => by
    have := hY j V' hJ
    rwa [show encB g d q j = #[.bool false] by unfold encB; rw [at_before (by omega) (by omega) (by omega)]] at this) V hV)
  have R1 : Hid (∀ k V, J (g + k * (d + q)) V → CallsIn F (n - 1) Tryd.prog 27 #[.int .i64 (d : Int), .bool false, .func (.yield l) #[] #[]] V (Told J Jx n₀ (g + k * (d + q) + d) V)) := mkHid (fun k V hV => repeat_in F (n - 1) hf2 hro (by omega) l n₀ (g + k * (d + q)) d false J Jx (by omega) (fun j V' hj1 hj hJ => by
    have := hY j V' hJ
    have e : (j : Int) = (g : Int) + (k : Int) * ((d : Int) + (q : Int)) + ((j - (g + k * (d + q)) : Nat) : Int) := by rw [← Int.natCast_add, ← Int.natCast_mul, ← Int.natCast_add, ← Int.natCast_add]; congr 1; omega
    rwa [show encB g d q j = #[.bool false] by unfold encB; rw [e, at_part k _ (by omega) (by omega) (by omega) (by omega) (by omega), decide_eq_false (by omega)]] at this) V hV)
  have R2 : Hid (∀ k V, J (g + k * (d + q) + d) V → CallsIn F (n - 1) Tryd.prog 27 #[.int .i64 (q : Int), .bool true, .func (.yield l) #[] #[]] V (Told J Jx n₀ (g + (k + 1) * (d + q)) V)) := mkHid (fun k V hV => by
    have := repeat_in F (n - 1) hf2 hro (by omega) l n₀ (g + k * (d + q) + d) q true J Jx (by omega) (fun j V' hj1 hj hJ => by
      have := hY j V' hJ
      have e : (j : Int) = (g : Int) + (k : Int) * ((d : Int) + (q : Int)) + ((j - (g + k * (d + q)) : Nat) : Int) := by rw [← Int.natCast_add, ← Int.natCast_mul, ← Int.natCast_add, ← Int.natCast_add]; congr 1; omega
      rwa [show encB g d q j = #[.bool true] by unfold encB; rw [e, at_part k _ (by omega) (by omega) (by omega) (by omega) (by omega), decide_eq_true (by omega)]] at this) V hV
    rwa [show g + k * (d + q) + d + q = g + (k + 1) * (d + q) by rw [Nat.succ_mul]; omega] at this)
  clear hsW hW hN hY h0 he hs
  gi_wp2_with (refine ⟨fun _ => by omega, ?_⟩; gi_at_call 27; refine (R0.out _ H0.out).mono ?_; rintro e W3 (⟨rfl, hJ3, hk3⟩ | ⟨rfl, hJx3⟩))
  · rw [Nat.zero_add] at hJ3
    have HJ3 := mkHid hJ3
    have HK3 := mkHid hk3
    clear hJ3 hk3 c0 ce
    gi_wp2
    gi_loopw [13] (fun _ wr => ∃ k : Nat, Hid (J (g + k * (d + q)) wr) ∧ Hid (Below n₀ W wr)) (fun _ wr => N - mx (fun k => J (g + k * (d + q)) wr) N)
    case atStart => exact ⟨0, mkHid (by rw [Nat.zero_mul]; exact HJ3.out), HK3⟩
    case round =>
      obtain ⟨k0, HJ, HB⟩ := hrel
      obtain ⟨k, hkd⟩ : ∃ k, k = mx (fun k => J (g + k * (d + q)) wr) N := ⟨_, rfl⟩
      have le : ∀ k V, J (g + k * (d + q)) V → k < N := fun k V h => by
        have := HN.out _ _ h
        have : k * 1 ≤ k * (d + q) := Nat.mul_le_mul_left k (by omega)
        omega
      have HLE := mkHid le
      have HKJ : Hid (J (g + k * (d + q)) wr) := mkHid (by rw [hkd]; exact (mx_at (fun k => J (g + k * (d + q)) wr) N k0 (by have := le _ _ HJ.out; omega) HJ.out).2)
      have HKD := mkHid hkd
      clear hkd le
      have rs := HSW.out (HW.out.trans HB.out)
      have c1 : wr.cell? ⟨Bs, 1, none⟩ = some (.int .i64 (d : Int)) := cell_of_block (i := 1) rs rfl
      clear rs
      gi_wp2
      refine ⟨fun _ => by omega, ?_⟩
      refine (R1.out k _ HKJ.out).mono ?_
      rintro e W4 (⟨rfl, hJ4, hk4⟩ | ⟨rfl, hJx4⟩)
      · have HJ4 := mkHid hJ4
        have HK4 := mkHid hk4
        have rs4 := HSW.out (HW.out.trans (HB.out.trans hk4))
        have c2 : W4.cell? ⟨Bs, 2, none⟩ = some (.int .i64 (q : Int)) := cell_of_block (i := 2) rs4 rfl
        clear hJ4 hk4 rs4
        gi_wp2
        refine ⟨fun _ => by omega, ?_⟩
        refine (R2.out k _ HJ4.out).mono ?_
        rintro e W5 (⟨rfl, hJ5, hk5⟩ | ⟨rfl, hJx5⟩)
        · have HJ5 := mkHid hJ5
          have HK5 := mkHid hk5
          clear hJ5 hk5
          gi_wp2
          go_roundw
          case rel => exact ⟨k + 1, HJ5, mkHid (HB.out.trans (HK4.out.trans HK5.out))⟩
          case measure =>
            have h1 := (mx_at (fun k => J (g + k * (d + q)) W5) N (k + 1) (by have := HLE.out _ _ HJ5.out; omega) HJ5.out).1
            have h2 := HLE.out _ _ HJ5.out
            have h3 := HKD.out
            have h4 := mx_le (fun k => J (g + k * (d + q)) W5) N
            omega
        · have HX := mkHid hJx5
          clear hJx5
          gi_wp2
          go_end0
          exact ⟨⟨_, rfl⟩, .inl ⟨fun h => h, HX.out⟩⟩
      · have HX := mkHid hJx4
        clear hJx4
        gi_wp2
        go_end0
        exact ⟨⟨_, rfl⟩, .inl ⟨fun h => h, HX.out⟩⟩
  · have HX := mkHid hJx3
    clear hJx3
    gi_wp2
    refine bodyPost_ret (results_none rfl _ _ _) rfl ?_
    exact ⟨⟨_, rfl⟩, .inl ⟨fun h => h, HX.out⟩⟩
end Go.Proofs.YtldfngkooilmnaaDoor
