/- Package supply: Row. -/
import Derived.Test.YtldfngkooilmnaaDoorRowIt3
namespace Go.Proofs.YtldfngkooilmnaaDoor
open Go.ChangeShapes Go.WideShapes Go.ChangeAt Go.RowKit Go.Shelf

attribute [local go_sem] Oper.semAt_some
set_option maxHeartbeats 3200000 in
theorem row1_no (F : Fence) (n m : Nat) (hf1 : F.fn 26) (hf2 : F.fn 27) (hro : F.round = none) (enc : Nat → Array Value) (n₀ Be Bs : Nat) (a : Addr) (w0 : World) (he : w0.cell? ⟨Be, 0, none⟩ = some (vE a)) (hBe : Be < n₀) :
    RowIt F n m Tryd.prog 26 #[.pointer (some ⟨Be, 0, none⟩), .pointer (some ⟨Bs, 0, none⟩)] enc n₀ True w0 := by
  intro l N J Jx W hW hN hY h0
  refine callsIn_of_wp Tryd.func26 rfl hf1 ?_ hro
  simp only [Tryd.ntmps26, List.size_toArray, List.length_cons, List.length_nil, Nat.reduceAdd, Nat.reduceSub, Array.replicate_succ, Array.replicate_zero, List.push_toArray, List.append_toArray, List.nil_append, List.cons_append]
  have ce : W.cell? ⟨Be, 0, none⟩ = some (vE a) := (hW.cell (p := ⟨Be, 0, none⟩) hBe).trans he
  have H0 := mkHid h0
  clear hW hN hY h0 he
  gi_wp2
  refine bodyPost_ret (results_none rfl _ _ _) rfl ?_
  exact ⟨⟨_, rfl⟩, .inr ⟨trivial, H0.out⟩⟩
/-- What Row answers: a function over the shape and the error, in new blocks. -/
def RowPost (w : World) (G D Q : Int) (ev : Value) (e : Ending) (w' : World) : Prop :=
  ∃ Be Bs, e = .returned (.func (.func 26) #[] #[.pointer (some ⟨Be, 0, none⟩), .pointer (some ⟨Bs, 0, none⟩)]) ∧ Below w.heap.size w w' ∧ w'.cell? ⟨Be, 0, none⟩ = some ev ∧ w'.heap[Bs]? = some (.cells #[.int .i64 G, .int .i64 D, .int .i64 Q] 41 (0, 0))
set_option maxHeartbeats 3200000 in
theorem row_is (w : World) (s : Sv) (G D Q : Int) (ev : Value) (hev : ev = .nilIface ∨ ∃ a, ev = vE a) (H : ShapeIs w s G D Q ev) : Calls Tryd.prog 16 #[vS s] w (RowPost w G D Q ev) := by
  obtain ⟨k, q, t⟩ := s
  have HS := mkHid H
  clear H
  rcases hev with rfl | ⟨a, rfl⟩
  all_goals
    go_enter Tryd.func16, Tryd.ntmps16
    go_wp2_with (go_at_call 19; refine (HS.out _).mono ?_; rintro e w3 ⟨rfl, hb3⟩; have HB := mkHid (new_last hb3).2; clear hb3)
    go_ret
    exact ⟨_, _, rfl, ba (ba HB.out _) _, cell_of_block (new_two (Below.refl _ _)).2.1 rfl, (new_two (Below.refl _ _)).1⟩
end Go.Proofs.YtldfngkooilmnaaDoor
