/- How an array of two 64-bit integers that comes in by value is read, and read again. -/
import Derived.Test.YtakdkoocbekbgabCross
import Derived.WideKeyPair
namespace Go.Proofs.Ytakdkoocbekbgab
open Go.ChangeShapes Go.WideShapes Go.ChangeAt Go.RowKit

theorem Try.own : ownKnob Try.prog.godebug = none := by kernel_rfl
theorem Try.pairKey : Go.WideMaps.ArrKey Try.prog 22 3 2 := ⟨Try.underlying22, by kernel_rfl, by kernel_rfl, by kernel_rfl⟩
theorem i64_of_wf {x : Int} (h : (Lit.int .i64 x).wf = true) : I64 x := ⟨(bounds_i64 h).1, (bounds_i64 h).2⟩
theorem wf_of_i64 {x : Int} (h : I64 x) : (Lit.int .i64 x).wf = true := by
  have := h.lo; have := h.hi
  simp [Lit.wf, IntKind.min, IntKind.max, IntKind.signed, IntKind.bits]
  omega
theorem open_two {H : Type} {enc : TypeId × Value → H} {w : World} {base : Nat} {sp : Nat → Bool} {held : Bool} {r : Reach} {b0 : Nat} {v : Value} {d : DataW H} {ps : List MemPlace}
    (hval : Value.okWide Try.prog w r b0 22 v) (hd : DataW.Trod enc Try.prog w base sp held 22 v d ps) :
    ∃ a b : Int, v = .agg #[.int .i64 a, .int .i64 b] ∧ d = .agg [.lit (.int .i64 a), .lit (.int .i64 b)] ∧ ps = [] ∧ I64 a ∧ I64 b := by
  obtain ⟨a, b, e1, e2, e3, wa, wb⟩ := Go.WideMaps.open_pair Try.pairKey Try.underlying3 hval hd
  exact ⟨a, b, e1, e2, e3, i64_of_wf wa, i64_of_wf wb⟩
theorem shut_two {H : Type} {enc : TypeId × Value → H} {w : World} {base : Nat} {sp : Nat → Bool} {held : Bool} {a b : Int} (wa : I64 a) (wb : I64 b) :
    DataW.Trod enc Try.prog w base sp held 22 (.agg #[.int .i64 a, .int .i64 b]) (.agg [.lit (.int .i64 a), .lit (.int .i64 b)]) [] :=
  Go.WideMaps.shut_pair Try.pairKey Try.underlying3 (wf_of_i64 wa) (wf_of_i64 wb)
end Go.Proofs.Ytakdkoocbekbgab
