/- How an array of four 64-bit integers that comes in by value is read, and read again. -/
import Derived.Test.YtakdkoocbekbgaaOpen
import Derived.Test.YtakdkoocbekbgaaCross
namespace Go.Proofs.Ytakdkoocbekbgaa
open Go.ChangeShapes Go.WideShapes Go.ChangeAt Go.RowKit Go.Joins

theorem i64_of_wf4 {x : Int} (h : (Lit.int .i64 x).wf = true) : I64 x := ⟨(bounds_i64 h).1, (bounds_i64 h).2⟩
theorem wf_of_i64' {x : Int} (h : I64 x) : (Lit.int .i64 x).wf = true := by
  have := h.lo; have := h.hi
  simp [Lit.wf, IntKind.min, IntKind.max, IntKind.signed, IntKind.bits]
  omega
theorem Try.cellsFour : Try.prog.cellsOf 50 = 4 := by kernel_rfl
theorem Try.cellsInt4 : Try.prog.cellsOf 3 = 1 := by kernel_rfl
theorem array4 {cs : Array Value} (h : cs.size = 4) : ∃ c0 c1 c2 c3, cs = #[c0, c1, c2, c3] := by
  obtain ⟨l⟩ := cs
  match l, h with
  | [c0, c1, c2, c3], _ => exact ⟨_, _, _, _, rfl⟩
theorem open_four {H : Type} {enc : TypeId × Value → H} {w : World} {base : Nat} {sp : Nat → Bool} {held : Bool} {r : Reach} {b0 : Nat} {v : Value} {d : DataW H} {ps : List MemPlace} (hval : Value.okWide Try.prog w r b0 50 v) (hd : DataW.Trod enc Try.prog w base sp held 50 v d ps) :
    ∃ a b c e : Int, v = .agg #[.int .i64 a, .int .i64 b, .int .i64 c, .int .i64 e] ∧ d = .agg [.lit (.int .i64 a), .lit (.int .i64 b), .lit (.int .i64 c), .lit (.int .i64 e)] ∧ ps = [] ∧ I64 a ∧ I64 b ∧ I64 c ∧ I64 e := by
  simp only [Value.okWide, Try.underlying50] at hval
  obtain ⟨cs, rfl, h2, _⟩ := hval
  rw [Try.cellsFour] at h2
  obtain ⟨c0, c1, c2, c3, rfl⟩ := array4 h2
  obtain ⟨fuel, hf⟩ := hd
  cases fuel with
  | zero => simp [DataW.trod] at hf
  | succ n =>
    unfold DataW.trod at hf
    simp [Try.underlying50, Try.cellsFour, Try.cellsInt4, Value.cells, List.range, List.range.loop, List.mapM_cons, List.mapM_nil, Option.bind_eq_some_iff] at hf
    obtain ⟨d0, p0, g0, _, ⟨d1, p1, g1, _, ⟨d2, p2, g2, _, ⟨d3, p3, g3, rfl⟩, rfl⟩, rfl⟩, rfl, rfl⟩ := hf
    obtain ⟨a, ea, fa, wa⟩ := DataW.trod_int Try.underlying3 g0
    obtain ⟨b, eb, fb, wb⟩ := DataW.trod_int Try.underlying3 g1
    obtain ⟨c, ec, fc, wc⟩ := DataW.trod_int Try.underlying3 g2
    obtain ⟨e, ee, fe, we⟩ := DataW.trod_int Try.underlying3 g3
    simp at ea eb ec ee fa fb fc fe
    obtain ⟨rfl, rfl⟩ := fa
    obtain ⟨rfl, rfl⟩ := fb
    obtain ⟨rfl, rfl⟩ := fc
    obtain ⟨rfl, rfl⟩ := fe
    subst ea eb ec ee
    exact ⟨a, b, c, e, rfl, by simp, by simp, i64_of_wf4 wa, i64_of_wf4 wb, i64_of_wf4 wc, i64_of_wf4 we⟩
theorem shut_four {H : Type} {enc : TypeId × Value → H} {w : World} {base : Nat} {sp : Nat → Bool} {held : Bool} {a b c e : Int} (wa : I64 a) (wb : I64 b) (wc : I64 c) (we : I64 e) :
    DataW.Trod enc Try.prog w base sp held 50 (.agg #[.int .i64 a, .int .i64 b, .int .i64 c, .int .i64 e]) (.agg [.lit (.int .i64 a), .lit (.int .i64 b), .lit (.int .i64 c), .lit (.int .i64 e)]) [] := by
  refine ⟨2, ?_⟩
  simp [DataW.trod, Try.underlying50, Try.underlying3, Try.cellsFour, Try.cellsInt4, Value.cells, List.range, List.range.loop, List.mapM_cons, List.mapM_nil, wf_of_i64' wa, wf_of_i64' wb, wf_of_i64' wc, wf_of_i64' we]
end Go.Proofs.Ytakdkoocbekbgaa
