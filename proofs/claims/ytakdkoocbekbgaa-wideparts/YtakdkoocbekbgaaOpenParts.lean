/- How a fraction and two quotients that come in by value are read, and read again. -/
import Derived.Test.YtakdkoocbekbgaaOpen
import Derived.Test.YtakdkoocbekbgaaCross
namespace Go.Proofs.Ytakdkoocbekbgaa
open Go.ChangeShapes Go.WideShapes Go.ChangeAt Go.RowKit Go.Joins

theorem i64_of_wf {x : Int} (h : (Lit.int .i64 x).wf = true) : I64 x := ⟨(bounds_i64 h).1, (bounds_i64 h).2⟩
theorem wf_of_i64 {x : Int} (h : I64 x) : (Lit.int .i64 x).wf = true := by
  have := h.lo; have := h.hi
  simp [Lit.wf, IntKind.min, IntKind.max, IntKind.signed, IntKind.bits]
  omega
theorem Try.cellsPart : Try.prog.cellsOf 41 = 4 := by kernel_rfl
theorem Try.cellsParts : Try.prog.cellsOf 43 = 8 := by kernel_rfl
theorem Try.cellsInt : Try.prog.cellsOf 3 = 1 := by kernel_rfl
theorem Try.cellsU64 : Try.prog.cellsOf 22 = 1 := by kernel_rfl
theorem trod_wide {H : Type} {enc : TypeId × Value → H} {w : World} {base : Nat} {sp : Nat → Bool} {held : Bool} {fuel : Nat} {c0 c1 : Value} {x : DataW H × List MemPlace} (h : DataW.trod enc Try.prog w base sp held fuel 24 [c0, c1] = some x) :
    ∃ a b : Int, c0 = .int .u64 a ∧ c1 = .int .u64 b ∧ x = (.agg [.lit (.int .u64 a), .lit (.int .u64 b)], []) ∧ Word a ∧ Word b := by
  obtain ⟨y0, y1, n, rfl, _, h0, h1⟩ := trod_struct2 Try.underlying24 h
  simp [Try.cellsU64] at h0 h1
  obtain ⟨a, e0, rfl, wa⟩ := DataW.trod_int Try.underlying22 h0
  obtain ⟨b, e1, rfl, wb⟩ := DataW.trod_int Try.underlying22 h1
  simp at e0 e1
  exact ⟨a, b, e0, e1, by simp, word_of_wf wa, word_of_wf wb⟩
theorem trod_part {H : Type} {enc : TypeId × Value → H} {w : World} {base : Nat} {sp : Nat → Bool} {held : Bool} {fuel : Nat} {c0 c1 c2 c3 : Value} {x : DataW H × List MemPlace} (h : DataW.trod enc Try.prog w base sp held fuel 41 [c0, c1, c2, c3] = some x) :
    ∃ a b c d : Int, c0 = .int .u64 a ∧ c1 = .int .u64 b ∧ c2 = .int .u64 c ∧ c3 = .int .u64 d ∧ x = (.agg [.agg [.lit (.int .u64 a), .lit (.int .u64 b)], .agg [.lit (.int .u64 c), .lit (.int .u64 d)]], []) ∧ Word a ∧ Word b ∧ Word c ∧ Word d := by
  obtain ⟨y0, y1, n, rfl, _, h0, h1⟩ := trod_struct2 Try.underlying41 h
  simp [Try.cellsWide] at h0 h1
  obtain ⟨a, b, e0, e1, rfl, wa, wb⟩ := trod_wide h0
  obtain ⟨c, d, e2, e3, rfl, wc, wd⟩ := trod_wide h1
  exact ⟨a, b, c, d, e0, e1, e2, e3, by simp, wa, wb, wc, wd⟩
theorem array8 {cs : Array Value} (h : cs.size = 8) : ∃ c0 c1 c2 c3 c4 c5 c6 c7, cs = #[c0, c1, c2, c3, c4, c5, c6, c7] := by
  obtain ⟨l⟩ := cs
  match l, h with
  | [c0, c1, c2, c3, c4, c5, c6, c7], _ => exact ⟨_, _, _, _, _, _, _, _, rfl⟩
theorem list5 {α : Type} {l : List α} (h : l.length = 5) : ∃ y0 y1 y2 y3 y4, l = [y0, y1, y2, y3, y4] := by
  match l, h with
  | [y0, y1, y2, y3, y4], _ => exact ⟨_, _, _, _, _, rfl⟩
theorem open_parts {H : Type} {enc : TypeId × Value → H} {w : World} {base : Nat} {sp : Nat → Bool} {held : Bool} {r : Reach} {b0 : Nat} {v : Value} {d : DataW H} {ps : List MemPlace} (hval : Value.okWide Try.prog w r b0 43 v) (hd : DataW.Trod enc Try.prog w base sp held 43 v d ps) :
    ∃ nh nl dh dl q t a b : Int, v = .agg #[.int .u64 nh, .int .u64 nl, .int .u64 dh, .int .u64 dl, .int .i64 q, .int .i64 t, .int .i64 a, .int .i64 b] ∧
      d = .agg [.agg [.agg [.lit (.int .u64 nh), .lit (.int .u64 nl)], .agg [.lit (.int .u64 dh), .lit (.int .u64 dl)]], .lit (.int .i64 q), .lit (.int .i64 t), .lit (.int .i64 a), .lit (.int .i64 b)] ∧ ps = [] ∧
      Word nh ∧ Word nl ∧ Word dh ∧ Word dl ∧ I64 q ∧ I64 t ∧ I64 a ∧ I64 b := by
  obtain ⟨cs, rfl, hsz⟩ := okWide_struct Try.underlying43 hval
  rw [Try.cellsParts] at hsz
  obtain ⟨c0, c1, c2, c3, c4, c5, c6, c7, rfl⟩ := array8 hsz
  obtain ⟨fuel, hf⟩ := hd
  obtain ⟨xs, n, _, hx, _, hlen, hfs⟩ := DataW.trod_struct Try.underlying43 hf
  obtain ⟨y0, y1, y2, y3, y4, rfl⟩ := list5 hlen
  have h0 := hfs 0 _ rfl
  have h1 := hfs 1 _ rfl
  have h2 := hfs 2 _ rfl
  have h3 := hfs 3 _ rfl
  have h4 := hfs 4 _ rfl
  simp [Value.cells, Try.cellsPart, Try.cellsInt] at h0 h1 h2 h3 h4
  obtain ⟨nh, nl, dh, dl, rfl, rfl, rfl, rfl, rfl, w0, w1, w2, w3⟩ := trod_part h0
  obtain ⟨q, e1, rfl, wq⟩ := DataW.trod_int Try.underlying3 h1
  obtain ⟨t, e2, rfl, wt⟩ := DataW.trod_int Try.underlying3 h2
  obtain ⟨a, e3, rfl, wa⟩ := DataW.trod_int Try.underlying3 h3
  obtain ⟨b, e4, rfl, wb⟩ := DataW.trod_int Try.underlying3 h4
  simp at e1 e2 e3 e4
  subst e1 e2 e3 e4
  simp at hx
  obtain ⟨rfl, rfl⟩ := hx
  exact ⟨nh, nl, dh, dl, q, t, a, b, rfl, rfl, rfl, w0, w1, w2, w3, i64_of_wf wq, i64_of_wf wt, i64_of_wf wa, i64_of_wf wb⟩
theorem mk_wide {H : Type} {enc : TypeId × Value → H} {w : World} {base : Nat} {sp : Nat → Bool} {held : Bool} {n : Nat} {a b : Int} (wa : Word a) (wb : Word b) : DataW.trod enc Try.prog w base sp held (n + 2) 24 [.int .u64 a, .int .u64 b] = some (.agg [.lit (.int .u64 a), .lit (.int .u64 b)], []) := by
  have := trod_struct2_mk (enc := enc) (w := w) (base := base) (spare := sp) (held := held) (n := n + 1) (cs := [.int .u64 a, .int .u64 b]) (y0 := (.lit (.int .u64 a), [])) (y1 := (.lit (.int .u64 b), [])) Try.underlying24 (by rw [Try.cellsWide]; rfl)
    (by simp [Try.cellsU64, DataW.trod, Try.underlying22, wf_of_word wa]) (by simp [Try.cellsU64, DataW.trod, Try.underlying22, wf_of_word wb])
  simpa using this
theorem mk_part {H : Type} {enc : TypeId × Value → H} {w : World} {base : Nat} {sp : Nat → Bool} {held : Bool} {n : Nat} {a b c d : Int} (wa : Word a) (wb : Word b) (wc : Word c) (wd : Word d) : DataW.trod enc Try.prog w base sp held (n + 3) 41 [.int .u64 a, .int .u64 b, .int .u64 c, .int .u64 d] = some (.agg [.agg [.lit (.int .u64 a), .lit (.int .u64 b)], .agg [.lit (.int .u64 c), .lit (.int .u64 d)]], []) := by
  have := trod_struct2_mk (enc := enc) (w := w) (base := base) (spare := sp) (held := held) (n := n + 2) (cs := [.int .u64 a, .int .u64 b, .int .u64 c, .int .u64 d]) (y0 := (.agg [.lit (.int .u64 a), .lit (.int .u64 b)], [])) (y1 := (.agg [.lit (.int .u64 c), .lit (.int .u64 d)], [])) Try.underlying41 (by rw [Try.cellsPart]; rfl)
    (by simp [Try.cellsWide]; exact mk_wide wa wb) (by simp [Try.cellsWide]; exact mk_wide wc wd)
  simpa using this
theorem shut_parts {H : Type} {enc : TypeId × Value → H} {w : World} {base : Nat} {sp : Nat → Bool} {held : Bool} {nh nl dh dl q t a b : Int} (w0 : Word nh) (w1 : Word nl) (w2 : Word dh) (w3 : Word dl) (wq : I64 q) (wt : I64 t) (wa : I64 a) (wb : I64 b) :
    DataW.Trod enc Try.prog w base sp held 43 (.agg #[.int .u64 nh, .int .u64 nl, .int .u64 dh, .int .u64 dl, .int .i64 q, .int .i64 t, .int .i64 a, .int .i64 b])
      (.agg [.agg [.agg [.lit (.int .u64 nh), .lit (.int .u64 nl)], .agg [.lit (.int .u64 dh), .lit (.int .u64 dl)]], .lit (.int .i64 q), .lit (.int .i64 t), .lit (.int .i64 a), .lit (.int .i64 b)]) [] := by
  have hp : DataW.trod enc Try.prog w base sp held 3 41 [.int .u64 nh, .int .u64 nl, .int .u64 dh, .int .u64 dl] = some (.agg [.agg [.lit (.int .u64 nh), .lit (.int .u64 nl)], .agg [.lit (.int .u64 dh), .lit (.int .u64 dl)]], []) := mk_part (n := 0) w0 w1 w2 w3
  have hi : ∀ z : Int, I64 z → DataW.trod enc Try.prog w base sp held 3 3 [.int .i64 z] = some (.lit (.int .i64 z), []) := fun z hz => by simp [DataW.trod, Try.underlying3, wf_of_i64 hz]
  have := trod_struct_mk (enc := enc) (w := w) (base := base) (spare := sp) (held := held) (n := 3) (cs := [.int .u64 nh, .int .u64 nl, .int .u64 dh, .int .u64 dl, .int .i64 q, .int .i64 t, .int .i64 a, .int .i64 b])
    (xs := [(.agg [.agg [.lit (.int .u64 nh), .lit (.int .u64 nl)], .agg [.lit (.int .u64 dh), .lit (.int .u64 dl)]], []), (.lit (.int .i64 q), []), (.lit (.int .i64 t), []), (.lit (.int .i64 a), []), (.lit (.int .i64 b), [])]) Try.underlying43 (by rw [Try.cellsParts]; rfl)
    (by simp [Try.cellsPart, Try.cellsInt, hp, hi q wq, hi t wt, hi a wa, hi b wb])
  exact ⟨_, by simpa [Value.cells] using this⟩
end Go.Proofs.Ytakdkoocbekbgaa
