/- Get: the entry of bytes. -/
import Derived.Test.YtjocjkfllicjdaaDoorOget3
namespace Go.Proofs.YtjocjkfllicjdaaDoor
open Go.ChangeShapes Go.WideShapes Go.ChangeAt Go.RowKit
set_option maxRecDepth 100000
attribute [local go_sem] World.cell?_alloc_some frozen_alloc_some

theorem tasks_of : ∀ (n : Nat) (M : List Int), M.length = 4 * n → ∃ ts : List Tk, ts.length = n ∧ ts.flatMap tnum = M
  | 0, M, h => ⟨[], rfl, (List.eq_nil_of_length_eq_zero (by omega)).symm⟩
  | n + 1, M, h => by
    match M, h with
    | a :: b :: c :: d :: M, h =>
      obtain ⟨ts, h1, h2⟩ := tasks_of n M (by simp at h; omega)
      exact ⟨(a, b, c, d) :: ts, by simp [h1], by simp [tnum, h2]⟩
    | [], h => simp at h
    | [_], h => simp at h; omega
    | [_, _], h => simp at h; omega
    | [_, _, _], h => simp at h; omega
theorem head_of (M : List Int) (h : M.length = 9) : ∃ cl nu ki tm id sk sq st po, M = [cl, nu, ki, tm, id, sk, sq, st, po] := by
  match M, h with
  | [a, b, c, d, e, f, g, h, i], _ => exact ⟨a, b, c, d, e, f, g, h, i, rfl⟩
abbrev zE : Value := .agg #[.int .i64 0, .int .i64 0, .int .i64 0, .int .i64 0, .int .i64 0, .int .i64 0, .int .i64 0, .int .i64 0, .slice none 0 0, .int .i64 0]
abbrev oZ : Obj := .cells #[.int .i64 0, .int .i64 0, .int .i64 0, .int .i64 0, .int .i64 0, .int .i64 0, .int .i64 0, .int .i64 0, .slice none 0 0, .int .i64 0] 28
theorem inF.okN {e : En} (h : inF e) : okN e := ⟨h.2.1.1, h.all⟩
theorem nums_pre {e f : En} (he : okN e) (hf : okN f) {s : List Int} (h : encL (nums e) = encL (nums f) ++ s) : e = f ∧ s = [] := by
  have hle := nums_len e
  have hlf := nums_len f
  have pe : ∀ n ∈ nums e, 0 ≤ n := fun n hn => (he.2 n hn).1
  have pf : ∀ n ∈ nums f, 0 ≤ n := fun n hn => (hf.2 n hn).1
  have p10 : ∀ {g : En}, nums g = (nums g).take 10 ++ (nums g).drop 10 := fun {g} => (List.take_append_drop 10 _).symm
  have h' := h
  rw [p10 (g := e), p10 (g := f), encL_append, encL_append, List.append_assoc] at h
  obtain ⟨h1, h2⟩ := encL_free _ _ _ _ (fun n hn => pe n (List.mem_of_mem_take hn)) (fun n hn => pf n (List.mem_of_mem_take hn)) (by simp [hle, hlf]) h
  have h9 : (e.ts.length : Int) = f.ts.length := by
    have e9 := nums_ten (a := e)
    have f9 := nums_ten (a := f)
    have x := congrArg (fun l => l[9]?) h1
    simp only [List.getElem?_take] at x
    rw [if_pos (by omega), if_pos (by omega), e9, f9] at x
    simpa using x
  have := encL_free (nums e) (nums f) [] s pe pf (by rw [hle, hlf]; omega) (by simpa using h')
  exact ⟨nums_inj this.1, this.2.symm⟩
/-- What Get answers: the entry that has these bytes, in new memory; or an error. -/
def GetPost (w : World) (bs : List Int) (ea : Addr) (r : Ending) (w' : World) : Prop :=
  (∃ t : Ep, inF t.1 ∧ bs = bytesE t.1 ∧ r = .returned (.tuple #[vP t, .nilIface]) ∧ w'.ownsRow w.heap.size 45 4 (tv t) t.1.ts.length (t.1.ts.flatMap c4) ∧ Below w.heap.size w w') ∨
  ((∀ e, inF e → bs ≠ bytesE e) ∧ r = .returned (.tuple #[zE, vErr ea]) ∧ Below w.heap.size w w')
theorem dh {W : World} {R : Nat} {o : Obj} (h : W.heap[R]? = some o) : W.drew.heap[R]? = some o := h
theorem lt_of_heap {w : World} {k : Nat} {o : Obj} (h : w.heap[k]? = some o) : k < w.heap.size := (Array.getElem?_eq_some_iff.mp h).1
theorem set10_below {w W : World} (h : Below w.heap.size w W) {b : Nat} (hb : w.heap.size ≤ b) (v0 v1 v2 v3 v4 v5 v6 v7 v8 v9 : Value) : Below w.heap.size w (set10 W b v0 v1 v2 v3 v4 v5 v6 v7 v8 v9) :=
  (set10_kept (kept_of_below h) (.inl hb) v0 v1 v2 v3 v4 v5 v6 v7 v8 v9).below (fun _ h => h) (Nat.le_refl _)
theorem own4_below {w w' : World} {b : Nat} {e : TypeId} {v : Value} {n : Nat} {xs : List Value} (h : w.ownsRow b e 4 v n xs) (hb : Below w.heap.size w w') : w'.ownsRow b e 4 v n xs :=
  own4_kept h (kept_of_below hb) (fun k e hge => by have := (h.lt k e).2; omega)
end Go.Proofs.YtjocjkfllicjdaaDoor
