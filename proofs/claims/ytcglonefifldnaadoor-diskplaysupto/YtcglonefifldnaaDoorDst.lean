/- A disk in memory; New, refused and what a disk tells. -/
import Derived.Test.YtcglonefifldnaaDoorDlay
import Derived.Test.YtcglonefifldnaaDoorSrc65
namespace Go.Proofs.YtcglonefifldnaaDoor
open Go.ChangeShapes Go.WideShapes Go.ChangeAt Go.RowKit

def wcell (x : Int × List Int) : List Value := .int .i64 x.1 :: scells x.2
def wcells (c : List (Int × List Int)) : List Value := c.flatMap wcell
theorem wcell_one (x : Int × List Int) : ∀ v ∈ wcell x, v.oneCell' = true := by
  intro v hv
  simp only [wcell, List.mem_cons] at hv
  rcases hv with rfl | hv
  · rfl
  · exact scells_one _ v hv
theorem wcell_len {x : Int × List Int} (h : Sec x.2) : (wcell x).length = 65 := by simp [wcell, h.slen]
theorem wcells_append (a b : List (Int × List Int)) : wcells (a ++ b) = wcells a ++ wcells b := by simp [wcells]
theorem wcells_len (c : List (Int × List Int)) (h : ∀ x ∈ c, Sec x.2) : (wcells c).length = c.length * 65 := by
  induction c with
  | nil => rfl
  | cons x r ih =>
    have h1 := ih (fun y hy => h y (by simp [hy]))
    have h2 := wcell_len (h x (by simp))
    simp only [wcells, List.flatMap_cons, List.length_append, List.length_cons] at h1 h2 ⊢
    omega
theorem wcells_at (c : List (Int × List Int)) (h : ∀ x ∈ c, Sec x.2) (k : Nat) (x : Int × List Int) (hx : c[k]? = some x) (j : Nat) (v : Value) (hj : (wcell x)[j]? = some v) : (wcells c)[k * 65 + j]? = some v := by
  induction c generalizing k with
  | nil => simp at hx
  | cons y r ih =>
    have hy := wcell_len (h y (by simp))
    cases k with
    | zero =>
      simp at hx
      subst hx
      have hjl := (List.getElem?_eq_some_iff.mp hj).1
      simp only [wcells, List.flatMap_cons]
      rw [List.getElem?_append_left (by omega)]
      simpa using hj
    | succ k =>
      have := ih (fun z hz => h z (by simp [hz])) k (by simpa using hx)
      simp only [wcells, List.flatMap_cons] at this ⊢
      rw [List.getElem?_append_right (by omega), hy, show (k + 1) * 65 + j - 65 = k * 65 + j by omega]
      exact this
/-- A disk of n sectors at block p: what is safe, what waits in the cache, how many writes there were, whether it is lost. -/
def Dk (F : Nat → Prop) (w : World) (p : Nat) (n : Int) (f : Int → List Int) (c : List (Int × List Int)) (nw : Int) (lost : Bool) : Prop :=
  (∀ k, F k → k < w.heap.size) ∧ F p ∧ (∀ x ∈ c, Sec x.2) ∧ ∃ mb cv, F mb ∧ p ≠ mb ∧ w.heap[p]? = some (.cells #[.int .i64 n, .map (some mb), cv, .int .i64 nw, .bool lost] 58 (0, 0)) ∧ Ms w mb f ∧ (∀ k, cv.ownBlock = some k → F k ∧ k ≠ p ∧ k ≠ mb) ∧ w.ownsRow 0 67 65 cv c.length (wcells c)
theorem own_keep65 {w : World} {w' : World} {G : Nat → Prop} {base : Nat} {e : TypeId} {v : Value} {m : Nat} {xs : List Value} (h : w.ownsRow base e 65 v m xs) (hk : Kept G w w') (hn : ∀ k, v.ownBlock = some k → ¬ G k) : w'.ownsRow base e 65 v m xs := by
  refine ⟨h.1, h.2.imp id ?_⟩
  rintro ⟨g, cap, cur, rfl, hb, hg, rest⟩
  exact ⟨g, cap, cur, rfl, hb, by rw [hk.block g (Array.getElem?_eq_some_iff.1 hg).1 (hn g rfl)]; exact hg, rest⟩
theorem Dk.kept {F : Nat → Prop} {w : World} {w' : World} {p : Nat} {n : Int} {f : Int → List Int} {c : List (Int × List Int)} {nw : Int} {lost : Bool} {G : Nat → Prop} (h : Dk F w p n f c nw lost) (hk : Kept G w w') (hn : ∀ k, F k → ¬ G k) : Dk F w' p n f c nw lost := by
  obtain ⟨hF, hp, hc, mb, cv, hmb, hpm, hd, hM, hcv, ho⟩ := h
  exact ⟨fun k hf => Nat.lt_of_lt_of_le (hF k hf) hk.size, hp, hc, mb, cv, hmb, hpm, by rw [hk.block p (hF p hp) (hn p hp)]; exact hd, hM.kept hk (hn mb hmb), hcv, own_keep65 ho hk (fun k e => hn k (hcv k e).1)⟩
theorem Dk.below {F : Nat → Prop} {w : World} {w' : World} {p : Nat} {n : Int} {f : Int → List Int} {c : List (Int × List Int)} {nw : Int} {lost : Bool} (h : Dk F w p n f c nw lost) (hb : Below w.heap.size w w') : Dk F w' p n f c nw lost :=
  h.kept (kept_of_below hb) (fun k hf hge => by have := h.1 k hf; omega)
theorem Dk.cells {F : Nat → Prop} {w : World} {p : Nat} {n : Int} {f : Int → List Int} {c : List (Int × List Int)} {nw : Int} {lost : Bool} (h : Dk F w p n f c nw lost) : w.cell? ⟨p, 0, none⟩ = some (.int .i64 n) ∧ w.cell? ⟨p, 3, none⟩ = some (.int .i64 nw) ∧ w.cell? ⟨p, 4, none⟩ = some (.bool lost) ∧ (∃ a cap, w.cell? ⟨p, 2, none⟩ = some (.slice a c.length cap)) ∧ ∀ k, w.frozen? ⟨p, k, none⟩ = false := by
  obtain ⟨hF, hp, hc, mb, cv, hmb, hpm, hd, hM, hcv, ho⟩ := h
  refine ⟨cell_of_block hd rfl, cell_of_block hd rfl, cell_of_block hd rfl, ?_, fun k => frozen_of_block hd⟩
  rcases ho.2 with ⟨rfl, h0⟩ | ⟨g, cap, _, rfl, _⟩
  · exact ⟨none, 0, by rw [h0]; exact cell_of_block hd rfl⟩
  · exact ⟨_, _, cell_of_block hd rfl⟩
theorem refused_ok (F : Nat → Prop) (w : World) (p : Nat) (n : Int) (f : Int → List Int) (c : List (Int × List Int)) (nw i : Int) (h : Dk F w p n f c nw false) (h0 : 0 ≤ i) (hi : i < n) :
    Calls Tryd.prog 28 #[.pointer (some ⟨p, 0, none⟩), .int .i64 i] w fun e w' => e = .returned .nilIface ∧ w' = w := by
  obtain ⟨c0, c3, c4, _, _⟩ := h.cells
  have a1 : ¬ i < 0 := by omega
  have a2 : ¬ n ≤ i := by omega
  go_enter Tryd.func28, Tryd.ntmps28
  go_wp2
  go_ret
  exact ⟨rfl, rfl⟩
theorem refused_num (F : Nat → Prop) (w : World) (p : Nat) (n : Int) (f : Int → List Int) (c : List (Int × List Int)) (nw i : Int) (ev : Value) (h : Dk F w p n f c nw false) (he : w.cell? ⟨0, 0, none⟩ = some ev) (hi : ¬ (0 ≤ i ∧ i < n)) :
    Calls Tryd.prog 28 #[.pointer (some ⟨p, 0, none⟩), .int .i64 i] w fun e w' => e = .returned ev ∧ w' = w := by
  obtain ⟨c0, c3, c4, _, _⟩ := h.cells
  by_cases a1 : i < 0
  · go_enter Tryd.func28, Tryd.ntmps28
    go_wp2
    go_ret
    exact ⟨rfl, rfl⟩
  · have a2 : n ≤ i := by omega
    go_enter Tryd.func28, Tryd.ntmps28
    go_wp2
    go_ret
    exact ⟨rfl, rfl⟩
theorem refused_lost (F : Nat → Prop) (w : World) (p : Nat) (n : Int) (f : Int → List Int) (c : List (Int × List Int)) (nw i : Int) (ev : Value) (h : Dk F w p n f c nw true) (he : w.cell? ⟨8, 0, none⟩ = some ev) :
    Calls Tryd.prog 28 #[.pointer (some ⟨p, 0, none⟩), .int .i64 i] w fun e w' => e = .returned ev ∧ w' = w := by
  obtain ⟨c0, c3, c4, _, _⟩ := h.cells
  go_enter Tryd.func28, Tryd.ntmps28
  go_wp2
  go_ret
  exact ⟨rfl, rfl⟩
theorem waiting_any (F : Nat → Prop) (w : World) (p : Nat) (n : Int) (f : Int → List Int) (c : List (Int × List Int)) (nw : Int) (lost : Bool) (h : Dk F w p n f c nw lost) :
    Calls Tryd.prog 12 #[.pointer (some ⟨p, 0, none⟩)] w fun e w' => e = .returned (.int .i64 (c.length : Int)) ∧ w' = w := by
  obtain ⟨c0, c3, c4, ⟨a, cap, c2⟩, _⟩ := h.cells
  go_enter Tryd.func12, Tryd.ntmps12
  go_wp2
  go_ret
  exact ⟨rfl, rfl⟩
theorem writes_is (F : Nat → Prop) (w : World) (p : Nat) (n : Int) (f : Int → List Int) (c : List (Int × List Int)) (nw : Int) (lost : Bool) (h : Dk F w p n f c nw lost) :
    Calls Tryd.prog 13 #[.pointer (some ⟨p, 0, none⟩)] w fun e w' => e = .returned (.int .i64 nw) ∧ w' = w := by
  obtain ⟨c0, c3, c4, _, _⟩ := h.cells
  go_enter Tryd.func13, Tryd.ntmps13
  go_wp2
  go_ret
  exact ⟨rfl, rfl⟩
theorem lost_is (F : Nat → Prop) (w : World) (p : Nat) (n : Int) (f : Int → List Int) (c : List (Int × List Int)) (nw : Int) (lost : Bool) (h : Dk F w p n f c nw lost) :
    Calls Tryd.prog 14 #[.pointer (some ⟨p, 0, none⟩)] w fun e w' => e = .returned (.bool lost) ∧ w' = w := by
  obtain ⟨c0, c3, c4, _, _⟩ := h.cells
  go_enter Tryd.func14, Tryd.ntmps14
  go_wp2
  go_ret
  exact ⟨rfl, rfl⟩
theorem sectors_is (F : Nat → Prop) (w : World) (p : Nat) (n : Int) (f : Int → List Int) (c : List (Int × List Int)) (nw : Int) (lost : Bool) (h : Dk F w p n f c nw lost) :
    Calls Tryd.prog 15 #[.pointer (some ⟨p, 0, none⟩)] w fun e w' => e = .returned (.int .i64 n) ∧ w' = w := by
  obtain ⟨c0, c3, c4, _, _⟩ := h.cells
  go_enter Tryd.func15, Tryd.ntmps15
  go_wp2
  go_ret
  exact ⟨rfl, rfl⟩
set_option maxHeartbeats 3200000 in
theorem dnew_ok (w : World) (n : Int) (h1 : 1 ≤ n) (h2 : n ≤ 1024) :
    Calls Tryd.prog 8 #[.int .i64 n] w fun e w' => ∃ p F, e = .returned (.tuple #[.pointer (some ⟨p, 0, none⟩), .nilIface]) ∧ Dk F w' p n (fun _ => zeros) [] 0 false ∧ (∀ k, F k → w.heap.size ≤ k) ∧ Below w.heap.size w w' := by
  have hmm := @run_makeMap Tryd.prog
  have a1 : ¬ n < 1 := by omega
  have a2 : ¬ 1024 < n := by omega
  go_enter Tryd.func8, Tryd.ntmps8
  go_wp2
  go_ret2
  have hM : Ms ((w.alloc (Obj.map #[] 0)).alloc (Obj.cells #[Value.int IntKind.i64 n, Value.map (some w.heap.size), Value.slice none 0 0, Value.int IntKind.i64 0, Value.bool false] 58)) w.heap.size (fun _ => zeros) :=
    ⟨fun _ => zeros_sec, #[], 0, by rw [heap_alloc_old _ _ (by simp)]; exact heap_alloc_new w _, fun e he => by simp at he, fun _ => rfl⟩
  refine ⟨w.heap.size + 1, rfl, fun k => w.heap.size ≤ k ∧ k ≤ w.heap.size + 1, ⟨fun k hk => by simp; omega, ⟨by omega, Nat.le_refl _⟩, fun x hx => by simp at hx, w.heap.size, .slice none 0 0, ⟨Nat.le_refl _, by omega⟩, by omega, ?_, hM, fun k hk => by simp [Value.ownBlock] at hk, World.ownsRow_nil _ _ _ _⟩, fun k hk => hk.1, ((Below.refl _ w).alloc (Nat.le_refl _) _).alloc (by simp) _⟩
  have := heap_alloc_new (w.alloc (Obj.map #[] 0)) (Obj.cells #[Value.int IntKind.i64 n, Value.map (some w.heap.size), Value.slice none 0 0, Value.int IntKind.i64 0, Value.bool false] 58)
  simpa using this
end Go.Proofs.YtcglonefifldnaaDoor
