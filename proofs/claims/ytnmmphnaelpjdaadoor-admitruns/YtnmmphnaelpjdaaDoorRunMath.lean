/- Servers that run by earliest deadline, tick by tick: what holds at a tick's beginning, behind its releases, and at its end. -/
import Derived.Test.YtnmmphnaelpjdaaDoorEdfMath
namespace Go.Proofs.YtnmmphnaelpjdaaDoor

/-- The servers of a list, as numbers. -/
def Srv (xs : List Sv) (Q T : Nat → Int) : Prop := ∀ i x, xs[i]? = some x → okS x ∧ x.1 = 2 ∧ Q i = x.2.1 ∧ T i = x.2.2
structure Tick (xs : List Sv) (Q T : Nat → Int) (d N B M : Int) (L E X : Nat → Int) : Prop where
  jobs : Jobs xs.length Q L E X
  due : ∀ D, N ≤ D → Due xs.length Q T L E N D
  busy : rs xs.length L = 0 ∨ Busy xs.length Q T L E N B 1
  b0 : 0 ≤ B
  b1 : B ≤ d
  m0 : 0 ≤ M
  m1 : M ≤ d
  bnd : ∀ i, i < xs.length → 0 ≤ E i ∧ E i ≤ N + 256 ∧ 0 ≤ X i ∧ X i ≤ N + 300
structure Mid (xs : List Sv) (Q T : Nat → Int) (d N B : Int) (L E X : Nat → Int) : Prop where
  jobs : Jobs xs.length Q L E X
  due : ∀ D, N + 1 ≤ D → Due xs.length Q T L E N D
  busy : Busy xs.length Q T L E N B 0
  b0 : 0 ≤ B
  b1 : B + 1 ≤ d
  bnd : ∀ i, i < xs.length → 0 ≤ E i ∧ E i ≤ N + 256 ∧ 0 ≤ X i ∧ X i ≤ N + 300
theorem tick_zero {xs : List Sv} {Q T : Nat → Int} {d : Int} (hd : 0 ≤ d) (hQ : ∀ i, i < xs.length → 0 ≤ Q i) : Tick xs Q T d 0 0 0 (fun _ => 0) (fun _ => 0) (fun _ => 0) :=
  ⟨fun i hi => ⟨Int.le_refl _, hQ i hi, Int.le_refl _⟩, fun D _ => due_idle (Int.le_refl _) (rs_zero (fun i _ => by simp)), .inl (rs_zero (fun _ _ => rfl)), Int.le_refl _, hd, Int.le_refl _, hd, fun i _ => ⟨by omega, by omega, by omega, by omega⟩⟩
/-- At a tick's beginning: nothing is late; a busy time begins anew, if all is done, else it is shorter than all requests take. -/
theorem tick_time {xs : List Sv} {Q T : Nat → Int} {d N B M : Int} {L E X : Nat → Int} (hk : Srv xs Q T) (hf : ∀ l, 1 ≤ l → tot (sdem · l) xs ≤ l) (h : Tick xs Q T d N B M L E X) {i : Nat} (hi : i < xs.length) (hl : 0 < L i) : N < E i :=
  on_time hk hf h.jobs (h.due N (Int.le_refl _)) hi hl
theorem tick_done {xs : List Sv} {Q T : Nat → Int} {d N B M : Int} {L E X : Nat → Int} (hd : 1 ≤ d) (h : Tick xs Q T d N B M L E X) (h0 : ∀ i, i < xs.length → L i = 0) : Mid xs Q T d N 0 L E X :=
  ⟨h.jobs, fun D hD => h.due D (by omega), busy_begin (rs_zero h0), Int.le_refl _, by omega, h.bnd⟩
theorem tick_on {xs : List Sv} {Q T : Nat → Int} {d N B M : Int} {L E X : Nat → Int} (hk : Srv xs Q T) (hr : tot (sreq · d) xs ≤ d) (hd : 1 ≤ d) (h : Tick xs Q T d N B M L E X) (h0 : ¬ ∀ i, i < xs.length → L i = 0) : Mid xs Q T d N B L E X := by
  have hz : ¬ rs xs.length L = 0 := fun e => h0 (rs_all0 (fun i hi => (h.jobs i hi).1) e)
  rcases h.busy with hb | hb
  · exact absurd hb hz
  · refine ⟨h.jobs, fun D hD => h.due D (by omega), busy_on hb, h.b0, ?_, h.bnd⟩
    have := h.b1
    refine Decidable.byContradiction fun hn => hz ?_
    obtain rfl : B = d := by omega
    exact all_done hk hd hr h.jobs hb
theorem mid_release {xs : List Sv} {Q T : Nat → Int} {d N B : Int} {L E X : Nat → Int} {j : Nat} {v : Int} (hk : Srv xs Q T) (N0 : 0 ≤ N) (hj : j < xs.length) (h : Mid xs Q T d N B L E X) (hl : L j = 0) (hx : X j ≤ N) (v0 : 0 ≤ v) (v1 : v ≤ 39) : Mid xs Q T d N B (upd L j (Q j)) (upd E j (N + T j)) (upd X j (N + T j + v)) := by
  obtain ⟨x, hx'⟩ : ∃ x, xs[j]? = some x := ⟨_, List.getElem?_eq_getElem hj⟩
  obtain ⟨⟨o1, o2, o3, o4, o5⟩, k2, e1, e2⟩ := hk j x hx'
  refine ⟨jobs_release (by omega) h.jobs (by omega), fun D hD => due_release hj (by omega) (by omega) h.jobs hl hx (h.due D hD), busy_release hj (by omega) h.b0 h.jobs hl hx h.busy, h.b0, h.b1, fun i hi => ?_⟩
  by_cases c : i = j
  · subst c; rw [upd_at, upd_at]; omega
  · rw [upd_ne _ _ c, upd_ne _ _ c]; exact h.bnd i hi
/-- The best among the first j: none is left, or the one with the earliest deadline. -/
def Best (L E : Nat → Int) (j : Nat) (b : Int) : Prop := (b = -1 ∧ ∀ i, i < j → L i = 0) ∨ ∃ k : Nat, b = k ∧ k < j ∧ 0 < L k ∧ ∀ i, i < j → 0 < L i → E k ≤ E i
theorem best_zero (L E : Nat → Int) : Best L E 0 (-1) := .inl ⟨rfl, fun i hi => by omega⟩
theorem best_kept {L E : Nat → Int} {j : Nat} {b : Int} (h : Best L E j b) (v e : Int) : Best (upd L j v) (upd E j e) j b := by
  rcases h with ⟨rfl, h⟩ | ⟨k, rfl, h1, h2, h3⟩
  · exact .inl ⟨rfl, fun i hi => by rw [upd_ne _ _ (by omega)]; exact h i hi⟩
  · refine .inr ⟨k, rfl, h1, by rw [upd_ne _ _ (by omega)]; exact h2, fun i hi => ?_⟩
    rw [upd_ne _ _ (by omega), upd_ne _ _ (by omega), upd_ne _ _ (by omega)]
    exact h3 i hi
theorem best_none {L E : Nat → Int} {j : Nat} {b : Int} (h : Best L E j b) (h0 : L j = 0) : Best L E (j + 1) b := by
  rcases h with ⟨rfl, h⟩ | ⟨k, rfl, h1, h2, h3⟩
  · refine .inl ⟨rfl, fun i hi => ?_⟩
    by_cases c : i = j
    · subst c; exact h0
    · exact h i (by omega)
  · refine .inr ⟨k, rfl, by omega, h2, fun i hi hl => ?_⟩
    by_cases c : i = j
    · subst c; omega
    · exact h3 i (by omega) hl
theorem best_new {L E : Nat → Int} {j : Nat} {b : Int} (h : Best L E j b) (h0 : 0 < L j) (hb : b < 0 ∨ ∀ k : Nat, b = k → E j < E k) : Best L E (j + 1) j := by
  refine .inr ⟨j, rfl, by omega, h0, fun i hi hl => ?_⟩
  by_cases c : i = j
  · subst c; exact Int.le_refl _
  · rcases h with ⟨rfl, h⟩ | ⟨k, rfl, h1, h2, h3⟩
    · have := h i (by omega); omega
    · rcases hb with hb | hb
      · omega
      · have := hb k rfl
        have := h3 i (by omega) hl
        omega
theorem best_old {L E : Nat → Int} {j k : Nat} (h : Best L E j (k : Int)) (he : ¬ E j < E k) : Best L E (j + 1) (k : Int) := by
  rcases h with ⟨e, h⟩ | ⟨k', e, h1, h2, h3⟩
  · omega
  · obtain rfl : k = k' := by omega
    refine .inr ⟨k, rfl, by omega, h2, fun i hi hl => ?_⟩
    by_cases c : i = j
    · subst c; omega
    · exact h3 i (by omega) hl
/-- At a tick's end. -/
theorem tick_idle {xs : List Sv} {Q T : Nat → Int} {d N B M : Int} {L E X : Nat → Int} (N0 : 0 ≤ N) (m0 : 0 ≤ M) (m1 : M ≤ d) (h : Mid xs Q T d N B L E X) (hb : Best L E xs.length (-1)) : Tick xs Q T d (N + 1) B M L E X := by
  have h0 : ∀ i, i < xs.length → L i = 0 := by
    rcases hb with ⟨_, h⟩ | ⟨k, e, _⟩
    · exact h
    · omega
  exact ⟨h.jobs, fun D _ => due_none N0 h0, .inl (rs_zero h0), h.b0, by have := h.b1; omega, m0, m1, fun i hi => by have := h.bnd i hi; omega⟩
theorem tick_run {xs : List Sv} {Q T : Nat → Int} {d N B M : Int} {L E X : Nat → Int} {k : Nat} (N0 : 0 ≤ N) (m0 : 0 ≤ M) (m1 : M ≤ d) (h : Mid xs Q T d N B L E X) (hb : Best L E xs.length (k : Int)) : Tick xs Q T d (N + 1) (B + 1) (max M (B + 1)) (upd L k (L k - 1)) E X ∧ k < xs.length ∧ 0 < L k := by
  rcases hb with ⟨e, _⟩ | ⟨k', e, h1, h2, h3⟩
  · omega
  · obtain rfl : k = k' := by omega
    have := h.b1
    have := h.b0
    exact ⟨⟨jobs_run h.jobs h2, fun D hD => due_run N0 h.jobs ⟨h1, h2, h3⟩ (h.due D hD), .inr (busy_run h1 h.busy), by omega, by omega, by omega, by omega, fun i hi => by have := h.bnd i hi; omega⟩, h1, h2⟩
end Go.Proofs.YtnmmphnaelpjdaaDoor
