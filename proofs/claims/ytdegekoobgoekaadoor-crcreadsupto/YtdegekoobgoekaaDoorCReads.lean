/- CrcReads: Read and Split of all bytes. -/
import Derived.Test.YtdegekoobgoekaaDoorRefSplit
import Derived.Test.YtdegekoobgoekaaDoorMarked
import Derived.Test.YtdegekoobgoekaaDoorErrNum
namespace Go.Proofs.YtdegekoobgoekaaDoor
open Go.ChangeShapes Go.WideShapes Go.ChangeAt Go.RowKit

/-- An error's value and its number. -/
def EvNum (a : Nat → Addr) (ev : Value) (m : Nat) : Prop := (m = 0 ∧ ev = .nilIface) ∨ (m = 4 ∧ ev = .iface 54 (.pointer (some (a 4)))) ∨ (m = 8 ∧ ev = .iface 54 (.pointer (some (a 0))))
theorem errnum_any (w : World) (a : Nat → Addr) (ev : Value) (m : Nat) (hE : Errs w a) (h : EvNum a ev m) : Calls Tryd.prog 11 #[ev] w fun e w' => e = .returned (.int .i64 (m : Int)) ∧ Below w.heap.size w w' := by
  rcases h with ⟨rfl, rfl⟩ | ⟨rfl, rfl⟩ | ⟨rfl, rfl⟩
  · refine (errnum_nil w).mono ?_
    rintro e w' ⟨rfl, rfl⟩
    exact ⟨rfl, Below.refl _ _⟩
  · exact errnum_sum w a hE
  · exact errnum_large w a hE
def payOf (r : List Int) : List Int := if kind r = 1 then pay r else []
def lenOf (r : List Int) : Nat := if kind r = 1 then word r + 8 else 0
def numOf (r : List Int) : Nat := if kind r = 1 then 0 else kind r
theorem rd_nil (w : World) : Rd w (.slice none 0 0) [] := ⟨Byts.nil, none, 0, rfl, by simp, fun _ => rfl, fun hp => by simp at hp⟩
theorem read_all (w : World) (v : Value) (bs : List Int) (a : Nat → Addr) (h : Rd w v bs) (hE : Errs w a) :
    Calls Tryd.prog 13 #[v] w fun e w' => ∃ pv ev, e = .returned (.tuple #[pv, .int .i64 (lenOf bs : Int), ev]) ∧ Rd w' pv (payOf bs) ∧ EvNum a ev (numOf bs) ∧ Below w.heap.size w w' := by
  rcases kind_cases bs with hc | hc | hc | hc
  · have e1 : payOf bs = [] := by simp [payOf, hc]
    have e2 : lenOf bs = 0 := by simp [lenOf, hc]
    have e3 : numOf bs = 0 := by simp [numOf, hc]
    rw [e1, e2, e3]
    rcases kind_zero hc with h0 | ⟨h0, h1, h2⟩
    · refine (read_short1 w v bs h (by omega)).mono ?_
      rintro e w' ⟨rfl, hb⟩
      exact ⟨_, _, rfl, rd_nil _, .inl ⟨rfl, rfl⟩, hb⟩
    · refine (read_short2 w v bs h h0 h1 h2).mono ?_
      rintro e w' ⟨rfl, hb⟩
      exact ⟨_, _, rfl, rd_nil _, .inl ⟨rfl, rfl⟩, hb⟩
  · have e1 : payOf bs = pay bs := by simp [payOf, hc]
    have e2 : lenOf bs = word bs + 8 := by simp [lenOf, hc]
    have e3 : numOf bs = 0 := by simp [numOf, hc]
    obtain ⟨k1, k2, k3⟩ := kind_one hc
    rw [e1, e2, e3]
    refine (read_good w v bs (word bs) h rfl (by omega) (by omega) k3).mono ?_
    rintro e w' ⟨v', rfl, ho, hb⟩
    exact ⟨v', _, by simp, Rd.of_owns (pay_byts h.1) (by rw [pay_len hc]; exact ho), .inl ⟨rfl, rfl⟩, hb⟩
  · have e1 : payOf bs = [] := by simp [payOf, hc]
    have e2 : lenOf bs = 0 := by simp [lenOf, hc]
    have e3 : numOf bs = 4 := by simp [numOf, hc]
    obtain ⟨k1, k2, k3⟩ := kind_four hc
    rw [e1, e2, e3]
    refine (read_bad w v bs _ (word bs) h rfl (by omega) (by omega) k3 hE.cell_sum).mono ?_
    rintro e w' ⟨rfl, hb⟩
    exact ⟨_, _, rfl, rd_nil _, .inr (.inl ⟨rfl, rfl⟩), hb⟩
  · have e1 : payOf bs = [] := by simp [payOf, hc]
    have e2 : lenOf bs = 0 := by simp [lenOf, hc]
    have e3 : numOf bs = 8 := by simp [numOf, hc]
    obtain ⟨k1, k2⟩ := kind_eight hc
    rw [e1, e2, e3]
    refine (read_large w v bs _ h k1 k2 hE.cell_large).mono ?_
    rintro e w' ⟨rfl, hb⟩
    exact ⟨_, _, rfl, rd_nil _, .inr (.inr ⟨rfl, rfl⟩), hb⟩
theorem refread_all (w : World) (v : Value) (bs : List Int) (h : Rd w v bs) :
    Calls Tryd.prog 15 #[v] w fun e w' => ∃ pv, e = .returned (.tuple #[pv, .int .i64 (lenOf bs : Int), .int .i64 (numOf bs : Int)]) ∧ Rd w' pv (payOf bs) ∧ Below w.heap.size w w' := by
  rcases kind_cases bs with hc | hc | hc | hc
  · have e1 : payOf bs = [] := by simp [payOf, hc]
    have e2 : lenOf bs = 0 := by simp [lenOf, hc]
    have e3 : numOf bs = 0 := by simp [numOf, hc]
    rw [e1, e2, e3]
    rcases kind_zero hc with h0 | ⟨h0, h1, h2⟩
    · refine (refread_short1 w v bs h (by omega)).mono ?_
      rintro e w' ⟨rfl, hb⟩
      exact ⟨_, rfl, rd_nil _, hb⟩
    · refine (refread_short2 w v bs h h0 h1 h2).mono ?_
      rintro e w' ⟨rfl, hb⟩
      exact ⟨_, rfl, rd_nil _, hb⟩
  · have e1 : payOf bs = pay bs := by simp [payOf, hc]
    have e2 : lenOf bs = word bs + 8 := by simp [lenOf, hc]
    have e3 : numOf bs = 0 := by simp [numOf, hc]
    rw [e1, e2, e3]
    refine (refread_good w v bs h hc).mono ?_
    rintro e w' ⟨v', rfl, ho, hb⟩
    exact ⟨v', by simp, Rd.of_owns (pay_byts h.1) (by rw [pay_len hc]; exact ho), hb⟩
  · have e1 : payOf bs = [] := by simp [payOf, hc]
    have e2 : lenOf bs = 0 := by simp [lenOf, hc]
    have e3 : numOf bs = 4 := by simp [numOf, hc]
    rw [e1, e2, e3]
    refine (refread_bad w v bs h hc).mono ?_
    rintro e w' ⟨rfl, hb⟩
    exact ⟨_, rfl, rd_nil _, hb⟩
  · have e1 : payOf bs = [] := by simp [payOf, hc]
    have e2 : lenOf bs = 0 := by simp [lenOf, hc]
    have e3 : numOf bs = 8 := by simp [numOf, hc]
    obtain ⟨k1, k2⟩ := kind_eight hc
    rw [e1, e2, e3]
    refine (refread_large w v bs h k1 k2).mono ?_
    rintro e w' ⟨rfl, hb⟩
    exact ⟨_, rfl, rd_nil _, hb⟩
theorem spl_err (f : Nat) (r : List Int) (e : Nat) (h : spl f r = .error e) : e = 4 ∨ e = 8 := by
  induction f generalizing r with
  | zero => simp [spl] at h
  | succ f ih =>
    rw [spl] at h
    split at h
    · cases hs : spl f (r.drop (word r + 8)) with
      | ok p => rw [hs] at h; simp at h
      | error e' =>
        rw [hs] at h
        simp at h
        subst h
        exact ih _ hs
    · split at h
      · simp at h
      · have := kind_cases r
        injection h with h
        omega
theorem spl_len (f : Nat) (r : List Int) (ps : List (List Int)) (k : Nat) (h : spl f r = .ok (ps, k)) : ps.length ≤ f := by
  induction f generalizing r ps k with
  | zero =>
    rw [spl] at h
    injection h with h
    injection h with h1 h2
    rw [← h1]
    exact Nat.le_refl _
  | succ f ih =>
    rw [spl] at h
    split at h
    · cases hs : spl f (r.drop (word r + 8)) with
      | ok p =>
        obtain ⟨qs, j⟩ := p
        rw [hs] at h
        have := ih _ _ _ hs
        injection h with h
        injection h with h1 h2
        rw [← h1, List.length_cons]
        omega
      | error e' => rw [hs] at h; cases h
    · split at h
      · injection h with h
        injection h with h1 h2
        rw [← h1]
        exact Nat.zero_le _
      · cases h
def psOf : Except Nat (List (List Int) × Nat) → List (List Int)
  | .ok (ps, _) => ps
  | .error _ => []
def kOf : Except Nat (List (List Int) × Nat) → Nat
  | .ok (_, k) => k
  | .error _ => 0
def eOf : Except Nat (List (List Int) × Nat) → Nat
  | .ok _ => 0
  | .error e => e
theorem split_all (w : World) (v : Value) (bs : List Int) (a : Nat → Addr) (h : Rd w v bs) (hl : (bs.length : Int) ≤ 5000000) (hE : Errs w a) :
    Calls Tryd.prog 16 #[v] w fun e w' => ∃ lv ev G, e = .returned (.tuple #[lv, .int .i64 (kOf (splits bs) : Int), ev]) ∧ Lst G w.heap.size w' lv (psOf (splits bs)) ∧ (∀ j, G j → w.heap.size ≤ j ∧ j < w'.heap.size) ∧ EvNum a ev (eOf (splits bs)) ∧ Below w.heap.size w w' := by
  refine (split_any w v bs _ _ _ _ _ _ rfl rfl h hl hE.cell_large hE.cell_sum).mono ?_
  rintro e w' ⟨hb, hm⟩
  cases hs : splits bs with
  | ok p =>
    obtain ⟨ps, k⟩ := p
    rw [hs] at hm
    obtain ⟨v', G, rfl, hL, hG⟩ := hm
    exact ⟨v', _, G, rfl, hL, hG, .inl ⟨rfl, rfl⟩, hb⟩
  | error n =>
    rw [hs] at hm
    subst hm
    rcases spl_err _ _ _ hs with rfl | rfl
    · exact ⟨_, _, fun _ => False, rfl, Lst.nil _ _ _, fun _ hj => hj.elim, .inr (.inl ⟨rfl, rfl⟩), hb⟩
    · exact ⟨_, _, fun _ => False, rfl, Lst.nil _ _ _, fun _ hj => hj.elim, .inr (.inr ⟨rfl, rfl⟩), hb⟩
theorem refsplit_all (w : World) (v : Value) (bs : List Int) (h : Rd w v bs) (hl : (bs.length : Int) ≤ 5000000) :
    Calls Tryd.prog 17 #[v] w fun e w' => ∃ lv G, e = .returned (.tuple #[lv, .int .i64 (kOf (splits bs) : Int), .int .i64 (eOf (splits bs) : Int)]) ∧ Lst G w.heap.size w' lv (psOf (splits bs)) ∧ (∀ j, G j → w.heap.size ≤ j ∧ j < w'.heap.size) ∧ Below w.heap.size w w' := by
  refine (refsplit_any w v bs h hl).mono ?_
  rintro e w' ⟨hb, hm⟩
  cases hs : splits bs with
  | ok p =>
    obtain ⟨ps, k⟩ := p
    rw [hs] at hm
    obtain ⟨v', G, rfl, hL, hG⟩ := hm
    exact ⟨v', G, rfl, hL, hG, hb⟩
  | error n =>
    rw [hs] at hm
    subst hm
    exact ⟨_, fun _ => False, rfl, Lst.nil _ _ _, fun _ hj => hj.elim, hb⟩
theorem Lst.later {G : Nat → Prop} {base : Nat} {w w' : World} {v : Value} {ps : List (List Int)} (h : Lst G base w v ps) (hG : ∀ j, G j → j < w.heap.size) (hb : Below w.heap.size w w') : Lst G base w' v ps :=
  h.kept (kept_of_below hb) (fun j hj hge => by have := hG j hj; omega) (fun j hj hge => by obtain ⟨vs, ho, _⟩ := h; have := ho.lt j hj; omega)
set_option maxHeartbeats 6400000 in
theorem creads_walk (w : World) (v : Value) (bs : List Int) (a : Nat → Addr) (h : Rd w v bs) (hl : (bs.length : Int) ≤ 5000000) (hE : Errs w a) :
    Calls Tryd.prog 4 #[v] w fun e w' => e = .returned (.bool true) ∧ Below w.heap.size w w' := by
  have hlm : (bs.length : Int) ≤ 140737488355300 := by omega
  have hps : ((psOf (splits bs)).length : Int) ≤ 140737488355328 := by
    cases hs : splits bs with
    | ok p =>
      have := spl_len _ _ _ _ hs
      simp only [psOf]
      omega
    | error e => simp [psOf]
  obtain ⟨N, eN⟩ : ∃ N, N = lenOf bs := ⟨_, rfl⟩
  obtain ⟨M, eM⟩ : ∃ M, M = numOf bs := ⟨_, rfl⟩
  obtain ⟨K, eK⟩ : ∃ K, K = kOf (splits bs) := ⟨_, rfl⟩
  obtain ⟨M2, eM2⟩ : ∃ M2, M2 = eOf (splits bs) := ⟨_, rfl⟩
  obtain ⟨P, eP⟩ : ∃ P, P = payOf bs := ⟨_, rfl⟩
  obtain ⟨PS, ePS⟩ : ∃ PS, PS = psOf (splits bs) := ⟨_, rfl⟩
  have C1 : Hid (∀ W u, Rd W u bs → Errs W a → Calls Tryd.prog 13 #[u] W fun e w' => ∃ pv ev, e = .returned (.tuple #[pv, .int .i64 (N : Int), ev]) ∧ Rd w' pv P ∧ EvNum a ev M ∧ Below W.heap.size W w') := mkHid (fun W u hu hE => by rw [eN, eP, eM]; exact read_all W u bs a hu hE)
  have C2 : Hid (∀ W u, Rd W u bs → Calls Tryd.prog 15 #[u] W fun e w' => ∃ pv, e = .returned (.tuple #[pv, .int .i64 (N : Int), .int .i64 (M : Int)]) ∧ Rd w' pv P ∧ Below W.heap.size W w') := mkHid (fun W u hu => by rw [eN, eP, eM]; exact refread_all W u bs hu)
  have C3 : Hid (∀ W u, Rd W u bs → Errs W a → Calls Tryd.prog 16 #[u] W fun e w' => ∃ lv ev G, e = .returned (.tuple #[lv, .int .i64 (K : Int), ev]) ∧ Lst G W.heap.size w' lv PS ∧ (∀ j, G j → W.heap.size ≤ j ∧ j < w'.heap.size) ∧ EvNum a ev M2 ∧ Below W.heap.size W w') := mkHid (fun W u hu hE => by rw [eK, ePS, eM2]; exact split_all W u bs a hu hl hE)
  have C4 : Hid (∀ W u, Rd W u bs → Calls Tryd.prog 17 #[u] W fun e w' => ∃ lv G, e = .returned (.tuple #[lv, .int .i64 (K : Int), .int .i64 (M2 : Int)]) ∧ Lst G W.heap.size w' lv PS ∧ (∀ j, G j → W.heap.size ≤ j ∧ j < w'.heap.size) ∧ Below W.heap.size W w') := mkHid (fun W u hu => by rw [eK, ePS, eM2]; exact refsplit_all W u bs hu hl)
  rw [← ePS] at hps
  clear eN eM eK eM2 eP ePS
  have M1 : Hid True := trivial
  go_enter Tryd.func4, Tryd.ntmps4
  go_wp2_with (first | (go_at_call 7; refine (crcalive_any _).mono ?_; rintro e w1 ⟨rfl, hb1⟩; have r1 := h.later hb1) | (go_at_call 8; refine (nbytes_any _ _ bs r1 hlm).mono ?_; rintro e w2 ⟨g, cap, rfl, hmk, hb2⟩; have hb2' := hb1.trans (hb2.mono hb1.size); have hE2 := hE.late hb2'; have ri := hmk.rd h.1; have hgl := hmk.lt; clear r1 hb2 hb1) | (go_at_call 13; refine (C1.out _ _ ri hE2).mono ?_; rintro e w3 ⟨pv, ev, rfl, rp3, hev, hb3⟩; have hb3' := hb2'.trans (hb3.mono hb2'.size); have hm3 := hmk.kept (kept_of_below hb3) (by omega); have r3 := h.later hb3'; have hg3 := hm3.lt; have HEV := mkHid hev; clear C1 ri hmk hgl hb2' hb3 hE2 hev) | (go_at_call 15; refine (C2.out _ _ r3).mono ?_; rintro e w4 ⟨wv, rfl, rw4, hb4⟩; have hb4' := hb3'.trans (hb4.mono hb3'.size); have hm4 := hm3.kept (kept_of_below hb4) (by omega); have ri4 := hm4.rd h.1; have rp4 := rp3.later hb4; have hg4 := hm4.lt; have hE4 := hE.late hb4'; clear C2 r3 hm3 hg3 hb3' hb4 rp3) | (go_at_call 16; refine (C3.out _ _ ri4 hE4).mono ?_; rintro e w5 ⟨lv, ev2, G5, rfl, hL5, hG5, hev2, hb5⟩; have hb5' := hb4'.trans (hb5.mono hb4'.size); have hm5 := hm4.kept (kept_of_below hb5) (by omega); have r5 := h.later hb5'; have rp5 := rp4.later hb5; have rw5 := rw4.later hb5; have hg5 := hm5.lt; have HEV2 := mkHid hev2; have HG5 := mkHid hG5; clear C3 ri4 hm4 hg4 hb4' hb5 rp4 rw4 hE4 hev2 hG5) | (go_at_call 17; refine (C4.out _ _ r5).mono ?_; rintro e w6 ⟨lw, G6, rfl, hL6, hG6, hb6⟩; have hb6' := hb5'.trans (hb6.mono hb5'.size); have hm6 := hm5.kept (kept_of_below hb6) (by omega); have hg6 := hm6.lt; have cp6 := (rp5.later hb6).conv; have cw6 := (rw5.later hb6).conv; have hL5' := hL5.later (fun j hj => (HG5.out j hj).2) hb6; have HG6 := mkHid hG6; have hE6 := hE.late hb6'; have HG56 : Hid (∀ j, G5 j → j < w6.heap.size) := mkHid (fun j hj => by have := HG5.out j hj; have := hb6.size; omega); clear C4 r5 hm5 hg5 hb5' hb6 rp5 rw5 hL5 hG6) | (go_at_call 11; clear M1; refine (errnum_any _ a _ M hE6 HEV.out).mono ?_; rintro e w7 ⟨rfl, hb7⟩; have hb7' := hb6'.trans (hb7.mono hb6'.size); have hm7 := hm6.kept (kept_of_below hb7) (by omega); have hg7 := hm7.lt; have hL57 := hL5'.later HG56.out hb7; have hL67 := hL6.later (fun j hj => (HG6.out j hj).2) hb7; clear cp6 cw6 hE6 hm6 hg6 hb6' hb7 hL5' hL6) | (go_at_call 18; refine (same_any _ _ _ PS G5 G6 _ _ hL57 hL67 hps).mono ?_; rintro e w8 ⟨rfl, hk8⟩; have hb8 : Below w7.heap.size w7 w8 := (by obtain ⟨k, rfl⟩ := hk8; exact drewN_below _ k); have hb8' := hb7'.trans (hb8.mono hb7'.size); have hm8 := hm7.kept (kept_of_below hb8) (by omega); have hg8 := hm8.lt; have hE8 := hE.late hb8'; clear hk8 hL57 hL67 hb7' hb8 hm7 hg7) | (go_at_call 11; refine (errnum_any _ a _ M2 hE8 HEV2.out).mono ?_; rintro e w9 ⟨rfl, hb9⟩; have hb9' := hb8'.trans (hb9.mono hb8'.size); have hm9 := hm8.kept (kept_of_below hb9) (by omega); have r9 := h.later hb9'; clear hb8' hb9 hm8 hg8 hE8) | (go_at_call 10; refine (nkept_any _ _ g cap _ bs hm9 r9 hlm).mono ?_; rintro e w10 ⟨rfl, hk10⟩; have hb10 : Below w9.heap.size w9 w10 := (by obtain ⟨k, rfl⟩ := hk10; exact drewN_below _ k); have hb10' := hb9'.trans (hb10.mono hb9'.size)))
  go_ret
  exact ⟨rfl, hb10'⟩
end Go.Proofs.YtdegekoobgoekaaDoor
