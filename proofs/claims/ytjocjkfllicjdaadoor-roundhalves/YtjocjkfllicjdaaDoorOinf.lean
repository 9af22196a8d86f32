/- The document's InForm. -/
import Derived.Test.YtjocjkfllicjdaaDoorOref
namespace Go.Proofs.YtjocjkfllicjdaaDoor
open Go.ChangeShapes Go.WideShapes Go.ChangeAt Go.RowKit
set_option maxRecDepth 100000
attribute [local go_sem] World.cell?_alloc_some frozen_alloc_some

def okb (n : Int) : Bool := decide (0 ≤ n) && decide (n ≤ 1099511627776)
theorem okb_iff {n : Int} : okb n = true ↔ amt n := by simp [okb, amt]
theorem okb_no {n : Int} (h : okb n = false) : ¬ amt n := fun a => by rw [okb_iff.mpr a] at h; cases h
theorem okd (w : World) (n : Int) : Calls Tryd.prog 47 #[.int .i64 n] w fun r w' => r = .returned (.bool (okb n)) ∧ w' = w := by
  by_cases h0 : 0 ≤ n
  · by_cases h1 : n ≤ 1099511627776
    · rw [show okb n = true by simp [okb, h0, h1]]
      go_enter Tryd.func47, Tryd.ntmps47
      go_wp2
      go_ret
      exact ⟨rfl, rfl⟩
    · rw [show okb n = false by simp [okb, h1]]
      have h1' : decide (n ≤ 1099511627776) = false := decide_eq_false h1
      go_enter Tryd.func47, Tryd.ntmps47
      go_wp2
      go_ret
      refine ⟨?_, rfl⟩
      first | rfl | (show Ending.returned (.bool (decide (n ≤ 1099511627776))) = _; rw [h1'])
  · rw [show okb n = false by simp [okb, h0]]
    have h0' : decide (0 ≤ n) = false := decide_eq_false h0
    go_enter Tryd.func47, Tryd.ntmps47
    go_wp2
    go_ret
    exact ⟨rfl, rfl⟩
def headF (e : En) : Prop := ¬ e.cl < 0 ∧ ¬ 15 < e.cl ∧ ¬ e.nu < 1 ∧ okb e.nu = true ∧ okb e.tm = true ∧ okb e.id = true
set_option maxHeartbeats 6400000 in
theorem inForm_head (w : World) (t : Ep) (h : ¬ headF t.1) : Calls Tryd.prog 24 #[vP t] w fun r w' => r = .returned (.bool false) ∧ Below w.heap.size w w' := by
  obtain ⟨⟨cl, nu, ki, di, sk, sq, st, po, xs, tm⟩, a, cap⟩ := t
  simp only [headF] at h
  have hc : cl < 0 ∨ (¬ cl < 0 ∧ 15 < cl) ∨ (¬ cl < 0 ∧ ¬ 15 < cl ∧ nu < 1) ∨ (¬ cl < 0 ∧ ¬ 15 < cl ∧ ¬ nu < 1 ∧ okb nu = false) ∨ (¬ cl < 0 ∧ ¬ 15 < cl ∧ ¬ nu < 1 ∧ okb nu = true ∧ okb tm = false) ∨ (¬ cl < 0 ∧ ¬ 15 < cl ∧ ¬ nu < 1 ∧ okb nu = true ∧ okb tm = true ∧ okb di = false) := by
    by_cases h1 : cl < 0
    · exact .inl h1
    by_cases h2 : 15 < cl
    · exact .inr (.inl ⟨h1, h2⟩)
    by_cases h3 : nu < 1
    · exact .inr (.inr (.inl ⟨h1, h2, h3⟩))
    cases h4 : okb nu
    · exact .inr (.inr (.inr (.inl ⟨h1, h2, h3, rfl⟩)))
    cases h5 : okb tm
    · exact .inr (.inr (.inr (.inr (.inl ⟨h1, h2, h3, rfl, rfl⟩))))
    cases h6 : okb di
    · exact .inr (.inr (.inr (.inr (.inr ⟨h1, h2, h3, rfl, rfl, rfl⟩))))
    exact absurd ⟨h1, h2, h3, h4, h5, h6⟩ h
  clear h
  simp only [vP, vN, tv]
  rcases hc with h1 | ⟨h1, h2⟩ | ⟨h1, h2, h3⟩ | ⟨h1, h2, h3, o1⟩ | ⟨h1, h2, h3, o1, o2⟩ | ⟨h1, h2, h3, o1, o2, o3⟩
  · go_enter Tryd.func24, Tryd.ntmps24
    go_wp2
    go_ret
    exact ⟨rfl, ba (ba (Below.refl _ _) _) _⟩
  · go_enter Tryd.func24, Tryd.ntmps24
    go_wp2
    go_ret
    exact ⟨rfl, ba (ba (Below.refl _ _) _) _⟩
  · go_enter Tryd.func24, Tryd.ntmps24
    go_wp2
    go_ret
    exact ⟨rfl, ba (ba (Below.refl _ _) _) _⟩
  · go_enter Tryd.func24, Tryd.ntmps24
    go_wp2_with (go_at_call 47; refine (okd _ _).mono ?_; rintro r w1 ⟨rfl, rfl⟩; simp only [o1])
    go_ret
    exact ⟨rfl, ba (ba (Below.refl _ _) _) _⟩
  · go_enter Tryd.func24, Tryd.ntmps24
    go_wp2_with (go_at_call 47; refine (okd _ _).mono ?_; rintro r w1 ⟨rfl, rfl⟩; (try simp only [o1]); (try simp only [o2]))
    go_ret
    exact ⟨rfl, ba (ba (Below.refl _ _) _) _⟩
  · go_enter Tryd.func24, Tryd.ntmps24
    go_wp2_with (go_at_call 47; refine (okd _ _).mono ?_; rintro r w1 ⟨rfl, rfl⟩; (try simp only [o1]); (try simp only [o2]); (try simp only [o3]))
    go_ret
    exact ⟨rfl, ba (ba (Below.refl _ _) _) _⟩
/-- The rest, of the Kinds but the fourth. -/
theorem headF_inF {e : En} (h : headF e) : (e.cl < 16 ∧ 1 ≤ e.nu) ∧ amt e.cl ∧ amt e.nu ∧ amt e.tm ∧ amt e.id := by
  obtain ⟨h1, h2, h3, h4, h5, h6⟩ := h
  exact ⟨⟨by omega, by omega⟩, ⟨by omega, by omega⟩, okb_iff.mp h4, okb_iff.mp h5, okb_iff.mp h6⟩
theorem inF_headF {e : En} (h : inF e) : headF e := by
  obtain ⟨⟨h1, h2⟩, ⟨h3, h4, h5⟩, h6⟩ := h
  have a := h4 e.cl (by simp [hnum])
  exact ⟨by have := a.1; omega, by omega, by omega, okb_iff.mpr (h4 _ (by simp [hnum])), okb_iff.mpr (h4 _ (by simp [hnum])), okb_iff.mpr (h4 _ (by simp [hnum]))⟩
set_option maxHeartbeats 6400000 in
theorem inForm_other (w : World) (t : Ep) (hh : headF t.1) (h1 : ¬ t.1.ki = 1) (h2 : ¬ t.1.ki = 2) (h3 : ¬ t.1.ki = 3) (h4 : ¬ t.1.ki = 4) : Calls Tryd.prog 24 #[vP t] w fun r w' => r = .returned (.bool false) ∧ Below w.heap.size w w' := by
  obtain ⟨⟨cl, nu, ki, di, sk, sq, st, po, xs, tm⟩, a, cap⟩ := t
  obtain ⟨u1, u2, u3, o1, o2, o3⟩ := hh
  simp only at h1 h2 h3 h4 u1 u2 u3 o1 o2 o3
  have g1 : (ki == 1) = false := by simpa using h1
  have g2 : (ki == 2) = false := by simpa using h2
  have g3 : (ki == 3) = false := by simpa using h3
  have g4 : (ki == 4) = false := by simpa using h4
  simp only [vP, vN, tv]
  clear h1 h2 h3 h4
  go_enter Tryd.func24, Tryd.ntmps24
  go_wp2_with (go_at_call 47; refine (okd _ _).mono ?_; rintro r w1 ⟨rfl, rfl⟩; (try simp only [o1]); (try simp only [o2]); (try simp only [o3]))
  go_ret
  exact ⟨rfl, ba (ba (ba (Below.refl _ _) _) _) _⟩
theorem tks_nil (w : World) : Tks w (.slice none ([] : List Tk).length 0) [] := ⟨none, 0, rfl, by simp, fun hp => by simp at hp⟩
set_option maxHeartbeats 12800000 in
theorem inForm_make (w : World) (t : Ep) (ht : EnW w t) (hh : headF t.1) (hk : t.1.ki = 1 ∨ t.1.ki = 2) : ∃ b : Bool, (b = true ↔ amt t.1.sk ∧ amt t.1.sq ∧ amt t.1.st ∧ t.1.po = 0 ∧ t.1.ts = []) ∧ Calls Tryd.prog 24 #[vP t] w fun r w' => r = .returned (.bool b) ∧ Below w.heap.size w w' := by
  obtain ⟨⟨cl, nu, ki, di, sk, sq, st, po, xs, tm⟩, a, cap⟩ := t
  obtain ⟨u1, u2, u3, o1, o2, o3⟩ := hh
  simp only at hk u1 u2 u3 o1 o2 o3 ⊢
  have hc : okb sk = false ∨ (okb sk = true ∧ okb sq = false) ∨ (okb sk = true ∧ okb sq = true ∧ okb st = false) ∨ (okb sk = true ∧ okb sq = true ∧ okb st = true) := by
    cases okb sk <;> cases okb sq <;> cases okb st <;> simp
  simp only [vP, vN, tv]
  rcases hc with o4 | ⟨o4, o5⟩ | ⟨o4, o5, o6⟩ | ⟨o4, o5, o6⟩
  · refine ⟨false, by simp [okb_no o4], ?_⟩
    clear ht
    rcases hk with rfl | rfl
    all_goals
      go_enter Tryd.func24, Tryd.ntmps24
      go_wp2_with (go_at_call 47; refine (okd _ _).mono ?_; rintro r w1 ⟨rfl, rfl⟩; (try simp only [o1]); (try simp only [o2]); (try simp only [o3]); (try simp only [o4]))
      go_ret
      exact ⟨rfl, ba (ba (ba (Below.refl _ w) _) _) _⟩
  · refine ⟨false, by simp [okb_no o5], ?_⟩
    clear ht
    rcases hk with rfl | rfl
    all_goals
      go_enter Tryd.func24, Tryd.ntmps24
      go_wp2_with (go_at_call 47; refine (okd _ _).mono ?_; rintro r w1 ⟨rfl, rfl⟩; (try simp only [o1]); (try simp only [o2]); (try simp only [o3]); (try simp only [o4]); (try simp only [o5]))
      go_ret
      exact ⟨rfl, ba (ba (ba (Below.refl _ w) _) _) _⟩
  · refine ⟨false, by simp [okb_no o6], ?_⟩
    clear ht
    rcases hk with rfl | rfl
    all_goals
      go_enter Tryd.func24, Tryd.ntmps24
      go_wp2_with (go_at_call 47; refine (okd _ _).mono ?_; rintro r w1 ⟨rfl, rfl⟩; (try simp only [o1]); (try simp only [o2]); (try simp only [o3]); (try simp only [o4]); (try simp only [o5]); (try simp only [o6]))
      go_ret
      exact ⟨rfl, ba (ba (ba (Below.refl _ w) _) _) _⟩
  · obtain ⟨b, hb⟩ := ex_bool (po = 0 ∧ xs = [])
    refine ⟨b, by rw [hb]; simp [okb_iff.mp o4, okb_iff.mp o5, okb_iff.mp o6], ?_⟩
    have HC := mkHid (fun W hbW => sameO_any W ⟨cl, nu, ki, di, sk, sq, st, po, xs, tm⟩ ⟨cl, nu, ki, di, sk, sq, st, 0, [], tm⟩ a none cap 0 (Tks.below ht hbW) (tks_nil W))
    have HBB : Hid (∀ b', (b' = true ↔ oEq (⟨cl, nu, ki, di, sk, sq, st, po, xs, tm⟩ : En) ⟨cl, nu, ki, di, sk, sq, st, 0, [], tm⟩) → b' = b) := mkHid (fun b' h' => by
      rw [Bool.eq_iff_iff, h', hb]
      simp only [oEq, oHead]
      constructor
      · rintro ⟨⟨_, _, _, h1, _⟩, h2⟩; exact ⟨h1, h2⟩
      · rintro ⟨rfl, rfl⟩; simp)
    clear ht hb
    rcases hk with rfl | rfl
    all_goals
      go_enter Tryd.func24, Tryd.ntmps24
      go_wp2_with (first | (go_at_call 47; refine (okd _ _).mono ?_; rintro r w1 ⟨rfl, rfl⟩; (try simp only [o1]); (try simp only [o2]); (try simp only [o3]); (try simp only [o4]); (try simp only [o5]); (try simp only [o6])) | (go_at_call 48; obtain ⟨b', hb', hc'⟩ := HC.out _ (ba (ba (ba (Below.refl _ w) _) _) _); have hbe := HBB.out b' hb'; subst hbe; refine hc'.mono ?_; rintro r w1 ⟨rfl, b1⟩; have HB1 := mkHid (bt (ba (ba (ba (Below.refl _ w) _) _) _) b1); clear b1 hc' hb'))
      go_ret
      exact ⟨rfl, HB1.out⟩
set_option maxHeartbeats 12800000 in
theorem inForm_drop (w : World) (t : Ep) (ht : EnW w t) (hh : headF t.1) (hk : t.1.ki = 3) : ∃ b : Bool, (b = true ↔ (t.1.sk = 0 ∧ t.1.sq = 0 ∧ t.1.st = 0) ∧ t.1.po = 0 ∧ t.1.ts = []) ∧ Calls Tryd.prog 24 #[vP t] w fun r w' => r = .returned (.bool b) ∧ Below w.heap.size w w' := by
  obtain ⟨⟨cl, nu, ki, di, sk, sq, st, po, xs, tm⟩, a, cap⟩ := t
  obtain ⟨u1, u2, u3, o1, o2, o3⟩ := hh
  simp only at hk u1 u2 u3 o1 o2 o3 ⊢
  simp only [vP, vN, tv]
  obtain ⟨b, hb⟩ := ex_bool ((sk = 0 ∧ sq = 0 ∧ st = 0) ∧ po = 0 ∧ xs = [])
  refine ⟨b, hb, ?_⟩
  have HC := mkHid (fun W hbW => sameO_any W ⟨cl, nu, ki, di, sk, sq, st, po, xs, tm⟩ ⟨cl, nu, ki, di, 0, 0, 0, 0, [], tm⟩ a none cap 0 (Tks.below ht hbW) (tks_nil W))
  have HBB : Hid (∀ b', (b' = true ↔ oEq (⟨cl, nu, ki, di, sk, sq, st, po, xs, tm⟩ : En) ⟨cl, nu, ki, di, 0, 0, 0, 0, [], tm⟩) → b' = b) := mkHid (fun b' h' => by
    rw [Bool.eq_iff_iff, h', hb]
    simp only [oEq, oHead, Prod.mk.injEq]
    constructor
    · rintro ⟨⟨_, _, h0, h1, _⟩, h2⟩; exact ⟨h0, h1, h2⟩
    · rintro ⟨⟨rfl, rfl, rfl⟩, rfl, rfl⟩; simp)
  clear ht hb
  subst hk
  go_enter Tryd.func24, Tryd.ntmps24
  go_wp2_with (first | (go_at_call 47; refine (okd _ _).mono ?_; rintro r w1 ⟨rfl, rfl⟩; (try simp only [o1]); (try simp only [o2]); (try simp only [o3])) | (go_at_call 48; obtain ⟨b', hb', hc'⟩ := HC.out _ (ba (ba (ba (Below.refl _ w) _) _) _); have hbe := HBB.out b' hb'; subst hbe; refine hc'.mono ?_; rintro r w1 ⟨rfl, b1⟩; have HB1 := mkHid (bt (ba (ba (ba (Below.refl _ w) _) _) _) b1); clear b1 hc' hb'))
  go_ret
  exact ⟨rfl, HB1.out⟩
end Go.Proofs.YtjocjkfllicjdaaDoor
