import Derived.Test.YtihdkgekickohaaGreatDoorOref
import Derived.Test.YtihdkgekickohaaGreatDoorOrput
/- The document's InForm. -/
namespace Go.Proofs.YtihdkgekickohaaGreatDoor
open Go.ChangeShapes Go.WideShapes Go.ChangeAt Go.RowKit
set_option maxRecDepth 100000
attribute [local go_sem] World.cell?_alloc_some frozen_alloc_some

def okb (n : Int) : Bool := decide (0 ≤ n) && decide (n ≤ 1099511627776)
theorem okb_iff {n : Int} : okb n = true ↔ amt n := by simp [okb, amt]
theorem okb_no {n : Int} (h : okb n = false) : ¬ amt n := fun a => by rw [okb_iff.mpr a] at h; cases h
theorem okd (w : World) (n : Int) : Calls Tryz.prog 134 #[.int .i64 n] w fun r w' => r = .returned (.bool (okb n)) ∧ w' = w := by
  by_cases h0 : 0 ≤ n
  · by_cases h1 : n ≤ 1099511627776
    · rw [show okb n = true by simp [okb, h0, h1]]
      go_enter Tryz.func134, Tryz.ntmps134
      go_wp2
      go_ret
      exact ⟨rfl, rfl⟩
    · rw [show okb n = false by simp [okb, h1]]
      have h1' : decide (n ≤ 1099511627776) = false := decide_eq_false h1
      go_enter Tryz.func134, Tryz.ntmps134
      go_wp2
      go_ret
      refine ⟨?_, rfl⟩
      first | rfl | (show Ending.returned (.bool (decide (n ≤ 1099511627776))) = _; rw [h1'])
  · rw [show okb n = false by simp [okb, h0]]
    have h0' : decide (0 ≤ n) = false := decide_eq_false h0
    go_enter Tryz.func134, Tryz.ntmps134
    go_wp2
    go_ret
    exact ⟨rfl, rfl⟩
def headF (e : En) : Prop := ¬ e.cl < 0 ∧ ¬ 15 < e.cl ∧ ¬ e.nu < 1 ∧ okb e.nu = true ∧ okb e.tm = true ∧ okb e.id = true
set_option maxHeartbeats 6400000 in
theorem inForm_head (w : World) (t : Ep) (h : ¬ headF t.1) : Calls Tryz.prog 100 #[vP t] w fun r w' => r = .returned (.bool false) ∧ Below w.heap.size w w' := by
  obtain ⟨⟨cl, nu, ki, di, sk, sq, st, po, xs, tm⟩, a, cap⟩ := t
  simp only [headF] at h
  have hc : cl < 0 ∨ (¬ cl < 0 ∧ 15 < cl) ∨ (¬ cl < 0 ∧ ¬ 15 < cl ∧ nu < 1) ∨ (¬ cl < 0 ∧ ¬ 15 < cl ∧ ¬ nu < 1 ∧ okb nu = false) ∨ (¬ cl < 0 ∧ ¬ 15 < cl ∧ ¬ nu < 1 ∧ okb nu = true ∧ okb tm = false) ∨ (¬ cl < 0 ∧ ¬ 15 < cl ∧ ¬ nu < 1 ∧ okb nu = true ∧ okb tm = true ∧ okb di = false) := by
    by_cases h1 : cl < 0
    · exact .inl h1
    by_cases h2 : 15 < cl
    · exact .inr (.inl ⟨h1, h2⟩)
    by_cases h3 : nu < 1
    · exact .inr (.inr (.inl ⟨h1, h2, h3⟩))
    cases h4 : okb nu
    · exact .inr (.inr (.inr (.inl ⟨h1, h2, h3, rfl⟩)))
    cases h5 : okb tm
    · exact .inr (.inr (.inr (.inr (.inl ⟨h1, h2, h3, rfl, rfl⟩))))
    cases h6 : okb di
    · exact .inr (.inr (.inr (.inr (.inr ⟨h1, h2, h3, rfl, rfl, rfl⟩))))
    exact absurd ⟨h1, h2, h3, h4, h5, h6⟩ h
  clear h
  simp only [vP, vN, tv]
  rcases hc with h1 | ⟨h1, h2⟩ | ⟨h1, h2, h3⟩ | ⟨h1, h2, h3, o1⟩ | ⟨h1, h2, h3, o1, o2⟩ | ⟨h1, h2, h3, o1, o2, o3⟩
  · go_enter Tryz.func100, Tryz.ntmps100
    go_wp2
    go_ret
    exact ⟨rfl, ba (ba (Below.refl _ _) _) _⟩
  · go_enter Tryz.func100, Tryz.ntmps100
    go_wp2
    go_ret
    exact ⟨rfl, ba (ba (Below.refl _ _) _) _⟩
  · go_enter Tryz.func100, Tryz.ntmps100
    go_wp2
    go_ret
    exact ⟨rfl, ba (ba (Below.refl _ _) _) _⟩
  · go_enter Tryz.func100, Tryz.ntmps100
    go_wp2_with (go_at_call 134; refine (okd _ _).mono ?_; rintro r w1 ⟨rfl, rfl⟩; simp only [o1])
    go_ret
    exact ⟨rfl, ba (ba (Below.refl _ _) _) _⟩
  · go_enter Tryz.func100, Tryz.ntmps100
    go_wp2_with (go_at_call 134; refine (okd _ _).mono ?_; rintro r w1 ⟨rfl, rfl⟩; (try simp only [o1]); (try simp only [o2]))
    go_ret
    exact ⟨rfl, ba (ba (Below.refl _ _) _) _⟩
  · go_enter Tryz.func100, Tryz.ntmps100
    go_wp2_with (go_at_call 134; refine (okd _ _).mono ?_; rintro r w1 ⟨rfl, rfl⟩; (try simp only [o1]); (try simp only [o2]); (try simp only [o3]))
    go_ret
    exact ⟨rfl, ba (ba (Below.refl _ _) _) _⟩
/-- The rest, of the Kinds but the fourth. -/
theorem headF_inF {e : En} (h : headF e) : (e.cl < 16 ∧ 1 ≤ e.nu) ∧ amt e.cl ∧ amt e.nu ∧ amt e.tm ∧ amt e.id := by
  obtain ⟨h1, h2, h3, h4, h5, h6⟩ := h
  exact ⟨⟨by omega, by omega⟩, ⟨by omega, by omega⟩, okb_iff.mp h4, okb_iff.mp h5, okb_iff.mp h6⟩
theorem inF_headF {e : En} (h : inF e) : headF e := by
  obtain ⟨⟨h1, h2⟩, ⟨h3, h4, h5⟩, h6⟩ := h
  have a := h4 e.cl (by simp [hnum])
  exact ⟨by have := a.1; omega, by omega, by omega, okb_iff.mpr (h4 _ (by simp [hnum])), okb_iff.mpr (h4 _ (by simp [hnum])), okb_iff.mpr (h4 _ (by simp [hnum]))⟩
set_option maxHeartbeats 6400000 in
theorem inForm_other (w : World) (t : Ep) (hh : headF t.1) (h1 : ¬ t.1.ki = 1) (h2 : ¬ t.1.ki = 2) (h3 : ¬ t.1.ki = 3) (h4 : ¬ t.1.ki = 4) : Calls Tryz.prog 100 #[vP t] w fun r w' => r = .returned (.bool false) ∧ Below w.heap.size w w' := by
  obtain ⟨⟨cl, nu, ki, di, sk, sq, st, po, xs, tm⟩, a, cap⟩ := t
  obtain ⟨u1, u2, u3, o1, o2, o3⟩ := hh
  simp only at h1 h2 h3 h4 u1 u2 u3 o1 o2 o3
  have g1 : (ki == 1) = false := by simpa using h1
  have g2 : (ki == 2) = false := by simpa using h2
  have g3 : (ki == 3) = false := by simpa using h3
  have g4 : (ki == 4) = false := by simpa using h4
  simp only [vP, vN, tv]
  clear h1 h2 h3 h4
  go_enter Tryz.func100, Tryz.ntmps100
  go_wp2_with (go_at_call 134; refine (okd _ _).mono ?_; rintro r w1 ⟨rfl, rfl⟩; (try simp only [o1]); (try simp only [o2]); (try simp only [o3]))
  go_ret
  exact ⟨rfl, ba (ba (ba (Below.refl _ _) _) _) _⟩
theorem tks_nil (w : World) : Tks w (.slice none ([] : List Tk).length 0) [] := ⟨none, 0, rfl, by simp, fun hp => by simp at hp⟩
set_option maxHeartbeats 12800000 in
theorem inForm_make (w : World) (t : Ep) (ht : EnW w t) (hh : headF t.1) (hk : t.1.ki = 1 ∨ t.1.ki = 2) : ∃ b : Bool, (b = true ↔ amt t.1.sk ∧ amt t.1.sq ∧ amt t.1.st ∧ t.1.po = 0 ∧ t.1.ts = []) ∧ Calls Tryz.prog 100 #[vP t] w fun r w' => r = .returned (.bool b) ∧ Below w.heap.size w w' := by
  obtain ⟨⟨cl, nu, ki, di, sk, sq, st, po, xs, tm⟩, a, cap⟩ := t
  obtain ⟨u1, u2, u3, o1, o2, o3⟩ := hh
  simp only at hk u1 u2 u3 o1 o2 o3 ⊢
  have hc : okb sk = false ∨ (okb sk = true ∧ okb sq = false) ∨ (okb sk = true ∧ okb sq = true ∧ okb st = false) ∨ (okb sk = true ∧ okb sq = true ∧ okb st = true) := by
    cases okb sk <;> cases okb sq <;> cases okb st <;> simp
  simp only [vP, vN, tv]
  rcases hc with o4 | ⟨o4, o5⟩ | ⟨o4, o5, o6⟩ | ⟨o4, o5, o6⟩
  · refine ⟨false, by simp [okb_no o4], ?_⟩
    clear ht
    rcases hk with rfl | rfl
    all_goals
      go_enter Tryz.func100, Tryz.ntmps100
      go_wp2_with (go_at_call 134; refine (okd _ _).mono ?_; rintro r w1 ⟨rfl, rfl⟩; (try simp only [o1]); (try simp only [o2]); (try simp only [o3]); (try simp only [o4]))
      go_ret
      exact ⟨rfl, ba (ba (ba (Below.refl _ w) _) _) _⟩
  · refine ⟨false, by simp [okb_no o5], ?_⟩
    clear ht
    rcases hk with rfl | rfl
    all_goals
      go_enter Tryz.func100, Tryz.ntmps100
      go_wp2_with (go_at_call 134; refine (okd _ _).mono ?_; rintro r w1 ⟨rfl, rfl⟩; (try simp only [o1]); (try simp only [o2]); (try simp only [o3]); (try simp only [o4]); (try simp only [o5]))
      go_ret
      exact ⟨rfl, ba (ba (ba (Below.refl _ w) _) _) _⟩
  · refine ⟨false, by simp [okb_no o6], ?_⟩
    clear ht
    rcases hk with rfl | rfl
    all_goals
      go_enter Tryz.func100, Tryz.ntmps100
      go_wp2_with (go_at_call 134; refine (okd _ _).mono ?_; rintro r w1 ⟨rfl, rfl⟩; (try simp only [o1]); (try simp only [o2]); (try simp only [o3]); (try simp only [o4]); (try simp only [o5]); (try simp only [o6]))
      go_ret
      exact ⟨rfl, ba (ba (ba (Below.refl _ w) _) _) _⟩
  · obtain ⟨b, hb⟩ := ex_bool (po = 0 ∧ xs = [])
    refine ⟨b, by rw [hb]; simp [okb_iff.mp o4, okb_iff.mp o5, okb_iff.mp o6], ?_⟩
    have HC := mkHid (fun W hbW => sameO_any W ⟨cl, nu, ki, di, sk, sq, st, po, xs, tm⟩ ⟨cl, nu, ki, di, sk, sq, st, 0, [], tm⟩ a none cap 0 (Tks.below ht hbW) (tks_nil W))
    have HBB : Hid (∀ b', (b' = true ↔ oEq (⟨cl, nu, ki, di, sk, sq, st, po, xs, tm⟩ : En) ⟨cl, nu, ki, di, sk, sq, st, 0, [], tm⟩) → b' = b) := mkHid (fun b' h' => by
      rw [Bool.eq_iff_iff, h', hb]
      simp only [oEq, oHead]
      constructor
      · rintro ⟨⟨_, _, _, h1, _⟩, h2⟩; exact ⟨h1, h2⟩
      · rintro ⟨rfl, rfl⟩; simp)
    clear ht hb
    rcases hk with rfl | rfl
    all_goals
      go_enter Tryz.func100, Tryz.ntmps100
      go_wp2_with (first | (go_at_call 134; refine (okd _ _).mono ?_; rintro r w1 ⟨rfl, rfl⟩; (try simp only [o1]); (try simp only [o2]); (try simp only [o3]); (try simp only [o4]); (try simp only [o5]); (try simp only [o6])) | (go_at_call 85; obtain ⟨b', hb', hc'⟩ := HC.out _ (ba (ba (ba (Below.refl _ w) _) _) _); have hbe := HBB.out b' hb'; subst hbe; refine hc'.mono ?_; rintro r w1 ⟨rfl, b1⟩; have HB1 := mkHid (bt (ba (ba (ba (Below.refl _ w) _) _) _) b1); clear b1 hc' hb'))
      go_ret
      exact ⟨rfl, HB1.out⟩
set_option maxHeartbeats 12800000 in
theorem inForm_drop (w : World) (t : Ep) (ht : EnW w t) (hh : headF t.1) (hk : t.1.ki = 3) : ∃ b : Bool, (b = true ↔ (t.1.sk = 0 ∧ t.1.sq = 0 ∧ t.1.st = 0) ∧ t.1.po = 0 ∧ t.1.ts = []) ∧ Calls Tryz.prog 100 #[vP t] w fun r w' => r = .returned (.bool b) ∧ Below w.heap.size w w' := by
  obtain ⟨⟨cl, nu, ki, di, sk, sq, st, po, xs, tm⟩, a, cap⟩ := t
  obtain ⟨u1, u2, u3, o1, o2, o3⟩ := hh
  simp only at hk u1 u2 u3 o1 o2 o3 ⊢
  simp only [vP, vN, tv]
  obtain ⟨b, hb⟩ := ex_bool ((sk = 0 ∧ sq = 0 ∧ st = 0) ∧ po = 0 ∧ xs = [])
  refine ⟨b, hb, ?_⟩
  have HC := mkHid (fun W hbW => sameO_any W ⟨cl, nu, ki, di, sk, sq, st, po, xs, tm⟩ ⟨cl, nu, ki, di, 0, 0, 0, 0, [], tm⟩ a none cap 0 (Tks.below ht hbW) (tks_nil W))
  have HBB : Hid (∀ b', (b' = true ↔ oEq (⟨cl, nu, ki, di, sk, sq, st, po, xs, tm⟩ : En) ⟨cl, nu, ki, di, 0, 0, 0, 0, [], tm⟩) → b' = b) := mkHid (fun b' h' => by
    rw [Bool.eq_iff_iff, h', hb]
    simp only [oEq, oHead, Prod.mk.injEq]
    constructor
    · rintro ⟨⟨_, _, h0, h1, _⟩, h2⟩; exact ⟨h0, h1, h2⟩
    · rintro ⟨⟨rfl, rfl, rfl⟩, rfl, rfl⟩; simp)
  clear ht hb
  subst hk
  go_enter Tryz.func100, Tryz.ntmps100
  go_wp2_with (first | (go_at_call 134; refine (okd _ _).mono ?_; rintro r w1 ⟨rfl, rfl⟩; (try simp only [o1]); (try simp only [o2]); (try simp only [o3])) | (go_at_call 85; obtain ⟨b', hb', hc'⟩ := HC.out _ (ba (ba (ba (Below.refl _ w) _) _) _); have hbe := HBB.out b' hb'; subst hbe; refine hc'.mono ?_; rintro r w1 ⟨rfl, b1⟩; have HB1 := mkHid (bt (ba (ba (ba (Below.refl _ w) _) _) _) b1); clear b1 hc' hb'))
  go_ret
  exact ⟨rfl, HB1.out⟩
end Go.Proofs.YtihdkgekickohaaGreatDoor

/- The document's InForm, of orders that bind; of all. -/
namespace Go.Proofs.YtihdkgekickohaaGreatDoor
open Go.ChangeShapes Go.WideShapes Go.ChangeAt Go.RowKit
set_option maxRecDepth 100000
attribute [local go_sem] World.cell?_alloc_some frozen_alloc_some

theorem three_facts {w w' : World} {o1 o2 o3 : Obj} (hb : Below (((w.alloc o1).alloc o2).alloc o3).drew.heap.size (((w.alloc o1).alloc o2).alloc o3).drew w') : w'.heap[w.heap.size + 1]? = some o2 ∧ w'.heap[w.heap.size + 1 + 1]? = some o3 := by
  rw [hb.block _ (by show _ < (((w.alloc o1).alloc o2).alloc o3).heap.size; simp), hb.block _ (by show _ < (((w.alloc o1).alloc o2).alloc o3).heap.size; simp)]
  constructor
  · show (((w.alloc o1).alloc o2).alloc o3).heap[w.heap.size + 1]? = some o2
    rw [heap_alloc_old _ _ (by simp)]
    exact two_of_two w o1 o2
  · have := two_of_two (w.alloc o1) o2 o3
    rw [show (w.alloc o1).heap.size = w.heap.size + 1 by simp] at this
    exact this
theorem ord_cells {w : World} {b : Nat} {c0 c1 c2 c3 c4 c5 c6 c7 : Value} (h : w.heap[b]? = some (.cells #[c0, c1, c2, c3, c4, c5, c6, c7] 67 (0, 0))) : w.cell? ⟨b, 0, none⟩ = some c0 ∧ w.cell? ⟨b, 1, none⟩ = some c1 ∧ w.cell? ⟨b, 2, none⟩ = some c2 ∧ w.cell? ⟨b, 3, none⟩ = some c3 ∧ w.cell? ⟨b, 4, none⟩ = some c4 ∧ w.cell? ⟨b, 5, none⟩ = some c5 ∧ w.cell? ⟨b, 6, none⟩ = some c6 ∧ w.cell? ⟨b, 7, none⟩ = some c7 :=
  ⟨cell_of_block h rfl, cell_of_block h rfl, cell_of_block h rfl, cell_of_block h rfl, cell_of_block h rfl, cell_of_block h rfl, cell_of_block h rfl, cell_of_block h rfl⟩
def gT (c : Bool) (xs : List Tk) : Bool := c && xs.all (fun x => okb x.1 && (okb x.2.1 && (okb x.2.2.1 && okb x.2.2.2)))
theorem gT_take {c : Bool} {xs : List Tk} {j : Nat} {x : Tk} (hx : xs[j]? = some x) : gT c (xs.take (j + 1)) = (gT c (xs.take j) && (okb x.1 && (okb x.2.1 && (okb x.2.2.1 && okb x.2.2.2)))) := by
  unfold gT
  rw [List.take_add_one, hx]
  simp [Bool.and_assoc]
theorem gT_iff {c : Bool} {xs : List Tk} : gT c xs = true ↔ c = true ∧ ∀ t ∈ xs, okT t := by
  unfold gT
  rw [Bool.and_eq_true, List.all_eq_true]
  simp only [Bool.and_eq_true, okb_iff, okT]
set_option maxHeartbeats 25600000 in
theorem inForm_bind (w : World) (t : Ep) (ht : EnW w t) (hh : headF t.1) (hk : t.1.ki = 4) : ∃ b : Bool, (b = true ↔ (amt t.1.po ∧ t.1.ts.length ≤ 8 ∧ ∀ x ∈ t.1.ts, okT x) ∧ t.1.sk = 0 ∧ t.1.sq = 0 ∧ t.1.st = 0) ∧ Calls Tryz.prog 100 #[vP t] w fun r w' => r = .returned (.bool b) ∧ Below w.heap.size w w' := by
  obtain ⟨⟨cl, nu, ki, di, sk, sq, st, po, xs, tm⟩, a, cap⟩ := t
  obtain ⟨u1, u2, u3, o1, o2, o3⟩ := hh
  simp only at hk u1 u2 u3 o1 o2 o3 ⊢
  have hl0 : (xs.length : Int) ≤ 9223372036854775807 := by
    obtain ⟨_, _, _, h, _⟩ := ht
    exact h
  simp only [vP, vN, tv]
  obtain ⟨c, hc⟩ : ∃ c : Bool, c = (okb po && decide ((xs.length : Int) ≤ 8)) := ⟨_, rfl⟩
  obtain ⟨b, hb⟩ := ex_bool (gT c xs = true ∧ sk = 0 ∧ sq = 0 ∧ st = 0)
  refine ⟨b, ?_, ?_⟩
  · rw [hb, gT_iff, hc]
    simp only [Bool.and_eq_true, okb_iff, decide_eq_true_iff]
    constructor
    · rintro ⟨⟨⟨h1, h2⟩, h3⟩, h4⟩; exact ⟨⟨h1, by omega, h3⟩, h4⟩
    · rintro ⟨⟨h1, h2, h3⟩, h4⟩; exact ⟨⟨⟨h1, by omega⟩, h3⟩, h4⟩
  have HC := mkHid (fun W hbW => sameO_any W ⟨cl, nu, 4, di, sk, sq, st, po, xs, tm⟩ ⟨cl, nu, 4, di, 0, 0, 0, po, xs, tm⟩ a a cap cap (Tks.below ht hbW) (Tks.below ht hbW))
  have HBB : Hid (gT c xs = true → ∀ b', (b' = true ↔ oEq (⟨cl, nu, 4, di, sk, sq, st, po, xs, tm⟩ : En) ⟨cl, nu, 4, di, 0, 0, 0, po, xs, tm⟩) → b' = b) := mkHid (fun hg b' h' => by
    rw [Bool.eq_iff_iff, h', hb]
    simp only [oEq, oHead, Prod.mk.injEq]
    constructor
    · rintro ⟨⟨_, _, h0, _⟩, _⟩; exact ⟨hg, h0⟩
    · rintro ⟨_, rfl, rfl, rfl⟩; simp)
  have HBN : Hid (gT c xs = false → b = false) := mkHid (fun hg => by
    rw [← Bool.not_eq_true, hb, hg]; simp)
  have HS := mkHid ht
  clear ht hb
  subst hk
  obtain ⟨W, hW⟩ : ∃ W, W = (((w.alloc (.cells #[.int .i64 cl, .int .i64 nu, .int .i64 4, .int .i64 di, .int .i64 sk, .int .i64 sq, .int .i64 st, .int .i64 po, .slice a xs.length cap, .int .i64 tm] 69)).alloc (.cells #[.int .i64 4, .int .i64 di, .int .i64 sk, .int .i64 sq, .int .i64 st, .int .i64 po, .slice a xs.length cap, .int .i64 tm] 67)).alloc (.cells #[.int .i64 4, .int .i64 di, .int .i64 0, .int .i64 0, .int .i64 0, .int .i64 po, .slice a xs.length cap, .int .i64 tm] 67)).drew := ⟨_, rfl⟩
  go_enter Tryz.func100, Tryz.ntmps100
  go_wp2_with (go_at_call 134; refine (okd _ _).mono ?_; rintro r w1 ⟨rfl, rfl⟩; (try simp only [o1]); (try simp only [o2]); (try simp only [o3]))
  go_region
  rw [← hW]
  have hbW : Below w.heap.size w W := by rw [hW]; exact (ba (ba (ba (Below.refl _ w) _) _) _).drew
  have HX : Hid (∀ W', Below W.heap.size W W' → W'.heap[w.heap.size + 1]? = some (.cells #[.int .i64 4, .int .i64 di, .int .i64 sk, .int .i64 sq, .int .i64 st, .int .i64 po, .slice a xs.length cap, .int .i64 tm] 67 (0, 0)) ∧ W'.heap[w.heap.size + 1 + 1]? = some (.cells #[.int .i64 4, .int .i64 di, .int .i64 0, .int .i64 0, .int .i64 0, .int .i64 po, .slice a xs.length cap, .int .i64 tm] 67 (0, 0))) := mkHid (fun W' hb => by rw [hW] at hb; exact three_facts hb)
  obtain ⟨p0, p1, p2, p3, p4, p5, p6, p7⟩ := ord_cells (HX.out W (Below.refl _ _)).1
  have HBW := mkHid hbW
  have HCC := mkHid hc
  clear hW hbW
  have hd : (okb po = false ∧ c = false) ∨ (okb po = true ∧ c = false ∧ decide ((xs.length : Int) ≤ 8) = false ∧ ¬ (xs.length : Int) ≤ 8) ∨ (okb po = true ∧ c = true ∧ (xs.length : Int) ≤ 8) := by
    cases h1 : okb po
    · exact .inl ⟨rfl, by rw [hc, h1]; rfl⟩
    · by_cases h2 : (xs.length : Int) ≤ 8
      · exact .inr (.inr ⟨rfl, by rw [hc, h1]; simp [h2], h2⟩)
      · exact .inr (.inl ⟨rfl, by rw [hc, h1]; simp [h2], decide_eq_false h2, h2⟩)
  clear hc
  rcases hd with ⟨o7, hc0⟩ | ⟨o7, hc0, h8, h8'⟩ | ⟨o7, hc0, h8⟩
  all_goals
    go_wp2_with (go_at_call 134; refine (okd _ _).mono ?_; rintro r w1 ⟨rfl, hw1⟩; rw [hw1]; clear hw1; simp only [o7])
    clear p0 p1 p2 p3 p4 p5 p6 p7
    go_loopw [5, 94] (fun ov iv wr => ∃ j : Nat, ov = .bool (gT c (xs.take j)) ∧ iv = .int .i64 (j : Int) ∧ j ≤ xs.length ∧ Hid (Below W.heap.size W wr)) (fun _ iv _ => xs.length - (intOf iv).toNat)
    case atStart => exact ⟨0, by simp [gT, hc0], rfl, Nat.zero_le _, Below.refl _ _⟩
    case round =>
      obtain ⟨j, rfl, rfl, hj, HB⟩ := hrel
      clear hc0
      by_cases hlt : j < xs.length
      · obtain ⟨b0, off, x0, x1, x2, x3, rfl, hxj, c0, c1, c2, c3⟩ := Tks.at HS.out (bt HBW.out HB.out) j hlt
        have hji : (j : Int) < xs.length := by omega
        have HG := mkHid (gT_take (c := c) hxj)
        clear hxj
        obtain ⟨g, hgv⟩ : ∃ g, g = gT c (xs.take j) := ⟨_, rfl⟩
        rw [← hgv] at HG ⊢
        clear hgv
        obtain ⟨k0, hk0⟩ : ∃ k, k = okb x0 := ⟨_, rfl⟩
        obtain ⟨k1, hk1⟩ : ∃ k, k = okb x1 := ⟨_, rfl⟩
        obtain ⟨k2, hk2⟩ : ∃ k, k = okb x2 := ⟨_, rfl⟩
        obtain ⟨k3, hk3⟩ : ∃ k, k = okb x3 := ⟨_, rfl⟩
        simp only [← hk0, ← hk1, ← hk2, ← hk3] at HG
        have HR : Hid (∃ q, q = (g && (k0 && (k1 && (k2 && k3))))) := mkHid ⟨_, rfl⟩
        cases g
        · go_wp2
          go_roundw
          case rel => exact ⟨j + 1, by rw [HG.out]; rfl, by go_num, by omega, mkHid (ba HB.out _)⟩
          case measure => simp [intOf]; omega
        · have e0 := hk0.symm
          have e1 := hk1.symm
          have e2 := hk2.symm
          have e3 := hk3.symm
          clear hk0 hk1 hk2 hk3
          cases k0
          · go_wp2_with (go_at_call 134; refine (okd _ _).mono ?_; rintro r w1 ⟨rfl, rfl⟩; (try simp only [e0]); (try simp only [e1]); (try simp only [e2]); (try simp only [e3]))
            go_roundw
            case rel => exact ⟨j + 1, by rw [HG.out]; rfl, by go_num, by omega, mkHid (ba HB.out _)⟩
            case measure => simp [intOf]; omega
          · cases k1
            · go_wp2_with (go_at_call 134; refine (okd _ _).mono ?_; rintro r w1 ⟨rfl, rfl⟩; (try simp only [e0]); (try simp only [e1]); (try simp only [e2]); (try simp only [e3]))
              go_roundw
              case rel => exact ⟨j + 1, by rw [HG.out]; rfl, by go_num, by omega, mkHid (ba HB.out _)⟩
              case measure => simp [intOf]; omega
            · cases k2
              · go_wp2_with (go_at_call 134; refine (okd _ _).mono ?_; rintro r w1 ⟨rfl, rfl⟩; (try simp only [e0]); (try simp only [e1]); (try simp only [e2]); (try simp only [e3]))
                go_roundw
                case rel => exact ⟨j + 1, by rw [HG.out]; rfl, by go_num, by omega, mkHid (ba HB.out _)⟩
                case measure => simp [intOf]; omega
              · go_wp2_with (go_at_call 134; refine (okd _ _).mono ?_; rintro r w1 ⟨rfl, rfl⟩; (try simp only [e0]); (try simp only [e1]); (try simp only [e2]); (try simp only [e3]))
                go_roundw
                case rel => exact ⟨j + 1, by rw [HG.out]; rfl, by go_num, by omega, mkHid (ba HB.out _)⟩
                case measure => simp [intOf]; omega
      · obtain rfl : j = xs.length := by omega
        rw [List.take_of_length_le (Nat.le_refl _)]
        obtain ⟨g, hgv⟩ : ∃ g, g = gT c xs := ⟨_, rfl⟩
        rw [← hgv]
        have HG := mkHid hgv
        clear hgv
        obtain ⟨p0, p1, p2, p3, p4, p5, p6, p7⟩ := ord_cells (HX.out wr HB.out).1
        obtain ⟨q0, q1, q2, q3, q4, q5, q6, q7⟩ := ord_cells (HX.out wr HB.out).2
        cases g
        · go_wp2
          go_ret
          exact ⟨by rw [HBN.out HG.out.symm]; rfl, bt HBW.out HB.out⟩
        · go_wp2_with (go_at_call 85; obtain ⟨b', hb', hc'⟩ := HC.out wr (bt HBW.out HB.out); have hbe := HBB.out HG.out.symm b' hb'; subst hbe; refine hc'.mono ?_; rintro r w1 ⟨rfl, b1⟩; have HB1 := mkHid (bt (bt HBW.out HB.out) b1); clear b1 hc' hb')
          go_ret
          exact ⟨rfl, HB1.out⟩
theorem inForm_any (w : World) (t : Ep) (ht : EnW w t) : ∃ b : Bool, (b = true ↔ inF t.1) ∧ Calls Tryz.prog 100 #[vP t] w fun r w' => r = .returned (.bool b) ∧ Below w.heap.size w w' := by
  by_cases hh : headF t.1
  · obtain ⟨g0, g1, g2, g3, g4⟩ := headF_inF hh
    have hin : (kindF t.1 ∧ (amt t.1.sk ∧ amt t.1.sq ∧ amt t.1.st ∧ amt t.1.po) ∧ t.1.ts.length ≤ 8 ∧ ∀ x ∈ t.1.ts, okT x) ↔ inF t.1 := by
      constructor
      · rintro ⟨h1, ⟨h2, h3, h4, h5⟩, h6, h7⟩
        refine ⟨g0, ⟨h6, fun n hn => ?_, h7⟩, h1⟩
        simp only [hnum, List.mem_cons, List.not_mem_nil, or_false] at hn
        rcases hn with rfl | rfl | rfl | rfl | rfl | rfl | rfl | rfl | rfl
        · exact g1
        · exact g2
        · rcases h1 with ⟨e | e, _⟩ | ⟨e, _⟩ | ⟨e, _⟩ <;> rw [e] <;> exact ⟨by omega, by omega⟩
        · exact g3
        · exact g4
        · exact h2
        · exact h3
        · exact h4
        · exact h5
      · rintro ⟨_, ⟨h6, h8, h7⟩, h1⟩
        exact ⟨h1, ⟨h8 _ (by simp [hnum]), h8 _ (by simp [hnum]), h8 _ (by simp [hnum]), h8 _ (by simp [hnum])⟩, h6, h7⟩
    have z0 : amt 0 := ⟨by omega, by omega⟩
    by_cases k1 : t.1.ki = 1 ∨ t.1.ki = 2
    · obtain ⟨b, hb, hc⟩ := inForm_make w t ht hh k1
      refine ⟨b, ?_, hc⟩
      rw [hb, ← hin]
      constructor
      · rintro ⟨h1, h2, h3, h4, h5⟩
        exact ⟨.inl ⟨k1, h4, h5⟩, ⟨h1, h2, h3, by rw [h4]; exact z0⟩, by rw [h5]; simp, by rw [h5]; simp⟩
      · rintro ⟨h1, ⟨h2, h3, h4, _⟩, _⟩
        rcases h1 with ⟨_, e⟩ | ⟨e, _⟩ | ⟨e, _⟩
        · exact ⟨h2, h3, h4, e.1, e.2⟩
        · omega
        · omega
    · by_cases k3 : t.1.ki = 3
      · obtain ⟨b, hb, hc⟩ := inForm_drop w t ht hh k3
        refine ⟨b, ?_, hc⟩
        rw [hb, ← hin]
        constructor
        · rintro ⟨⟨h1, h2, h3⟩, h4, h5⟩
          exact ⟨.inr (.inl ⟨k3, ⟨h1, h2, h3⟩, h4, h5⟩), ⟨by rw [h1]; exact z0, by rw [h2]; exact z0, by rw [h3]; exact z0, by rw [h4]; exact z0⟩, by rw [h5]; simp, by rw [h5]; simp⟩
        · rintro ⟨h1, _⟩
          rcases h1 with ⟨e, _⟩ | ⟨_, e⟩ | ⟨e, _⟩
          · omega
          · exact e
          · omega
      · by_cases k4 : t.1.ki = 4
        · obtain ⟨b, hb, hc⟩ := inForm_bind w t ht hh k4
          refine ⟨b, ?_, hc⟩
          rw [hb, ← hin]
          constructor
          · rintro ⟨⟨h1, h2, h3⟩, h4, h5, h6⟩
            exact ⟨.inr (.inr ⟨k4, h4, h5, h6⟩), ⟨by rw [h4]; exact z0, by rw [h5]; exact z0, by rw [h6]; exact z0, h1⟩, h2, h3⟩
          · rintro ⟨h1, ⟨_, _, _, h5⟩, h6, h7⟩
            rcases h1 with ⟨e, _⟩ | ⟨e, _⟩ | ⟨_, e⟩
            · omega
            · omega
            · exact ⟨⟨h5, h6, h7⟩, e⟩
        · refine ⟨false, ?_, inForm_other w t hh (fun e => k1 (.inl e)) (fun e => k1 (.inr e)) k3 k4⟩
          rw [← hin]
          simp only [Bool.false_eq_true, false_iff]
          rintro ⟨h1, _⟩
          rcases h1 with ⟨e, _⟩ | ⟨e, _⟩ | ⟨e, _⟩
          · exact k1 e
          · exact k3 e
          · exact k4 e
  · exact ⟨false, by simp only [Bool.false_eq_true, false_iff]; exact fun h => hh (inF_headF h), inForm_head w t hh⟩
end Go.Proofs.YtihdkgekickohaaGreatDoor

/- Put of entries that aren't in form; the chapter's example; answers that are known. -/
namespace Go.Proofs.YtihdkgekickohaaGreatDoor
open Go.ChangeShapes Go.WideShapes Go.ChangeAt Go.RowKit
set_option maxRecDepth 100000
attribute [local go_sem] World.cell?_alloc_some frozen_alloc_some

theorem Err.late {w w' : World} {g : Nat} {s : List UInt8} {a : Addr} (h : Err w g s a) (hb : Below w.heap.size w w') : Err w' g s a := by
  obtain ⟨h1, ⟨t, h2, h3⟩, c, ty, h4⟩ := h
  exact ⟨(hb.cell (World.block_lt_of_cell? w _ h1)).trans h1, ⟨t, (hb.cell (World.block_lt_of_cell? w _ h2)).trans h2, h3⟩, c, ty, (hb.block _ (Array.getElem?_eq_some_iff.1 h4).1).trans h4⟩
set_option maxHeartbeats 3200000 in
theorem put_no (w : World) (t : Ep) (ea : Addr) (h : EnW w t) (hf : ¬ inF t.1) (he : w.cell? ⟨15, 0, none⟩ = some (vErr ea)) : Calls Tryz.prog 77 #[vP t] w fun r w' => r = .returned (.tuple #[.slice none 0 0, vErr ea]) ∧ Below w.heap.size w w' := by
  obtain ⟨e, a, cap⟩ := t
  have HC := mkHid (fun W (hW : Below w.heap.size w W) => check_no W (e, a, cap) ea (h.below hW) hf (kc he hW))
  clear h hf he
  simp only [vP, vN, tv] at HC ⊢
  go_enter Tryz.func77, Tryz.ntmps77
  go_wp2_with (go_at_call 117; refine (HC.out _ (ba (Below.refl _ w) _)).mono ?_; rintro r w1 ⟨rfl, b1⟩; have HB1 := mkHid (bt (ba (Below.refl _ w) _) b1); clear b1)
  go_ret2
  exact ⟨rfl, HB1.out⟩
theorem refSame_yes (w : World) (t u : Ep) (ht : EnW w t) (hu : EnW w u) (h : t.1 = u.1) : Calls Tryz.prog 48 #[vP t, vP u] w fun r w' => r = .returned (.bool true) ∧ Below w.heap.size w w' := by
  obtain ⟨b, hb, hc⟩ := refSame_any w t u ht hu
  rwa [hb.mpr h] at hc
theorem refSame_no (w : World) (t u : Ep) (ht : EnW w t) (hu : EnW w u) (h : ¬ t.1 = u.1) : Calls Tryz.prog 48 #[vP t, vP u] w fun r w' => r = .returned (.bool false) ∧ Below w.heap.size w w' := by
  obtain ⟨b, hb, hc⟩ := refSame_any w t u ht hu
  rwa [show b = false by rw [← Bool.not_eq_true, hb]; exact h] at hc
theorem oSame_yes (w : World) (t u : Ep) (ht : EnW w t) (hu : EnW w u) (h : t.1 = u.1) : Calls Tryz.prog 78 #[vP t, vP u] w fun r w' => r = .returned (.bool true) ∧ Below w.heap.size w w' := by
  obtain ⟨b, hb, hc⟩ := same_any w t u ht hu
  rwa [hb.mpr h] at hc
theorem oSame_no (w : World) (t u : Ep) (ht : EnW w t) (hu : EnW w u) (h : ¬ t.1 = u.1) : Calls Tryz.prog 78 #[vP t, vP u] w fun r w' => r = .returned (.bool false) ∧ Below w.heap.size w w' := by
  obtain ⟨b, hb, hc⟩ := same_any w t u ht hu
  rwa [show b = false by rw [← Bool.not_eq_true, hb]; exact h] at hc
theorem inForm_yes (w : World) (t : Ep) (ht : EnW w t) (h : inF t.1) : Calls Tryz.prog 100 #[vP t] w fun r w' => r = .returned (.bool true) ∧ Below w.heap.size w w' := by
  obtain ⟨b, hb, hc⟩ := inForm_any w t ht
  rwa [hb.mpr h] at hc
theorem inForm_no (w : World) (t : Ep) (ht : EnW w t) (h : ¬ inF t.1) : Calls Tryz.prog 100 #[vP t] w fun r w' => r = .returned (.bool false) ∧ Below w.heap.size w w' := by
  obtain ⟨b, hb, hc⟩ := inForm_any w t ht
  rwa [show b = false by rw [← Bool.not_eq_true, hb]; exact h] at hc
def exE : En := ⟨1, 2, 3, 5, 0, 0, 0, 0, [], 7⟩
theorem exE_in : inF exE := by
  refine ⟨⟨by decide, by decide⟩, ⟨by decide, fun n hn => ?_, fun t ht => by simp [exE] at ht⟩, .inr (.inl ⟨rfl, ⟨rfl, rfl, rfl⟩, rfl, rfl⟩)⟩
  simp only [hnum, exE, List.mem_cons, List.not_mem_nil, or_false] at hn
  rcases hn with rfl | rfl | rfl | rfl | rfl | rfl | rfl | rfl | rfl <;> exact ⟨by decide, by decide⟩
theorem exE_bytes : bytesE exE = [1, 2, 3, 7, 5, 0, 0, 0, 0, 0] := by
  simp only [bytesE, nums, hnum, exE, List.cons_append, List.nil_append, List.flatMap_nil, List.length_nil, encL_cons, encL_nil]
  have : ∀ n : Nat, n < 128 → enc n = [(n : Int)] := fun n h => enc_lt h
  simp [this]
theorem ex_str : strOfNums [1, 2, 3, 7, 5, 0, 0, 0, 0, 0] = ⟨#[1, 2, 3, 7, 5, 0, 0, 0, 0, 0]⟩ := by decide +kernel
theorem ens_one (w : World) (t : Ep) (h : EnW w t) : Ens (w.alloc (oE t.1 (tv t))) (.slice (some ⟨w.heap.size, 0, none⟩) 1 1) [t] := by
  refine ⟨_, _, rfl, by simp, fun _ => ⟨w.heap.size, 0, rfl, fun i x hx => ?_⟩, fun u hu => ?_⟩
  · have hi : i = 0 := by have := (List.getElem?_eq_some_iff.mp hx).1; simp at this; exact this
    subst hi
    simp at hx
    subst hx
    have hn := heap_alloc_new w (oE t.1 (tv t))
    exact ⟨cell_of_block hn rfl, cell_of_block hn rfl, cell_of_block hn rfl, cell_of_block hn rfl, cell_of_block hn rfl, cell_of_block hn rfl, cell_of_block hn rfl, cell_of_block hn rfl, cell_of_block hn rfl, cell_of_block hn rfl⟩
  · simp at hu
    subst hu
    exact h.below ((Below.refl _ _).alloc (Nat.le_refl _) _)
/-- A ledger of one entry, in new memory. -/
theorem led_one {base : Nat} {w : World} {v : Value} {qs : List Ep} {e : En} (h : Led base w v qs) (hq : qs.map (·.1) = [e]) (hs : (e.ts.length : Int) ≤ 9223372036854775807) : ∃ g cap a c, v = .slice (some ⟨g, 0, none⟩) 1 cap ∧ EnAt w g 0 (e, a, c) ∧ EnW w (e, a, c) := by
  match qs, hq with
  | [(e', a, c)], hq =>
    simp at hq
    subst hq
    have hen := h.ens (by simp) (fun t ht => by simp at ht; subst ht; exact hs)
    obtain ⟨a0, cap, rfl, _, hr, hw⟩ := hen
    obtain ⟨g, off, rfl, hc⟩ := hr (by simp)
    have hz : off = 0 := by
      rcases h.own.2 with ⟨e1, _⟩ | ⟨g1, cap1, cur, e1, _⟩
      · simp at e1
      · simp at e1; exact e1.1.2
    subst hz
    exact ⟨g, cap, a, c, rfl, by simpa using hc 0 _ rfl, hw _ (by simp)⟩
end Go.Proofs.YtihdkgekickohaaGreatDoor

