/- Package demand: Servers, Requests, Server, Request; Task. -/
import Derived.Test.YtilnchlnlnpkfaaDoorDm2
import Derived.Test.YtilnchlnlnpkfaaDoorErrNum8
namespace Go.Proofs.YtilnchlnlnpkfaaDoor
open Go.ChangeShapes Go.WideShapes Go.ChangeAt Go.RowKit
set_option maxRecDepth 100000
attribute [local go_sem] World.cell?_alloc_some frozen_alloc_some

/-- The error of a number. -/
def ev (a : Nat → Addr) (n : Int) : Value := if n = 10 then vE (a 0) else if n = 7 then vE (a 8) else if n = 11 then vE (a 2) else if n = 1 then vE (a 1) else .nilIface
def lcd (l : Int) : Int := if l < 0 ∨ 1099511627776 < l then 1 else 0
def scd (xs : List Sv) (l : Int) : Int := if xs.all bS = true then (if 8 < xs.length then 7 else lcd l) else 10
theorem lcd_cases (l : Int) : (lcd l = 1 ∧ (l < 0 ∨ (0 ≤ l ∧ 1099511627776 < l))) ∨ (lcd l = 0 ∧ 0 ≤ l ∧ l ≤ 1099511627776) := by
  unfold lcd
  split <;> omega
theorem all_okS {xs : List Sv} (h : xs.all bS = true) : ∀ x ∈ xs, okS x := by
  intro x hx
  have h2 := List.all_eq_true.1 h x hx
  unfold bS at h2
  have h3 := of_decide_eq_true h2
  exact h3
theorem some_noS {xs : List Sv} (h : ¬ xs.all bS = true) : ∃ x ∈ xs, ¬ okS x := by
  refine Classical.byContradiction fun hn => h (List.all_eq_true.2 fun x hx => bS_true ?_)
  exact Classical.byContradiction fun hk => hn ⟨x, hx, hk⟩
theorem scd_cases (xs : List Sv) (l : Int) : (scd xs l = 10 ∧ ∃ x ∈ xs, ¬ okS x) ∨ (scd xs l = 7 ∧ (∀ x ∈ xs, okS x) ∧ 8 < xs.length) ∨ (scd xs l = 1 ∧ (∀ x ∈ xs, okS x) ∧ xs.length ≤ 8 ∧ (l < 0 ∨ (0 ≤ l ∧ 1099511627776 < l))) ∨ (scd xs l = 0 ∧ (∀ x ∈ xs, okS x) ∧ xs.length ≤ 8 ∧ 0 ≤ l ∧ l ≤ 1099511627776) := by
  unfold scd
  by_cases h : xs.all bS = true
  · rw [if_pos h]
    by_cases h8 : 8 < xs.length
    · rw [if_pos h8]; exact .inr (.inl ⟨rfl, all_okS h, h8⟩)
    · rw [if_neg h8]
      rcases lcd_cases l with ⟨e, hl⟩ | ⟨e, hl⟩
      · exact .inr (.inr (.inl ⟨e, all_okS h, by omega, hl⟩))
      · exact .inr (.inr (.inr ⟨e, all_okS h, by omega, hl⟩))
  · rw [if_neg h]; exact .inl ⟨rfl, some_noS h⟩
theorem ev10 (a : Nat → Addr) : ev a 10 = vE (a 0) := rfl
theorem ev7 (a : Nat → Addr) : ev a 7 = vE (a 8) := rfl
theorem ev11 (a : Nat → Addr) : ev a 11 = vE (a 2) := rfl
theorem ev1 (a : Nat → Addr) : ev a 1 = vE (a 1) := rfl
theorem ev0 (a : Nat → Addr) : ev a 0 = .nilIface := rfl
/-- The errors of servers lie as laid. -/
structure Er3 (w : World) (a : Nat → Addr) : Prop where
  cell_server : w.cell? ⟨0, 0, none⟩ = some (vE (a 0))
  cell_full : w.cell? ⟨8, 0, none⟩ = some (vE (a 8))
  cell_number : w.cell? ⟨1, 0, none⟩ = some (vE (a 1))
/-- And that of tasks. -/
structure Er4 (w : World) (a : Nat → Addr) : Prop where
  er3 : Er3 w a
  cell_task : w.cell? ⟨2, 0, none⟩ = some (vE (a 2))
theorem Er3.late {w w' : World} {a : Nat → Addr} (h : Er3 w a) (hb : Below w.heap.size w w') : Er3 w' a := ⟨kc h.1 hb, kc h.2 hb, kc h.3 hb⟩
theorem Er4.late {w w' : World} {a : Nat → Addr} (h : Er4 w a) (hb : Below w.heap.size w w') : Er4 w' a := ⟨h.1.late hb, kc h.2 hb⟩
theorem Errs.er3 {w : World} {a : Nat → Addr} (h : Errs w a) : Er3 w a := ⟨h.cell_server, h.cell_full, h.cell_number⟩
theorem Errs.er4 {w : World} {a : Nat → Addr} (h : Errs w a) : Er4 w a := ⟨h.er3, h.cell_task⟩
theorem num_ev (w : World) (a : Nat → Addr) (E : Errs w a) (n : Int) (hn : n = 0 ∨ n = 1 ∨ n = 7 ∨ n = 10 ∨ n = 11) : Calls Tryd.prog 14 #[ev a n] w fun e w' => e = .returned (.int .i64 n) ∧ Below w.heap.size w w' := by
  rcases hn with rfl | rfl | rfl | rfl | rfl
  · refine (errnum_nil w).mono ?_
    rintro e w' ⟨h, rfl⟩
    exact ⟨h, Below.refl _ _⟩
  · exact errnum_number w a E
  · exact errnum_full w a E
  · exact errnum_server w a E
  · exact errnum_task w a E
theorem dsdem_err (w : World) (v : Value) (l : Int) (a : Addr) (h : Calls Tryd.prog 31 #[v, .int .i64 l] w fun e w' => e = .returned (vE a) ∧ Below w.heap.size w w') :
    Calls Tryd.prog 10 #[v, .int .i64 l] w fun e w' => e = .returned (.tuple #[.int .i64 0, vE a]) ∧ Below w.heap.size w w' := by
  have H := mkHid h
  clear h
  go_enter Tryd.func10, Tryd.ntmps10
  go_wp2_with (go_at_call 31; refine H.out.mono ?_; rintro e w1 ⟨rfl, b1⟩)
  go_ret2
  exact ⟨rfl, b1⟩
theorem dsdem_ok (w : World) (v : Value) (xs : List Sv) (l : Int) (h : Svs w v xs) (hx : ∀ x ∈ xs, okS x) (hn : xs.length ≤ 8) (l0 : 0 ≤ l) (l1 : l ≤ 1099511627776) :
    Calls Tryd.prog 10 #[v, .int .i64 l] w fun e w' => e = .returned (.tuple #[.int .i64 (tot (sdem · l) xs), .nilIface]) ∧ Below w.heap.size w w' := by
  have H1 := mkHid (chk_any w v xs l h hx hn .nilIface (fun W _ => len_ok W l l0 l1))
  have H2 : Hid (∀ W, Below w.heap.size w W → Calls Tryd.prog 32 #[v, .int .i64 l, .func (.func 33) #[] #[]] W fun e w' => e = .returned (.int .i64 (tot (sdem · l) xs)) ∧ Below W.heap.size W w') := mkHid (fun W hb => tot_sdem W v xs l (h.below hb) hx hn l0 l1)
  clear h hx
  generalize tot (sdem · l) xs = N at *
  go_enter Tryd.func10, Tryd.ntmps10
  go_wp2_with (first
    | (go_at_call 31; refine H1.out.mono ?_; rintro e w1 ⟨rfl, b1⟩; have HB1 := mkHid b1; clear b1)
    | (go_at_call 32; refine (H2.out _ HB1.out).mono ?_; rintro e w2 ⟨rfl, b2⟩; have HB2 := mkHid (bt HB1.out b2); clear b2))
  go_ret2
  exact ⟨rfl, HB2.out⟩
theorem dsdem (w : World) (v : Value) (xs : List Sv) (l : Int) (a : Nat → Addr) (h : Svs w v xs) (E : Er3 w a) :
    Calls Tryd.prog 10 #[v, .int .i64 l] w fun e w' => e = .returned (.tuple #[.int .i64 (if scd xs l = 0 then tot (sdem · l) xs else 0), ev a (scd xs l)]) ∧ Below w.heap.size w w' := by
  rcases scd_cases xs l with ⟨e, hx⟩ | ⟨e, hx, hn⟩ | ⟨e, hx, hn, hl⟩ | ⟨e, hx, hn, l0, l1⟩
  · rw [e, if_neg (by decide), ev10]
    exact dsdem_err w v l _ (chk_no w v xs l _ h hx E.cell_server)
  · rw [e, if_neg (by decide), ev7]
    exact dsdem_err w v l _ (chk_full w v xs l _ h hx hn E.cell_full)
  · rw [e, if_neg (by decide), ev1]
    exact dsdem_err w v l _ (chk_any w v xs l h hx hn _ (fun W hb => len_no W l hl _ (E.late hb).cell_number))
  · rw [e, if_pos rfl, ev0]
    exact dsdem_ok w v xs l h hx hn l0 l1
theorem dsreq_err (w : World) (v : Value) (l : Int) (a : Addr) (h : Calls Tryd.prog 31 #[v, .int .i64 l] w fun e w' => e = .returned (vE a) ∧ Below w.heap.size w w') :
    Calls Tryd.prog 11 #[v, .int .i64 l] w fun e w' => e = .returned (.tuple #[.int .i64 0, vE a]) ∧ Below w.heap.size w w' := by
  have H := mkHid h
  clear h
  go_enter Tryd.func11, Tryd.ntmps11
  go_wp2_with (go_at_call 31; refine H.out.mono ?_; rintro e w1 ⟨rfl, b1⟩)
  go_ret2
  exact ⟨rfl, b1⟩
theorem dsreq_ok (w : World) (v : Value) (xs : List Sv) (l : Int) (h : Svs w v xs) (hx : ∀ x ∈ xs, okS x) (hn : xs.length ≤ 8) (l0 : 0 ≤ l) (l1 : l ≤ 1099511627776) :
    Calls Tryd.prog 11 #[v, .int .i64 l] w fun e w' => e = .returned (.tuple #[.int .i64 (tot (sreq · l) xs), .nilIface]) ∧ Below w.heap.size w w' := by
  have H1 := mkHid (chk_any w v xs l h hx hn .nilIface (fun W _ => len_ok W l l0 l1))
  have H2 : Hid (∀ W, Below w.heap.size w W → Calls Tryd.prog 32 #[v, .int .i64 l, .func (.func 34) #[] #[]] W fun e w' => e = .returned (.int .i64 (tot (sreq · l) xs)) ∧ Below W.heap.size W w') := mkHid (fun W hb => tot_sreq W v xs l (h.below hb) hx hn l0 l1)
  clear h hx
  generalize tot (sreq · l) xs = N at *
  go_enter Tryd.func11, Tryd.ntmps11
  go_wp2_with (first
    | (go_at_call 31; refine H1.out.mono ?_; rintro e w1 ⟨rfl, b1⟩; have HB1 := mkHid b1; clear b1)
    | (go_at_call 32; refine (H2.out _ HB1.out).mono ?_; rintro e w2 ⟨rfl, b2⟩; have HB2 := mkHid (bt HB1.out b2); clear b2))
  go_ret2
  exact ⟨rfl, HB2.out⟩
theorem dsreq (w : World) (v : Value) (xs : List Sv) (l : Int) (a : Nat → Addr) (h : Svs w v xs) (E : Er3 w a) :
    Calls Tryd.prog 11 #[v, .int .i64 l] w fun e w' => e = .returned (.tuple #[.int .i64 (if scd xs l = 0 then tot (sreq · l) xs else 0), ev a (scd xs l)]) ∧ Below w.heap.size w w' := by
  rcases scd_cases xs l with ⟨e, hx⟩ | ⟨e, hx, hn⟩ | ⟨e, hx, hn, hl⟩ | ⟨e, hx, hn, l0, l1⟩
  · rw [e, if_neg (by decide), ev10]
    exact dsreq_err w v l _ (chk_no w v xs l _ h hx E.cell_server)
  · rw [e, if_neg (by decide), ev7]
    exact dsreq_err w v l _ (chk_full w v xs l _ h hx hn E.cell_full)
  · rw [e, if_neg (by decide), ev1]
    exact dsreq_err w v l _ (chk_any w v xs l h hx hn _ (fun W hb => len_no W l hl _ (E.late hb).cell_number))
  · rw [e, if_pos rfl, ev0]
    exact dsreq_ok w v xs l h hx hn l0 l1
/-- One server. -/
theorem one_sdem (w : World) (s : Sv) (l : Int) (a : Nat → Addr) (E : Er3 w a) :
    Calls Tryd.prog 17 #[vS s, .int .i64 l] w fun e w' => e = .returned (.tuple #[.int .i64 (if scd [s] l = 0 then sdem s l else 0), ev a (scd [s] l)]) ∧ Below w.heap.size w w' := by
  have ht : tot (sdem · l) [s] = sdem s l := by simp [tot]
  obtain ⟨k, q, t⟩ := s
  have H1 : Hid (Calls Tryd.prog 10 #[.slice (some ⟨w.heap.size + 1, 0, none⟩) 1 1, .int .i64 l] ((w.alloc (oS (k, q, t))).alloc (oS (k, q, t))) fun e w' => e = .returned (.tuple #[.int .i64 (if scd [(k, q, t)] l = 0 then tot (sdem · l) [(k, q, t)] else 0), ev a (scd [(k, q, t)] l)]) ∧ Below ((w.alloc (oS (k, q, t))).alloc (oS (k, q, t))).heap.size ((w.alloc (oS (k, q, t))).alloc (oS (k, q, t))) w') := by
    have h := svs_one (w.alloc (oS (k, q, t))) (k, q, t)
    have e : (w.alloc (oS (k, q, t))).heap.size = w.heap.size + 1 := by simp
    rw [e] at h
    exact mkHid (dsdem _ _ _ l a h (E.late (ba (ba (Below.refl _ _) _) _)))
  rw [ht] at H1
  clear ht E
  generalize (if scd [(k, q, t)] l = 0 then sdem (k, q, t) l else 0) = N at *
  generalize ev a (scd [(k, q, t)] l) = R at *
  go_enter Tryd.func17, Tryd.ntmps17
  go_wp2_with (go_at_call 10; refine H1.out.mono ?_; rintro e w1 ⟨rfl, b1⟩)
  go_ret2
  exact ⟨rfl, bt (ba (ba (Below.refl _ _) _) _) b1⟩
/-- One server. -/
theorem one_sreq (w : World) (s : Sv) (l : Int) (a : Nat → Addr) (E : Er3 w a) :
    Calls Tryd.prog 18 #[vS s, .int .i64 l] w fun e w' => e = .returned (.tuple #[.int .i64 (if scd [s] l = 0 then sreq s l else 0), ev a (scd [s] l)]) ∧ Below w.heap.size w w' := by
  have ht : tot (sreq · l) [s] = sreq s l := by simp [tot]
  obtain ⟨k, q, t⟩ := s
  have H1 : Hid (Calls Tryd.prog 11 #[.slice (some ⟨w.heap.size + 1, 0, none⟩) 1 1, .int .i64 l] ((w.alloc (oS (k, q, t))).alloc (oS (k, q, t))) fun e w' => e = .returned (.tuple #[.int .i64 (if scd [(k, q, t)] l = 0 then tot (sreq · l) [(k, q, t)] else 0), ev a (scd [(k, q, t)] l)]) ∧ Below ((w.alloc (oS (k, q, t))).alloc (oS (k, q, t))).heap.size ((w.alloc (oS (k, q, t))).alloc (oS (k, q, t))) w') := by
    have h := svs_one (w.alloc (oS (k, q, t))) (k, q, t)
    have e : (w.alloc (oS (k, q, t))).heap.size = w.heap.size + 1 := by simp
    rw [e] at h
    exact mkHid (dsreq _ _ _ l a h (E.late (ba (ba (Below.refl _ _) _) _)))
  rw [ht] at H1
  clear ht E
  generalize (if scd [(k, q, t)] l = 0 then sreq (k, q, t) l else 0) = N at *
  generalize ev a (scd [(k, q, t)] l) = R at *
  go_enter Tryd.func18, Tryd.ntmps18
  go_wp2_with (go_at_call 11; refine H1.out.mono ?_; rintro e w1 ⟨rfl, b1⟩)
  go_ret2
  exact ⟨rfl, bt (ba (ba (Below.refl _ _) _) _) b1⟩
theorem scd_one (s : Sv) (l : Int) : scd [s] l = if bS s = true then lcd l else 10 := by
  unfold scd
  simp
/-- The chapter's examples. -/
theorem dalive (w : World) (a : Nat → Addr) (E : Er3 w a) : Calls Tryd.prog 9 #[] w fun e w' => e = .returned (.bool true) ∧ Below w.heap.size w w' := by
  have H1 : Hid (∀ W, Below w.heap.size w W → Calls Tryd.prog 17 #[vS (1, 2, 5), .int .i64 14] W fun e w' => e = .returned (.tuple #[.int .i64 4, .nilIface]) ∧ Below W.heap.size W w') := mkHid (fun W hb => by
    have := one_sdem W (1, 2, 5) 14 a (E.late hb)
    rwa [show scd [(1, 2, 5)] 14 = 0 by decide, show sdem (1, 2, 5) 14 = 4 by decide] at this)
  have H2 : Hid (∀ W, Below w.heap.size w W → Calls Tryd.prog 18 #[vS (3, 2, 5), .int .i64 1] W fun e w' => e = .returned (.tuple #[.int .i64 4, .nilIface]) ∧ Below W.heap.size W w') := mkHid (fun W hb => by
    have := one_sreq W (3, 2, 5) 1 a (E.late hb)
    rwa [show scd [(3, 2, 5)] 1 = 0 by decide, show sreq (3, 2, 5) 1 = 4 by decide] at this)
  clear E
  go_enter Tryd.func9, Tryd.ntmps9
  go_wp2_with (first
    | (go_at_call 17; refine (H1.out _ (Below.refl _ _)).mono ?_; rintro e w1 ⟨rfl, b1⟩; have HB1 := mkHid b1; clear b1)
    | (go_at_call 18; refine (H2.out _ HB1.out).mono ?_; rintro e w2 ⟨rfl, b2⟩; have HB2 := mkHid (bt HB1.out b2); clear b2))
  go_ret
  exact ⟨rfl, HB2.out⟩
end Go.Proofs.YtilnchlnlnpkfaaDoor
