import Derived.Test.YtnmmphnaelpjdabDoorDm2
import Derived.Test.YtnmmphnaelpjdabDoorErrNum8
/- Package demand: Servers, Requests, Server, Request; Task. -/
namespace Go.Proofs.YtnmmphnaelpjdabDoor
open Go.ChangeShapes Go.WideShapes Go.ChangeAt Go.RowKit
set_option maxRecDepth 100000
attribute [local go_sem] World.cell?_alloc_some frozen_alloc_some

/-- The error of a number. -/
def ev (a : Nat → Addr) (n : Int) : Value := if n = 10 then vE (a 10) else if n = 7 then vE (a 7) else if n = 11 then vE (a 11) else if n = 1 then vE (a 1) else .nilIface
def lcd (l : Int) : Int := if l < 0 ∨ 1099511627776 < l then 1 else 0
def scd (xs : List Sv) (l : Int) : Int := if xs.all bS = true then (if 8 < xs.length then 7 else lcd l) else 10
theorem lcd_cases (l : Int) : (lcd l = 1 ∧ (l < 0 ∨ (0 ≤ l ∧ 1099511627776 < l))) ∨ (lcd l = 0 ∧ 0 ≤ l ∧ l ≤ 1099511627776) := by
  unfold lcd
  split <;> omega
theorem all_okS {xs : List Sv} (h : xs.all bS = true) : ∀ x ∈ xs, okS x := by
  intro x hx
  have h2 := List.all_eq_true.1 h x hx
  unfold bS at h2
  have h3 := of_decide_eq_true h2
  exact h3
theorem some_noS {xs : List Sv} (h : ¬ xs.all bS = true) : ∃ x ∈ xs, ¬ okS x := by
  refine Classical.byContradiction fun hn => h (List.all_eq_true.2 fun x hx => bS_true ?_)
  exact Classical.byContradiction fun hk => hn ⟨x, hx, hk⟩
theorem scd_cases (xs : List Sv) (l : Int) : (scd xs l = 10 ∧ ∃ x ∈ xs, ¬ okS x) ∨ (scd xs l = 7 ∧ (∀ x ∈ xs, okS x) ∧ 8 < xs.length) ∨ (scd xs l = 1 ∧ (∀ x ∈ xs, okS x) ∧ xs.length ≤ 8 ∧ (l < 0 ∨ (0 ≤ l ∧ 1099511627776 < l))) ∨ (scd xs l = 0 ∧ (∀ x ∈ xs, okS x) ∧ xs.length ≤ 8 ∧ 0 ≤ l ∧ l ≤ 1099511627776) := by
  unfold scd
  by_cases h : xs.all bS = true
  · rw [if_pos h]
    by_cases h8 : 8 < xs.length
    · rw [if_pos h8]; exact .inr (.inl ⟨rfl, all_okS h, h8⟩)
    · rw [if_neg h8]
      rcases lcd_cases l with ⟨e, hl⟩ | ⟨e, hl⟩
      · exact .inr (.inr (.inl ⟨e, all_okS h, by omega, hl⟩))
      · exact .inr (.inr (.inr ⟨e, all_okS h, by omega, hl⟩))
  · rw [if_neg h]; exact .inl ⟨rfl, some_noS h⟩
theorem ev10 (a : Nat → Addr) : ev a 10 = vE (a 10) := rfl
theorem ev7 (a : Nat → Addr) : ev a 7 = vE (a 7) := rfl
theorem ev11 (a : Nat → Addr) : ev a 11 = vE (a 11) := rfl
theorem ev1 (a : Nat → Addr) : ev a 1 = vE (a 1) := rfl
theorem ev0 (a : Nat → Addr) : ev a 0 = .nilIface := rfl
/-- The errors of servers lie as laid. -/
structure Er3 (w : World) (a : Nat → Addr) : Prop where
  cell_server : w.cell? ⟨10, 0, none⟩ = some (vE (a 10))
  cell_full : w.cell? ⟨7, 0, none⟩ = some (vE (a 7))
  cell_number : w.cell? ⟨1, 0, none⟩ = some (vE (a 1))
/-- And that of tasks. -/
structure Er4 (w : World) (a : Nat → Addr) : Prop where
  er3 : Er3 w a
  cell_task : w.cell? ⟨11, 0, none⟩ = some (vE (a 11))
theorem Er3.late {w w' : World} {a : Nat → Addr} (h : Er3 w a) (hb : Below w.heap.size w w') : Er3 w' a := ⟨kc h.1 hb, kc h.2 hb, kc h.3 hb⟩
theorem Er4.late {w w' : World} {a : Nat → Addr} (h : Er4 w a) (hb : Below w.heap.size w w') : Er4 w' a := ⟨h.1.late hb, kc h.2 hb⟩
theorem Errs.er3 {w : World} {a : Nat → Addr} (h : Errs w a) : Er3 w a := ⟨h.cell_server, h.cell_full, h.cell_number⟩
theorem Errs.er4 {w : World} {a : Nat → Addr} (h : Errs w a) : Er4 w a := ⟨h.er3, h.cell_task⟩
theorem num_ev (w : World) (a : Nat → Addr) (E : Errs w a) (n : Int) (hn : n = 0 ∨ n = 1 ∨ n = 7 ∨ n = 10 ∨ n = 11) : Calls Tryd.prog 7 #[ev a n] w fun e w' => e = .returned (.int .i64 n) ∧ Below w.heap.size w w' := by
  rcases hn with rfl | rfl | rfl | rfl | rfl
  · refine (errnum_nil w).mono ?_
    rintro e w' ⟨h, rfl⟩
    exact ⟨h, Below.refl _ _⟩
  · exact errnum_number w a E
  · exact errnum_full w a E
  · exact errnum_server w a E
  · exact errnum_task w a E
theorem dsdem_err (w : World) (v : Value) (l : Int) (a : Addr) (h : Calls Tryd.prog 28 #[v, .int .i64 l] w fun e w' => e = .returned (vE a) ∧ Below w.heap.size w w') :
    Calls Tryd.prog 19 #[v, .int .i64 l] w fun e w' => e = .returned (.tuple #[.int .i64 0, vE a]) ∧ Below w.heap.size w w' := by
  have H := mkHid h
  clear h
  go_enter Tryd.func19, Tryd.ntmps19
  go_wp2_with (go_at_call 28; refine H.out.mono ?_; rintro e w1 ⟨rfl, b1⟩)
  go_ret2
  exact ⟨rfl, b1⟩
theorem dsdem_ok (w : World) (v : Value) (xs : List Sv) (l : Int) (h : Svs w v xs) (hx : ∀ x ∈ xs, okS x) (hn : xs.length ≤ 8) (l0 : 0 ≤ l) (l1 : l ≤ 1099511627776) :
    Calls Tryd.prog 19 #[v, .int .i64 l] w fun e w' => e = .returned (.tuple #[.int .i64 (tot (sdem · l) xs), .nilIface]) ∧ Below w.heap.size w w' := by
  have H1 := mkHid (chk_any w v xs l h hx hn .nilIface (fun W _ => len_ok W l l0 l1))
  have H2 : Hid (∀ W, Below w.heap.size w W → Calls Tryd.prog 29 #[v, .int .i64 l, .func (.func 35) #[] #[]] W fun e w' => e = .returned (.int .i64 (tot (sdem · l) xs)) ∧ Below W.heap.size W w') := mkHid (fun W hb => tot_sdem W v xs l (h.below hb) hx hn l0 l1)
  clear h hx
  generalize tot (sdem · l) xs = N at *
  go_enter Tryd.func19, Tryd.ntmps19
  go_wp2_with (first
    | (go_at_call 28; refine H1.out.mono ?_; rintro e w1 ⟨rfl, b1⟩; have HB1 := mkHid b1; clear b1)
    | (go_at_call 29; refine (H2.out _ HB1.out).mono ?_; rintro e w2 ⟨rfl, b2⟩; have HB2 := mkHid (bt HB1.out b2); clear b2))
  go_ret2
  exact ⟨rfl, HB2.out⟩
theorem dsdem (w : World) (v : Value) (xs : List Sv) (l : Int) (a : Nat → Addr) (h : Svs w v xs) (E : Er3 w a) :
    Calls Tryd.prog 19 #[v, .int .i64 l] w fun e w' => e = .returned (.tuple #[.int .i64 (if scd xs l = 0 then tot (sdem · l) xs else 0), ev a (scd xs l)]) ∧ Below w.heap.size w w' := by
  rcases scd_cases xs l with ⟨e, hx⟩ | ⟨e, hx, hn⟩ | ⟨e, hx, hn, hl⟩ | ⟨e, hx, hn, l0, l1⟩
  · rw [e, if_neg (by decide), ev10]
    exact dsdem_err w v l _ (chk_no w v xs l _ h hx E.cell_server)
  · rw [e, if_neg (by decide), ev7]
    exact dsdem_err w v l _ (chk_full w v xs l _ h hx hn E.cell_full)
  · rw [e, if_neg (by decide), ev1]
    exact dsdem_err w v l _ (chk_any w v xs l h hx hn _ (fun W hb => len_no W l hl _ (E.late hb).cell_number))
  · rw [e, if_pos rfl, ev0]
    exact dsdem_ok w v xs l h hx hn l0 l1
theorem dsreq_err (w : World) (v : Value) (l : Int) (a : Addr) (h : Calls Tryd.prog 28 #[v, .int .i64 l] w fun e w' => e = .returned (vE a) ∧ Below w.heap.size w w') :
    Calls Tryd.prog 14 #[v, .int .i64 l] w fun e w' => e = .returned (.tuple #[.int .i64 0, vE a]) ∧ Below w.heap.size w w' := by
  have H := mkHid h
  clear h
  go_enter Tryd.func14, Tryd.ntmps14
  go_wp2_with (go_at_call 28; refine H.out.mono ?_; rintro e w1 ⟨rfl, b1⟩)
  go_ret2
  exact ⟨rfl, b1⟩
theorem dsreq_ok (w : World) (v : Value) (xs : List Sv) (l : Int) (h : Svs w v xs) (hx : ∀ x ∈ xs, okS x) (hn : xs.length ≤ 8) (l0 : 0 ≤ l) (l1 : l ≤ 1099511627776) :
    Calls Tryd.prog 14 #[v, .int .i64 l] w fun e w' => e = .returned (.tuple #[.int .i64 (tot (sreq · l) xs), .nilIface]) ∧ Below w.heap.size w w' := by
  have H1 := mkHid (chk_any w v xs l h hx hn .nilIface (fun W _ => len_ok W l l0 l1))
  have H2 : Hid (∀ W, Below w.heap.size w W → Calls Tryd.prog 29 #[v, .int .i64 l, .func (.func 30) #[] #[]] W fun e w' => e = .returned (.int .i64 (tot (sreq · l) xs)) ∧ Below W.heap.size W w') := mkHid (fun W hb => tot_sreq W v xs l (h.below hb) hx hn l0 l1)
  clear h hx
  generalize tot (sreq · l) xs = N at *
  go_enter Tryd.func14, Tryd.ntmps14
  go_wp2_with (first
    | (go_at_call 28; refine H1.out.mono ?_; rintro e w1 ⟨rfl, b1⟩; have HB1 := mkHid b1; clear b1)
    | (go_at_call 29; refine (H2.out _ HB1.out).mono ?_; rintro e w2 ⟨rfl, b2⟩; have HB2 := mkHid (bt HB1.out b2); clear b2))
  go_ret2
  exact ⟨rfl, HB2.out⟩
theorem dsreq (w : World) (v : Value) (xs : List Sv) (l : Int) (a : Nat → Addr) (h : Svs w v xs) (E : Er3 w a) :
    Calls Tryd.prog 14 #[v, .int .i64 l] w fun e w' => e = .returned (.tuple #[.int .i64 (if scd xs l = 0 then tot (sreq · l) xs else 0), ev a (scd xs l)]) ∧ Below w.heap.size w w' := by
  rcases scd_cases xs l with ⟨e, hx⟩ | ⟨e, hx, hn⟩ | ⟨e, hx, hn, hl⟩ | ⟨e, hx, hn, l0, l1⟩
  · rw [e, if_neg (by decide), ev10]
    exact dsreq_err w v l _ (chk_no w v xs l _ h hx E.cell_server)
  · rw [e, if_neg (by decide), ev7]
    exact dsreq_err w v l _ (chk_full w v xs l _ h hx hn E.cell_full)
  · rw [e, if_neg (by decide), ev1]
    exact dsreq_err w v l _ (chk_any w v xs l h hx hn _ (fun W hb => len_no W l hl _ (E.late hb).cell_number))
  · rw [e, if_pos rfl, ev0]
    exact dsreq_ok w v xs l h hx hn l0 l1
theorem scd_one (s : Sv) (l : Int) : scd [s] l = if bS s = true then lcd l else 10 := by
  unfold scd
  simp
end Go.Proofs.YtnmmphnaelpjdabDoor

/- The document's demands. -/
namespace Go.Proofs.YtnmmphnaelpjdabDoor
open Go.ChangeShapes Go.WideShapes Go.ChangeAt Go.RowKit
set_option maxRecDepth 100000
attribute [local go_sem] World.cell?_alloc_some frozen_alloc_some

theorem floor_math {l t : Int} (t0 : 1 ≤ t) (h : 100 * t < l) : ∃ n, (l - 50 * t) / t = n ∧ 0 ≤ n ∧ n ≤ l ∧ 0 ≤ l - n * t ∧ n + (l - n * t) ≤ l ∧ l - n * t ≤ 51 * t := by
  obtain ⟨a, r, ha, r0, r1, hm⟩ := parts0 (T := t) (l - 50 * t) t0 (by omega)
  have hp : a * 1 ≤ a * t := Int.mul_le_mul_of_nonneg_left t0 ha
  refine ⟨a, (dm r0 r1 hm).1, ha, by omega, by omega, by omega, by omega⟩
set_option maxHeartbeats 1600000 in
theorem floor_is (w : World) (l t A : Int) (l0 : 0 ≤ l) (l1 : l ≤ 1099511627776) (t0 : 1 ≤ t) (t1 : t ≤ 256) (hA : Hid (l / t = A)) : Calls Tryd.prog 27 #[.int .i64 l, .int .i64 t] w fun e w' => e = .returned (.int .i64 A) ∧ w' = w := by
  have e1 : IntKind.i64.wrap (100 * t) = 100 * t := wfit (by omega) (by omega)
  have e2 : IntKind.i64.wrap (50 * t) = 50 * t := wfit (by omega) (by omega)
  have tz : ¬ t = 0 := by omega
  by_cases h : 100 * t < l
  · obtain ⟨n, f1, f2, f3, f4, f5, f6⟩ := floor_math t0 h
    have e5 : IntKind.i64.wrap (l - 50 * t) = l - 50 * t := wfit (by omega) (by omega)
    have e6 : (l - 50 * t).tdiv t = n := by rw [Int.tdiv_eq_ediv_of_nonneg (by omega), f1]
    have e7 : IntKind.i64.wrap n = n := wfit (by omega) (by omega)
    obtain ⟨M, hM⟩ : ∃ M, M = n * t := ⟨_, rfl⟩
    rw [← hM] at f4 f5 f6
    have e9 : IntKind.i64.wrap (n * t) = M := by rw [← hM]; exact wfit (by omega) (by omega)
    have e10 : IntKind.i64.wrap (l - M) = l - M := wfit (by omega) (by omega)
    have HM := mkHid hM
    clear hM f1
    go_enter Tryd.func27, Tryd.ntmps27
    go_wp2
    go_loopw [0, 5] (fun lv nv wr => ∃ L N : Int, lv = .int .i64 L ∧ nv = .int .i64 N ∧ 0 ≤ L ∧ 0 ≤ N ∧ N + L ≤ l ∧ Hid (l = N * t + L) ∧ wr = w) (fun lv _ _ => (intOf lv).toNat)
    case atStart => exact ⟨l - M, n, rfl, rfl, by omega, by omega, by omega, mkHid (by rw [← HM.out]; omega), rfl⟩
    case round =>
      obtain ⟨L, N, rfl, rfl, b1, b2, b3, HN, rfl⟩ := hrel
      by_cases hlt : L < t
      · have HV := mkHid (dm b1 hlt HN.out).1
        go_wp2
        go_ret
        exact ⟨by rw [← hA.out, HV.out]; rfl, rfl⟩
      · have hge : t ≤ L := by omega
        go_wp2
        go_roundw
        case rel => exact ⟨L - t, N + 1, by go_num, by go_num, by omega, by omega, by omega, mkHid (by rw [Int.add_mul]; have := HN.out; omega), trivial⟩
        case measure => simp [intOf]; omega
  · have h' : l ≤ 100 * t := by omega
    go_enter Tryd.func27, Tryd.ntmps27
    go_wp2
    go_loopw [0, 5] (fun lv nv wr => ∃ L N : Int, lv = .int .i64 L ∧ nv = .int .i64 N ∧ 0 ≤ L ∧ 0 ≤ N ∧ N + L ≤ l ∧ Hid (l = N * t + L) ∧ wr = w) (fun lv _ _ => (intOf lv).toNat)
    case atStart => exact ⟨l, 0, rfl, rfl, by omega, by omega, by omega, mkHid (by omega), rfl⟩
    case round =>
      obtain ⟨L, N, rfl, rfl, b1, b2, b3, HN, rfl⟩ := hrel
      by_cases hlt : L < t
      · have HV := mkHid (dm b1 hlt HN.out).1
        go_wp2
        go_ret
        exact ⟨by rw [← hA.out, HV.out]; rfl, rfl⟩
      · have hge : t ≤ L := by omega
        go_wp2
        go_roundw
        case rel => exact ⟨L - t, N + 1, by go_num, by go_num, by omega, by omega, by omega, mkHid (by rw [Int.add_mul]; have := HN.out; omega), trivial⟩
        case measure => simp [intOf]; omega
end Go.Proofs.YtnmmphnaelpjdabDoor

