import Derived.Test.YtnmmphnaelpjdaaDoorDm2
import Derived.Test.YtnmmphnaelpjdaaDoorErrNum8
/- Package demand: Servers, Requests, Server, Request; Task. -/
namespace Go.Proofs.YtnmmphnaelpjdaaDoor
open Go.ChangeShapes Go.WideShapes Go.ChangeAt Go.RowKit
set_option maxRecDepth 100000
attribute [local go_sem] World.cell?_alloc_some frozen_alloc_some

/-- The error of a number. -/
def ev (a : Nat → Addr) (n : Int) : Value := if n = 10 then vE (a 0) else if n = 7 then vE (a 8) else if n = 11 then vE (a 11) else if n = 1 then vE (a 2) else .nilIface
def lcd (l : Int) : Int := if l < 0 ∨ 1099511627776 < l then 1 else 0
def scd (xs : List Sv) (l : Int) : Int := if xs.all bS = true then (if 8 < xs.length then 7 else lcd l) else 10
theorem lcd_cases (l : Int) : (lcd l = 1 ∧ (l < 0 ∨ (0 ≤ l ∧ 1099511627776 < l))) ∨ (lcd l = 0 ∧ 0 ≤ l ∧ l ≤ 1099511627776) := by
  unfold lcd
  split <;> omega
theorem all_okS {xs : List Sv} (h : xs.all bS = true) : ∀ x ∈ xs, okS x := by
  intro x hx
  have h2 := List.all_eq_true.1 h x hx
  unfold bS at h2
  have h3 := of_decide_eq_true h2
  exact h3
theorem some_noS {xs : List Sv} (h : ¬ xs.all bS = true) : ∃ x ∈ xs, ¬ okS x := by
  refine Classical.byContradiction fun hn => h (List.all_eq_true.2 fun x hx => bS_true ?_)
  exact Classical.byContradiction fun hk => hn ⟨x, hx, hk⟩
theorem scd_cases (xs : List Sv) (l : Int) : (scd xs l = 10 ∧ ∃ x ∈ xs, ¬ okS x) ∨ (scd xs l = 7 ∧ (∀ x ∈ xs, okS x) ∧ 8 < xs.length) ∨ (scd xs l = 1 ∧ (∀ x ∈ xs, okS x) ∧ xs.length ≤ 8 ∧ (l < 0 ∨ (0 ≤ l ∧ 1099511627776 < l))) ∨ (scd xs l = 0 ∧ (∀ x ∈ xs, okS x) ∧ xs.length ≤ 8 ∧ 0 ≤ l ∧ l ≤ 1099511627776) := by
  unfold scd
  by_cases h : xs.all bS = true
  · rw [if_pos h]
    by_cases h8 : 8 < xs.length
    · rw [if_pos h8]; exact .inr (.inl ⟨rfl, all_okS h, h8⟩)
    · rw [if_neg h8]
      rcases lcd_cases l with ⟨e, hl⟩ | ⟨e, hl⟩
      · exact .inr (.inr (.inl ⟨e, all_okS h, by omega, hl⟩))
      · exact .inr (.inr (.inr ⟨e, all_okS h, by omega, hl⟩))
  · rw [if_neg h]; exact .inl ⟨rfl, some_noS h⟩
theorem ev10 (a : Nat → Addr) : ev a 10 = vE (a 0) := rfl
theorem ev7 (a : Nat → Addr) : ev a 7 = vE (a 8) := rfl
theorem ev11 (a : Nat → Addr) : ev a 11 = vE (a 11) := rfl
theorem ev1 (a : Nat → Addr) : ev a 1 = vE (a 2) := rfl
theorem ev0 (a : Nat → Addr) : ev a 0 = .nilIface := rfl
/-- The errors of servers lie as laid. -/
structure Er3 (w : World) (a : Nat → Addr) : Prop where
  cell_server : w.cell? ⟨0, 0, none⟩ = some (vE (a 0))
  cell_full : w.cell? ⟨8, 0, none⟩ = some (vE (a 8))
  cell_number : w.cell? ⟨2, 0, none⟩ = some (vE (a 2))
/-- And that of tasks. -/
structure Er4 (w : World) (a : Nat → Addr) : Prop where
  er3 : Er3 w a
  cell_task : w.cell? ⟨11, 0, none⟩ = some (vE (a 11))
theorem Er3.late {w w' : World} {a : Nat → Addr} (h : Er3 w a) (hb : Below w.heap.size w w') : Er3 w' a := ⟨kc h.1 hb, kc h.2 hb, kc h.3 hb⟩
theorem Er4.late {w w' : World} {a : Nat → Addr} (h : Er4 w a) (hb : Below w.heap.size w w') : Er4 w' a := ⟨h.1.late hb, kc h.2 hb⟩
theorem Errs.er3 {w : World} {a : Nat → Addr} (h : Errs w a) : Er3 w a := ⟨h.cell_server, h.cell_full, h.cell_number⟩
theorem Errs.er4 {w : World} {a : Nat → Addr} (h : Errs w a) : Er4 w a := ⟨h.er3, h.cell_task⟩
theorem num_ev (w : World) (a : Nat → Addr) (E : Errs w a) (n : Int) (hn : n = 0 ∨ n = 1 ∨ n = 7 ∨ n = 10 ∨ n = 11) : Calls Tryd.prog 13 #[ev a n] w fun e w' => e = .returned (.int .i64 n) ∧ Below w.heap.size w w' := by
  rcases hn with rfl | rfl | rfl | rfl | rfl
  · refine (errnum_nil w).mono ?_
    rintro e w' ⟨h, rfl⟩
    exact ⟨h, Below.refl _ _⟩
  · exact errnum_number w a E
  · exact errnum_full w a E
  · exact errnum_server w a E
  · exact errnum_task w a E
theorem dsdem_err (w : World) (v : Value) (l : Int) (a : Addr) (h : Calls Tryd.prog 53 #[v, .int .i64 l] w fun e w' => e = .returned (vE a) ∧ Below w.heap.size w w') :
    Calls Tryd.prog 29 #[v, .int .i64 l] w fun e w' => e = .returned (.tuple #[.int .i64 0, vE a]) ∧ Below w.heap.size w w' := by
  have H := mkHid h
  clear h
  go_enter Tryd.func29, Tryd.ntmps29
  go_wp2_with (go_at_call 53; refine H.out.mono ?_; rintro e w1 ⟨rfl, b1⟩)
  go_ret2
  exact ⟨rfl, b1⟩
theorem dsdem_ok (w : World) (v : Value) (xs : List Sv) (l : Int) (h : Svs w v xs) (hx : ∀ x ∈ xs, okS x) (hn : xs.length ≤ 8) (l0 : 0 ≤ l) (l1 : l ≤ 1099511627776) :
    Calls Tryd.prog 29 #[v, .int .i64 l] w fun e w' => e = .returned (.tuple #[.int .i64 (tot (sdem · l) xs), .nilIface]) ∧ Below w.heap.size w w' := by
  have H1 := mkHid (chk_any w v xs l h hx hn .nilIface (fun W _ => len_ok W l l0 l1))
  have H2 : Hid (∀ W, Below w.heap.size w W → Calls Tryd.prog 54 #[v, .int .i64 l, .func (.func 55) #[] #[]] W fun e w' => e = .returned (.int .i64 (tot (sdem · l) xs)) ∧ Below W.heap.size W w') := mkHid (fun W hb => tot_sdem W v xs l (h.below hb) hx hn l0 l1)
  clear h hx
  generalize tot (sdem · l) xs = N at *
  go_enter Tryd.func29, Tryd.ntmps29
  go_wp2_with (first
    | (go_at_call 53; refine H1.out.mono ?_; rintro e w1 ⟨rfl, b1⟩; have HB1 := mkHid b1; clear b1)
    | (go_at_call 54; refine (H2.out _ HB1.out).mono ?_; rintro e w2 ⟨rfl, b2⟩; have HB2 := mkHid (bt HB1.out b2); clear b2))
  go_ret2
  exact ⟨rfl, HB2.out⟩
theorem dsdem (w : World) (v : Value) (xs : List Sv) (l : Int) (a : Nat → Addr) (h : Svs w v xs) (E : Er3 w a) :
    Calls Tryd.prog 29 #[v, .int .i64 l] w fun e w' => e = .returned (.tuple #[.int .i64 (if scd xs l = 0 then tot (sdem · l) xs else 0), ev a (scd xs l)]) ∧ Below w.heap.size w w' := by
  rcases scd_cases xs l with ⟨e, hx⟩ | ⟨e, hx, hn⟩ | ⟨e, hx, hn, hl⟩ | ⟨e, hx, hn, l0, l1⟩
  · rw [e, if_neg (by decide), ev10]
    exact dsdem_err w v l _ (chk_no w v xs l _ h hx E.cell_server)
  · rw [e, if_neg (by decide), ev7]
    exact dsdem_err w v l _ (chk_full w v xs l _ h hx hn E.cell_full)
  · rw [e, if_neg (by decide), ev1]
    exact dsdem_err w v l _ (chk_any w v xs l h hx hn _ (fun W hb => len_no W l hl _ (E.late hb).cell_number))
  · rw [e, if_pos rfl, ev0]
    exact dsdem_ok w v xs l h hx hn l0 l1
theorem dsreq_err (w : World) (v : Value) (l : Int) (a : Addr) (h : Calls Tryd.prog 53 #[v, .int .i64 l] w fun e w' => e = .returned (vE a) ∧ Below w.heap.size w w') :
    Calls Tryd.prog 33 #[v, .int .i64 l] w fun e w' => e = .returned (.tuple #[.int .i64 0, vE a]) ∧ Below w.heap.size w w' := by
  have H := mkHid h
  clear h
  go_enter Tryd.func33, Tryd.ntmps33
  go_wp2_with (go_at_call 53; refine H.out.mono ?_; rintro e w1 ⟨rfl, b1⟩)
  go_ret2
  exact ⟨rfl, b1⟩
theorem dsreq_ok (w : World) (v : Value) (xs : List Sv) (l : Int) (h : Svs w v xs) (hx : ∀ x ∈ xs, okS x) (hn : xs.length ≤ 8) (l0 : 0 ≤ l) (l1 : l ≤ 1099511627776) :
    Calls Tryd.prog 33 #[v, .int .i64 l] w fun e w' => e = .returned (.tuple #[.int .i64 (tot (sreq · l) xs), .nilIface]) ∧ Below w.heap.size w w' := by
  have H1 := mkHid (chk_any w v xs l h hx hn .nilIface (fun W _ => len_ok W l l0 l1))
  have H2 : Hid (∀ W, Below w.heap.size w W → Calls Tryd.prog 54 #[v, .int .i64 l, .func (.func 59) #[] #[]] W fun e w' => e = .returned (.int .i64 (tot (sreq · l) xs)) ∧ Below W.heap.size W w') := mkHid (fun W hb => tot_sreq W v xs l (h.below hb) hx hn l0 l1)
  clear h hx
  generalize tot (sreq · l) xs = N at *
  go_enter Tryd.func33, Tryd.ntmps33
  go_wp2_with (first
    | (go_at_call 53; refine H1.out.mono ?_; rintro e w1 ⟨rfl, b1⟩; have HB1 := mkHid b1; clear b1)
    | (go_at_call 54; refine (H2.out _ HB1.out).mono ?_; rintro e w2 ⟨rfl, b2⟩; have HB2 := mkHid (bt HB1.out b2); clear b2))
  go_ret2
  exact ⟨rfl, HB2.out⟩
theorem dsreq (w : World) (v : Value) (xs : List Sv) (l : Int) (a : Nat → Addr) (h : Svs w v xs) (E : Er3 w a) :
    Calls Tryd.prog 33 #[v, .int .i64 l] w fun e w' => e = .returned (.tuple #[.int .i64 (if scd xs l = 0 then tot (sreq · l) xs else 0), ev a (scd xs l)]) ∧ Below w.heap.size w w' := by
  rcases scd_cases xs l with ⟨e, hx⟩ | ⟨e, hx, hn⟩ | ⟨e, hx, hn, hl⟩ | ⟨e, hx, hn, l0, l1⟩
  · rw [e, if_neg (by decide), ev10]
    exact dsreq_err w v l _ (chk_no w v xs l _ h hx E.cell_server)
  · rw [e, if_neg (by decide), ev7]
    exact dsreq_err w v l _ (chk_full w v xs l _ h hx hn E.cell_full)
  · rw [e, if_neg (by decide), ev1]
    exact dsreq_err w v l _ (chk_any w v xs l h hx hn _ (fun W hb => len_no W l hl _ (E.late hb).cell_number))
  · rw [e, if_pos rfl, ev0]
    exact dsreq_ok w v xs l h hx hn l0 l1
theorem scd_one (s : Sv) (l : Int) : scd [s] l = if bS s = true then lcd l else 10 := by
  unfold scd
  simp
end Go.Proofs.YtnmmphnaelpjdaaDoor

/- The document's demands. -/
namespace Go.Proofs.YtnmmphnaelpjdaaDoor
open Go.ChangeShapes Go.WideShapes Go.ChangeAt Go.RowKit
set_option maxRecDepth 100000
attribute [local go_sem] World.cell?_alloc_some frozen_alloc_some

theorem floor_math {l t : Int} (t0 : 1 ≤ t) (h : 100 * t < l) : ∃ n, (l - 50 * t) / t = n ∧ 0 ≤ n ∧ n ≤ l ∧ 0 ≤ l - n * t ∧ n + (l - n * t) ≤ l ∧ l - n * t ≤ 51 * t := by
  obtain ⟨a, r, ha, r0, r1, hm⟩ := parts0 (T := t) (l - 50 * t) t0 (by omega)
  have hp : a * 1 ≤ a * t := Int.mul_le_mul_of_nonneg_left t0 ha
  refine ⟨a, (dm r0 r1 hm).1, ha, by omega, by omega, by omega, by omega⟩
set_option maxHeartbeats 1600000 in
theorem floor_is (w : World) (l t A : Int) (l0 : 0 ≤ l) (l1 : l ≤ 1099511627776) (t0 : 1 ≤ t) (t1 : t ≤ 256) (hA : Hid (l / t = A)) : Calls Tryd.prog 77 #[.int .i64 l, .int .i64 t] w fun e w' => e = .returned (.int .i64 A) ∧ w' = w := by
  have e1 : IntKind.i64.wrap (100 * t) = 100 * t := wfit (by omega) (by omega)
  have e2 : IntKind.i64.wrap (50 * t) = 50 * t := wfit (by omega) (by omega)
  have tz : ¬ t = 0 := by omega
  by_cases h : 100 * t < l
  · obtain ⟨n, f1, f2, f3, f4, f5, f6⟩ := floor_math t0 h
    have e5 : IntKind.i64.wrap (l - 50 * t) = l - 50 * t := wfit (by omega) (by omega)
    have e6 : (l - 50 * t).tdiv t = n := by rw [Int.tdiv_eq_ediv_of_nonneg (by omega), f1]
    have e7 : IntKind.i64.wrap n = n := wfit (by omega) (by omega)
    obtain ⟨M, hM⟩ : ∃ M, M = n * t := ⟨_, rfl⟩
    rw [← hM] at f4 f5 f6
    have e9 : IntKind.i64.wrap (n * t) = M := by rw [← hM]; exact wfit (by omega) (by omega)
    have e10 : IntKind.i64.wrap (l - M) = l - M := wfit (by omega) (by omega)
    have HM := mkHid hM
    clear hM f1
    go_enter Tryd.func77, Tryd.ntmps77
    go_wp2
    go_loopw [0, 5] (fun lv nv wr => ∃ L N : Int, lv = .int .i64 L ∧ nv = .int .i64 N ∧ 0 ≤ L ∧ 0 ≤ N ∧ N + L ≤ l ∧ Hid (l = N * t + L) ∧ wr = w) (fun lv _ _ => (intOf lv).toNat)
    case atStart => exact ⟨l - M, n, rfl, rfl, by omega, by omega, by omega, mkHid (by rw [← HM.out]; omega), rfl⟩
    case round =>
      obtain ⟨L, N, rfl, rfl, b1, b2, b3, HN, rfl⟩ := hrel
      by_cases hlt : L < t
      · have HV := mkHid (dm b1 hlt HN.out).1
        go_wp2
        go_ret
        exact ⟨by rw [← hA.out, HV.out]; rfl, rfl⟩
      · have hge : t ≤ L := by omega
        go_wp2
        go_roundw
        case rel => exact ⟨L - t, N + 1, by go_num, by go_num, by omega, by omega, by omega, mkHid (by rw [Int.add_mul]; have := HN.out; omega), trivial⟩
        case measure => simp [intOf]; omega
  · have h' : l ≤ 100 * t := by omega
    go_enter Tryd.func77, Tryd.ntmps77
    go_wp2
    go_loopw [0, 5] (fun lv nv wr => ∃ L N : Int, lv = .int .i64 L ∧ nv = .int .i64 N ∧ 0 ≤ L ∧ 0 ≤ N ∧ N + L ≤ l ∧ Hid (l = N * t + L) ∧ wr = w) (fun lv _ _ => (intOf lv).toNat)
    case atStart => exact ⟨l, 0, rfl, rfl, by omega, by omega, by omega, mkHid (by omega), rfl⟩
    case round =>
      obtain ⟨L, N, rfl, rfl, b1, b2, b3, HN, rfl⟩ := hrel
      by_cases hlt : L < t
      · have HV := mkHid (dm b1 hlt HN.out).1
        go_wp2
        go_ret
        exact ⟨by rw [← hA.out, HV.out]; rfl, rfl⟩
      · have hge : t ≤ L := by omega
        go_wp2
        go_roundw
        case rel => exact ⟨L - t, N + 1, by go_num, by go_num, by omega, by omega, by omega, mkHid (by rw [Int.add_mul]; have := HN.out; omega), trivial⟩
        case measure => simp [intOf]; omega
set_option maxHeartbeats 1600000 in
theorem rsdem_is (w : World) (s : Sv) (l : Int) (h : okS s) (l0 : 0 ≤ l) (l1 : l ≤ 1099511627776) : Calls Tryd.prog 45 #[vS s, .int .i64 l] w fun e w' => e = .returned (.int .i64 (sdem s l)) ∧ Below w.heap.size w w' := by
  obtain ⟨k, q, t⟩ := s
  obtain ⟨h1, h2, h3, h4, h5⟩ := h
  simp only at h1 h2 h3 h4 h5
  obtain ⟨A, R, a0, r0, r1, hm⟩ := parts0 (T := t) l (by omega) l0
  have HS := mkHid (sdem_at (k := k) (q := q) r0 r1 hm)
  have HA := mkHid (dm r0 r1 hm).1
  have a1 : A ≤ l := by have : A * 1 ≤ A * t := Int.mul_le_mul_of_nonneg_left (by omega) a0; omega
  obtain ⟨p0, p1⟩ := prod_fit h3 (by omega) a0 a1 (by omega)
  obtain ⟨P, hP⟩ : ∃ P, P = q * A := ⟨_, rfl⟩
  obtain ⟨M, hM⟩ : ∃ M, M = A * t := ⟨_, rfl⟩
  rw [← hP] at p0 p1 HS
  rw [← hM] at hm
  have e1 : IntKind.i64.wrap (A * q) = P := by rw [Int.mul_comm, ← hP]; exact wfit (by omega) (by omega)
  have e2 : IntKind.i64.wrap (A * t) = M := by rw [← hM]; exact wfit (by omega) (by omega)
  have e3 : IntKind.i64.wrap (l - M) = R := by rw [show l - M = R by omega]; exact wfit (by omega) (by omega)
  have t1 : 1 ≤ t := by omega
  clear hP hM
  have HM := mkHid hm
  clear hm
  have hc : (k = 3 ∧ q < R ∧ sdem (k, q, t) l = P + q) ∨ (k = 3 ∧ ¬ q < R ∧ sdem (k, q, t) l = P + R) ∨ (¬ k = 3 ∧ sdem (k, q, t) l = P) := by
    rw [HS.out]
    by_cases x : k = 3
    · simp only [if_pos x]; omega
    · simp only [if_neg x]; omega
  clear HS
  rcases hc with ⟨rfl, hq, hv⟩ | ⟨rfl, hq, hv⟩ | ⟨hk, hv⟩
  all_goals
    rw [hv]
    clear hv
    go_enter Tryd.func45, Tryd.ntmps45
    go_wp2_with (go_at_call 77; refine (floor_is _ l t A l0 l1 t1 h5 HA).mono ?_; rintro e w1 ⟨rfl, hw⟩; rw [hw]; clear hw)
    go_ret
    exact ⟨rfl, ba (Below.refl _ _) _⟩
set_option maxHeartbeats 1600000 in
theorem rsreq_is (w : World) (s : Sv) (l : Int) (h : okS s) (l0 : 0 ≤ l) (l1 : l ≤ 1099511627776) : Calls Tryd.prog 62 #[vS s, .int .i64 l] w fun e w' => e = .returned (.int .i64 (sreq s l)) ∧ Below w.heap.size w w' := by
  obtain ⟨k, q, t⟩ := s
  obtain ⟨h1, h2, h3, h4, h5⟩ := h
  simp only at h1 h2 h3 h4 h5
  obtain ⟨A, R, a0, r0, r1, hm⟩ := parts0 (T := t) l (by omega) l0
  have HS := mkHid (sreq_at (k := k) (q := q) r0 r1 hm)
  have HA := mkHid (dm r0 r1 hm).1
  have a1 : A ≤ l := by have : A * 1 ≤ A * t := Int.mul_le_mul_of_nonneg_left (by omega) a0; omega
  obtain ⟨p0, p1⟩ := prod_fit h3 (by omega) a0 a1 (by omega)
  obtain ⟨P, hP⟩ : ∃ P, P = q * A := ⟨_, rfl⟩
  obtain ⟨M, hM⟩ : ∃ M, M = A * t := ⟨_, rfl⟩
  rw [← hP] at p0 p1 HS
  rw [← hM] at hm
  have m0 : 0 ≤ M := by rw [hM]; exact Int.mul_nonneg a0 (by omega)
  have c0 : A * q = P := by rw [hP, Int.mul_comm]
  have e1 : IntKind.i64.wrap (A * q) = P := by rw [c0]; exact wfit (by omega) (by omega)
  have e5 : IntKind.i64.wrap ((A + 1) * q) = P + q := by rw [Int.add_mul, c0]; exact (congrArg _ (by omega)).trans (wfit (n := P + q) (by omega) (by omega))
  have e6 : IntKind.i64.wrap ((A + 1 + 1) * q) = P + q + q := by rw [Int.add_mul, Int.add_mul, c0]; exact (congrArg _ (by omega)).trans (wfit (n := P + q + q) (by omega) (by omega))
  have e2 : IntKind.i64.wrap (A * t) = M := by rw [← hM]; exact wfit (by omega) (by omega)
  have t1 : 1 ≤ t := by omega
  clear hP hM c0
  have hc : (k = 3 ∧ 0 < l ∧ M < l ∧ sreq (k, q, t) l = P + q + q) ∨ (k = 3 ∧ 0 < l ∧ ¬ M < l ∧ sreq (k, q, t) l = P + q) ∨ (k = 3 ∧ ¬ 0 < l ∧ ¬ M < l ∧ sreq (k, q, t) l = P) ∨ (¬ k = 3 ∧ M < l ∧ sreq (k, q, t) l = P + q) ∨ (¬ k = 3 ∧ ¬ M < l ∧ sreq (k, q, t) l = P) := by
    rw [HS.out]
    have hM0 : ¬ 0 < l → R = 0 := fun _ => by omega
    by_cases x : k = 3 <;> by_cases y : 0 < l <;> by_cases z : R = 0 <;> simp only [x, y, z, if_true, if_false, and_true, and_false, true_and, false_and, not_true, not_false_iff] <;> omega
  clear HS
  have HM := mkHid hm
  clear hm
  rcases hc with ⟨rfl, hl, hq, hv⟩ | ⟨rfl, hl, hq, hv⟩ | ⟨rfl, hl, hq, hv⟩ | ⟨hk, hq, hv⟩ | ⟨hk, hq, hv⟩
  all_goals
    rw [hv]
    clear hv
    go_enter Tryd.func62, Tryd.ntmps62
    go_wp2_with (go_at_call 77; refine (floor_is _ l t A l0 l1 t1 h5 HA).mono ?_; rintro e w1 ⟨rfl, hw⟩; rw [hw]; clear hw)
    go_ret
    exact ⟨rfl, ba (Below.refl _ _) _⟩
set_option maxHeartbeats 1600000 in
theorem rtdem_is (w : World) (s : Tk) (l : Int) (h : okT s) (l0 : 0 ≤ l) (l1 : l ≤ 1099511627776) : Calls Tryd.prog 46 #[vT s, .int .i64 l] w fun e w' => e = .returned (.int .i64 (tdem s l)) ∧ Below w.heap.size w w' := by
  obtain ⟨c, p, d, s⟩ := s
  obtain ⟨h1, h2, h3, h4, h5, h6⟩ := h
  simp only at h1 h2 h3 h4 h5 h6
  by_cases hl : l < d
  · have hv : tdem (c, p, d, s) l = 0 := if_pos hl
    rw [hv]
    clear hv
    go_enter Tryd.func46, Tryd.ntmps46
    go_wp2
    go_ret
    exact ⟨rfl, ba (Below.refl _ _) _⟩
  · have hv : tdem (c, p, d, s) l = c * ((l - d) / p + 1) := if_neg hl
    obtain ⟨A, hA⟩ : ∃ A, (l - d) / p = A := ⟨_, rfl⟩
    have HA := mkHid hA
    have a0 : 0 ≤ A := by rw [← hA]; exact Int.ediv_nonneg (by omega) (by omega)
    have a1 : A ≤ l - d := by rw [← hA]; exact Int.ediv_le_self _ (by omega)
    obtain ⟨p0, p1⟩ := prod_fit (q := c) (A := A) (l := l) h1 (by omega) (by omega) (by omega) (by omega)
    rw [hv, hA]
    obtain ⟨P, hP⟩ : ∃ P, P = c * A := ⟨_, rfl⟩
    have e0 : c * (A + 1) = c + P := by rw [Int.mul_add, ← hP]; omega
    rw [e0]
    rw [← hP] at p0 p1
    have e1 : IntKind.i64.wrap (c * A) = P := by rw [← hP]; exact wfit (by omega) (by omega)
    have e3 : IntKind.i64.wrap (l - d) = l - d := wfit (by omega) (by omega)
    have e4 : IntKind.i64.wrap (c + P) = c + P := wfit (by omega) (by omega)
    have q1 : 1 ≤ p := by omega
    have d0 : 0 ≤ l - d := by omega
    have d1 : l - d ≤ 1099511627776 := by omega
    clear hP hA hv e0
    go_enter Tryd.func46, Tryd.ntmps46
    go_wp2
    go_quiet (first | (exact Calls.quiet_of_same (floor_is _ (l - d) p A d0 d1 q1 h4 HA)))
    go_wp2
    go_ret
    exact ⟨rfl, bdN (ba (Below.refl _ _) _) _⟩
set_option maxHeartbeats 1600000 in
theorem rtot_sdem (w : World) (v : Value) (xs : List Sv) (l : Int) (h : Svs w v xs) (hx : ∀ x ∈ xs, okS x) (hn : xs.length ≤ 8) (l0 : 0 ≤ l) (l1 : l ≤ 1099511627776) :
    Calls Tryd.prog 19 #[v, .int .i64 l] w fun e w' => e = .returned (.int .i64 (tot (sdem · l) xs)) ∧ Below w.heap.size w w' := by
  obtain ⟨a0, cap, rfl, hl, h9⟩ := id h
  have HS := mkHid h
  have HX := mkHid hx
  clear h hx h9
  go_enter Tryd.func19, Tryd.ntmps19
  go_wp2
  go_loopw [5, 10] (fun nv iv wr => ∃ (j : Nat) (N : Int), nv = .int .i64 N ∧ iv = .int .i64 (j : Int) ∧ j ≤ xs.length ∧ 0 ≤ N ∧ N ≤ 8796093026304 ∧ Hid (tot (sdem · l) (xs.take j) = N) ∧ Hid (Below w.heap.size w wr)) (fun _ iv _ => xs.length - (intOf iv).toNat)
  case atStart => exact ⟨0, 0, rfl, rfl, Nat.zero_le _, by omega, by omega, mkHid rfl, mkHid (Below.refl _ _)⟩
  case round =>
    obtain ⟨j, N, rfl, rfl, hj, n0, n1, HN, HB⟩ := hrel
    by_cases hlt : j < xs.length
    · obtain ⟨b, off, k, q, t, rfl, hxj, c0, c1, c2⟩ := HS.out.at HB.out j hlt
      have hji : (j : Int) < xs.length := by omega
      have HO := mkHid (HX.out _ (List.mem_of_getElem? hxj))
      have HM := mkHid (tot_take (sdem · l) hxj)
      have HT := mkHid (tot_fit (sdem · l) 1099511628288 (by omega) (xs.take (j + 1)) (fun x hm => by have := sdem_bounds (HX.out x (List.mem_of_mem_take hm)) l0; omega) (by rw [List.length_take]; omega))
      obtain ⟨A, hA⟩ : ∃ A, sdem (k, q, t) l = A := ⟨_, rfl⟩
      have b1 := sdem_bounds HO.out l0
      have HA := mkHid hA
      rw [hA] at b1
      have hs : 0 ≤ N + A ∧ N + A ≤ 8796093026304 := by have e := HM.out; have e2 := HT.out; have e3 := HN.out; simp only [hA] at e; rw [e, e3] at e2; omega
      have ew : IntKind.i64.wrap (N + A) = N + A := wfit (by omega) (by omega)
      clear hxj hA
      go_wp2_with (go_at_call 45; refine (rsdem_is _ (k, q, t) l HO.out l0 l1).mono ?_; rw [HA.out]; rintro e w1 ⟨rfl, b2⟩; have HB2 := mkHid (bt (ba HB.out _) b2); clear b2)
      go_roundw
      case rel => exact ⟨j + 1, N + A, rfl, by go_num, by omega, hs.1, hs.2, mkHid (by rw [HM.out, HN.out, HA.out]), HB2⟩
      case measure => simp [intOf]; omega
    · obtain rfl : j = xs.length := by omega
      have hN := HN.out
      rw [List.take_length] at hN
      have HN2 := mkHid hN
      clear hN
      go_wp2
      go_ret
      exact ⟨by rw [HN2.out]; rfl, HB.out⟩
set_option maxHeartbeats 1600000 in
theorem rtot_sreq (w : World) (v : Value) (xs : List Sv) (l : Int) (h : Svs w v xs) (hx : ∀ x ∈ xs, okS x) (hn : xs.length ≤ 8) (l0 : 0 ≤ l) (l1 : l ≤ 1099511627776) :
    Calls Tryd.prog 36 #[v, .int .i64 l] w fun e w' => e = .returned (.int .i64 (tot (sreq · l) xs)) ∧ Below w.heap.size w w' := by
  obtain ⟨a0, cap, rfl, hl, h9⟩ := id h
  have HS := mkHid h
  have HX := mkHid hx
  clear h hx h9
  go_enter Tryd.func36, Tryd.ntmps36
  go_wp2
  go_loopw [5, 10] (fun nv iv wr => ∃ (j : Nat) (N : Int), nv = .int .i64 N ∧ iv = .int .i64 (j : Int) ∧ j ≤ xs.length ∧ 0 ≤ N ∧ N ≤ 8796093026304 ∧ Hid (tot (sreq · l) (xs.take j) = N) ∧ Hid (Below w.heap.size w wr)) (fun _ iv _ => xs.length - (intOf iv).toNat)
  case atStart => exact ⟨0, 0, rfl, rfl, Nat.zero_le _, by omega, by omega, mkHid rfl, mkHid (Below.refl _ _)⟩
  case round =>
    obtain ⟨j, N, rfl, rfl, hj, n0, n1, HN, HB⟩ := hrel
    by_cases hlt : j < xs.length
    · obtain ⟨b, off, k, q, t, rfl, hxj, c0, c1, c2⟩ := HS.out.at HB.out j hlt
      have hji : (j : Int) < xs.length := by omega
      have HO := mkHid (HX.out _ (List.mem_of_getElem? hxj))
      have HM := mkHid (tot_take (sreq · l) hxj)
      have HT := mkHid (tot_fit (sreq · l) 1099511628288 (by omega) (xs.take (j + 1)) (fun x hm => by have := sreq_bounds (HX.out x (List.mem_of_mem_take hm)) l0; omega) (by rw [List.length_take]; omega))
      obtain ⟨A, hA⟩ : ∃ A, sreq (k, q, t) l = A := ⟨_, rfl⟩
      have b1 := sreq_bounds HO.out l0
      have HA := mkHid hA
      rw [hA] at b1
      have hs : 0 ≤ N + A ∧ N + A ≤ 8796093026304 := by have e := HM.out; have e2 := HT.out; have e3 := HN.out; simp only [hA] at e; rw [e, e3] at e2; omega
      have ew : IntKind.i64.wrap (N + A) = N + A := wfit (by omega) (by omega)
      clear hxj hA
      go_wp2_with (go_at_call 62; refine (rsreq_is _ (k, q, t) l HO.out l0 l1).mono ?_; rw [HA.out]; rintro e w1 ⟨rfl, b2⟩; have HB2 := mkHid (bt (ba HB.out _) b2); clear b2)
      go_roundw
      case rel => exact ⟨j + 1, N + A, rfl, by go_num, by omega, hs.1, hs.2, mkHid (by rw [HM.out, HN.out, HA.out]), HB2⟩
      case measure => simp [intOf]; omega
    · obtain rfl : j = xs.length := by omega
      have hN := HN.out
      rw [List.take_length] at hN
      have HN2 := mkHid hN
      clear hN
      go_wp2
      go_ret
      exact ⟨by rw [HN2.out]; rfl, HB.out⟩
end Go.Proofs.YtnmmphnaelpjdaaDoor

