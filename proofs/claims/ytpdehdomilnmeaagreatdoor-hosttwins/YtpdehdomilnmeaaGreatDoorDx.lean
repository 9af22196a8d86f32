import Derived.Test.YtpdehdomilnmeaaGreatDoorDm2
import Derived.Test.YtpdehdomilnmeaaGreatDoorErrNum8
/- Package demand: Servers, Requests, Server, Request; Task. -/
namespace Go.Proofs.YtpdehdomilnmeaaGreatDoor
open Go.ChangeShapes Go.WideShapes Go.ChangeAt Go.RowKit
set_option maxRecDepth 100000
attribute [local go_sem] World.cell?_alloc_some frozen_alloc_some

/-- The error of a number. -/
def ev (a : Nat → Addr) (n : Int) : Value := if n = 10 then vE (a 9) else if n = 7 then vE (a 6) else if n = 11 then vE (a 10) else if n = 1 then vE (a 0) else .nilIface
def lcd (l : Int) : Int := if l < 0 ∨ 1099511627776 < l then 1 else 0
def scd (xs : List Sv) (l : Int) : Int := if xs.all bS = true then (if 8 < xs.length then 7 else lcd l) else 10
theorem lcd_cases (l : Int) : (lcd l = 1 ∧ (l < 0 ∨ (0 ≤ l ∧ 1099511627776 < l))) ∨ (lcd l = 0 ∧ 0 ≤ l ∧ l ≤ 1099511627776) := by
  unfold lcd
  split <;> omega
theorem all_okS {xs : List Sv} (h : xs.all bS = true) : ∀ x ∈ xs, okS x := by
  intro x hx
  have h2 := List.all_eq_true.1 h x hx
  unfold bS at h2
  have h3 := of_decide_eq_true h2
  exact h3
theorem some_noS {xs : List Sv} (h : ¬ xs.all bS = true) : ∃ x ∈ xs, ¬ okS x := by
  refine Classical.byContradiction fun hn => h (List.all_eq_true.2 fun x hx => bS_true ?_)
  exact Classical.byContradiction fun hk => hn ⟨x, hx, hk⟩
theorem scd_cases (xs : List Sv) (l : Int) : (scd xs l = 10 ∧ ∃ x ∈ xs, ¬ okS x) ∨ (scd xs l = 7 ∧ (∀ x ∈ xs, okS x) ∧ 8 < xs.length) ∨ (scd xs l = 1 ∧ (∀ x ∈ xs, okS x) ∧ xs.length ≤ 8 ∧ (l < 0 ∨ (0 ≤ l ∧ 1099511627776 < l))) ∨ (scd xs l = 0 ∧ (∀ x ∈ xs, okS x) ∧ xs.length ≤ 8 ∧ 0 ≤ l ∧ l ≤ 1099511627776) := by
  unfold scd
  by_cases h : xs.all bS = true
  · rw [if_pos h]
    by_cases h8 : 8 < xs.length
    · rw [if_pos h8]; exact .inr (.inl ⟨rfl, all_okS h, h8⟩)
    · rw [if_neg h8]
      rcases lcd_cases l with ⟨e, hl⟩ | ⟨e, hl⟩
      · exact .inr (.inr (.inl ⟨e, all_okS h, by omega, hl⟩))
      · exact .inr (.inr (.inr ⟨e, all_okS h, by omega, hl⟩))
  · rw [if_neg h]; exact .inl ⟨rfl, some_noS h⟩
theorem ev10 (a : Nat → Addr) : ev a 10 = vE (a 9) := rfl
theorem ev7 (a : Nat → Addr) : ev a 7 = vE (a 6) := rfl
theorem ev11 (a : Nat → Addr) : ev a 11 = vE (a 10) := rfl
theorem ev1 (a : Nat → Addr) : ev a 1 = vE (a 0) := rfl
theorem ev0 (a : Nat → Addr) : ev a 0 = .nilIface := rfl
/-- The errors of servers lie as laid. -/
structure Er3 (w : World) (a : Nat → Addr) : Prop where
  cell_server : w.cell? ⟨9, 0, none⟩ = some (vE (a 9))
  cell_full : w.cell? ⟨6, 0, none⟩ = some (vE (a 6))
  cell_number : w.cell? ⟨0, 0, none⟩ = some (vE (a 0))
/-- And that of tasks. -/
structure Er4 (w : World) (a : Nat → Addr) : Prop where
  er3 : Er3 w a
  cell_task : w.cell? ⟨10, 0, none⟩ = some (vE (a 10))
theorem Er3.late {w w' : World} {a : Nat → Addr} (h : Er3 w a) (hb : Below w.heap.size w w') : Er3 w' a := ⟨kc h.1 hb, kc h.2 hb, kc h.3 hb⟩
theorem Er4.late {w w' : World} {a : Nat → Addr} (h : Er4 w a) (hb : Below w.heap.size w w') : Er4 w' a := ⟨h.1.late hb, kc h.2 hb⟩
theorem Errs.er3 {w : World} {a : Nat → Addr} (h : Errs w a) : Er3 w a := ⟨h.cell_server, h.cell_full, h.cell_number⟩
theorem Errs.er4 {w : World} {a : Nat → Addr} (h : Errs w a) : Er4 w a := ⟨h.er3, h.cell_task⟩
theorem num_ev (w : World) (a : Nat → Addr) (E : Errs w a) (n : Int) (hn : n = 0 ∨ n = 1 ∨ n = 7 ∨ n = 10 ∨ n = 11) : Calls Tryz.prog 12 #[ev a n] w fun e w' => e = .returned (.int .i64 n) ∧ Below w.heap.size w w' := by
  rcases hn with rfl | rfl | rfl | rfl | rfl
  · refine (errnum_nil w).mono ?_
    rintro e w' ⟨h, rfl⟩
    exact ⟨h, Below.refl _ _⟩
  · exact errnum_number w a E
  · exact errnum_full w a E
  · exact errnum_server w a E
  · exact errnum_task w a E
theorem dsdem_err (w : World) (v : Value) (l : Int) (a : Addr) (h : Calls Tryz.prog 180 #[v, .int .i64 l] w fun e w' => e = .returned (vE a) ∧ Below w.heap.size w w') :
    Calls Tryz.prog 177 #[v, .int .i64 l] w fun e w' => e = .returned (.tuple #[.int .i64 0, vE a]) ∧ Below w.heap.size w w' := by
  have H := mkHid h
  clear h
  go_enter Tryz.func177, Tryz.ntmps177
  go_wp2_with (go_at_call 180; refine H.out.mono ?_; rintro e w1 ⟨rfl, b1⟩)
  go_ret2
  exact ⟨rfl, b1⟩
theorem dsdem_ok (w : World) (v : Value) (xs : List Sv) (l : Int) (h : Svs w v xs) (hx : ∀ x ∈ xs, okS x) (hn : xs.length ≤ 8) (l0 : 0 ≤ l) (l1 : l ≤ 1099511627776) :
    Calls Tryz.prog 177 #[v, .int .i64 l] w fun e w' => e = .returned (.tuple #[.int .i64 (tot (sdem · l) xs), .nilIface]) ∧ Below w.heap.size w w' := by
  have H1 := mkHid (chk_any w v xs l h hx hn .nilIface (fun W _ => len_ok W l l0 l1))
  have H2 : Hid (∀ W, Below w.heap.size w W → Calls Tryz.prog 181 #[v, .int .i64 l, .func (.func 191) #[] #[]] W fun e w' => e = .returned (.int .i64 (tot (sdem · l) xs)) ∧ Below W.heap.size W w') := mkHid (fun W hb => tot_sdem W v xs l (h.below hb) hx hn l0 l1)
  clear h hx
  generalize tot (sdem · l) xs = N at *
  go_enter Tryz.func177, Tryz.ntmps177
  go_wp2_with (first
    | (go_at_call 180; refine H1.out.mono ?_; rintro e w1 ⟨rfl, b1⟩; have HB1 := mkHid b1; clear b1)
    | (go_at_call 181; refine (H2.out _ HB1.out).mono ?_; rintro e w2 ⟨rfl, b2⟩; have HB2 := mkHid (bt HB1.out b2); clear b2))
  go_ret2
  exact ⟨rfl, HB2.out⟩
theorem dsdem (w : World) (v : Value) (xs : List Sv) (l : Int) (a : Nat → Addr) (h : Svs w v xs) (E : Er3 w a) :
    Calls Tryz.prog 177 #[v, .int .i64 l] w fun e w' => e = .returned (.tuple #[.int .i64 (if scd xs l = 0 then tot (sdem · l) xs else 0), ev a (scd xs l)]) ∧ Below w.heap.size w w' := by
  rcases scd_cases xs l with ⟨e, hx⟩ | ⟨e, hx, hn⟩ | ⟨e, hx, hn, hl⟩ | ⟨e, hx, hn, l0, l1⟩
  · rw [e, if_neg (by decide), ev10]
    exact dsdem_err w v l _ (chk_no w v xs l _ h hx E.cell_server)
  · rw [e, if_neg (by decide), ev7]
    exact dsdem_err w v l _ (chk_full w v xs l _ h hx hn E.cell_full)
  · rw [e, if_neg (by decide), ev1]
    exact dsdem_err w v l _ (chk_any w v xs l h hx hn _ (fun W hb => len_no W l hl _ (E.late hb).cell_number))
  · rw [e, if_pos rfl, ev0]
    exact dsdem_ok w v xs l h hx hn l0 l1
theorem dsreq_err (w : World) (v : Value) (l : Int) (a : Addr) (h : Calls Tryz.prog 180 #[v, .int .i64 l] w fun e w' => e = .returned (vE a) ∧ Below w.heap.size w w') :
    Calls Tryz.prog 167 #[v, .int .i64 l] w fun e w' => e = .returned (.tuple #[.int .i64 0, vE a]) ∧ Below w.heap.size w w' := by
  have H := mkHid h
  clear h
  go_enter Tryz.func167, Tryz.ntmps167
  go_wp2_with (go_at_call 180; refine H.out.mono ?_; rintro e w1 ⟨rfl, b1⟩)
  go_ret2
  exact ⟨rfl, b1⟩
theorem dsreq_ok (w : World) (v : Value) (xs : List Sv) (l : Int) (h : Svs w v xs) (hx : ∀ x ∈ xs, okS x) (hn : xs.length ≤ 8) (l0 : 0 ≤ l) (l1 : l ≤ 1099511627776) :
    Calls Tryz.prog 167 #[v, .int .i64 l] w fun e w' => e = .returned (.tuple #[.int .i64 (tot (sreq · l) xs), .nilIface]) ∧ Below w.heap.size w w' := by
  have H1 := mkHid (chk_any w v xs l h hx hn .nilIface (fun W _ => len_ok W l l0 l1))
  have H2 : Hid (∀ W, Below w.heap.size w W → Calls Tryz.prog 181 #[v, .int .i64 l, .func (.func 182) #[] #[]] W fun e w' => e = .returned (.int .i64 (tot (sreq · l) xs)) ∧ Below W.heap.size W w') := mkHid (fun W hb => tot_sreq W v xs l (h.below hb) hx hn l0 l1)
  clear h hx
  generalize tot (sreq · l) xs = N at *
  go_enter Tryz.func167, Tryz.ntmps167
  go_wp2_with (first
    | (go_at_call 180; refine H1.out.mono ?_; rintro e w1 ⟨rfl, b1⟩; have HB1 := mkHid b1; clear b1)
    | (go_at_call 181; refine (H2.out _ HB1.out).mono ?_; rintro e w2 ⟨rfl, b2⟩; have HB2 := mkHid (bt HB1.out b2); clear b2))
  go_ret2
  exact ⟨rfl, HB2.out⟩
theorem dsreq (w : World) (v : Value) (xs : List Sv) (l : Int) (a : Nat → Addr) (h : Svs w v xs) (E : Er3 w a) :
    Calls Tryz.prog 167 #[v, .int .i64 l] w fun e w' => e = .returned (.tuple #[.int .i64 (if scd xs l = 0 then tot (sreq · l) xs else 0), ev a (scd xs l)]) ∧ Below w.heap.size w w' := by
  rcases scd_cases xs l with ⟨e, hx⟩ | ⟨e, hx, hn⟩ | ⟨e, hx, hn, hl⟩ | ⟨e, hx, hn, l0, l1⟩
  · rw [e, if_neg (by decide), ev10]
    exact dsreq_err w v l _ (chk_no w v xs l _ h hx E.cell_server)
  · rw [e, if_neg (by decide), ev7]
    exact dsreq_err w v l _ (chk_full w v xs l _ h hx hn E.cell_full)
  · rw [e, if_neg (by decide), ev1]
    exact dsreq_err w v l _ (chk_any w v xs l h hx hn _ (fun W hb => len_no W l hl _ (E.late hb).cell_number))
  · rw [e, if_pos rfl, ev0]
    exact dsreq_ok w v xs l h hx hn l0 l1
theorem scd_one (s : Sv) (l : Int) : scd [s] l = if bS s = true then lcd l else 10 := by
  unfold scd
  simp
end Go.Proofs.YtpdehdomilnmeaaGreatDoor

/- The document's demands. -/
namespace Go.Proofs.YtpdehdomilnmeaaGreatDoor
open Go.ChangeShapes Go.WideShapes Go.ChangeAt Go.RowKit
set_option maxRecDepth 100000
attribute [local go_sem] World.cell?_alloc_some frozen_alloc_some

theorem floor_math {l t : Int} (t0 : 1 ≤ t) (h : 100 * t < l) : ∃ n, (l - 50 * t) / t = n ∧ 0 ≤ n ∧ n ≤ l ∧ 0 ≤ l - n * t ∧ n + (l - n * t) ≤ l ∧ l - n * t ≤ 51 * t := by
  obtain ⟨a, r, ha, r0, r1, hm⟩ := parts0 (T := t) (l - 50 * t) t0 (by omega)
  have hp : a * 1 ≤ a * t := Int.mul_le_mul_of_nonneg_left t0 ha
  refine ⟨a, (dm r0 r1 hm).1, ha, by omega, by omega, by omega, by omega⟩
set_option maxHeartbeats 1600000 in
theorem floor_is (w : World) (l t A : Int) (l0 : 0 ≤ l) (l1 : l ≤ 1099511627776) (t0 : 1 ≤ t) (t1 : t ≤ 256) (hA : Hid (l / t = A)) : Calls Tryz.prog 161 #[.int .i64 l, .int .i64 t] w fun e w' => e = .returned (.int .i64 A) ∧ w' = w := by
  have e1 : IntKind.i64.wrap (100 * t) = 100 * t := wfit (by omega) (by omega)
  have e2 : IntKind.i64.wrap (50 * t) = 50 * t := wfit (by omega) (by omega)
  have tz : ¬ t = 0 := by omega
  by_cases h : 100 * t < l
  · obtain ⟨n, f1, f2, f3, f4, f5, f6⟩ := floor_math t0 h
    have e5 : IntKind.i64.wrap (l - 50 * t) = l - 50 * t := wfit (by omega) (by omega)
    have e6 : (l - 50 * t).tdiv t = n := by rw [Int.tdiv_eq_ediv_of_nonneg (by omega), f1]
    have e7 : IntKind.i64.wrap n = n := wfit (by omega) (by omega)
    obtain ⟨M, hM⟩ : ∃ M, M = n * t := ⟨_, rfl⟩
    rw [← hM] at f4 f5 f6
    have e9 : IntKind.i64.wrap (n * t) = M := by rw [← hM]; exact wfit (by omega) (by omega)
    have e10 : IntKind.i64.wrap (l - M) = l - M := wfit (by omega) (by omega)
    have HM := mkHid hM
    clear hM f1
    go_enter Tryz.func161, Tryz.ntmps161
    go_wp2
    go_loopw [0, 5] (fun lv nv wr => ∃ L N : Int, lv = .int .i64 L ∧ nv = .int .i64 N ∧ 0 ≤ L ∧ 0 ≤ N ∧ N + L ≤ l ∧ Hid (l = N * t + L) ∧ wr = w) (fun lv _ _ => (intOf lv).toNat)
    case atStart => exact ⟨l - M, n, rfl, rfl, by omega, by omega, by omega, mkHid (by rw [← HM.out]; omega), rfl⟩
    case round =>
      obtain ⟨L, N, rfl, rfl, b1, b2, b3, HN, rfl⟩ := hrel
      by_cases hlt : L < t
      · have HV := mkHid (dm b1 hlt HN.out).1
        go_wp2
        go_ret
        exact ⟨by rw [← hA.out, HV.out]; rfl, rfl⟩
      · have hge : t ≤ L := by omega
        go_wp2
        go_roundw
        case rel => exact ⟨L - t, N + 1, by go_num, by go_num, by omega, by omega, by omega, mkHid (by rw [Int.add_mul]; have := HN.out; omega), trivial⟩
        case measure => simp [intOf]; omega
  · have h' : l ≤ 100 * t := by omega
    go_enter Tryz.func161, Tryz.ntmps161
    go_wp2
    go_loopw [0, 5] (fun lv nv wr => ∃ L N : Int, lv = .int .i64 L ∧ nv = .int .i64 N ∧ 0 ≤ L ∧ 0 ≤ N ∧ N + L ≤ l ∧ Hid (l = N * t + L) ∧ wr = w) (fun lv _ _ => (intOf lv).toNat)
    case atStart => exact ⟨l, 0, rfl, rfl, by omega, by omega, by omega, mkHid (by omega), rfl⟩
    case round =>
      obtain ⟨L, N, rfl, rfl, b1, b2, b3, HN, rfl⟩ := hrel
      by_cases hlt : L < t
      · have HV := mkHid (dm b1 hlt HN.out).1
        go_wp2
        go_ret
        exact ⟨by rw [← hA.out, HV.out]; rfl, rfl⟩
      · have hge : t ≤ L := by omega
        go_wp2
        go_roundw
        case rel => exact ⟨L - t, N + 1, by go_num, by go_num, by omega, by omega, by omega, mkHid (by rw [Int.add_mul]; have := HN.out; omega), trivial⟩
        case measure => simp [intOf]; omega
set_option maxHeartbeats 1600000 in
theorem rsdem_is (w : World) (s : Sv) (l : Int) (h : okS s) (l0 : 0 ≤ l) (l1 : l ≤ 1099511627776) : Calls Tryz.prog 160 #[vS s, .int .i64 l] w fun e w' => e = .returned (.int .i64 (sdem s l)) ∧ Below w.heap.size w w' := by
  obtain ⟨k, q, t⟩ := s
  obtain ⟨h1, h2, h3, h4, h5⟩ := h
  simp only at h1 h2 h3 h4 h5
  obtain ⟨A, R, a0, r0, r1, hm⟩ := parts0 (T := t) l (by omega) l0
  have HS := mkHid (sdem_at (k := k) (q := q) r0 r1 hm)
  have HA := mkHid (dm r0 r1 hm).1
  have a1 : A ≤ l := by have : A * 1 ≤ A * t := Int.mul_le_mul_of_nonneg_left (by omega) a0; omega
  obtain ⟨p0, p1⟩ := prod_fit h3 (by omega) a0 a1 (by omega)
  obtain ⟨P, hP⟩ : ∃ P, P = q * A := ⟨_, rfl⟩
  obtain ⟨M, hM⟩ : ∃ M, M = A * t := ⟨_, rfl⟩
  rw [← hP] at p0 p1 HS
  rw [← hM] at hm
  have e1 : IntKind.i64.wrap (A * q) = P := by rw [Int.mul_comm, ← hP]; exact wfit (by omega) (by omega)
  have e2 : IntKind.i64.wrap (A * t) = M := by rw [← hM]; exact wfit (by omega) (by omega)
  have e3 : IntKind.i64.wrap (l - M) = R := by rw [show l - M = R by omega]; exact wfit (by omega) (by omega)
  have t1 : 1 ≤ t := by omega
  clear hP hM
  have HM := mkHid hm
  clear hm
  have hc : (k = 3 ∧ q < R ∧ sdem (k, q, t) l = P + q) ∨ (k = 3 ∧ ¬ q < R ∧ sdem (k, q, t) l = P + R) ∨ (¬ k = 3 ∧ sdem (k, q, t) l = P) := by
    rw [HS.out]
    by_cases x : k = 3
    · simp only [if_pos x]; omega
    · simp only [if_neg x]; omega
  clear HS
  rcases hc with ⟨rfl, hq, hv⟩ | ⟨rfl, hq, hv⟩ | ⟨hk, hv⟩
  all_goals
    rw [hv]
    clear hv
    go_enter Tryz.func160, Tryz.ntmps160
    go_wp2_with (go_at_call 161; refine (floor_is _ l t A l0 l1 t1 h5 HA).mono ?_; rintro e w1 ⟨rfl, hw⟩; rw [hw]; clear hw)
    go_ret
    exact ⟨rfl, ba (Below.refl _ _) _⟩
set_option maxHeartbeats 1600000 in
theorem rsreq_is (w : World) (s : Sv) (l : Int) (h : okS s) (l0 : 0 ≤ l) (l1 : l ≤ 1099511627776) : Calls Tryz.prog 134 #[vS s, .int .i64 l] w fun e w' => e = .returned (.int .i64 (sreq s l)) ∧ Below w.heap.size w w' := by
  obtain ⟨k, q, t⟩ := s
  obtain ⟨h1, h2, h3, h4, h5⟩ := h
  simp only at h1 h2 h3 h4 h5
  obtain ⟨A, R, a0, r0, r1, hm⟩ := parts0 (T := t) l (by omega) l0
  have HS := mkHid (sreq_at (k := k) (q := q) r0 r1 hm)
  have HA := mkHid (dm r0 r1 hm).1
  have a1 : A ≤ l := by have : A * 1 ≤ A * t := Int.mul_le_mul_of_nonneg_left (by omega) a0; omega
  obtain ⟨p0, p1⟩ := prod_fit h3 (by omega) a0 a1 (by omega)
  obtain ⟨P, hP⟩ : ∃ P, P = q * A := ⟨_, rfl⟩
  obtain ⟨M, hM⟩ : ∃ M, M = A * t := ⟨_, rfl⟩
  rw [← hP] at p0 p1 HS
  rw [← hM] at hm
  have m0 : 0 ≤ M := by rw [hM]; exact Int.mul_nonneg a0 (by omega)
  have c0 : A * q = P := by rw [hP, Int.mul_comm]
  have e1 : IntKind.i64.wrap (A * q) = P := by rw [c0]; exact wfit (by omega) (by omega)
  have e5 : IntKind.i64.wrap ((A + 1) * q) = P + q := by rw [Int.add_mul, c0]; exact (congrArg _ (by omega)).trans (wfit (n := P + q) (by omega) (by omega))
  have e6 : IntKind.i64.wrap ((A + 1 + 1) * q) = P + q + q := by rw [Int.add_mul, Int.add_mul, c0]; exact (congrArg _ (by omega)).trans (wfit (n := P + q + q) (by omega) (by omega))
  have e2 : IntKind.i64.wrap (A * t) = M := by rw [← hM]; exact wfit (by omega) (by omega)
  have t1 : 1 ≤ t := by omega
  clear hP hM c0
  have hc : (k = 3 ∧ 0 < l ∧ M < l ∧ sreq (k, q, t) l = P + q + q) ∨ (k = 3 ∧ 0 < l ∧ ¬ M < l ∧ sreq (k, q, t) l = P + q) ∨ (k = 3 ∧ ¬ 0 < l ∧ ¬ M < l ∧ sreq (k, q, t) l = P) ∨ (¬ k = 3 ∧ M < l ∧ sreq (k, q, t) l = P + q) ∨ (¬ k = 3 ∧ ¬ M < l ∧ sreq (k, q, t) l = P) := by
    rw [HS.out]
    have hM0 : ¬ 0 < l → R = 0 := fun _ => by omega
    by_cases x : k = 3 <;> by_cases y : 0 < l <;> by_cases z : R = 0 <;> simp only [x, y, z, if_true, if_false, and_true, and_false, true_and, false_and, not_true, not_false_iff] <;> omega
  clear HS
  have HM := mkHid hm
  clear hm
  rcases hc with ⟨rfl, hl, hq, hv⟩ | ⟨rfl, hl, hq, hv⟩ | ⟨rfl, hl, hq, hv⟩ | ⟨hk, hq, hv⟩ | ⟨hk, hq, hv⟩
  all_goals
    rw [hv]
    clear hv
    go_enter Tryz.func134, Tryz.ntmps134
    go_wp2_with (go_at_call 161; refine (floor_is _ l t A l0 l1 t1 h5 HA).mono ?_; rintro e w1 ⟨rfl, hw⟩; rw [hw]; clear hw)
    go_ret
    exact ⟨rfl, ba (Below.refl _ _) _⟩
set_option maxHeartbeats 1600000 in
theorem rtdem_is (w : World) (s : Tk) (l : Int) (h : okT s) (l0 : 0 ≤ l) (l1 : l ≤ 1099511627776) : Calls Tryz.prog 143 #[vT s, .int .i64 l] w fun e w' => e = .returned (.int .i64 (tdem s l)) ∧ Below w.heap.size w w' := by
  obtain ⟨c, p, d, s⟩ := s
  obtain ⟨h1, h2, h3, h4, h5, h6⟩ := h
  simp only at h1 h2 h3 h4 h5 h6
  by_cases hl : l < d
  · have hv : tdem (c, p, d, s) l = 0 := if_pos hl
    rw [hv]
    clear hv
    go_enter Tryz.func143, Tryz.ntmps143
    go_wp2
    go_ret
    exact ⟨rfl, ba (Below.refl _ _) _⟩
  · have hv : tdem (c, p, d, s) l = c * ((l - d) / p + 1) := if_neg hl
    obtain ⟨A, hA⟩ : ∃ A, (l - d) / p = A := ⟨_, rfl⟩
    have HA := mkHid hA
    have a0 : 0 ≤ A := by rw [← hA]; exact Int.ediv_nonneg (by omega) (by omega)
    have a1 : A ≤ l - d := by rw [← hA]; exact Int.ediv_le_self _ (by omega)
    obtain ⟨p0, p1⟩ := prod_fit (q := c) (A := A) (l := l) h1 (by omega) (by omega) (by omega) (by omega)
    rw [hv, hA]
    obtain ⟨P, hP⟩ : ∃ P, P = c * A := ⟨_, rfl⟩
    have e0 : c * (A + 1) = c + P := by rw [Int.mul_add, ← hP]; omega
    rw [e0]
    rw [← hP] at p0 p1
    have e1 : IntKind.i64.wrap (c * A) = P := by rw [← hP]; exact wfit (by omega) (by omega)
    have e3 : IntKind.i64.wrap (l - d) = l - d := wfit (by omega) (by omega)
    have e4 : IntKind.i64.wrap (c + P) = c + P := wfit (by omega) (by omega)
    have q1 : 1 ≤ p := by omega
    have d0 : 0 ≤ l - d := by omega
    have d1 : l - d ≤ 1099511627776 := by omega
    clear hP hA hv e0
    go_enter Tryz.func143, Tryz.ntmps143
    go_wp2
    go_quiet (first | (exact Calls.quiet_of_same (floor_is _ (l - d) p A d0 d1 q1 h4 HA)))
    go_wp2
    go_ret
    exact ⟨rfl, bdN (ba (Below.refl _ _) _) _⟩
set_option maxHeartbeats 1600000 in
theorem rtot_sdem (w : World) (v : Value) (xs : List Sv) (l : Int) (h : Svs w v xs) (hx : ∀ x ∈ xs, okS x) (hn : xs.length ≤ 8) (l0 : 0 ≤ l) (l1 : l ≤ 1099511627776) :
    Calls Tryz.prog 132 #[v, .int .i64 l] w fun e w' => e = .returned (.int .i64 (tot (sdem · l) xs)) ∧ Below w.heap.size w w' := by
  obtain ⟨a0, cap, rfl, hl, h9⟩ := id h
  have HS := mkHid h
  have HX := mkHid hx
  clear h hx h9
  go_enter Tryz.func132, Tryz.ntmps132
  go_wp2
  go_loopw [5, 10] (fun nv iv wr => ∃ (j : Nat) (N : Int), nv = .int .i64 N ∧ iv = .int .i64 (j : Int) ∧ j ≤ xs.length ∧ 0 ≤ N ∧ N ≤ 8796093026304 ∧ Hid (tot (sdem · l) (xs.take j) = N) ∧ Hid (Below w.heap.size w wr)) (fun _ iv _ => xs.length - (intOf iv).toNat)
  case atStart => exact ⟨0, 0, rfl, rfl, Nat.zero_le _, by omega, by omega, mkHid rfl, mkHid (Below.refl _ _)⟩
  case round =>
    obtain ⟨j, N, rfl, rfl, hj, n0, n1, HN, HB⟩ := hrel
    by_cases hlt : j < xs.length
    · obtain ⟨b, off, k, q, t, rfl, hxj, c0, c1, c2⟩ := HS.out.at HB.out j hlt
      have hji : (j : Int) < xs.length := by omega
      have HO := mkHid (HX.out _ (List.mem_of_getElem? hxj))
      have HM := mkHid (tot_take (sdem · l) hxj)
      have HT := mkHid (tot_fit (sdem · l) 1099511628288 (by omega) (xs.take (j + 1)) (fun x hm => by have := sdem_bounds (HX.out x (List.mem_of_mem_take hm)) l0; omega) (by rw [List.length_take]; omega))
      obtain ⟨A, hA⟩ : ∃ A, sdem (k, q, t) l = A := ⟨_, rfl⟩
      have b1 := sdem_bounds HO.out l0
      have HA := mkHid hA
      rw [hA] at b1
      have hs : 0 ≤ N + A ∧ N + A ≤ 8796093026304 := by have e := HM.out; have e2 := HT.out; have e3 := HN.out; simp only [hA] at e; rw [e, e3] at e2; omega
      have ew : IntKind.i64.wrap (N + A) = N + A := wfit (by omega) (by omega)
      clear hxj hA
      go_wp2_with (go_at_call 160; refine (rsdem_is _ (k, q, t) l HO.out l0 l1).mono ?_; rw [HA.out]; rintro e w1 ⟨rfl, b2⟩; have HB2 := mkHid (bt (ba HB.out _) b2); clear b2)
      go_roundw
      case rel => exact ⟨j + 1, N + A, rfl, by go_num, by omega, hs.1, hs.2, mkHid (by rw [HM.out, HN.out, HA.out]), HB2⟩
      case measure => simp [intOf]; omega
    · obtain rfl : j = xs.length := by omega
      have hN := HN.out
      rw [List.take_length] at hN
      have HN2 := mkHid hN
      clear hN
      go_wp2
      go_ret
      exact ⟨by rw [HN2.out]; rfl, HB.out⟩
set_option maxHeartbeats 1600000 in
theorem rtot_sreq (w : World) (v : Value) (xs : List Sv) (l : Int) (h : Svs w v xs) (hx : ∀ x ∈ xs, okS x) (hn : xs.length ≤ 8) (l0 : 0 ≤ l) (l1 : l ≤ 1099511627776) :
    Calls Tryz.prog 110 #[v, .int .i64 l] w fun e w' => e = .returned (.int .i64 (tot (sreq · l) xs)) ∧ Below w.heap.size w w' := by
  obtain ⟨a0, cap, rfl, hl, h9⟩ := id h
  have HS := mkHid h
  have HX := mkHid hx
  clear h hx h9
  go_enter Tryz.func110, Tryz.ntmps110
  go_wp2
  go_loopw [5, 10] (fun nv iv wr => ∃ (j : Nat) (N : Int), nv = .int .i64 N ∧ iv = .int .i64 (j : Int) ∧ j ≤ xs.length ∧ 0 ≤ N ∧ N ≤ 8796093026304 ∧ Hid (tot (sreq · l) (xs.take j) = N) ∧ Hid (Below w.heap.size w wr)) (fun _ iv _ => xs.length - (intOf iv).toNat)
  case atStart => exact ⟨0, 0, rfl, rfl, Nat.zero_le _, by omega, by omega, mkHid rfl, mkHid (Below.refl _ _)⟩
  case round =>
    obtain ⟨j, N, rfl, rfl, hj, n0, n1, HN, HB⟩ := hrel
    by_cases hlt : j < xs.length
    · obtain ⟨b, off, k, q, t, rfl, hxj, c0, c1, c2⟩ := HS.out.at HB.out j hlt
      have hji : (j : Int) < xs.length := by omega
      have HO := mkHid (HX.out _ (List.mem_of_getElem? hxj))
      have HM := mkHid (tot_take (sreq · l) hxj)
      have HT := mkHid (tot_fit (sreq · l) 1099511628288 (by omega) (xs.take (j + 1)) (fun x hm => by have := sreq_bounds (HX.out x (List.mem_of_mem_take hm)) l0; omega) (by rw [List.length_take]; omega))
      obtain ⟨A, hA⟩ : ∃ A, sreq (k, q, t) l = A := ⟨_, rfl⟩
      have b1 := sreq_bounds HO.out l0
      have HA := mkHid hA
      rw [hA] at b1
      have hs : 0 ≤ N + A ∧ N + A ≤ 8796093026304 := by have e := HM.out; have e2 := HT.out; have e3 := HN.out; simp only [hA] at e; rw [e, e3] at e2; omega
      have ew : IntKind.i64.wrap (N + A) = N + A := wfit (by omega) (by omega)
      clear hxj hA
      go_wp2_with (go_at_call 134; refine (rsreq_is _ (k, q, t) l HO.out l0 l1).mono ?_; rw [HA.out]; rintro e w1 ⟨rfl, b2⟩; have HB2 := mkHid (bt (ba HB.out _) b2); clear b2)
      go_roundw
      case rel => exact ⟨j + 1, N + A, rfl, by go_num, by omega, hs.1, hs.2, mkHid (by rw [HM.out, HN.out, HA.out]), HB2⟩
      case measure => simp [intOf]; omega
    · obtain rfl : j = xs.length := by omega
      have hN := HN.out
      rw [List.take_length] at hN
      have HN2 := mkHid hN
      clear hN
      go_wp2
      go_ret
      exact ⟨by rw [HN2.out]; rfl, HB.out⟩
end Go.Proofs.YtpdehdomilnmeaaGreatDoor

/- Package demand: tasks. -/
namespace Go.Proofs.YtpdehdomilnmeaaGreatDoor
open Go.ChangeShapes Go.WideShapes Go.ChangeAt Go.RowKit
set_option maxRecDepth 100000
attribute [local go_sem] World.cell?_alloc_some frozen_alloc_some

set_option maxHeartbeats 1600000 in
theorem bdl_is (w : World) (v : Value) (xs : List Tk) (l : Int) (h : Tks w v xs) (hx : ∀ x ∈ xs, okT x) :
    Calls Tryz.prog 203 #[v, .int .i64 l] w fun e w' => e = .returned (.int .i64 (bdl l xs)) ∧ Below w.heap.size w w' := by
  obtain ⟨a0, cap, rfl, hl, h9⟩ := id h
  have HS := mkHid h
  have HX := mkHid hx
  clear h hx h9
  go_enter Tryz.func203, Tryz.ntmps203
  go_wp2
  go_loopw [5, 10] (fun nv iv wr => ∃ (j : Nat) (N : Int), nv = .int .i64 N ∧ iv = .int .i64 (j : Int) ∧ j ≤ xs.length ∧ Hid (bdl l (xs.take j) = N) ∧ Hid (Below w.heap.size w wr)) (fun _ iv _ => xs.length - (intOf iv).toNat)
  case atStart => exact ⟨0, 0, rfl, rfl, Nat.zero_le _, mkHid rfl, mkHid (Below.refl _ _)⟩
  case round =>
    obtain ⟨j, N, rfl, rfl, hj, HN, HB⟩ := hrel
    by_cases hlt : j < xs.length
    · obtain ⟨b, off, c, p, d, s, rfl, hxj, c0, c1, c2, c3⟩ := HS.out.at HB.out j hlt
      have hji : (j : Int) < xs.length := by omega
      obtain ⟨o1, o2, o3, o4, o5, o6⟩ := HX.out _ (List.mem_of_getElem? hxj)
      simp only at o1 o2 o3 o4 o5 o6
      have HM := mkHid (bdl_take (l := l) hxj)
      have hN := bdl_bounds l (xs.take j) (fun x hm => HX.out x (List.mem_of_mem_take hm))
      rw [HN.out] at hN HM
      simp only at HM
      obtain ⟨n0, n1⟩ := hN
      have es : IntKind.i64.wrap (s - 1) = s - 1 := wfit (by omega) (by omega)
      clear hxj
      have hc : (l < d ∧ N < s - 1 ∧ bdl l (xs.take (j + 1)) = s - 1) ∨ (l < d ∧ ¬ N < s - 1 ∧ bdl l (xs.take (j + 1)) = N) ∨ (¬ l < d ∧ bdl l (xs.take (j + 1)) = N) := by
        by_cases x : l < d
        · have e := HM.out
          rw [if_pos x] at e
          omega
        · exact .inr (.inr ⟨x, HM.out.trans (if_neg x)⟩)
      clear HM
      rcases hc with ⟨x, y, hv⟩ | ⟨x, y, hv⟩ | ⟨x, hv⟩
      · have HV := mkHid hv
        clear hv
        go_wp2
        go_roundw
        case rel => exact ⟨j + 1, s - 1, by go_num, by go_num, by omega, HV, mkHid (ba HB.out _)⟩
        case measure => simp [intOf]; omega
      · have HV := mkHid hv
        clear hv
        go_wp2
        go_roundw
        case rel => exact ⟨j + 1, N, by go_num, by go_num, by omega, HV, mkHid (ba HB.out _)⟩
        case measure => simp [intOf]; omega
      · have HV := mkHid hv
        clear hv
        go_wp2
        go_roundw
        case rel => exact ⟨j + 1, N, by go_num, by go_num, by omega, HV, mkHid (ba HB.out _)⟩
        case measure => simp [intOf]; omega
    · obtain rfl : j = xs.length := by omega
      have hN := HN.out
      rw [List.take_length] at hN
      have HN2 := mkHid hN
      clear hN
      go_wp2
      go_ret
      exact ⟨by rw [HN2.out]; rfl, HB.out⟩
set_option maxHeartbeats 1600000 in
theorem blk_is (w : World) (a0 : Option Addr) (cap : Nat) (xs : List Tk) (i : Nat) (h : Tks w (.slice a0 xs.length cap) xs) (hx : ∀ x ∈ xs, okT x) (hi : i < xs.length) (hc : xs.length ≤ cap) (hn : xs.length ≤ 8) :
    Calls Tryz.prog 215 #[.slice a0 xs.length cap, .int .i64 (i : Int)] w fun e w' => e = .returned (.int .i64 (blk (xs.drop (i + 1)))) ∧ Below w.heap.size w w' := by
  obtain ⟨b, off, c, p, d, s, rfl, hxj, c0, c1, c2, c3⟩ := h.at (Below.refl _ _) i hi
  have HS := mkHid h
  have HX := mkHid hx
  clear h hx hxj c0 c1 c2 c3 c p d s
  have hii : (i : Int) + 1 ≤ xs.length := by omega
  have hnn : i + 1 ≤ xs.length := by omega
  have hcc : i + 1 ≤ cap := by omega
  have hci : (i : Int) + 1 ≤ cap := by omega
  have hx8 : (xs.length : Int) ≤ 8 := by omega
  obtain ⟨m, hm⟩ : ∃ m, xs.length - (i + 1) = m := ⟨_, rfl⟩
  have hm8 : (m : Int) ≤ 8 := by omega
  have HD : Hid (∀ k, k < m → xs[i + 1 + k]? = (xs.drop (i + 1))[k]?) := mkHid (fun k _ => by rw [List.getElem?_drop])
  have HL : Hid ((xs.drop (i + 1)).length = m) := mkHid (by rw [List.length_drop]; exact hm)
  have HY : Hid (∀ x ∈ xs.drop (i + 1), okT x) := mkHid (fun x hx => HX.out x (List.mem_of_mem_drop hx))
  by_cases hcap : i + 1 < cap
  · obtain ⟨b4, hb4⟩ : ∃ b4, off + (i + 1) * 4 = b4 := ⟨_, rfl⟩
    go_enter Tryz.func215, Tryz.ntmps215
    go_wp2
    have HI := mkHid (And.intro hm hb4)
    clear hm hb4
    go_loopw [5, 13] (fun nv iv wr => ∃ (j : Nat) (N : Int), nv = .int .i64 N ∧ iv = .int .i64 (j : Int) ∧ j ≤ m ∧ Hid (blk ((xs.drop (i + 1)).take j) = N) ∧ Hid (Below w.heap.size w wr)) (fun _ iv _ => m - (intOf iv).toNat)
    case atStart => exact ⟨0, 0, rfl, rfl, Nat.zero_le _, mkHid rfl, mkHid (Below.refl _ _)⟩
    case round =>
      obtain ⟨j, N, rfl, rfl, hj, HN, HB⟩ := hrel
      by_cases hlt : j < m
      · obtain ⟨b', off', c, p, d, s, he, hxj, c0, c1, c2, c3⟩ := HS.out.at HB.out (i + 1 + j) (by have := HI.out.1; omega)
        cases he
        have e4 : off + (i + 1 + j) * 4 = b4 + j * 4 := by have := HI.out.2; omega
        rw [e4] at c0 c1 c2 c3
        rw [HD.out j hlt] at hxj
        have hji : (j : Int) < m := by omega
        obtain ⟨o1, o2, o3, o4, o5, o6⟩ := HY.out _ (List.mem_of_getElem? hxj)
        simp only at o1 o2 o3 o4 o5 o6
        have HM := mkHid (blk_take hxj)
        have hN := blk_bounds ((xs.drop (i + 1)).take j) (fun x hm => HY.out x (List.mem_of_mem_take hm))
        rw [HN.out] at hN HM
        simp only at HM
        obtain ⟨n0, n1⟩ := hN
        have es : IntKind.i64.wrap (s - 1) = s - 1 := wfit (by omega) (by omega)
        clear hxj e4
        have hc : (N < s - 1 ∧ blk ((xs.drop (i + 1)).take (j + 1)) = s - 1) ∨ (¬ N < s - 1 ∧ blk ((xs.drop (i + 1)).take (j + 1)) = N) := by
          have e := HM.out
          omega
        clear HM
        rcases hc with ⟨y, hv⟩ | ⟨y, hv⟩
        · have HV := mkHid hv
          clear hv
          go_wp2
          go_roundw
          case rel => exact ⟨j + 1, s - 1, by go_num, by go_num, by omega, HV, mkHid (ba HB.out _)⟩
          case measure => simp [intOf]; omega
        · have HV := mkHid hv
          clear hv
          go_wp2
          go_roundw
          case rel => exact ⟨j + 1, N, by go_num, by go_num, by omega, HV, mkHid (ba HB.out _)⟩
          case measure => simp [intOf]; omega
      · obtain rfl : j = m := by omega
        have hN := HN.out
        rw [List.take_of_length_le (by rw [HL.out]; exact Nat.le_refl _)] at hN
        have HN2 := mkHid hN
        clear hN
        go_wp2
        go_ret
        exact ⟨by rw [HN2.out]; rfl, HB.out⟩
  · obtain rfl : m = 0 := by omega
    have hd : xs.drop (i + 1) = [] := List.eq_nil_of_length_eq_zero HL.out
    rw [hd]
    clear hd HL HD HY
    go_enter Tryz.func215, Tryz.ntmps215
    go_wp2
    go_loopw [5, 13] (fun nv iv wr => nv = .int .i64 0 ∧ iv = .int .i64 0 ∧ wr = w) (fun _ iv _ => (intOf iv).toNat)
    case atStart => exact ⟨rfl, rfl, rfl⟩
    case round =>
      obtain ⟨rfl, rfl, rfl⟩ := hrel
      go_wp2
      go_ret
      exact ⟨rfl, Below.refl _ _⟩
/-- checkTasks. -/
def tcd (xs : List Tk) (l : Int) : Int := if xs.all bT = true ∧ xs.length ≤ 8 then lcd l else 11
theorem all_okT {xs : List Tk} (h : xs.all bT = true) : ∀ x ∈ xs, okT x := by
  intro x hx
  have h2 := List.all_eq_true.1 h x hx
  unfold bT at h2
  have h3 := of_decide_eq_true h2
  exact h3
theorem tcd_cases (xs : List Tk) (l : Int) : (tcd xs l = 11 ∧ ¬ okTs xs) ∨ (tcd xs l = 1 ∧ okTs xs ∧ (l < 0 ∨ (0 ≤ l ∧ 1099511627776 < l))) ∨ (tcd xs l = 0 ∧ okTs xs ∧ 0 ≤ l ∧ l ≤ 1099511627776) := by
  unfold tcd
  by_cases h : xs.all bT = true ∧ xs.length ≤ 8
  · rw [if_pos h]
    rcases lcd_cases l with ⟨e, hl⟩ | ⟨e, hl⟩
    · exact .inr (.inl ⟨e, ⟨h.2, all_okT h.1⟩, hl⟩)
    · exact .inr (.inr ⟨e, ⟨h.2, all_okT h.1⟩, hl⟩)
  · rw [if_neg h]
    exact .inl ⟨rfl, fun ho => h ⟨List.all_eq_true.2 fun x hx => bT_true (ho.2 x hx), ho.1⟩⟩
theorem tchk_no (w : World) (v : Value) (xs : List Tk) (l : Int) (a : Addr) (h : Tks w v xs) (hx : ¬ okTs xs) (he : w.cell? ⟨10, 0, none⟩ = some (vE a)) :
    Calls Tryz.prog 200 #[v, .int .i64 l] w fun e w' => e = .returned (vE a) ∧ Below w.heap.size w w' := by
  obtain ⟨a0, cap, rfl, hl, h9⟩ := id h
  have hp : 0 < xs.length := by
    refine Nat.pos_of_ne_zero fun e => hx ?_
    rw [List.eq_nil_of_length_eq_zero e]
    exact ⟨by simp, fun x hx => by simp at hx⟩
  have hpi : (0 : Int) < xs.length := by omega
  have H1 := mkHid (guest_no w _ 1 xs a h (fun hg => hx hg.2.2) he)
  clear h h9 hx he
  go_enter Tryz.func200, Tryz.ntmps200
  go_wp2_with (go_at_call 103; refine H1.out.mono ?_; rintro e w1 ⟨rfl, b1⟩)
  go_ret
  exact ⟨rfl, b1⟩
theorem tchk_any (w : World) (v : Value) (xs : List Tk) (l : Int) (h : Tks w v xs) (hx : okTs xs) (R : Value) (hR : ∀ W, Below w.heap.size w W → Calls Tryz.prog 195 #[.int .i64 l] W fun e w' => e = .returned R ∧ Below W.heap.size W w') :
    Calls Tryz.prog 200 #[v, .int .i64 l] w fun e w' => e = .returned R ∧ Below w.heap.size w w' := by
  obtain ⟨a0, cap, rfl, hl, h9⟩ := id h
  have HR := mkHid hR
  clear hR
  by_cases hp : 0 < xs.length
  · have hpi : (0 : Int) < xs.length := by omega
    have H1 := mkHid (guest_ok w _ 1 xs h ⟨.inl rfl, hp, hx⟩)
    clear h h9 hx
    go_enter Tryz.func200, Tryz.ntmps200
    go_wp2_with (first
      | (go_at_call 103; refine H1.out.mono ?_; rintro e w1 ⟨rfl, b1⟩; have HB1 := mkHid b1; clear b1)
      | (go_at_call 195; refine (HR.out _ HB1.out).mono ?_; rintro e w2 ⟨rfl, b2⟩; have HB2 := mkHid (bt HB1.out b2); clear b2))
    go_ret
    exact ⟨rfl, HB2.out⟩
  · have hpi : ¬ (0 : Int) < xs.length := by omega
    clear h h9 hx
    go_enter Tryz.func200, Tryz.ntmps200
    go_wp2_with (go_at_call 195; refine (HR.out _ (Below.refl _ _)).mono ?_; rintro e w2 ⟨rfl, b2⟩)
    go_ret
    exact ⟨rfl, b2⟩
/-- What checkTasks answers, whatever comes in. -/
theorem tchk (w : World) (v : Value) (xs : List Tk) (l : Int) (a : Nat → Addr) (h : Tks w v xs) (E : Er4 w a) :
    Calls Tryz.prog 200 #[v, .int .i64 l] w fun e w' => e = .returned (ev a (tcd xs l)) ∧ Below w.heap.size w w' := by
  rcases tcd_cases xs l with ⟨e, hx⟩ | ⟨e, hx, hl⟩ | ⟨e, hx, l0, l1⟩
  · rw [e, ev11]; exact tchk_no w v xs l _ h hx E.cell_task
  · rw [e, ev1]; exact tchk_any w v xs l h hx _ (fun W hb => len_no W l hl _ (E.late hb).er3.cell_number)
  · rw [e, ev0]; exact tchk_any w v xs l h hx _ (fun W hb => len_ok W l l0 l1)
end Go.Proofs.YtpdehdomilnmeaaGreatDoor

/- Package demand: Task, Tasks, Until; and the document's. -/
namespace Go.Proofs.YtpdehdomilnmeaaGreatDoor
open Go.ChangeShapes Go.WideShapes Go.ChangeAt Go.RowKit
set_option maxRecDepth 100000
attribute [local go_sem] World.cell?_alloc_some frozen_alloc_some

abbrev oT (s : Tk) : Obj := .cells #[.int .i64 s.1, .int .i64 s.2.1, .int .i64 s.2.2.1, .int .i64 s.2.2.2] 45
theorem tks_one (w : World) (s : Tk) : Tks (w.alloc (oT s)) (.slice (some ⟨w.heap.size, 0, none⟩) 1 1) [s] := by
  refine ⟨_, 1, rfl, by simp, fun _ => ⟨_, _, rfl, fun i x hi => ?_⟩⟩
  have hl : i < 1 := by have := (List.getElem?_eq_some_iff.mp hi).1; simpa using this
  obtain rfl : i = 0 := by omega
  simp at hi
  subst hi
  refine ⟨?_, ?_, ?_, ?_⟩ <;> simp [go_sem]
theorem T4.new (w : World) (s : Tk) : TkAt (w.alloc (oT s)) w.heap.size 0 s := by
  refine ⟨?_, ?_, ?_, ?_⟩ <;> simp [go_sem]
theorem Tks.take {w : World} {a : Option Addr} {n cap : Nat} {xs : List Tk} (h : Tks w (.slice a n cap) xs) (k : Nat) (hk : k ≤ xs.length) : Tks w (.slice a k cap) (xs.take k) := by
  obtain ⟨a', cap', e, hl, hr⟩ := h
  simp at e
  obtain ⟨rfl, rfl, rfl⟩ := e
  have e : (xs.take k).length = k := by rw [List.length_take]; omega
  refine ⟨a, cap, by rw [e], by rw [e]; omega, fun hp => ?_⟩
  rw [e] at hp
  obtain ⟨b, off, rfl, hc⟩ := hr (by omega)
  refine ⟨b, off, rfl, fun i x hi => hc i x ?_⟩
  rw [List.getElem?_take] at hi
  split at hi
  · exact hi
  · simp at hi
def tsk (xs : List Tk) (l : Int) : Int := if tot (tdem · l) xs = 0 then 0 else tot (tdem · l) xs + bdl l xs
def unt (xs : List Tk) (i : Nat) (l : Int) : Int := tot (treq · l) (xs.take (i + 1)) + blk (xs.drop (i + 1))
def ucd (xs : List Tk) (i l : Int) : Int := if tcd xs l = 0 then (if 0 ≤ i ∧ i < xs.length then 0 else 1) else tcd xs l
theorem ok_tot {xs : List Tk} (hx : okTs xs) {l : Int} (l0 : 0 ≤ l) (l1 : l ≤ 1099511627776) : 0 ≤ tot (tdem · l) xs ∧ tot (tdem · l) xs ≤ 8796093026304 := by
  have := tot_fit (tdem · l) 1099511628288 (by omega) xs (fun x hm => by have := tdem_bounds (hx.2 x hm) l0; omega) hx.1
  omega
theorem ok_utot {xs : List Tk} (hx : okTs xs) {l : Int} (l0 : 0 ≤ l) (l1 : l ≤ 1099511627776) (k : Nat) : 0 ≤ tot (treq · l) (xs.take k) ∧ tot (treq · l) (xs.take k) ≤ 8796093026304 := by
  have := tot_fit (treq · l) 1099511628288 (by omega) (xs.take k) (fun x hm => by have := treq_bounds (hx.2 x (List.mem_of_mem_take hm)) l0; omega) (by rw [List.length_take]; have := hx.1; omega)
  omega
theorem tasks_err (w : World) (v : Value) (l : Int) (a : Addr) (h : Calls Tryz.prog 200 #[v, .int .i64 l] w fun e w' => e = .returned (vE a) ∧ Below w.heap.size w w') :
    Calls Tryz.prog 187 #[v, .int .i64 l] w fun e w' => e = .returned (.tuple #[.int .i64 0, vE a]) ∧ Below w.heap.size w w' := by
  have H := mkHid h
  clear h
  go_enter Tryz.func187, Tryz.ntmps187
  go_wp2_with (go_at_call 200; refine H.out.mono ?_; rintro e w1 ⟨rfl, b1⟩)
  go_ret2
  exact ⟨rfl, b1⟩
theorem dtasks_ok (w : World) (v : Value) (xs : List Tk) (l : Int) (h : Tks w v xs) (hx : okTs xs) (l0 : 0 ≤ l) (l1 : l ≤ 1099511627776) :
    Calls Tryz.prog 187 #[v, .int .i64 l] w fun e w' => e = .returned (.tuple #[.int .i64 (tsk xs l), .nilIface]) ∧ Below w.heap.size w w' := by
  have H1 := mkHid (tchk_any w v xs l h hx .nilIface (fun W _ => len_ok W l l0 l1))
  have H2 : Hid (∀ W, Below w.heap.size w W → Calls Tryz.prog 201 #[v, .int .i64 l, .func (.func 202) #[] #[]] W fun e w' => e = .returned (.int .i64 (tot (tdem · l) xs)) ∧ Below W.heap.size W w') := mkHid (fun W hb => tot_tdem W v xs l (h.below hb) hx.2 hx.1 l0 l1)
  have H3 : Hid (∀ W, Below w.heap.size w W → Calls Tryz.prog 203 #[v, .int .i64 l] W fun e w' => e = .returned (.int .i64 (bdl l xs)) ∧ Below W.heap.size W w') := mkHid (fun W hb => bdl_is W v xs l (h.below hb) hx.2)
  obtain ⟨n0, n1⟩ := ok_tot hx l0 l1
  obtain ⟨m0, m1⟩ := bdl_bounds l xs hx.2
  clear h hx
  unfold tsk
  generalize tot (tdem · l) xs = N at *
  generalize bdl l xs = B at *
  have ew : IntKind.i64.wrap (N + B) = N + B := wfit (by omega) (by omega)
  by_cases hN : N = 0
  · subst hN
    rw [if_pos rfl]
    go_enter Tryz.func187, Tryz.ntmps187
    go_wp2_with (first
      | (go_at_call 200; refine H1.out.mono ?_; rintro e w1 ⟨rfl, b1⟩; have HB1 := mkHid b1; clear b1)
      | (go_at_call 201; refine (H2.out _ HB1.out).mono ?_; rintro e w2 ⟨rfl, b2⟩; have HB2 := mkHid (bt HB1.out b2); clear b2))
    go_ret2
    exact ⟨rfl, HB2.out⟩
  · rw [if_neg hN]
    go_enter Tryz.func187, Tryz.ntmps187
    go_wp2_with (first
      | (go_at_call 200; refine H1.out.mono ?_; rintro e w1 ⟨rfl, b1⟩; have HB1 := mkHid b1; clear b1)
      | (go_at_call 201; refine (H2.out _ HB1.out).mono ?_; rintro e w2 ⟨rfl, b2⟩; have HB2 := mkHid (bt HB1.out b2); clear b2)
      | (go_at_call 203; refine (H3.out _ HB2.out).mono ?_; rintro e w3 ⟨rfl, b3⟩; have HB3 := mkHid (bt HB2.out b3); clear b3))
    go_ret2
    exact ⟨rfl, HB3.out⟩
theorem dtasks (w : World) (v : Value) (xs : List Tk) (l : Int) (a : Nat → Addr) (h : Tks w v xs) (E : Er4 w a) :
    Calls Tryz.prog 187 #[v, .int .i64 l] w fun e w' => e = .returned (.tuple #[.int .i64 (if tcd xs l = 0 then tsk xs l else 0), ev a (tcd xs l)]) ∧ Below w.heap.size w w' := by
  rcases tcd_cases xs l with ⟨e, hx⟩ | ⟨e, hx, hl⟩ | ⟨e, hx, l0, l1⟩
  · rw [e, if_neg (by decide), ev11]; exact tasks_err w v l _ (tchk_no w v xs l _ h hx E.cell_task)
  · rw [e, if_neg (by decide), ev1]; exact tasks_err w v l _ (tchk_any w v xs l h hx _ (fun W hb => len_no W l hl _ (E.late hb).er3.cell_number))
  · rw [e, if_pos rfl, ev0]; exact dtasks_ok w v xs l h hx l0 l1
theorem until_err (w : World) (v : Value) (i l : Int) (a : Addr) (h : Calls Tryz.prog 200 #[v, .int .i64 l] w fun e w' => e = .returned (vE a) ∧ Below w.heap.size w w') :
    Calls Tryz.prog 199 #[v, .int .i64 i, .int .i64 l] w fun e w' => e = .returned (.tuple #[.int .i64 0, vE a]) ∧ Below w.heap.size w w' := by
  have H := mkHid h
  clear h
  go_enter Tryz.func199, Tryz.ntmps199
  go_wp2_with (go_at_call 200; refine H.out.mono ?_; rintro e w1 ⟨rfl, b1⟩)
  go_ret2
  exact ⟨rfl, b1⟩
theorem until_num (w : World) (v : Value) (xs : List Tk) (i l : Int) (a : Addr) (h : Tks w v xs) (hx : okTs xs) (l0 : 0 ≤ l) (l1 : l ≤ 1099511627776) (hi : ¬ (0 ≤ i ∧ i < xs.length)) (he : w.cell? ⟨0, 0, none⟩ = some (vE a)) :
    Calls Tryz.prog 199 #[v, .int .i64 i, .int .i64 l] w fun e w' => e = .returned (.tuple #[.int .i64 0, vE a]) ∧ Below w.heap.size w w' := by
  have H1 := mkHid (tchk_any w v xs l h hx .nilIface (fun W _ => len_ok W l l0 l1))
  obtain ⟨a0, cap, rfl, hl, h9⟩ := id h
  have HE := mkHid he
  clear h h9 hx he
  have hc : i < 0 ∨ (¬ i < 0 ∧ (xs.length : Int) ≤ i) := by omega
  clear hi
  rcases hc with hi | ⟨hi, hi2⟩
  all_goals
    go_enter Tryz.func199, Tryz.ntmps199
    go_wp2_with (go_at_call 200; refine H1.out.mono ?_; rintro e w1 ⟨rfl, b1⟩; have he1 := kc HE.out b1; have HB1 := mkHid b1; clear b1)
    go_quiet (fail)
    go_wp2
    go_ret2
    exact ⟨rfl, bdN HB1.out _⟩
theorem until_ok (w : World) (a0 : Option Addr) (cap : Nat) (xs : List Tk) (i : Nat) (l : Int) (h : Tks w (.slice a0 xs.length cap) xs) (hx : okTs xs) (l0 : 0 ≤ l) (l1 : l ≤ 1099511627776) (hi : i < xs.length) (hc : xs.length ≤ cap) :
    Calls Tryz.prog 199 #[.slice a0 xs.length cap, .int .i64 (i : Int), .int .i64 l] w fun e w' => e = .returned (.tuple #[.int .i64 (unt xs i l), .nilIface]) ∧ Below w.heap.size w w' := by
  have H1 := mkHid (tchk_any w _ xs l h hx .nilIface (fun W _ => len_ok W l l0 l1))
  have H2 : Hid (∀ W, Below w.heap.size w W → Calls Tryz.prog 201 #[.slice a0 (i + 1) cap, .int .i64 l, .func (.func 214) #[] #[]] W fun e w' => e = .returned (.int .i64 (tot (treq · l) (xs.take (i + 1)))) ∧ Below W.heap.size W w') := mkHid (fun W hb => tot_treq W _ (xs.take (i + 1)) l ((h.below hb).take (i + 1) (by omega)) (fun x hm => hx.2 x (List.mem_of_mem_take hm)) (by rw [List.length_take]; have := hx.1; omega) l0 l1)
  have H3 : Hid (∀ W, Below w.heap.size w W → Calls Tryz.prog 215 #[.slice a0 xs.length cap, .int .i64 (i : Int)] W fun e w' => e = .returned (.int .i64 (blk (xs.drop (i + 1)))) ∧ Below W.heap.size W w') := mkHid (fun W hb => blk_is W a0 cap xs i (h.below hb) hx.2 hi hc hx.1)
  obtain ⟨n0, n1⟩ := ok_utot hx l0 l1 (i + 1)
  obtain ⟨m0, m1⟩ := blk_bounds (xs.drop (i + 1)) (fun x hm => hx.2 x (List.mem_of_mem_drop hm))
  obtain ⟨b, off, c, p, d, s, rfl, _⟩ := h.at (Below.refl _ _) i hi
  have h8 : (xs.length : Int) ≤ 8 := by have := hx.1; omega
  clear h hx
  unfold unt
  generalize tot (treq · l) (xs.take (i + 1)) = N at *
  generalize blk (xs.drop (i + 1)) = B at *
  have ew : IntKind.i64.wrap (N + B) = N + B := wfit (by omega) (by omega)
  have hii : (i : Int) < xs.length := by omega
  have hci : (i : Int) + 1 ≤ cap := by omega
  have hcn : i + 1 ≤ cap := by omega
  go_enter Tryz.func199, Tryz.ntmps199
  go_wp2_with (first
    | (go_at_call 200; refine H1.out.mono ?_; rintro e w1 ⟨rfl, b1⟩; have HB1 := mkHid b1; clear b1)
    | (go_at_call 201; refine (H2.out _ HB1.out).mono ?_; rintro e w2 ⟨rfl, b2⟩; have HB2 := mkHid (bt HB1.out b2); clear b2)
    | (go_at_call 215; refine (H3.out _ HB2.out).mono ?_; rintro e w3 ⟨rfl, b3⟩; have HB3 := mkHid (bt HB2.out b3); clear b3))
  go_ret2
  exact ⟨rfl, HB3.out⟩
theorem duntil (w : World) (a0 : Option Addr) (cap : Nat) (xs : List Tk) (i l : Int) (a : Nat → Addr) (h : Tks w (.slice a0 xs.length cap) xs) (E : Er4 w a) (hc : xs.length ≤ cap) :
    Calls Tryz.prog 199 #[.slice a0 xs.length cap, .int .i64 i, .int .i64 l] w fun e w' => e = .returned (.tuple #[.int .i64 (if ucd xs i l = 0 then unt xs i.toNat l else 0), ev a (ucd xs i l)]) ∧ Below w.heap.size w w' := by
  rcases tcd_cases xs l with ⟨e, hx⟩ | ⟨e, hx, hl⟩ | ⟨e, hx, l0, l1⟩
  · rw [show ucd xs i l = 11 by unfold ucd; rw [e]; exact if_neg (by decide), if_neg (by decide), ev11]; exact until_err w _ i l _ (tchk_no w _ xs l _ h hx E.cell_task)
  · rw [show ucd xs i l = 1 by unfold ucd; rw [e]; exact if_neg (by decide), if_neg (by decide), ev1]; exact until_err w _ i l _ (tchk_any w _ xs l h hx _ (fun W hb => len_no W l hl _ (E.late hb).er3.cell_number))
  · by_cases hi : 0 ≤ i ∧ i < xs.length
    · rw [show ucd xs i l = 0 by unfold ucd; rw [e, if_pos rfl, if_pos hi], if_pos rfl, ev0]
      obtain ⟨k, rfl⟩ := Int.eq_ofNat_of_zero_le hi.1
      exact until_ok w a0 cap xs k l h hx l0 l1 (by omega) hc
    · rw [show ucd xs i l = 1 by unfold ucd; rw [e, if_pos rfl, if_neg hi], if_neg (by decide), ev1]
      exact until_num w _ xs i l _ h hx l0 l1 hi E.er3.cell_number
set_option maxHeartbeats 1600000 in
theorem rtasks_is (w : World) (v : Value) (xs : List Tk) (l : Int) (h : Tks w v xs) (hx : okTs xs) (l0 : 0 ≤ l) (l1 : l ≤ 1099511627776) :
    Calls Tryz.prog 115 #[v, .int .i64 l] w fun e w' => e = .returned (.int .i64 (tsk xs l)) ∧ Below w.heap.size w w' := by
  obtain ⟨a0, cap, rfl, hl, h9⟩ := id h
  have HS := mkHid h
  have HX := mkHid hx
  clear h hx h9
  go_enter Tryz.func115, Tryz.ntmps115
  go_wp2
  go_loopw [5, 6, 11] (fun nv bv iv wr => ∃ (j : Nat) (N B : Int), nv = .int .i64 N ∧ bv = .int .i64 B ∧ iv = .int .i64 (j : Int) ∧ j ≤ xs.length ∧ 0 ≤ N ∧ N ≤ 8796093026304 ∧ 0 ≤ B ∧ B ≤ 256 ∧ Hid (tot (tdem · l) (xs.take j) = N) ∧ Hid (bdl l (xs.take j) = B) ∧ Hid (Below w.heap.size w wr)) (fun _ _ iv _ => xs.length - (intOf iv).toNat)
  case atStart => exact ⟨0, 0, 0, rfl, rfl, rfl, Nat.zero_le _, by omega, by omega, by omega, by omega, mkHid rfl, mkHid rfl, mkHid (Below.refl _ _)⟩
  case round =>
    obtain ⟨j, N, B, rfl, rfl, rfl, hj, n0, n1, m0, m1, HN, HM, HB⟩ := hrel
    by_cases hlt : j < xs.length
    · obtain ⟨b, off, c, p, d, s, rfl, hxj, c0, c1, c2, c3⟩ := HS.out.at HB.out j hlt
      have hji : (j : Int) < xs.length := by omega
      have HO := mkHid (HX.out.2 _ (List.mem_of_getElem? hxj))
      obtain ⟨o1, o2, o3, o4, o5, o6⟩ := id HO.out
      simp only at o1 o2 o3 o4 o5 o6
      have HT := mkHid (tot_take (tdem · l) hxj)
      have HU := mkHid (bdl_take (l := l) hxj)
      have HF := mkHid (tot_fit (tdem · l) 1099511628288 (by omega) (xs.take (j + 1)) (fun x hm => by have := tdem_bounds (HX.out.2 x (List.mem_of_mem_take hm)) l0; omega) (by rw [List.length_take]; have := HX.out.1; omega))
      obtain ⟨A, hA⟩ : ∃ A, tdem (c, p, d, s) l = A := ⟨_, rfl⟩
      have HA := mkHid hA
      have b1 := tdem_bounds HO.out l0
      rw [hA] at b1
      have hs : 0 ≤ N + A ∧ N + A ≤ 8796093026304 := by have e := HT.out; have e2 := HF.out; have e3 := HN.out; simp only [hA] at e; rw [e, e3] at e2; omega
      have ew : IntKind.i64.wrap (N + A) = N + A := wfit (by omega) (by omega)
      have es : IntKind.i64.wrap (s - 1) = s - 1 := wfit (by omega) (by omega)
      rw [HM.out] at HU
      simp only at HU
      have hc : (l < d ∧ B < s - 1 ∧ bdl l (xs.take (j + 1)) = s - 1) ∨ (l < d ∧ ¬ B < s - 1 ∧ bdl l (xs.take (j + 1)) = B) ∨ (¬ l < d ∧ bdl l (xs.take (j + 1)) = B) := by
        by_cases x : l < d
        · have e := HU.out
          rw [if_pos x] at e
          omega
        · exact .inr (.inr ⟨x, HU.out.trans (if_neg x)⟩)
      clear hxj hA HU HF
      have HK : Hid (tot (tdem · l) (xs.take (j + 1)) = N + A) := mkHid (by rw [HT.out, HN.out, HA.out])
      clear HT
      have HQ : Hid (∀ k w', Below (wr.alloc (oT (c, p, d, s))).heap.size (wr.alloc (oT (c, p, d, s))) w' → k = wr.heap.size → TkAt w' k 0 (c, p, d, s)) := mkHid (fun k w' hb e => by subst e; exact (T4.new wr (c, p, d, s)).below hb)
      rcases hc with ⟨x, y, hv⟩ | ⟨x, y, hv⟩ | ⟨x, hv⟩
      · have HV := mkHid hv
        clear hv
        go_wp2_with (go_at_call 143; refine (rtdem_is _ (c, p, d, s) l HO.out l0 l1).mono ?_; rw [HA.out]; rintro e w1 ⟨rfl, b2⟩; obtain ⟨_, _, d2, d3⟩ := HQ.out _ _ b2 rfl; have HB2 := mkHid (bt (ba HB.out _) b2); clear b2)
        go_roundw
        case rel => exact ⟨j + 1, N + A, s - 1, by go_num, by go_num, by go_num, by omega, hs.1, hs.2, by omega, by omega, HK, HV, HB2⟩
        case measure => simp [intOf]; omega
      · have HV := mkHid hv
        clear hv
        go_wp2_with (go_at_call 143; refine (rtdem_is _ (c, p, d, s) l HO.out l0 l1).mono ?_; rw [HA.out]; rintro e w1 ⟨rfl, b2⟩; obtain ⟨_, _, d2, d3⟩ := HQ.out _ _ b2 rfl; have HB2 := mkHid (bt (ba HB.out _) b2); clear b2)
        go_roundw
        case rel => exact ⟨j + 1, N + A, B, by go_num, by go_num, by go_num, by omega, hs.1, hs.2, by omega, by omega, HK, HV, HB2⟩
        case measure => simp [intOf]; omega
      · have HV := mkHid hv
        clear hv
        go_wp2_with (go_at_call 143; refine (rtdem_is _ (c, p, d, s) l HO.out l0 l1).mono ?_; rw [HA.out]; rintro e w1 ⟨rfl, b2⟩; obtain ⟨_, _, d2, d3⟩ := HQ.out _ _ b2 rfl; have HB2 := mkHid (bt (ba HB.out _) b2); clear b2)
        go_roundw
        case rel => exact ⟨j + 1, N + A, B, by go_num, by go_num, by go_num, by omega, hs.1, hs.2, by omega, by omega, HK, HV, HB2⟩
        case measure => simp [intOf]; omega
    · obtain rfl : j = xs.length := by omega
      have hN := HN.out
      have hM := HM.out
      rw [List.take_length] at hN hM
      have ht : Hid (tsk xs l = if N = 0 then 0 else N + B) := mkHid (by unfold tsk; rw [hN, hM])
      clear hN hM HN HM
      have ew : IntKind.i64.wrap (N + B) = N + B := wfit (by omega) (by omega)
      by_cases hz : N = 0
      · subst hz
        have ht2 := mkHid (ht.out.trans (if_pos rfl))
        clear ht
        go_wp2
        go_ret
        exact ⟨by rw [ht2.out]; rfl, HB.out⟩
      · have ht2 := mkHid (ht.out.trans (if_neg hz))
        clear ht
        have hp : 0 < N := by omega
        go_wp2
        go_ret
        exact ⟨by rw [ht2.out]; rfl, HB.out⟩
end Go.Proofs.YtpdehdomilnmeaaGreatDoor

/- The document's Until. -/
namespace Go.Proofs.YtpdehdomilnmeaaGreatDoor
open Go.ChangeShapes Go.WideShapes Go.ChangeAt Go.RowKit
set_option maxRecDepth 100000
attribute [local go_sem] World.cell?_alloc_some frozen_alloc_some

theorem treq_nums {c p d s l : Int} (h : okT (c, p, d, s)) (l0 : 0 ≤ l) (l1 : l ≤ 1099511627776) : ∃ A M, l / p = A ∧ IntKind.i64.wrap (A * p) = M ∧ 0 ≤ A ∧ A ≤ 1099511627776 ∧ ((M < l ∧ IntKind.i64.wrap ((A + 1) * c) = treq (c, p, d, s) l) ∨ (¬ M < l ∧ IntKind.i64.wrap (A * c) = treq (c, p, d, s) l)) := by
  obtain ⟨h1, h2, h3, h4, h5, h6⟩ := h
  simp only at h1 h2 h3 h4 h5 h6
  obtain ⟨A, R, a0, r0, r1, hm⟩ := parts0 (T := p) l (by omega) l0
  have a1 : A ≤ l := by have : A * 1 ≤ A * p := Int.mul_le_mul_of_nonneg_left (by omega) a0; omega
  have e1 := bgn_at r0 r1 hm
  obtain ⟨M, hM⟩ : ∃ M, M = A * p := ⟨_, rfl⟩
  have m0 : 0 ≤ M := by rw [hM]; exact Int.mul_nonneg a0 (by omega)
  rw [← hM] at hm
  refine ⟨A, M, (dm r0 r1 (by rw [← hM]; exact hm)).1, by rw [← hM]; exact wfit (by omega) (by omega), a0, by omega, ?_⟩
  have ht : treq (c, p, d, s) l = c * bgn l p := rfl
  rw [ht, e1]
  by_cases hr : R = 0
  · right
    rw [if_pos hr, Int.add_zero, Int.mul_comm c A]
    obtain ⟨p0, p1⟩ := prod_fit (q := c) h1 (by omega) a0 a1 (by omega)
    rw [Int.mul_comm] at p0 p1
    exact ⟨by omega, wfit (by omega) (by omega)⟩
  · left
    rw [if_neg hr, Int.mul_comm c (A + 1)]
    obtain ⟨p0, p1⟩ := prod_fit (q := c) (A := A + 1) (l := l + 1) h1 (by omega) (by omega) (by omega) (by omega)
    rw [Int.mul_comm] at p0 p1
    exact ⟨by omega, wfit (by omega) (by omega)⟩
set_option maxHeartbeats 3200000 in
theorem runtil_is (w : World) (v : Value) (xs : List Tk) (i : Nat) (l : Int) (h : Tks w v xs) (hx : okTs xs) (l0 : 0 ≤ l) (l1 : l ≤ 1099511627776) (hi : i < xs.length) :
    Calls Tryz.prog 135 #[v, .int .i64 (i : Int), .int .i64 l] w fun e w' => e = .returned (.int .i64 (unt xs i l)) ∧ Below w.heap.size w w' := by
  obtain ⟨a0, cap, rfl, hl, h9⟩ := id h
  have HS := mkHid h
  have HX := mkHid hx
  have hx8 : xs.length ≤ 8 := hx.1
  clear h hx h9
  go_enter Tryz.func135, Tryz.ntmps135
  go_wp2
  go_loopw [7, 8, 14] (fun nv bv iv wr => ∃ (j : Nat) (N B : Int), nv = .int .i64 N ∧ bv = .int .i64 B ∧ iv = .int .i64 (j : Int) ∧ j ≤ xs.length ∧ 0 ≤ N ∧ N ≤ 8796093026304 ∧ 0 ≤ B ∧ B ≤ 256 ∧ Hid (tot (treq · l) (xs.take (min j (i + 1))) = N) ∧ Hid (blk ((xs.drop (i + 1)).take (j - (i + 1))) = B) ∧ Hid (Below w.heap.size w wr)) (fun _ _ iv _ => xs.length - (intOf iv).toNat)
  case atStart => exact ⟨0, 0, 0, rfl, rfl, rfl, Nat.zero_le _, by omega, by omega, by omega, by omega, mkHid (by rw [Nat.zero_min]; rfl), mkHid (by rw [Nat.zero_sub]; rfl), mkHid (Below.refl _ _)⟩
  case round =>
    obtain ⟨j, N, B, rfl, rfl, rfl, hj, n0, n1, m0, m1, HN, HM, HB⟩ := hrel
    by_cases hlt : j < xs.length
    · obtain ⟨b, off, c, p, d, s, rfl, hxj, c0, c1, c2, c3⟩ := HS.out.at HB.out j hlt
      have hji : (j : Int) < xs.length := by omega
      have HO := mkHid (HX.out.2 _ (List.mem_of_getElem? hxj))
      obtain ⟨o1, o2, o3, o4, o5, o6⟩ := id HO.out
      simp only at o1 o2 o3 o4 o5 o6
      by_cases hij : i < j
      · have hiji : (i : Int) < j := by omega
        have hd : (xs.drop (i + 1))[j - (i + 1)]? = some (c, p, d, s) := by rw [List.getElem?_drop, show i + 1 + (j - (i + 1)) = j by omega]; exact hxj
        have HU := mkHid (blk_take hd)
        rw [HM.out, show j - (i + 1) + 1 = j + 1 - (i + 1) by omega] at HU
        simp only at HU
        have es : IntKind.i64.wrap (s - 1) = s - 1 := wfit (by omega) (by omega)
        have HK : Hid (tot (treq · l) (xs.take (min (j + 1) (i + 1))) = N) := mkHid (by rw [show min (j + 1) (i + 1) = min j (i + 1) by omega]; exact HN.out)
        have hc : (B < s - 1 ∧ blk ((xs.drop (i + 1)).take (j + 1 - (i + 1))) = s - 1) ∨ (¬ B < s - 1 ∧ blk ((xs.drop (i + 1)).take (j + 1 - (i + 1))) = B) := by
          have e := HU.out
          omega
        clear hd HU hxj
        rcases hc with ⟨y, hv⟩ | ⟨y, hv⟩
        · have HV := mkHid hv
          clear hv
          go_wp2
          go_roundw
          case rel => exact ⟨j + 1, N, s - 1, by go_num, by go_num, by go_num, by omega, n0, n1, by omega, by omega, HK, HV, mkHid (ba HB.out _)⟩
          case measure => simp [intOf]; omega
        · have HV := mkHid hv
          clear hv
          go_wp2
          go_roundw
          case rel => exact ⟨j + 1, N, B, by go_num, by go_num, by go_num, by omega, n0, n1, by omega, by omega, HK, HV, mkHid (ba HB.out _)⟩
          case measure => simp [intOf]; omega
      · have hiji : ¬ (i : Int) < j := by omega
        have HT := mkHid (tot_take (treq · l) hxj)
        have hf := ok_utot HX.out l0 l1 (j + 1)
        obtain ⟨A, M, f1, f2, f3, f4, f5⟩ := treq_nums HO.out l0 l1
        obtain ⟨T, hT⟩ : ∃ T, treq (c, p, d, s) l = T := ⟨_, rfl⟩
        have hN := HN.out
        rw [show min j (i + 1) = j by omega] at hN
        have HK : Hid (tot (treq · l) (xs.take (min (j + 1) (i + 1))) = N + T) := mkHid (by rw [show min (j + 1) (i + 1) = j + 1 by omega, HT.out, hN, hT])
        have hs : 0 ≤ N + T ∧ N + T ≤ 8796093026304 := by have e := HK.out; rw [show min (j + 1) (i + 1) = j + 1 by omega] at e; rw [e] at hf; exact hf
        have ew : IntKind.i64.wrap (N + T) = N + T := wfit (by omega) (by omega)
        have HV : Hid (blk ((xs.drop (i + 1)).take (j + 1 - (i + 1))) = B) := mkHid (by rw [show j + 1 - (i + 1) = 0 by omega]; have := HM.out; rw [show j - (i + 1) = 0 by omega] at this; exact this)
        have HF := mkHid f1
        have p1 : 1 ≤ p := by omega
        rw [hT] at f5
        clear hN HT hxj hf f1 hT
        have HQ : Hid (TkAt (wr.alloc (oT (c, p, d, s))) wr.heap.size 0 (c, p, d, s)) := mkHid (T4.new wr (c, p, d, s))
        rcases f5 with ⟨y, e5⟩ | ⟨y, e5⟩
        · go_wp2_with (go_at_call 161; refine (floor_is _ l p A l0 l1 p1 o4 HF).mono ?_; rintro e w1 ⟨rfl, hw⟩; rw [hw]; clear hw)
          go_roundw
          case rel => exact ⟨j + 1, N + T, B, by go_num, by go_num, by go_num, by omega, hs.1, hs.2, by omega, by omega, HK, HV, mkHid (ba HB.out _)⟩
          case measure => simp [intOf]; omega
        · go_wp2_with (go_at_call 161; refine (floor_is _ l p A l0 l1 p1 o4 HF).mono ?_; rintro e w1 ⟨rfl, hw⟩; rw [hw]; clear hw)
          go_roundw
          case rel => exact ⟨j + 1, N + T, B, by go_num, by go_num, by go_num, by omega, hs.1, hs.2, by omega, by omega, HK, HV, mkHid (ba HB.out _)⟩
          case measure => simp [intOf]; omega
    · obtain rfl : j = xs.length := by omega
      have hN := HN.out
      have hM := HM.out
      rw [show min xs.length (i + 1) = i + 1 by omega] at hN
      rw [List.take_of_length_le (by rw [List.length_drop]; exact Nat.le_refl _)] at hM
      have ht : Hid (unt xs i l = N + B) := mkHid (by unfold unt; rw [hN, hM])
      clear hN hM HN HM
      have ew : IntKind.i64.wrap (N + B) = N + B := wfit (by omega) (by omega)
      go_wp2
      go_ret
      exact ⟨by rw [ht.out]; rfl, HB.out⟩
end Go.Proofs.YtpdehdomilnmeaaGreatDoor

