/- What the document's numbers do: at, Less, Minus, Fits, Whole, Amount. -/
import Derived.Test.YtjhekemgcmhjoaaGreatDoorBig
namespace Go.Proofs.YtjhekemgcmhjoaaGreatDoor
open Go.ChangeShapes Go.WideShapes Go.ChangeAt Go.RowKit
set_option maxRecDepth 100000

theorem at_any (ds : List Int) (v : Value) (i : Nat) (w : World) (h : Num w v ds) (hi : i ≤ 9223372036854775807) (hl : ds.length ≤ 9223372036854775807) :
    Calls Tryz.prog 152 #[v, .int .i64 i] w fun e w' => e = .returned (.int .u32 (ds.getD i 0)) ∧ w' = w := by
  obtain ⟨hd, a, cap, rfl, hr⟩ := h
  by_cases hlt : i < ds.length
  · obtain ⟨b, off, rfl, hb, hc⟩ := hr (by omega)
    have hcell := hc i hlt
    clear hc hr
    generalize ds.getD i 0 = x at *
    go_enter Tryz.func152, Tryz.ntmps152
    go_wp2
    go_ret
    exact ⟨rfl, rfl⟩
  · have e : ds.getD i 0 = 0 := getD_past ds i (by omega)
    rw [e]
    clear hr
    go_enter Tryz.func152, Tryz.ntmps152
    go_wp2
    go_ret
    exact ⟨rfl, rfl⟩
theorem at_eq {ds : List Int} {v : Value} {i : Nat} {w : World} {x : Int} (h : Num w v ds) (hx : Hid (x = ds.getD i 0)) (hi : i ≤ 9223372036854775807) (hl : ds.length ≤ 9223372036854775807) :
    Calls Tryz.prog 152 #[v, .int .i64 i] w fun e w' => e = .returned (.int .u32 x) ∧ w' = w := by
  rw [hx.out]
  exact at_any ds v i w h hi hl
theorem at_lit {ds : List Int} {v : Value} {w : World} {x : Int} (n : Int) (i : Nat) (hn : n = i) (h : Num w v ds) (hx : Hid (x = ds.getD i 0)) (hi : i ≤ 9223372036854775807) (hl : ds.length ≤ 9223372036854775807) :
    Calls Tryz.prog 152 #[v, .int .i64 n] w fun e w' => e = .returned (.int .u32 x) ∧ w' = w := by
  subst hn
  exact at_eq h hx hi hl
theorem retb {p q : Bool} (h : p = q) : Ending.returned (.bool p) = .returned (.bool q) := by rw [h]
set_option maxHeartbeats 800000 in
theorem less_any (ps qs : List Int) (va vb : Value) (w : World) (ha : Num w va ps) (hb : Num w vb qs) (la : ps.length ≤ 30000000000000) (lb : qs.length ≤ 30000000000000) :
    Calls Tryz.prog 115 #[va, vb] w fun e w' => e = .returned (.bool (decide (val ps < val qs))) ∧ w' = w := by
  have da := ha.1
  have db := hb.1
  obtain ⟨_, a, ca, ea, _⟩ := id ha
  obtain ⟨_, b, cb, eb, _⟩ := id hb
  subst ea eb
  by_cases hm : ps.length < qs.length
  all_goals
    go_enter Tryz.func115, Tryz.ntmps115
    go_wp2
    go_loop [5] (fun iv => ∃ j : Nat, j ≤ max ps.length qs.length ∧ iv = .int .i64 ((j : Int) - 1) ∧ Hid (val ps - val qs = val (ps.take j) - val (qs.take j))) (fun iv => (intOf iv + 1).toNat)
    case atStart => exact ⟨max ps.length qs.length, Nat.le_refl _, by congr 1; omega, by show val ps - val qs = _ - _; rw [take_all ps _ (by omega), take_all qs _ (by omega)]⟩
    case round =>
      obtain ⟨j, hj, rfl, HD⟩ := hrel
      by_cases h0 : j = 0
      · subst h0
        have hz : decide (val ps < val qs) = false := by
          have := HD.out
          simp only [List.take_zero, val] at this
          exact decide_eq_false (by omega)
        go_wp2
        go_ret
        exact ⟨rfl, rfl⟩
      · obtain ⟨k, rfl⟩ : ∃ k, j = k + 1 := ⟨j - 1, by omega⟩
        have ek : ((k + 1 : Nat) : Int) - 1 = (k : Int) := by omega
        rw [ek]
        have n1 := da.at k
        have n2 := db.at k
        obtain ⟨x, hx⟩ : ∃ x, x = ps.getD k 0 := ⟨_, rfl⟩
        obtain ⟨y, hy⟩ : ∃ y, y = qs.getD k 0 := ⟨_, rfl⟩
        have HX : Hid (x = ps.getD k 0) := hx
        have HY : Hid (y = qs.getD k 0) := hy
        rw [← hx] at n1
        rw [← hy] at n2
        by_cases he : x = y
        · have HE : Hid (val ps - val qs = val (ps.take k) - val (qs.take k)) := less_step k (by rw [← hx, ← hy]; exact he) HD.out
          clear HD hx hy
          subst he
          go_wp2_with (go_at_call 152; first | (with_reducible refine (at_eq ha HX (by omega) (by omega)).mono ?_; rintro e wx ⟨rfl, hw⟩; rw [hw]; clear hw) | (with_reducible refine (at_eq hb HY (by omega) (by omega)).mono ?_; rintro e wx ⟨rfl, hw⟩; rw [hw]; clear hw))
          go_round
          case rel => exact ⟨k, by omega, rfl, HE⟩
          case measure => simp [intOf]
        · have HZ : Hid (decide (x < y) = decide (val ps < val qs)) := by
            show decide (x < y) = decide (val ps < val qs)
            rw [hx, hy] at he ⊢
            by_cases hl : ps.getD k 0 < qs.getD k 0
            · rw [decide_eq_true hl, decide_eq_true (less_at da db k hl HD.out)]
            · have := less_at db da k (by omega) (by have := HD.out; omega)
              rw [decide_eq_false hl, decide_eq_false (by omega)]
          clear HD hx hy
          go_wp2_with (go_at_call 152; first | (with_reducible refine (at_eq ha HX (by omega) (by omega)).mono ?_; rintro e wx ⟨rfl, hw⟩; rw [hw]; clear hw) | (with_reducible refine (at_eq hb HY (by omega) (by omega)).mono ?_; rintro e wx ⟨rfl, hw⟩; rw [hw]; clear hw))
          go_ret
          exact ⟨retb HZ.out, rfl⟩
theorem minus_rel {ps qs xs : List Int} {i : Nat} {r x : Int} {w wr w1 : World} {o : Obj} {ov v' : Value} (hx : x = ps.getD i 0 + 65536 - qs.getD i 0 - r) (dp : Digs ps) (dq : Digs qs) (hr0 : 0 ≤ r) (hr1 : r ≤ 1) (hlen : xs.length = i) (hdx : Digs xs)
    (hown : wr.ownsRow w.heap.size 203 1 ov i (xs.map (Value.int .u32))) (HV : Hid (val xs - r * pw i = val (ps.take i) - val (qs.take i))) (hbel : Below w.heap.size w wr)
    (hown' : w1.ownsRow w.heap.size 203 1 v' (i + 1) (xs.map (Value.int .u32) ++ [.int .u32 (x % 65536)])) (hgrow : (wr.alloc o).grownBy w1 ov.ownBlock) :
    (0 ≤ 1 - x / 65536 ∧ 1 - x / 65536 ≤ 1) ∧ (xs ++ [x % 65536]).length = i + 1 ∧ Digs (xs ++ [x % 65536]) ∧ w1.ownsRow w.heap.size 203 1 v' (i + 1) ((xs ++ [x % 65536]).map (Value.int .u32)) ∧
      Hid (val (xs ++ [x % 65536]) - (1 - x / 65536) * pw (i + 1) = val (ps.take (i + 1)) - val (qs.take (i + 1))) ∧ Below w.heap.size w w1 := by
  have h1 := dp.at i
  have h2 := dq.at i
  have hsz := hbel.size
  refine ⟨by omega, by simp [hlen], hdx.snoc (by omega) (by omega), by simpa using hown', ?_, ?_⟩
  · exact minus_round xs ps qs i r x hlen hx HV.out
  · exact (hbel.alloc hsz _).grown hgrow (by simp; omega) (fun k hk => (hown.lt k hk).1)
theorem fits_head (ds : List Int) (i : Nat) (hz : ds.getD i 0 = 0) (h : val (ds.take i) = val (ds.take 4)) : val (ds.take (i + 1)) = val (ds.take 4) := by
  rw [val_take, hz, h]; omega
theorem fits_great (ds : List Int) (hd : Digs ds) (i : Nat) (h4 : 4 ≤ i) (hz : ds.getD i 0 ≠ 0) : 18446744073709551616 ≤ val ds := by
  have h1 := take_le hd (i + 1)
  rw [val_take] at h1
  have h2 := take_nonneg hd i
  have h3 := (hd.at i).1
  have h5 : 1 * pw i ≤ ds.getD i 0 * pw i := Int.mul_le_mul_of_nonneg_right (by omega) (Int.le_of_lt (pw_pos i))
  have h6 := pw_le h4
  have h7 : pw 4 = 18446744073709551616 := rfl
  omega
theorem fits_less (ds : List Int) (hd : Digs ds) : val (ds.take 4) < 18446744073709551616 := take_lt hd 4
def fitU (n : Int) : Int := if n < 18446744073709551616 then n else 0
set_option maxHeartbeats 1600000 in
theorem fits_any (ds : List Int) (v : Value) (w : World) (h : Num w v ds) (hl : ds.length ≤ 30000000000000) :
    Calls Tryz.prog 187 #[v] w fun e w' => e = .returned (.tuple #[.int .u64 (fitU (val ds)), .bool (decide (val ds < 18446744073709551616))]) ∧ w' = w := by
  have hd := h.1
  obtain ⟨_, a, ca, ea, hr⟩ := id h
  subst ea
  go_enter Tryz.func187, Tryz.ntmps187
  go_wp2
  go_loop [4] (fun iv => ∃ i : Nat, 4 ≤ i ∧ i ≤ max 4 ds.length ∧ iv = .int .i64 i ∧ Hid (val (ds.take i) = val (ds.take 4))) (fun iv => max 4 ds.length - (intOf iv).toNat)
  case atStart => exact ⟨4, by omega, by omega, rfl, rfl⟩
  case round =>
    obtain ⟨i, h4, hm, rfl, HV⟩ := hrel
    by_cases hlt : i < ds.length
    · obtain ⟨b, off, rfl, hb, hc⟩ := hr (by omega)
      have hcell := hc i hlt
      clear hc hr
      by_cases hz : ds.getD i 0 = 0
      · have HV' : Hid (val (ds.take (i + 1)) = val (ds.take 4)) := fits_head ds i hz HV.out
        rw [hz] at hcell
        clear hz
        go_wp2
        go_round
        case rel => exact ⟨i + 1, by omega, by omega, by go_num, HV'⟩
        case measure => simp [intOf]; omega
      · have hg := fits_great ds hd i h4 hz
        have hx := hd.at i
        generalize ds.getD i 0 = x at *
        have hz' : (x != 0) = true := by simpa using hz
        go_wp2
        go_ret2
        exact ⟨by unfold fitU; rw [if_neg (by omega), decide_eq_false (by omega)]; rfl, rfl⟩
    · have e0 : val ds = val (ds.take 4) := by rw [← HV.out, take_all ds i (by omega)]
      have e1 := @take4 ds
      have n0 := hd.at 0
      have n1 := hd.at 1
      have n2 := hd.at 2
      have n3 := hd.at 3
      obtain ⟨d0, h0⟩ : ∃ x, x = ds.getD 0 0 := ⟨_, rfl⟩
      obtain ⟨d1, h1⟩ : ∃ x, x = ds.getD 1 0 := ⟨_, rfl⟩
      obtain ⟨d2, h2⟩ : ∃ x, x = ds.getD 2 0 := ⟨_, rfl⟩
      obtain ⟨d3, h3⟩ : ∃ x, x = ds.getD 3 0 := ⟨_, rfl⟩
      rw [← h0, ← h1, ← h2, ← h3] at e1
      rw [← h0] at n0
      rw [← h1] at n1
      rw [← h2] at n2
      rw [← h3] at n3
      have H0 : Hid (d0 = ds.getD 0 0) := h0
      have H1 : Hid (d1 = ds.getD 1 0) := h1
      have H2 : Hid (d2 = ds.getD 2 0) := h2
      have H3 : Hid (d3 = ds.getD 3 0) := h3
      have HE : Hid (val ds = d0 + d1 * 65536 + d2 * 4294967296 + d3 * 281474976710656) := by rw [e0, e1]; exact rfl
      clear h0 h1 h2 h3 e0 e1 hr
      have o1 := or16 d0 d1 (by omega) (by omega) (by omega) (by omega)
      have o2 := or32 (d0 + d1 * 65536) d2 (by omega) (by omega) (by omega) (by omega)
      have o3 := or48 (d0 + d1 * 65536 + d2 * 4294967296) d3 (by omega) (by omega) (by omega) (by omega)
      go_wp2_with (go_at_call 152; first | (with_reducible refine (at_lit 0 0 rfl h H0 (by omega) (by omega)).mono ?_; rintro e wx ⟨rfl, hw⟩; rw [hw]; clear hw) | (with_reducible refine (at_lit 1 1 rfl h H1 (by omega) (by omega)).mono ?_; rintro e wx ⟨rfl, hw⟩; rw [hw]; clear hw) | (with_reducible refine (at_lit 2 2 rfl h H2 (by omega) (by omega)).mono ?_; rintro e wx ⟨rfl, hw⟩; rw [hw]; clear hw) | (with_reducible refine (at_lit 3 3 rfl h H3 (by omega) (by omega)).mono ?_; rintro e wx ⟨rfl, hw⟩; rw [hw]; clear hw))
      go_ret2
      have := HE.out
      exact ⟨by unfold fitU; rw [if_pos (by omega), decide_eq_true (by omega), this]; rfl, rfl⟩
theorem fits_yes {ds : List Int} {v : Value} {w : World} {n : Int} (h : Num w v ds) (hn : Hid (n = val ds)) (hl : ds.length ≤ 30000000000000) (hv : n < 18446744073709551616) :
    Calls Tryz.prog 187 #[v] w fun e w' => e = .returned (.tuple #[.int .u64 n, .bool true]) ∧ w' = w := by
  have := fits_any ds v w h hl
  rw [← hn.out] at this
  unfold fitU at this
  rwa [if_pos hv, decide_eq_true hv] at this
theorem fits_no {ds : List Int} {v : Value} {w : World} {n : Int} (h : Num w v ds) (hn : Hid (n = val ds)) (hl : ds.length ≤ 30000000000000) (hv : ¬ n < 18446744073709551616) :
    Calls Tryz.prog 187 #[v] w fun e w' => e = .returned (.tuple #[.int .u64 0, .bool false]) ∧ w' = w := by
  have := fits_any ds v w h hl
  rw [← hn.out] at this
  unfold fitU at this
  rwa [if_neg hv, decide_eq_false hv] at this
end Go.Proofs.YtjhekemgcmhjoaaGreatDoor
