/- Package demand: tasks. -/
import Derived.Test.YtilnchlnlnpkfaaDoorDm4
namespace Go.Proofs.YtilnchlnlnpkfaaDoor
open Go.ChangeShapes Go.WideShapes Go.ChangeAt Go.RowKit
set_option maxRecDepth 100000
attribute [local go_sem] World.cell?_alloc_some frozen_alloc_some

set_option maxHeartbeats 1600000 in
theorem bdl_is (w : World) (v : Value) (xs : List Tk) (l : Int) (h : Tks w v xs) (hx : ∀ x ∈ xs, okT x) :
    Calls Tryd.prog 40 #[v, .int .i64 l] w fun e w' => e = .returned (.int .i64 (bdl l xs)) ∧ Below w.heap.size w w' := by
  obtain ⟨a0, cap, rfl, hl, h9⟩ := id h
  have HS := mkHid h
  have HX := mkHid hx
  clear h hx h9
  go_enter Tryd.func40, Tryd.ntmps40
  go_wp2
  go_loopw [5, 10] (fun nv iv wr => ∃ (j : Nat) (N : Int), nv = .int .i64 N ∧ iv = .int .i64 (j : Int) ∧ j ≤ xs.length ∧ Hid (bdl l (xs.take j) = N) ∧ Hid (Below w.heap.size w wr)) (fun _ iv _ => xs.length - (intOf iv).toNat)
  case atStart => exact ⟨0, 0, rfl, rfl, Nat.zero_le _, mkHid rfl, mkHid (Below.refl _ _)⟩
  case round =>
    obtain ⟨j, N, rfl, rfl, hj, HN, HB⟩ := hrel
    by_cases hlt : j < xs.length
    · obtain ⟨b, off, c, p, d, s, rfl, hxj, c0, c1, c2, c3⟩ := HS.out.at HB.out j hlt
      have hji : (j : Int) < xs.length := by omega
      obtain ⟨o1, o2, o3, o4, o5, o6⟩ := HX.out _ (List.mem_of_getElem? hxj)
      simp only at o1 o2 o3 o4 o5 o6
      have HM := mkHid (bdl_take (l := l) hxj)
      have hN := bdl_bounds l (xs.take j) (fun x hm => HX.out x (List.mem_of_mem_take hm))
      rw [HN.out] at hN HM
      simp only at HM
      obtain ⟨n0, n1⟩ := hN
      have es : IntKind.i64.wrap (s - 1) = s - 1 := wfit (by omega) (by omega)
      clear hxj
      have hc : (l < d ∧ N < s - 1 ∧ bdl l (xs.take (j + 1)) = s - 1) ∨ (l < d ∧ ¬ N < s - 1 ∧ bdl l (xs.take (j + 1)) = N) ∨ (¬ l < d ∧ bdl l (xs.take (j + 1)) = N) := by
        by_cases x : l < d
        · have e := HM.out
          rw [if_pos x] at e
          omega
        · exact .inr (.inr ⟨x, HM.out.trans (if_neg x)⟩)
      clear HM
      rcases hc with ⟨x, y, hv⟩ | ⟨x, y, hv⟩ | ⟨x, hv⟩
      · have HV := mkHid hv
        clear hv
        go_wp2
        go_roundw
        case rel => exact ⟨j + 1, s - 1, by go_num, by go_num, by omega, HV, mkHid (ba HB.out _)⟩
        case measure => simp [intOf]; omega
      · have HV := mkHid hv
        clear hv
        go_wp2
        go_roundw
        case rel => exact ⟨j + 1, N, by go_num, by go_num, by omega, HV, mkHid (ba HB.out _)⟩
        case measure => simp [intOf]; omega
      · have HV := mkHid hv
        clear hv
        go_wp2
        go_roundw
        case rel => exact ⟨j + 1, N, by go_num, by go_num, by omega, HV, mkHid (ba HB.out _)⟩
        case measure => simp [intOf]; omega
    · obtain rfl : j = xs.length := by omega
      have hN := HN.out
      rw [List.take_length] at hN
      have HN2 := mkHid hN
      clear hN
      go_wp2
      go_ret
      exact ⟨by rw [HN2.out]; rfl, HB.out⟩
set_option maxHeartbeats 1600000 in
theorem blk_is (w : World) (a0 : Option Addr) (cap : Nat) (xs : List Tk) (i : Nat) (h : Tks w (.slice a0 xs.length cap) xs) (hx : ∀ x ∈ xs, okT x) (hi : i < xs.length) (hc : xs.length ≤ cap) (hn : xs.length ≤ 8) :
    Calls Tryd.prog 42 #[.slice a0 xs.length cap, .int .i64 (i : Int)] w fun e w' => e = .returned (.int .i64 (blk (xs.drop (i + 1)))) ∧ Below w.heap.size w w' := by
  obtain ⟨b, off, c, p, d, s, rfl, hxj, c0, c1, c2, c3⟩ := h.at (Below.refl _ _) i hi
  have HS := mkHid h
  have HX := mkHid hx
  clear h hx hxj c0 c1 c2 c3 c p d s
  have hii : (i : Int) + 1 ≤ xs.length := by omega
  have hnn : i + 1 ≤ xs.length := by omega
  have hcc : i + 1 ≤ cap := by omega
  have hci : (i : Int) + 1 ≤ cap := by omega
  have hx8 : (xs.length : Int) ≤ 8 := by omega
  obtain ⟨m, hm⟩ : ∃ m, xs.length - (i + 1) = m := ⟨_, rfl⟩
  have hm8 : (m : Int) ≤ 8 := by omega
  have HD : Hid (∀ k, k < m → xs[i + 1 + k]? = (xs.drop (i + 1))[k]?) := mkHid (fun k _ => by rw [List.getElem?_drop])
  have HL : Hid ((xs.drop (i + 1)).length = m) := mkHid (by rw [List.length_drop]; exact hm)
  have HY : Hid (∀ x ∈ xs.drop (i + 1), okT x) := mkHid (fun x hx => HX.out x (List.mem_of_mem_drop hx))
  by_cases hcap : i + 1 < cap
  · obtain ⟨b4, hb4⟩ : ∃ b4, off + (i + 1) * 4 = b4 := ⟨_, rfl⟩
    go_enter Tryd.func42, Tryd.ntmps42
    go_wp2
    have HI := mkHid (And.intro hm hb4)
    clear hm hb4
    go_loopw [5, 13] (fun nv iv wr => ∃ (j : Nat) (N : Int), nv = .int .i64 N ∧ iv = .int .i64 (j : Int) ∧ j ≤ m ∧ Hid (blk ((xs.drop (i + 1)).take j) = N) ∧ Hid (Below w.heap.size w wr)) (fun _ iv _ => m - (intOf iv).toNat)
    case atStart => exact ⟨0, 0, rfl, rfl, Nat.zero_le _, mkHid rfl, mkHid (Below.refl _ _)⟩
    case round =>
      obtain ⟨j, N, rfl, rfl, hj, HN, HB⟩ := hrel
      by_cases hlt : j < m
      · obtain ⟨b', off', c, p, d, s, he, hxj, c0, c1, c2, c3⟩ := HS.out.at HB.out (i + 1 + j) (by have := HI.out.1; omega)
        cases he
        have e4 : off + (i + 1 + j) * 4 = b4 + j * 4 := by have := HI.out.2; omega
        rw [e4] at c0 c1 c2 c3
        rw [HD.out j hlt] at hxj
        have hji : (j : Int) < m := by omega
        obtain ⟨o1, o2, o3, o4, o5, o6⟩ := HY.out _ (List.mem_of_getElem? hxj)
        simp only at o1 o2 o3 o4 o5 o6
        have HM := mkHid (blk_take hxj)
        have hN := blk_bounds ((xs.drop (i + 1)).take j) (fun x hm => HY.out x (List.mem_of_mem_take hm))
        rw [HN.out] at hN HM
        simp only at HM
        obtain ⟨n0, n1⟩ := hN
        have es : IntKind.i64.wrap (s - 1) = s - 1 := wfit (by omega) (by omega)
        clear hxj e4
        have hc : (N < s - 1 ∧ blk ((xs.drop (i + 1)).take (j + 1)) = s - 1) ∨ (¬ N < s - 1 ∧ blk ((xs.drop (i + 1)).take (j + 1)) = N) := by
          have e := HM.out
          omega
        clear HM
        rcases hc with ⟨y, hv⟩ | ⟨y, hv⟩
        · have HV := mkHid hv
          clear hv
          go_wp2
          go_roundw
          case rel => exact ⟨j + 1, s - 1, by go_num, by go_num, by omega, HV, mkHid (ba HB.out _)⟩
          case measure => simp [intOf]; omega
        · have HV := mkHid hv
          clear hv
          go_wp2
          go_roundw
          case rel => exact ⟨j + 1, N, by go_num, by go_num, by omega, HV, mkHid (ba HB.out _)⟩
          case measure => simp [intOf]; omega
      · obtain rfl : j = m := by omega
        have hN := HN.out
        rw [List.take_of_length_le (by rw [HL.out]; exact Nat.le_refl _)] at hN
        have HN2 := mkHid hN
        clear hN
        go_wp2
        go_ret
        exact ⟨by rw [HN2.out]; rfl, HB.out⟩
  · obtain rfl : m = 0 := by omega
    have hd : xs.drop (i + 1) = [] := List.eq_nil_of_length_eq_zero HL.out
    rw [hd]
    clear hd HL HD HY
    go_enter Tryd.func42, Tryd.ntmps42
    go_wp2
    go_loopw [5, 13] (fun nv iv wr => nv = .int .i64 0 ∧ iv = .int .i64 0 ∧ wr = w) (fun _ iv _ => (intOf iv).toNat)
    case atStart => exact ⟨rfl, rfl, rfl⟩
    case round =>
      obtain ⟨rfl, rfl, rfl⟩ := hrel
      go_wp2
      go_ret
      exact ⟨rfl, Below.refl _ _⟩
/-- checkTasks. -/
def tcd (xs : List Tk) (l : Int) : Int := if xs.all bT = true ∧ xs.length ≤ 8 then lcd l else 11
theorem all_okT {xs : List Tk} (h : xs.all bT = true) : ∀ x ∈ xs, okT x := by
  intro x hx
  have h2 := List.all_eq_true.1 h x hx
  unfold bT at h2
  have h3 := of_decide_eq_true h2
  exact h3
theorem tcd_cases (xs : List Tk) (l : Int) : (tcd xs l = 11 ∧ ¬ okTs xs) ∨ (tcd xs l = 1 ∧ okTs xs ∧ (l < 0 ∨ (0 ≤ l ∧ 1099511627776 < l))) ∨ (tcd xs l = 0 ∧ okTs xs ∧ 0 ≤ l ∧ l ≤ 1099511627776) := by
  unfold tcd
  by_cases h : xs.all bT = true ∧ xs.length ≤ 8
  · rw [if_pos h]
    rcases lcd_cases l with ⟨e, hl⟩ | ⟨e, hl⟩
    · exact .inr (.inl ⟨e, ⟨h.2, all_okT h.1⟩, hl⟩)
    · exact .inr (.inr ⟨e, ⟨h.2, all_okT h.1⟩, hl⟩)
  · rw [if_neg h]
    exact .inl ⟨rfl, fun ho => h ⟨List.all_eq_true.2 fun x hx => bT_true (ho.2 x hx), ho.1⟩⟩
theorem tchk_no (w : World) (v : Value) (xs : List Tk) (l : Int) (a : Addr) (h : Tks w v xs) (hx : ¬ okTs xs) (he : w.cell? ⟨2, 0, none⟩ = some (vE a)) :
    Calls Tryd.prog 37 #[v, .int .i64 l] w fun e w' => e = .returned (vE a) ∧ Below w.heap.size w w' := by
  obtain ⟨a0, cap, rfl, hl, h9⟩ := id h
  have hp : 0 < xs.length := by
    refine Nat.pos_of_ne_zero fun e => hx ?_
    rw [List.eq_nil_of_length_eq_zero e]
    exact ⟨by simp, fun x hx => by simp at hx⟩
  have hpi : (0 : Int) < xs.length := by omega
  have H1 := mkHid (guest_no w _ 1 xs a h (fun hg => hx hg.2.2) he)
  clear h h9 hx he
  go_enter Tryd.func37, Tryd.ntmps37
  go_wp2_with (go_at_call 47; refine H1.out.mono ?_; rintro e w1 ⟨rfl, b1⟩)
  go_ret
  exact ⟨rfl, b1⟩
theorem tchk_any (w : World) (v : Value) (xs : List Tk) (l : Int) (h : Tks w v xs) (hx : okTs xs) (R : Value) (hR : ∀ W, Below w.heap.size w W → Calls Tryd.prog 44 #[.int .i64 l] W fun e w' => e = .returned R ∧ Below W.heap.size W w') :
    Calls Tryd.prog 37 #[v, .int .i64 l] w fun e w' => e = .returned R ∧ Below w.heap.size w w' := by
  obtain ⟨a0, cap, rfl, hl, h9⟩ := id h
  have HR := mkHid hR
  clear hR
  by_cases hp : 0 < xs.length
  · have hpi : (0 : Int) < xs.length := by omega
    have H1 := mkHid (guest_ok w _ 1 xs h ⟨.inl rfl, hp, hx⟩)
    clear h h9 hx
    go_enter Tryd.func37, Tryd.ntmps37
    go_wp2_with (first
      | (go_at_call 47; refine H1.out.mono ?_; rintro e w1 ⟨rfl, b1⟩; have HB1 := mkHid b1; clear b1)
      | (go_at_call 44; refine (HR.out _ HB1.out).mono ?_; rintro e w2 ⟨rfl, b2⟩; have HB2 := mkHid (bt HB1.out b2); clear b2))
    go_ret
    exact ⟨rfl, HB2.out⟩
  · have hpi : ¬ (0 : Int) < xs.length := by omega
    clear h h9 hx
    go_enter Tryd.func37, Tryd.ntmps37
    go_wp2_with (go_at_call 44; refine (HR.out _ (Below.refl _ _)).mono ?_; rintro e w2 ⟨rfl, b2⟩)
    go_ret
    exact ⟨rfl, b2⟩
/-- What checkTasks answers, whatever comes in. -/
theorem tchk (w : World) (v : Value) (xs : List Tk) (l : Int) (a : Nat → Addr) (h : Tks w v xs) (E : Er4 w a) :
    Calls Tryd.prog 37 #[v, .int .i64 l] w fun e w' => e = .returned (ev a (tcd xs l)) ∧ Below w.heap.size w w' := by
  rcases tcd_cases xs l with ⟨e, hx⟩ | ⟨e, hx, hl⟩ | ⟨e, hx, l0, l1⟩
  · rw [e, ev11]; exact tchk_no w v xs l _ h hx E.cell_task
  · rw [e, ev1]; exact tchk_any w v xs l h hx _ (fun W hb => len_no W l hl _ (E.late hb).er3.cell_number)
  · rw [e, ev0]; exact tchk_any w v xs l h hx _ (fun W hb => len_ok W l l0 l1)
end Go.Proofs.YtilnchlnlnpkfaaDoor
