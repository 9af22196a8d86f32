/- QueuePlays. -/
import Derived.Test.YtjlmkmhggkcbhaaDoorQplays
import Derived.Test.YtjlmkmhggkcbhaaDoorQopen4
namespace Go.Proofs.YtjlmkmhggkcbhaaDoor
open Go.ChangeShapes Go.WideShapes Go.ChangeAt Go.RowKit
set_option maxRecDepth 100000
set_option linter.unusedVariables false
theorem and_bit (wh : Int) : ∃ k : Nat, (k = 0 ∨ k = 1) ∧ bits .and .i64 wh 1 = (k : Int) := by
  refine ⟨(BitVec.ofInt 64 wh).toNat % 2, by omega, ?_⟩
  have e : (BitVec.ofInt 64 wh &&& BitVec.ofInt 64 1).toNat = (BitVec.ofInt 64 wh).toNat % 2 := by
    rw [BitVec.toNat_and]
    have : (BitVec.ofInt 64 1).toNat = 1 := by decide
    rw [this, Nat.and_one_is_mod]
  have hw : IntKind.i64.wrap (((BitVec.ofInt 64 wh).toNat % 2 : Nat) : Int) = (((BitVec.ofInt 64 wh).toNat % 2 : Nat) : Int) := by rw [IntKind.wrap_i64]; omega
  show IntKind.i64.wrap ((BitVec.ofInt 64 wh &&& BitVec.ofInt 64 1).toNat : Int) = _
  rw [e, hw]
set_option maxHeartbeats 6400000 in
theorem plays_walk (w : World) (v0 : Value) (xs : List O4) (a : Nat → Addr) (h0 : ORd w v0 xs) (HE : Errs w a) :
    Calls Tryd.prog 3 #[v0] w fun e w' => e = .returned (.bool true) ∧ Below w.heap.size w w' := by
  obtain ⟨a0, c0, rfl, hl0, hx0⟩ := id h0
  have H0 := mkHid h0
  have HEE := mkHid HE
  clear h0 HE hx0
  have M1 : Hid True := mkHid trivial
  go_enter Tryd.func3, Tryd.ntmps3
  go_wp2_with (first
    | (go_at_call 8; refine (alive_q _).mono ?_; rintro e w1 ⟨rfl, hb1'⟩; have HB1 := mkHid hb1'; clear hb1')
    | (go_at_call 9; clear M1; refine (new_is w1).mono ?_; rintro e w2 ⟨p0, rfl, hq⟩; have HQ0 := hq; clear hq)
    | (go_at_call 9; refine (new_is w2).mono ?_; rintro e w3 ⟨p1, rfl, hq⟩; have HQ1 := hq; clear hq))
  have HST := mkHid (St7.start HB1.out HQ0.out HQ1.out)
  clear HB1 HQ0 HQ1
  obtain ⟨qb, hqb⟩ : ∃ qb, qb = w3.heap.size := ⟨_, rfl⟩
  obtain ⟨mb, hmb⟩ : ∃ mb, mb = w3.heap.size + 1 + 1 + 1 := ⟨_, rfl⟩
  obtain ⟨q0, hq0⟩ : ∃ q0, q0 = w3.heap.size + 1 := ⟨_, rfl⟩
  obtain ⟨q1, hq1⟩ : ∃ q1, q1 = w3.heap.size + 1 + 1 := ⟨_, rfl⟩
  obtain ⟨W4, hW4⟩ : ∃ W4, W4 = ((((w3.alloc (.cells #[.pointer (some ⟨p0, 0, none⟩), .pointer (some ⟨p1, 0, none⟩)] 26)).alloc (.cells #[.slice none 0 0] 30)).alloc (.cells #[.slice none 0 0] 30)).alloc (.cells #[.pointer (some ⟨w3.heap.size + 1, 0, none⟩), .pointer (some ⟨w3.heap.size + 1 + 1, 0, none⟩)] 31)) := ⟨_, rfl⟩
  rw [← hW4, ← hmb, ← hq1, ← hq0, ← hqb] at HST
  rw [← hW4, ← hmb, ← hqb]
  clear hW4 hmb hq1 hq0 hqb
  go_loopw [34, 5] (fun iv fv wr => ∃ (j : Nat) (f : Int), iv = .int .i64 (j : Int) ∧ j ≤ xs.length ∧ fv = .int .i64 f ∧ 0 ≤ f ∧ f ≤ 5000 ∧ St7 w wr qb mb p0 p1 q0 q1) (fun iv _ _ => xs.length - (intOf iv).toNat)
  case atStart => exact ⟨0, 0, rfl, Nat.zero_le _, rfl, by omega, by omega, HST.out⟩
  case round =>
    clear HST
    obtain ⟨j, f, rfl, hj, rfl, hf0, hf1, hS⟩ := hrel
    have HS := mkHid hS
    clear hS
    by_cases hlt : j < xs.length
    · obtain ⟨b, off, kd, wh, id, r, rfl, x0, x1, x2, x3, hwh, hid, hr⟩ := H0.out.at HS.out.2.2.2 j hlt
      obtain ⟨k, hk, hand⟩ := and_bit wh
      have HAND := mkHid hand
      clear hand
      obtain ⟨W, hW⟩ : ∃ W, W = wr.alloc (.cells #[.int .i64 kd, .int .i64 wh, .int .i64 id, .int .i64 r] 33) := ⟨_, rfl⟩
      have hbW : Below wr.heap.size wr W := by rw [hW]; exact (Below.refl _ wr).alloc (Nat.le_refl _) _
      obtain ⟨ob, hob⟩ : ∃ ob, ob = wr.heap.size := ⟨_, rfl⟩
      have o0 : W.cell? ⟨ob, 0, none⟩ = some (.int .i64 kd) := by rw [hW, hob]; simp
      have o1 : W.cell? ⟨ob, 1, none⟩ = some (.int .i64 wh) := by rw [hW, hob]; simp
      have o2 : W.cell? ⟨ob, 2, none⟩ = some (.int .i64 id) := by rw [hW, hob]; simp
      have o3 : W.cell? ⟨ob, 3, none⟩ = some (.int .i64 r) := by rw [hW, hob]; simp
      obtain ⟨p, q, c1, c2, _, hstep⟩ := HS.out.step a HEE.out k hk
      have HSTEP := hstep
      have m1 := bcell hbW c1
      have m2 := bcell hbW c2
      have hk2 : (k : Int) < 2 := by omega
      have HK := mkHid hk
      have HBW := mkHid hbW
      have HOB := mkHid hob
      have HO : Hid (∀ w' : World, (∀ (b o : Nat) (v : Value), wr.heap.size ≤ b → W.cell? ⟨b, o, none⟩ = some v → w'.cell? ⟨b, o, none⟩ = some v) → w'.cell? ⟨ob, 0, none⟩ = some (.int .i64 kd) ∧ w'.cell? ⟨ob, 1, none⟩ = some (.int .i64 wh) ∧ w'.cell? ⟨ob, 2, none⟩ = some (.int .i64 id) ∧ w'.cell? ⟨ob, 3, none⟩ = some (.int .i64 r)) := mkHid (fun w' hk => ⟨hk _ _ _ (Nat.le_of_eq hob.symm) o0, hk _ _ _ (Nat.le_of_eq hob.symm) o1, hk _ _ _ (Nat.le_of_eq hob.symm) o2, hk _ _ _ (Nat.le_of_eq hob.symm) o3⟩)
      have hji : (j : Int) < xs.length := by omega
      clear hk hbW c1 c2 hstep
      have HW := mkHid hW
      rw [hob] at o0 o1 o2 o3 HO HOB
      clear HOB hob ob
      by_cases hkd : kd = 7
      · subst hkd
        obtain ⟨n, hn, hnn⟩ : ∃ n : Nat, min (max r 0) 4200 = (n : Int) ∧ (n : Int) ≤ 4200 := ⟨(min (max r 0) 4200).toNat, by omega, by omega⟩
        obtain ⟨t, ht, ht0, ht1⟩ : ∃ t, t = id.tmod 1099511627776 ∧ -1099511627776 ≤ t ∧ t ≤ 1099511627776 := ⟨_, rfl, by have := Int.lt_tmod_of_pos id (show (0 : Int) < 1099511627776 by omega); omega, by have := Int.tmod_lt_of_pos id (show (0 : Int) < 1099511627776 by omega); omega⟩
        have HT := mkHid ht
        clear hW ht
        by_cases hfn : f + n > 5000
        · go_wp2
          go_ret
          exact ⟨rfl, HS.out.2.2.2.trans ((HW.out ▸ HBW.out).mono HS.out.2.2.2.size)⟩
        · go_wp2
          rw [HAND.out, ← HW.out, ← HT.out]
          have HSW := mkHid (HS.out.below HBW.out)
          clear HS HSTEP HO HBW m1 m2 o0 o1 o2 o3 HW x0 x1 x2 x3 HT
          go_loopw [11] (fun iv wi => ∃ i : Nat, iv = .int .i64 (i : Int) ∧ i ≤ n ∧ St7 w wi qb mb p0 p1 q0 q1) (fun iv _ => n - (intOf iv).toNat)
          case atStart => exact ⟨0, rfl, Nat.zero_le _, HSW.out⟩
          case round =>
            clear HSW
            obtain ⟨i, rfl, hi, hSi⟩ := hrel
            have HSi := mkHid hSi
            clear hSi
            by_cases hin : i < n
            · obtain ⟨p', q', c1, c2, _, HSTEP⟩ := HSi.out.step a HEE.out k HK.out
              have hini : (i : Int) < n := by omega
              go_wp2
              go_region_held3 (fun w' => w'.cell? ⟨qb, k, none⟩ = some (.pointer (some ⟨p', 0, none⟩)) ∧ w'.cell? ⟨mb, k, none⟩ = some (.pointer (some ⟨q', 0, none⟩))) (go_keep) (first | (go_at_call 10; refine (HSTEP.out wr.drew _ _ _ _ (Below.refl _ wr).drew).mono ?_; rintro e w5 ⟨rfl, h5⟩; have n1 := h5.out.2.1; have n2 := h5.out.2.2.1; have HS5 := mkHid h5.out.1; clear h5))
              go_wp2
              go_roundw
              case rel => exact ⟨i + 1, by go_num, by omega, HS5.out⟩
              case measure => simp [intOf]; omega
            · obtain rfl : i = n := by omega
              go_wp2
              go_roundw
              case rel => exact ⟨j + 1, f + i, by go_num, by omega, rfl, by omega, by omega, HSi.out⟩
              case measure => simp [intOf]; omega
      · clear hW
        go_wp2
        rw [HAND.out, ← HW.out]
        go_region_held3 (fun w' => w'.cell? ⟨qb, k, none⟩ = some (.pointer (some ⟨p, 0, none⟩)) ∧ w'.cell? ⟨mb, k, none⟩ = some (.pointer (some ⟨q, 0, none⟩)) ∧ w'.cell? ⟨wr.heap.size, 0, none⟩ = some (.int .i64 kd) ∧ w'.cell? ⟨wr.heap.size, 1, none⟩ = some (.int .i64 wh) ∧ w'.cell? ⟨wr.heap.size, 2, none⟩ = some (.int .i64 id) ∧ w'.cell? ⟨wr.heap.size, 3, none⟩ = some (.int .i64 r)) (go_keep) (first
          | (go_at_call 10; refine (HSTEP.out W.drew kd wh id r HBW.out.drew).mono ?_; rintro e w5 ⟨rfl, h5⟩; obtain ⟨g0, g1, g2, g3⟩ := HO.out w5 h5.out.2.2.2.1; have n1 := h5.out.2.1; have n2 := h5.out.2.2.1; have HS5 := mkHid h5.out.1; clear h5))
        go_wp2
        go_roundw
        case rel => exact ⟨j + 1, f, by go_num, by omega, rfl, hf0, hf1, HS5.out⟩
        case measure => simp [intOf]; omega
    · obtain rfl : j = xs.length := by omega
      go_wp2
      go_loopw [85] (fun kv wk => ∃ k : Nat, kv = .int .i64 (k : Int) ∧ k ≤ 2 ∧ St7 w wk qb mb p0 p1 q0 q1) (fun kv _ => 2 - (intOf kv).toNat)
      case atStart => exact ⟨0, rfl, by omega, HS.out⟩
      case round =>
        clear HS
        obtain ⟨k, rfl, hk, hSk⟩ := hrel
        have HSk := mkHid hSk
        clear hSk
        by_cases hk2 : (k : Int) < 2
        · obtain ⟨p, q, c1, c2, _, HSTEP⟩ := HSk.out.step a HEE.out k (by omega)
          go_wp2
          go_region_held3 (fun w' => w'.cell? ⟨qb, k, none⟩ = some (.pointer (some ⟨p, 0, none⟩)) ∧ w'.cell? ⟨mb, k, none⟩ = some (.pointer (some ⟨q, 0, none⟩))) (go_keep) (first | (go_at_call 10; refine (HSTEP.out wr.drew _ _ _ _ (Below.refl _ wr).drew).mono ?_; rintro e w5 ⟨rfl, h5⟩; have n1 := h5.out.2.1; have n2 := h5.out.2.2.1; have HS5 := mkHid h5.out.1; clear h5))
          go_wp2
          clear HSk HSTEP c1 c2 n1 n2
          go_loopw [13] (fun iv wi => ∃ i : Nat, iv = .int .i64 (i : Int) ∧ i ≤ 200 ∧ St7 w wi qb mb p0 p1 q0 q1) (fun iv _ => 200 - (intOf iv).toNat)
          case atStart => exact ⟨0, rfl, by omega, HS5.out⟩
          case round =>
            clear HS5
            obtain ⟨i, rfl, hi, hSi⟩ := hrel
            have HSi := mkHid hSi
            clear hSi
            obtain ⟨p', q', c1, c2, ⟨la, l, lc, c3⟩, HSTEP⟩ := HSi.out.step a HEE.out k (by omega)
            by_cases hi2 : (i : Int) < 200
            · by_cases hl : (0 : Int) < l
              · go_wp2
                go_region_held3 (fun w' => w'.cell? ⟨qb, k, none⟩ = some (.pointer (some ⟨p', 0, none⟩)) ∧ w'.cell? ⟨mb, k, none⟩ = some (.pointer (some ⟨q', 0, none⟩))) (go_keep) (first | (go_at_call 10; refine (HSTEP.out wr.drew _ _ _ _ (Below.refl _ wr).drew).mono ?_; rintro e w5 ⟨rfl, h5⟩; have n1 := h5.out.2.1; have n2 := h5.out.2.2.1; have HS5 := mkHid h5.out.1; clear h5))
                go_wp2
                go_roundw
                case rel => exact ⟨i + 1, by go_num, by omega, HS5.out⟩
                case measure => simp [intOf]; omega
              · go_wp2
                go_roundw
                case rel => exact ⟨k + 1, by go_num, by omega, HSi.out⟩
                case measure => simp [intOf]; omega
            · go_wp2
              go_roundw
              case rel => exact ⟨k + 1, by go_num, by omega, HSi.out⟩
              case measure => simp [intOf]; omega
        · go_wp2
          go_ret
          exact ⟨rfl, HSk.out.2.2.2⟩
end Go.Proofs.YtjlmkmhggkcbhaaDoor
