/- Crash of the document's disk. -/
import Derived.Test.YtcglonefifldnaaDoorRwrite
import Derived.Test.YtcglonefifldnaaDoorDcrash
namespace Go.Proofs.YtcglonefifldnaaDoor
open Go.ChangeShapes Go.WideShapes Go.ChangeAt Go.RowKit

theorem and_one (x : Int) (h0 : 0 ≤ x) (h1 : x ≤ 18446744073709551615) : bits .and .u64 x 1 = x % 2 := by
  have e1 : (BitVec.ofInt 64 1).toNat = 2 ^ 1 - 1 := by decide
  have key : (BitVec.ofInt 64 x &&& BitVec.ofInt 64 1).toNat = (x % ((2 ^ 64 : Nat) : Int)).toNat % 2 ^ 1 := by
    rw [BitVec.toNat_and, BitVec.toNat_ofInt, e1, Nat.and_two_pow_sub_one_eq_mod]
  show IntKind.u64.wrap ((BitVec.ofInt 64 x &&& BitVec.ofInt 64 1).toNat : Nat) = _
  rw [key, IntKind.wrap_u64]
  omega
theorem kbit_mod (keep : Int) (h0 : 0 ≤ keep) (h1 : keep ≤ 18446744073709551615) (k : Nat) : kbit keep k = decide (keep / 2 ^ (k % 64) % 2 = 1) := by
  have hd0 : 0 ≤ keep / 2 ^ (k % 64) := Int.ediv_nonneg h0 (by exact Int.le_of_lt (Int.pow_pos (by omega)))
  have hd1 : keep / 2 ^ (k % 64) ≤ keep := Int.ediv_le_self _ h0
  unfold kbit
  rw [and_one _ hd0 (by omega)]
  generalize keep / 2 ^ (k % 64) = x at *
  have : x % 2 = 0 ∨ x % 2 = 1 := by omega
  rcases this with e | e <;> simp [e]
/-- The safe row was laid anew. -/
theorem Rk.safe {F : Nat → Prop} {w W2 : World} {q n : Nat} {fs fn fs' : Int → List Int} {c : List (Int × List Int)} {nw : Int} {gone : Bool} {sb nb : Nat} {av dv : Value} {H : Nat → Prop} (h : Rk F w q n fs fn c nw gone sb nb av dv H) (hk : Kept (fun k => k = sb) w W2)
    (hs : W2.heap[sb]? = some (.cells ((conc n fs').map (Value.int .u8)).toArray 5 (0, 0))) (ss : ∀ i, Sec (fs' i)) : Rk F W2 q n fs' fn c nw gone sb nb av dv H := by
  refine ⟨fun k e => Nat.lt_of_lt_of_le (h.lt k e) hk.size, h.fq, ss, h.sn, h.sc, h.pc, h.n0, h.n1, ?_, hs, ?_, own_keptV h.ha hk (fun k e => (h.fa k e).2.2.1), h.hl.kept hk (fun k e => (h.fh k e).2.2.1) (fun k e => (h.fd k e).2.2.1), h.fs_, h.fn_, h.fa, h.fd, h.fh⟩
  · rw [hk.block q (h.lt q h.fq) (fun e => h.fs_.2 e.symm)]; exact h.hd
  · rw [hk.block nb (h.lt nb h.fn_.1) h.fn_.2.2]; exact h.hn
theorem Rk.data {F : Nat → Prop} {w : World} {q n : Nat} {fs fn : Int → List Int} {c : List (Int × List Int)} {nw : Int} {gone : Bool} {sb nb : Nat} {av dv : Value} {H : Nat → Prop} (h : Rk F w q n fs fn c nw gone sb nb av dv H) {j : Nat} {x : Int × List Int} (hx : c[j]? = some x) :
    ∃ ga ca gd cd u, av = .slice (some ⟨ga, 0, none⟩) c.length ca ∧ w.cell? ⟨ga, j, none⟩ = some (.int .i64 x.1) ∧ dv = .slice (some ⟨gd, 0, none⟩) c.length cd ∧ w.cell? ⟨gd, j, none⟩ = some u ∧ Rd w u x.2 := by
  have hj : j < c.length := (List.getElem?_eq_some_iff.mp hx).1
  obtain ⟨vs, ho, hra, _⟩ := h.hl
  obtain ⟨u, hu, hr, _⟩ := hra.at j (by rw [datas_len]; exact hj)
  have he : (datas c).getD j [] = x.2 := by simp [datas, List.getD, hx]
  rw [he] at hr
  rcases h.ha.2 with ⟨_, h0⟩ | ⟨ga, ca, _, ea, _⟩
  · omega
  · rcases ho.2 with ⟨_, h0⟩ | ⟨gd, cd, _, ed, _⟩
    · rw [datas_len] at h0; omega
    · have hA := h.ha
      subst ea ed
      have c1 := hA.cells (g := ga) rfl j (.int .i64 x.1) (by simp [places, hx])
      have c2 := ho.cells (g := gd) rfl j u hu
      rw [add_none, Nat.zero_add] at c1 c2
      exact ⟨ga, ca, gd, cd, u, rfl, c1, by rw [datas_len], c2, hr⟩
theorem crash1_true {kb : Nat → Bool} {t : Int} {g : Int → List Int} {k : Nat} {x : Int × List Int} (h : kb k = true) (m : Nat) (hm : m = if (k : Int) = t then 32 else 64) (hx : Sec x.2) : crash1 kb t g k x = updI g x.1 (laid (g x.1) (x.2.take m)) := by
  unfold crash1
  rw [if_pos h, hm]
  split
  · rfl
  · rw [List.take_of_length_le (by rw [hx.len]; exact Nat.le_refl _)]
theorem crash1_false {kb : Nat → Bool} {t : Int} {g : Int → List Int} {k : Nat} {x : Int × List Int} (h : kb k = false) : crash1 kb t g k x = g := by
  unfold crash1
  rw [if_neg (by rw [h]; simp)]
theorem updI_sec {g : Int → List Int} (h : ∀ i, Sec (g i)) {j : Int} {s : List Int} (hs : Sec s) : ∀ i, Sec (updI g j s i) := by
  intro i
  unfold updI
  split
  · exact hs
  · exact h i
theorem div_step (keep : Int) (t : Nat) : keep / 2 ^ t / 2 = keep / 2 ^ (t + 1) := by
  rw [Int.ediv_ediv_of_nonneg (Int.le_of_lt (Int.pow_pos (by omega))), Int.pow_succ]
theorem div_bound (keep : Int) (t : Nat) (h0 : 0 ≤ keep) (h1 : keep ≤ 18446744073709551615) : 0 ≤ keep / 2 ^ t ∧ keep / 2 ^ t ≤ 18446744073709551615 := by
  have a := Int.ediv_nonneg h0 (Int.le_of_lt (Int.pow_pos (by omega : (0 : Int) < 2) : (0 : Int) < 2 ^ t))
  have b := Int.ediv_le_self (2 ^ t) h0
  omega
theorem slice_row (b n i m : Nat) (I T : Int) (hI : I = 64 * (i : Int)) (hT : T = 64 * (i : Int) + (m : Int)) (hi : i < n) (hm : m ≤ 64) (W : World) : (Instr.slice 33 (.slice (some ⟨b, 0, none⟩) (64 * n) (64 * n)) (some (.int .i64 I)) (some (.int .i64 T)) none).run Tryd.prog W = .ok (.slice (some ⟨b, 64 * i, none⟩) m (64 * n - 64 * i)) W := by
  have := run_slice_lh (P := Tryd.prog) W 33 (some ⟨b, 0, none⟩) (64 * n) (64 * n) elemB.1 .i64 .i64 I T (by omega) (by omega) (by omega)
  rw [elemB.2, size1] at this
  rw [this]
  have e1 : I.toNat = 64 * i := by omega
  have e2 : T.toNat = 64 * i + m := by omega
  have e3 : ¬ 64 * n = 64 * i := by omega
  simp [Result.andThen, sliced, e1, e2, e3, add_none]
set_option maxHeartbeats 6400000 in
theorem rcrash_any (F : Nat → Prop) (w : World) (q n : Nat) (fs fn : Int → List Int) (c : List (Int × List Int)) (nw : Int) (gone : Bool) (sb nb : Nat) (av dv : Value) (H : Nat → Prop) (keep torn : Int) (h0k : 0 ≤ keep) (h1k : keep ≤ 18446744073709551615) (h : Rk F w q n fs fn c nw gone sb nb av dv H) (hcl : c.length ≤ 1000000000000) :
    Calls Tryd.prog 25 #[.pointer (some ⟨q, 0, none⟩), .int .u64 keep, .int .i64 torn] w fun r w' => r = .returned (.tuple #[]) ∧ Rk F w' q n (crashedTo (kbit keep) torn fs c c.length) (crashedTo (kbit keep) torn fs c c.length) [] nw gone sb nb (.slice none 0 0) (.slice none 0 0) (fun _ => False) ∧ Kept F w w' := by
  have c2 : w.cell? ⟨q, 2, none⟩ = some av := cell_of_block h.hd rfl
  obtain ⟨aa, ac, rfl⟩ := own_shape h.ha
  have hci : (c.length : Int) ≤ 1000000000000 := by omega
  have HR0 := mkHid h
  have HKB := mkHid (kbit_mod keep h0k h1k)
  clear h
  go_enter Tryd.func25, Tryd.ntmps25
  go_wp2
  go_loopw [16] (fun iv wr => ∃ j : Nat, iv = .int .i64 (j : Int) ∧ j ≤ c.length ∧ Rk F wr q n (crashedTo (kbit keep) torn fs c j) fn c nw gone sb nb (.slice aa c.length ac) dv H ∧ Kept F w wr) (fun iv _ => c.length - (intOf iv).toNat)
  case atStart => exact ⟨0, rfl, Nat.zero_le _, HR0.out, Kept.refl _ _⟩
  case round =>
    clear HR0 c2
    obtain ⟨j, rfl, hj, hR, hK⟩ := hrel
    have HR := mkHid hR
    have HK := mkHid hK
    by_cases hlt : j < c.length
    · have hji : (j : Int) < c.length := by omega
      have hx : c[j]? = some c[j] := by simp [hlt]
      have HST := mkHid (crashedTo_succ (kbit keep) torn fs c j _ hx)
      have HSX : Hid (Sec (c[j]).2) := mkHid (hR.sc _ (by simp))
      obtain ⟨hp0, hp1⟩ := hR.pc c[j] (by simp)
      obtain ⟨ga, ca, gd, cd, u, ea, ca1, rfl, cd1, hru⟩ := hR.data hx
      simp at ea
      obtain ⟨rfl, rfl⟩ := ea
      generalize c[j] = x at *
      obtain ⟨xi, xb⟩ := x
      simp only at hp0 hp1 ca1 hru HSX
      obtain ⟨xi, rfl⟩ := Int.eq_ofNat_of_zero_le hp0
      clear hx hR hK
      obtain ⟨m, hm⟩ : ∃ m : Nat, m = if (j : Int) = torn then 32 else 64 := ⟨_, rfl⟩
      have HC1 : Hid (kbit keep j = true → crash1 (kbit keep) torn (crashedTo (kbit keep) torn fs c j) j ((xi : Int), xb) = updI (crashedTo (kbit keep) torn fs c j) (xi : Int) (laid (crashedTo (kbit keep) torn fs c j (xi : Int)) (xb.take m))) := mkHid (fun hk => crash1_true (x := ((xi : Int), xb)) hk m hm HSX.out)
      have HC0 : Hid (kbit keep j = false → crash1 (kbit keep) torn (crashedTo (kbit keep) torn fs c j) j ((xi : Int), xb) = crashedTo (kbit keep) torn fs c j) := mkHid (fun hk => crash1_false hk)
      obtain ⟨M, hM⟩ : ∃ M : Nat, M = j % 64 := ⟨_, rfl⟩
      have hrem : (j : Int) % 64 = (M : Int) := by omega
      have hM64 : M < 64 := by omega
      have HKJ := mkHid (HKB.out j)
      rw [← hM] at HKJ
      have hml : m ≤ 64 ∧ 1 ≤ m := by rw [hm]; split <;> omega
      have hcs : (((j : Int) == torn) = true ∧ m = 32) ∨ (((j : Int) == torn) = false ∧ m = 64) := by
        by_cases e : (j : Int) = torn
        · exact .inl ⟨by simp [e], by rw [hm, if_pos e]⟩
        · exact .inr ⟨by simp [e], by rw [hm, if_neg e]⟩
      have HRU := mkHid hru
      clear hM hm HKB hru
      have HDIV : Hid (∀ t : Nat, keep / 2 ^ t / 2 = keep / 2 ^ (t + 1) ∧ 0 ≤ keep / 2 ^ t ∧ keep / 2 ^ t ≤ 18446744073709551615) := mkHid (fun t => ⟨div_step keep t, div_bound keep t h0k h1k⟩)
      rcases hcs with ⟨hct, rfl⟩ | ⟨hct, rfl⟩
      · go_wp2
        go_loopw [9, 10] (fun bv iv wq => ∃ t : Nat, iv = .int .i64 (t : Int) ∧ t ≤ M ∧ bv = .int .u64 (keep / 2 ^ t) ∧ wq = wr) (fun _ iv _ => M - (intOf iv).toNat)
        case atStart => exact ⟨0, rfl, Nat.zero_le _, by simp, rfl⟩
        case round =>
          obtain ⟨t, rfl, ht, rfl, rfl⟩ := hrel
          obtain ⟨hd1, hd2, hd3⟩ := HDIV.out t
          by_cases htM : t < M
          · have hti : (t : Int) < M := by omega
            have HD1 := mkHid hd1
            clear hd1
            generalize hbt : keep / 2 ^ t = bt at *
            go_wp2
            go_roundw
            case rel => exact ⟨t + 1, by go_num, by omega, by rw [← HD1.out], by first | rfl | trivial⟩
            case measure => simp [intOf]; omega
          · obtain rfl : t = M := by omega
            generalize hbt : keep / 2 ^ t = bt at *
            by_cases hbit : bt % 2 = 1
            · have hkj : kbit keep j = true := by rw [HKJ.out]; simp [hbit]
              have HSTEP := mkHid (HST.out.trans (HC1.out hkj))
              have hn1 := HR.out.n1
              have hRd := HR.out.kept (Kept.drew (fun _ => False) wr) (fun _ _ e => e)
              have hsl := slice_row sb n xi 32 (64 * (xi : Int)) (64 * (xi : Int) + 32) rfl rfl (by omega) (by omega)
              obtain ⟨v1, sv1, rv1⟩ := HRU.out.headS 32 32 rfl (by have := HSX.out.len; omega)
              have hlt2 : (xb.take 32).length = 32 := by rw [List.length_take, HSX.out.len]; rfl
              obtain ⟨W2, hrun, hs2, hk2⟩ := copy_into (w := wr.drew) 3 sb (64 * xi) 32 (64 * n - 64 * xi) _ 5 hRd.hs v1 (xb.take 32) rv1.drew (by omega) (by omega) (by have := conc_len n _ hRd.ss; simp; omega)
              rw [splice_map, conc_splice n _ hRd.ss xi (by omega) _ (by omega)] at hs2
              have HR2 := mkHid (hRd.safe hk2 hs2 (updI_sec hRd.ss (laid_sec (hRd.ss _) (fun b hb => HSX.out.byts b (List.mem_of_mem_take hb)) (by omega))))
              have HK2 : Hid (Kept F w W2) := mkHid (HK.out.trans ((Kept.drew (fun k => k = sb) wr).trans hk2 (fun _ e => .inl e)) (fun k e => .inl (by rw [e]; exact HR.out.fs_.1)))
              have c0 : wr.cell? ⟨q, 0, none⟩ = some (.slice (some ⟨sb, 0, none⟩) (64 * n) (64 * n)) := cell_of_block HR.out.hd rfl
              have c3 : wr.cell? ⟨q, 3, none⟩ = some (.slice (some ⟨gd, 0, none⟩) c.length cd) := cell_of_block HR.out.hd rfl
              have d0 : W2.cell? ⟨q, 0, none⟩ = some (.slice (some ⟨sb, 0, none⟩) (64 * n) (64 * n)) := cell_of_block HR2.out.hd rfl
              have d3 : W2.cell? ⟨q, 3, none⟩ = some (.slice (some ⟨gd, 0, none⟩) c.length cd) := cell_of_block HR2.out.hd rfl
              have d1 : W2.cell? ⟨gd, j, none⟩ = some u := hk2.cell (show wr.drew.cell? ⟨gd, j, none⟩ = some u from cd1) (fun e => (HR.out.fd gd rfl).2.2.1 e)
              have m1 : IntKind.i64.wrap (64 * (xi : Int)) = 64 * (xi : Int) := by rw [IntKind.wrap_i64]; omega
              have m2 : IntKind.i64.wrap (64 * (xi : Int) + 32) = 64 * (xi : Int) + 32 := by rw [IntKind.wrap_i64]; omega
              have hxin : (0 : Int) ≤ (j : Int) := by omega
              generalize hbv : Value.slice (some ⟨sb, 0, none⟩) (64 * n) (64 * n) = bv at hsl c0 d0
              generalize hbd : Value.slice (some ⟨sb, 64 * xi, none⟩) 32 (64 * n - 64 * xi) = bd at hsl hrun
              have z0 : wr.drew.cell? ⟨q, 0, none⟩ = some bv := c0
              have z3 : wr.drew.cell? ⟨q, 3, none⟩ = some (.slice (some ⟨gd, 0, none⟩) c.length cd) := c3
              have z1 : wr.drew.cell? ⟨gd, j, none⟩ = some u := cd1
              clear hkj hRd rv1 hs2 hk2 hbv hbd hlt2 ca1
              go_wp2
              go_region_held3 (fun w' => w'.cell? ⟨q, 0, none⟩ = some bv ∧ w'.cell? ⟨q, 3, none⟩ = some (.slice (some ⟨gd, 0, none⟩) c.length cd) ∧ w'.cell? ⟨gd, j, none⟩ = some u) (first | exact ⟨by assumption, by assumption, by assumption⟩) (fail)
              go_wp2
              go_roundw
              case rel => exact ⟨j + 1, by go_num, by omega, by rw [HSTEP.out]; exact HR2.out, HK2.out⟩
              case measure => simp [intOf]; omega
            · have hkj : kbit keep j = false := by rw [HKJ.out]; simp [hbit]
              have HSTEP := mkHid (HST.out.trans (HC0.out hkj))
              clear hkj
              go_wp2
              go_roundw
              case rel => exact ⟨j + 1, by go_num, by omega, by rw [HSTEP.out]; exact HR.out, HK.out⟩
              case measure => simp [intOf]; omega
      · go_wp2
        go_loopw [9, 10] (fun bv iv wq => ∃ t : Nat, iv = .int .i64 (t : Int) ∧ t ≤ M ∧ bv = .int .u64 (keep / 2 ^ t) ∧ wq = wr) (fun _ iv _ => M - (intOf iv).toNat)
        case atStart => exact ⟨0, rfl, Nat.zero_le _, by simp, rfl⟩
        case round =>
          obtain ⟨t, rfl, ht, rfl, rfl⟩ := hrel
          obtain ⟨hd1, hd2, hd3⟩ := HDIV.out t
          by_cases htM : t < M
          · have hti : (t : Int) < M := by omega
            have HD1 := mkHid hd1
            clear hd1
            generalize hbt : keep / 2 ^ t = bt at *
            go_wp2
            go_roundw
            case rel => exact ⟨t + 1, by go_num, by omega, by rw [← HD1.out], by first | rfl | trivial⟩
            case measure => simp [intOf]; omega
          · obtain rfl : t = M := by omega
            generalize hbt : keep / 2 ^ t = bt at *
            by_cases hbit : bt % 2 = 1
            · have hkj : kbit keep j = true := by rw [HKJ.out]; simp [hbit]
              have HSTEP := mkHid (HST.out.trans (HC1.out hkj))
              have hn1 := HR.out.n1
              have hRd := HR.out.kept (Kept.drew (fun _ => False) wr) (fun _ _ e => e)
              have hsl := slice_row sb n xi 64 (64 * (xi : Int)) (64 * (xi : Int) + 64) rfl rfl (by omega) (by omega)
              obtain ⟨v1, sv1, rv1⟩ := HRU.out.headS 64 64 rfl (by have := HSX.out.len; omega)
              have hlt2 : (xb.take 64).length = 64 := by rw [List.length_take, HSX.out.len]; rfl
              obtain ⟨W2, hrun, hs2, hk2⟩ := copy_into (w := wr.drew) 3 sb (64 * xi) 64 (64 * n - 64 * xi) _ 5 hRd.hs v1 (xb.take 64) rv1.drew (by omega) (by omega) (by have := conc_len n _ hRd.ss; simp; omega)
              rw [splice_map, conc_splice n _ hRd.ss xi (by omega) _ (by omega)] at hs2
              have HR2 := mkHid (hRd.safe hk2 hs2 (updI_sec hRd.ss (laid_sec (hRd.ss _) (fun b hb => HSX.out.byts b (List.mem_of_mem_take hb)) (by omega))))
              have HK2 : Hid (Kept F w W2) := mkHid (HK.out.trans ((Kept.drew (fun k => k = sb) wr).trans hk2 (fun _ e => .inl e)) (fun k e => .inl (by rw [e]; exact HR.out.fs_.1)))
              have c0 : wr.cell? ⟨q, 0, none⟩ = some (.slice (some ⟨sb, 0, none⟩) (64 * n) (64 * n)) := cell_of_block HR.out.hd rfl
              have c3 : wr.cell? ⟨q, 3, none⟩ = some (.slice (some ⟨gd, 0, none⟩) c.length cd) := cell_of_block HR.out.hd rfl
              have d0 : W2.cell? ⟨q, 0, none⟩ = some (.slice (some ⟨sb, 0, none⟩) (64 * n) (64 * n)) := cell_of_block HR2.out.hd rfl
              have d3 : W2.cell? ⟨q, 3, none⟩ = some (.slice (some ⟨gd, 0, none⟩) c.length cd) := cell_of_block HR2.out.hd rfl
              have d1 : W2.cell? ⟨gd, j, none⟩ = some u := hk2.cell (show wr.drew.cell? ⟨gd, j, none⟩ = some u from cd1) (fun e => (HR.out.fd gd rfl).2.2.1 e)
              have m1 : IntKind.i64.wrap (64 * (xi : Int)) = 64 * (xi : Int) := by rw [IntKind.wrap_i64]; omega
              have m2 : IntKind.i64.wrap (64 * (xi : Int) + 64) = 64 * (xi : Int) + 64 := by rw [IntKind.wrap_i64]; omega
              have hxin : (0 : Int) ≤ (j : Int) := by omega
              generalize hbv : Value.slice (some ⟨sb, 0, none⟩) (64 * n) (64 * n) = bv at hsl c0 d0
              generalize hbd : Value.slice (some ⟨sb, 64 * xi, none⟩) 64 (64 * n - 64 * xi) = bd at hsl hrun
              have z0 : wr.drew.cell? ⟨q, 0, none⟩ = some bv := c0
              have z3 : wr.drew.cell? ⟨q, 3, none⟩ = some (.slice (some ⟨gd, 0, none⟩) c.length cd) := c3
              have z1 : wr.drew.cell? ⟨gd, j, none⟩ = some u := cd1
              clear hkj hRd rv1 hs2 hk2 hbv hbd hlt2 ca1
              go_wp2
              go_region_held3 (fun w' => w'.cell? ⟨q, 0, none⟩ = some bv ∧ w'.cell? ⟨q, 3, none⟩ = some (.slice (some ⟨gd, 0, none⟩) c.length cd) ∧ w'.cell? ⟨gd, j, none⟩ = some u) (first | exact ⟨by assumption, by assumption, by assumption⟩) (fail)
              go_wp2
              go_roundw
              case rel => exact ⟨j + 1, by go_num, by omega, by rw [HSTEP.out]; exact HR2.out, HK2.out⟩
              case measure => simp [intOf]; omega
            · have hkj : kbit keep j = false := by rw [HKJ.out]; simp [hbit]
              have HSTEP := mkHid (HST.out.trans (HC0.out hkj))
              clear hkj
              go_wp2
              go_roundw
              case rel => exact ⟨j + 1, by go_num, by omega, by rw [HSTEP.out]; exact HR.out, HK.out⟩
              case measure => simp [intOf]; omega
    · obtain rfl : j = c.length := by omega
      have hji : ¬ ((c.length : Nat) : Int) < c.length := by omega
      have l1 := conc_len n _ hR.ss
      have l2 := conc_len n fn hR.sn
      have hn0 := hR.n0
      have hRd := hR.kept (Kept.drew (fun _ => False) wr) (fun _ _ e => e)
      obtain ⟨W2, hrun, hs2, hk2⟩ := copy_into (w := wr.drew) 3 nb 0 (64 * n) (64 * n) _ 5 hRd.hn (.slice (some ⟨sb, 0, none⟩) (64 * n) (64 * n)) (conc n (crashedTo (kbit keep) torn fs c c.length)) hRd.rows.1 (by omega) (by omega) (by simp; omega)
      rw [splice_map, splice_all _ _ (by omega)] at hs2
      have hk2' : Kept (fun k => k = sb ∨ k = nb) wr.drew W2 := hk2.mono (fun k e => .inr e)
      have hn2 : W2.heap[sb]? = some (.cells ((conc n (crashedTo (kbit keep) torn fs c c.length)).map (Value.int .u8)).toArray 5 (0, 0)) := by rw [hk2.block sb (hRd.lt sb hRd.fs_.1) (fun e => hR.fn_.2.2 e.symm)]; exact hRd.hs
      obtain ⟨hRR, hKK⟩ := hRd.cleared hk2' hn2 hs2 hR.ss hR.ss
      have HRes := mkHid (And.intro hRR (hK.trans ((Kept.drew F wr).trans hKK (fun _ e => .inl e)) (fun _ e => .inl e)))
      have hd2 : W2.heap[q]? = _ := (hk2.block q (hRd.lt q hRd.fq) (fun e => hR.fn_.2.1 e.symm)).trans hRd.hd
      have c0 : wr.cell? ⟨q, 0, none⟩ = some (.slice (some ⟨sb, 0, none⟩) (64 * n) (64 * n)) := cell_of_block hR.hd rfl
      have c1 : wr.cell? ⟨q, 1, none⟩ = some (.slice (some ⟨nb, 0, none⟩) (64 * n) (64 * n)) := cell_of_block hR.hd rfl
      have d0 : W2.cell? ⟨q, 0, none⟩ = some (.slice (some ⟨sb, 0, none⟩) (64 * n) (64 * n)) := cell_of_block hd2 rfl
      have d1 : W2.cell? ⟨q, 1, none⟩ = some (.slice (some ⟨nb, 0, none⟩) (64 * n) (64 * n)) := cell_of_block hd2 rfl
      have d2 : W2.cell? ⟨q, 2, none⟩ = some (.slice aa c.length ac) := cell_of_block hd2 rfl
      have d3 : W2.cell? ⟨q, 3, none⟩ = some dv := cell_of_block hd2 rfl
      have z2 : W2.frozen? ⟨q, 2, none⟩ = false := frozen_of_block hd2
      have z3 : W2.frozen? ⟨q, 3, none⟩ = false := frozen_of_block hd2
      generalize hv1 : Value.slice (some ⟨sb, 0, none⟩) (64 * n) (64 * n) = v1 at hrun c0 d0
      generalize hv2 : Value.slice (some ⟨nb, 0, none⟩) (64 * n) (64 * n) = v2 at hrun c1 d1
      have e0 : wr.drew.cell? ⟨q, 0, none⟩ = some v1 := c0
      have e1 : wr.drew.cell? ⟨q, 1, none⟩ = some v2 := c1
      clear hR hK hRd hRR hKK hd2 hs2 hn2 hk2 hk2' hv1 hv2 l1 l2 HR HK HKB
      go_wp2
      go_region_held3 (fun w' => w'.cell? ⟨q, 0, none⟩ = some v1 ∧ w'.cell? ⟨q, 1, none⟩ = some v2) (first | exact ⟨by assumption, by assumption⟩) (fail)
      go_wp2
      go_end0
      exact ⟨rfl, HRes.out.1, HRes.out.2⟩
end Go.Proofs.YtcglonefifldnaaDoor
