/- What the function Sum of package tick answers: the exact sum of the list, or that it doesn't fit. -/
import Derived.Test.YtpjlppffehjemaaTick
import Derived.Laws.Externs
namespace Go.Proofs.Ytpjlppffehjemaa
open Go.ChangeShapes Go.WideShapes Go.ChangeAt Go.RowKit

theorem add64_0 (x y : Int) (hx : 0 ≤ x) (hy : 0 ≤ y) (w : World) : (callFunc 31 #[.int .u64 x, .int .u64 y, .int .u64 0]).run Try.prog w =
    .ok (.value (.tuple #[.int .u64 ((x + y) % 18446744073709551616), .int .u64 ((x + y) / 18446744073709551616)])) w := by
  rw [run_callFunc_extern Try.func31 (by kernel_rfl) (by kernel_rfl) (by kernel_rfl) (e := add64Entry) (by kernel_rfl), run_add64 x y 0 hx hy (Int.le_refl 0) (by decide)]
  simp [Result.andThen]
/-- A slice of 64-bit integers that reads as the list zs. -/
def Reads (w : World) (v : Value) (zs : List Int) : Prop :=
  ∃ a cap, v = .slice a zs.length cap ∧ (∀ z ∈ zs, -9223372036854775808 ≤ z ∧ z ≤ 9223372036854775807) ∧
    (0 < zs.length → ∃ b off, a = some ⟨b, off, none⟩ ∧ ∀ k, k < zs.length → w.cell? ⟨b, off + k, none⟩ = some (.int .i64 (zs.getD k 0)))
theorem sum_bound (zs : List Int) (h : ∀ z ∈ zs, -9223372036854775808 ≤ z ∧ z ≤ 9223372036854775807) : -9223372036854775808 * (zs.length : Int) ≤ zs.sum ∧ zs.sum ≤ 9223372036854775807 * (zs.length : Int) := by
  induction zs with
  | nil => simp
  | cons z zs ih =>
    have h1 := h z (by simp)
    have h2 := ih (fun y hy => h y (by simp [hy]))
    simp only [List.sum_cons, List.length_cons]
    omega
theorem take_sum (zs : List Int) (k : Nat) (h : k < zs.length) : (zs.take (k + 1)).sum = (zs.take k).sum + zs.getD k 0 := by
  rw [List.take_succ_eq_append_getElem h, List.sum_append]
  simp [List.getD, h]
theorem take_bound (zs : List Int) (h : ∀ z ∈ zs, -9223372036854775808 ≤ z ∧ z ≤ 9223372036854775807) (k : Nat) (hk : k ≤ zs.length) :
    -9223372036854775808 * (k : Int) ≤ (zs.take k).sum ∧ (zs.take k).sum ≤ 9223372036854775807 * (k : Int) := by
  have := sum_bound (zs.take k) (fun z hz => h z (List.mem_of_mem_take hz))
  rw [List.length_take, Nat.min_eq_left hk] at this
  exact this
/-- One step of the sum of 128 bits. -/
theorem sum_step (S n : Int) (h1 : -9223372036854775808 ≤ n) (h2 : n ≤ 9223372036854775807) :
    (S % 18446744073709551616 + n % 18446744073709551616) % 18446744073709551616 = (S + n) % 18446744073709551616 ∧
    S / 18446744073709551616 + n / 9223372036854775808 + (S % 18446744073709551616 + n % 18446744073709551616) / 18446744073709551616 = (S + n) / 18446744073709551616 := by omega
theorem sum_end_no (S : Int) (h : (S / 18446744073709551616 != wrap64 (S % 18446744073709551616) / 9223372036854775808) = true) : fitB S = false := by
  have h' : S / 18446744073709551616 ≠ wrap64 (S % 18446744073709551616) / 9223372036854775808 := by simpa using h
  apply fitB_no
  unfold wrap64 at h'
  omega
theorem sum_end_yes (S : Int) (h : (S / 18446744073709551616 != wrap64 (S % 18446744073709551616) / 9223372036854775808) = false) : fitB S = true ∧ wrap64 (S % 18446744073709551616) = S := by
  have h' : S / 18446744073709551616 = wrap64 (S % 18446744073709551616) / 9223372036854775808 := by simpa using h
  unfold wrap64 at h' ⊢
  exact ⟨fitB_yes (by omega) (by omega), by omega⟩
set_option maxHeartbeats 800000 in
theorem tickSum_some (zs : List Int) (b off cap : Nat) (w : World) (hl : zs.length ≤ 140737488355328) (hz : ∀ z ∈ zs, -9223372036854775808 ≤ z ∧ z ≤ 9223372036854775807)
    (hc : ∀ k, k < zs.length → w.cell? ⟨b, off + k, none⟩ = some (.int .i64 (zs.getD k 0))) :
    Calls Try.prog 13 #[.slice (some ⟨b, off, none⟩) zs.length cap] w fun e w' => e = .returned (.tuple #[.int .i64 (fitN zs.sum), .bool (fitB zs.sum)]) ∧ w' = w := by
  go_enter Try.func13, Try.ntmps13
  go_wp2
  go_loop [4, 5, 12] (fun hv lv iv => ∃ k : Nat, k ≤ zs.length ∧ iv = .int .i64 k ∧ hv = .int .i64 ((zs.take k).sum / 18446744073709551616) ∧ lv = .int .u64 ((zs.take k).sum % 18446744073709551616))
    (fun _ _ iv => zs.length - (intOf iv).toNat)
  case atStart => exact ⟨0, Nat.zero_le _, rfl, rfl, rfl⟩
  case round =>
    obtain ⟨k, hk, rfl, rfl, rfl⟩ := hrel
    have hb := take_bound zs hz k hk
    by_cases hlt : k < zs.length
    · have hcell := hc k hlt
      have hs := take_sum zs k hlt
      have hn : -9223372036854775808 ≤ zs.getD k 0 ∧ zs.getD k 0 ≤ 9223372036854775807 := by
        have : zs.getD k 0 ∈ zs := by simp [List.getD, hlt]
        exact hz _ this
      have hs' : Hid ((zs.take (k + 1)).sum = (zs.take k).sum + zs.getD k 0) := hs
      clear hs hc hz
      generalize (zs.take k).sum = S at *
      generalize zs.getD k 0 = n at *
      have e1 := IntKind.wrap_u64 n
      have e2 := add64_0 (S % 18446744073709551616) (n % 18446744073709551616) (by omega) (by omega)
      go_wp2
      go_round
      case rel => exact ⟨k + 1, by omega, by go_num, by rw [hs'.out]; congr 1; omega, by rw [hs'.out]⟩
      case measure => simp [intOf]; omega
    · have hk' : zs.take k = zs := List.take_of_length_le (by omega)
      rw [hk'] at hb
      have hl' : k = zs.length := by omega
      clear hc hz
      subst hl'
      rw [hk']
      go_wp2
      · go_ret2
        have := sum_end_no zs.sum (by assumption)
        exact ⟨ret2 (fitN_of_not this).symm this.symm, rfl⟩
      · go_ret2
        have := sum_end_yes zs.sum (by assumption)
        exact ⟨ret2 (by rw [fitN_of_fitB this.1]; exact this.2) this.1.symm, rfl⟩
theorem tickSum_none (a : Option Addr) (cap : Nat) (w : World) :
    Calls Try.prog 13 #[.slice a 0 cap] w fun e w' => e = .returned (.tuple #[.int .i64 (fitN 0), .bool (fitB 0)]) ∧ w' = w := by
  go_enter Try.func13, Try.ntmps13
  go_wp2
  go_loop [4, 5, 12] (fun hv lv iv => hv = .int .i64 0 ∧ lv = .int .u64 0 ∧ iv = .int .i64 0) (fun _ _ _ => 0)
  case atStart => exact ⟨rfl, rfl, rfl⟩
  case round =>
    obtain ⟨rfl, rfl, rfl⟩ := hrel
    go_wp2
    go_ret2
    exact ⟨ret2 (by decide) (by decide), rfl⟩
/-- Sum of package tick, at whatever slice of integers. -/
theorem tickSum_any (zs : List Int) (v : Value) (w : World) (hl : zs.length ≤ 140737488355328) (h : Reads w v zs) :
    Calls Try.prog 13 #[v] w fun e w' => e = .returned (.tuple #[.int .i64 (fitN zs.sum), .bool (fitB zs.sum)]) ∧ w' = w := by
  obtain ⟨a, cap, rfl, hz, hr⟩ := h
  by_cases h0 : 0 < zs.length
  · obtain ⟨b, off, rfl, hc⟩ := hr h0
    exact tickSum_some zs b off cap w hl hz hc
  · obtain rfl : zs = [] := List.length_eq_zero_iff.mp (by omega)
    exact tickSum_none a cap w
end Go.Proofs.Ytpjlppffehjemaa
