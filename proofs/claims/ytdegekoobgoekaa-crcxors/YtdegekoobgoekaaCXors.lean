/- CrcXors: of three rows of one length the check of their xor is the xor of their checks. -/
import Derived.Test.YtdegekoobgoekaaSlips
import Derived.Test.YtdegekoobgoekaaCrc
import Derived.Test.YtdegekoobgoekaaCut
namespace Go.Proofs.Ytdegekoobgoekaa
open Go.ChangeShapes Go.WideShapes Go.ChangeAt Go.RowKit

theorem xor8_lt {a b : Nat} (ha : a < 256) (hb : b < 256) : a ^^^ b < 256 := Nat.xor_lt_two_pow (n := 8) (by simpa using ha) (by simpa using hb)
theorem xor3_ex (x y z : Int) (hx : 0 ≤ x ∧ x ≤ 255) (hy : 0 ≤ y ∧ y ≤ 255) (hz : 0 ≤ z ∧ z ≤ 255) : ∃ u v : Int, bits .xor .u8 x y = u ∧ bits .xor .u8 u z = v ∧ (0 ≤ v ∧ v ≤ 255) ∧ v.toNat = x.toNat ^^^ y.toNat ^^^ z.toNat := by
  have h1 : x.toNat ^^^ y.toNat < 256 := xor8_lt (by omega) (by omega)
  have h2 : x.toNat ^^^ y.toNat ^^^ z.toNat < 256 := xor8_lt h1 (by omega)
  refine ⟨((x.toNat ^^^ y.toNat : Nat) : Int), ((x.toNat ^^^ y.toNat ^^^ z.toNat : Nat) : Int), u8_xor x y (by omega) (by omega) (by omega) (by omega), ?_, ⟨by omega, by omega⟩, by simp⟩
  rw [u8_xor _ z (by omega) (by omega) (by omega) (by omega)]
  simp
theorem zeros_made (n : Nat) : (madeCells (Value.int .u8 0).cells (n * 1)).toList = (List.replicate n (0 : Int)).map (Value.int .u8) := by
  rw [Nat.mul_one, show (Value.int .u8 0).cells = #[Value.int .u8 0] from rfl, toList_madeCells_one]
  simp
theorem zeros_byts (n : Nat) : Byts (List.replicate n (0 : Int)) := fun b hb => by
  have := List.eq_of_mem_replicate hb
  omega
theorem Rd.cellAt {w : World} {a : Option Addr} {m cap : Nat} {bs : List Int} (h : Rd w (.slice a m cap) bs) (k : Nat) (hk : k < bs.length) : ∃ b off, a = some ⟨b, off, none⟩ ∧ w.cell? ⟨b, off + k, none⟩ = some (.int .u8 (bs.getD k 0)) := by
  obtain ⟨hB, a', cap', e, hc, h0, hr⟩ := h
  simp at e
  obtain ⟨rfl, rfl, rfl⟩ := e
  obtain ⟨b, off, rfl, hlt, hcell⟩ := hr (by omega)
  exact ⟨b, off, rfl, hcell k hk⟩
theorem run_min3 (W : World) (ts : Array TypeId) (t : TypeId) (x y z : Int) : (Builtin.min_ ts t #[.int .i64 x, .int .i64 y, .int .i64 z]).run Try.prog W = .ok (.int .i64 (if z < (if y < x then y else x) then z else (if y < x then y else x))) W := by
  by_cases h1 : y < x <;> by_cases h2 : z < y <;> by_cases h3 : z < x <;> simp [Builtin.min_, Builtin.min2, List.foldlM, h1, h2, h3]
set_option maxHeartbeats 3200000 in
theorem cxors_walk (w : World) (va vb vc : Value) (xs ys zs : List Int) (ha : Rd w va xs) (hb : Rd w vb ys) (hc : Rd w vc zs) (la : (xs.length : Int) ≤ 140737488355300) :
    Calls Try.prog 4 #[va, vb, vc] w fun e w' => e = .returned (.bool true) ∧ Below w.heap.size w w' := by
  obtain ⟨i0, hi, hz0, hz1, hz2⟩ := info_parts Try.info5
  obtain ⟨aa, ca, rfl⟩ : ∃ a c, va = .slice a xs.length c := ha.2.imp fun a h => h.imp fun c h => h.1
  obtain ⟨ab, cb, rfl⟩ : ∃ a c, vb = .slice a ys.length c := hb.2.imp fun a h => h.imp fun c h => h.1
  obtain ⟨ac, cc, rfl⟩ : ∃ a c, vc = .slice a zs.length c := hc.2.imp fun a h => h.imp fun c h => h.1
  obtain ⟨n, na, nb, nc, hmin⟩ : ∃ n : Nat, (n : Int) ≤ xs.length ∧ (n : Int) ≤ ys.length ∧ (n : Int) ≤ zs.length ∧ ∀ (W : World) ts t, (Builtin.min_ ts t #[.int .i64 (xs.length : Int), .int .i64 (ys.length : Int), .int .i64 (zs.length : Int)]).run Try.prog W = .ok (.int .i64 (n : Int)) W := by
    refine ⟨min (min xs.length ys.length) zs.length, by omega, by omega, by omega, fun W ts t => ?_⟩
    rw [run_min3]
    congr 2
    split <;> split <;> omega
  have HL : Hid ((n ≤ 140737488355328 ∧ n ≤ maxLen) ∧ (i0.bytes * n ≤ 281474976710656)) := mkHid ⟨⟨by omega, by unfold maxLen; omega⟩, by rw [hz2]; omega⟩
  go_enter Try.func4, Try.ntmps4
  go_wp2_with (first | (go_at_call 5; refine (crcalive_any _).mono ?_; rintro e w1 ⟨rfl, hb1⟩) | (refine wpList_make_full _ rfl (.tmp 19) (.tmp 19) 22 rfl w.heap.size 5 i0 (.int .u8 0) 1 Try.underlying22 hi hz0 hz1 .i64 .i64 (n : Int) (n : Int) n rfl rfl rfl rfl HL.out.2 HL.out.1.2 hb1.size ?_; intro w2 ho2 hg2; have hb2 := hb1.grown hg2 hb1.size (fun k hk => by simp at hk); rw [zeros_made] at ho2; clear hg2))
  obtain ⟨g, hg⟩ : ∃ g, g = w1.heap.size := ⟨_, rfl⟩
  have HG : Hid (w.heap.size ≤ g) := mkHid (by rw [hg]; exact hb1.size)
  rw [← hg] at ho2 ⊢
  clear hg hmin
  have la : n ≤ xs.length := by omega
  have lb : n ≤ ys.length := by omega
  have lc : n ≤ zs.length := by omega
  go_loopw [23] (fun iv wr => ∃ (k : Nat) (us : List Int), iv = .int .i64 k ∧ k ≤ n ∧ Byts us ∧ us.length = n ∧ Hid (∀ j, j < k → (us.getD j 0).toNat = (xs.getD j 0).toNat ^^^ (ys.getD j 0).toNat ^^^ (zs.getD j 0).toNat) ∧ wr.ownsRow w.heap.size 5 1 (.slice (some ⟨g, 0, none⟩) n n) n (us.map (Value.int .u8)) ∧ Below w.heap.size w wr) (fun iv _ => n - (intOf iv).toNat)
  case atStart => exact ⟨0, List.replicate n 0, rfl, Nat.zero_le _, zeros_byts n, by simp, mkHid (fun j hj => by omega), ho2, hb2⟩
  case round =>
    clear ho2 hb2 hb1
    obtain ⟨k, us, rfl, hk, hU, hul, HE, ho, hbel⟩ := hrel
    by_cases hlt : k < n
    · have HA := mkHid (ha.later hbel)
      have HB := mkHid (hb.later hbel)
      have HC := mkHid (hc.later hbel)
      obtain ⟨ba, oa, ea, ca1⟩ := HA.out.cellAt k (by omega)
      obtain ⟨bb, ob, eb, cb1⟩ := HB.out.cellAt k (by omega)
      obtain ⟨bc, oc, ec, cc1⟩ := HC.out.cellAt k (by omega)
      subst ea eb ec
      have hki : (k : Int) < n := by omega
      have hka : (k : Int) < xs.length := by omega
      have hkb : (k : Int) < ys.length := by omega
      have hkc : (k : Int) < zs.length := by omega
      obtain ⟨u, v, e1, e2, hv, hvx⟩ := xor3_ex (xs.getD k 0) (ys.getD k 0) (zs.getD k 0) (HA.out.1.at k) (HB.out.1.at k) (HC.out.1.at k)
      obtain ⟨q1, q2, q3⟩ := own_set v ho hlt
      have HQ : Hid (∀ W, W = (wr.setCell ⟨g, k, none⟩ (.int .u8 v)).drew → W.ownsRow w.heap.size 5 1 (.slice (some ⟨g, 0, none⟩) n n) n ((us.set k v).map (Value.int .u8)) ∧ Below w.heap.size w W) := mkHid (fun W hW => by subst hW; exact ⟨q1, (hbel.setCell (p := ⟨g, k, none⟩) HG.out _).drew⟩)
      have HE2 : Hid (∀ j, j < k + 1 → ((us.set k v).getD j 0).toNat = (xs.getD j 0).toNat ^^^ (ys.getD j 0).toNat ^^^ (zs.getD j 0).toNat) := mkHid (fun j hj => by
        by_cases hjk : j = k
        · subst hjk
          rw [← hvx]
          simp [List.getD, hul, hlt]
        · rw [← HE.out j (by omega)]
          simp [List.getD, show ¬ k = j by omega])
      clear q1 hvx HE
      generalize xs.getD k 0 = x0 at *
      generalize ys.getD k 0 = y0 at *
      generalize zs.getD k 0 = z0 at *
      go_wp2
      go_region
      all_goals go_wp2
      all_goals go_roundw
      case rel => exact ⟨k + 1, us.set k v, by go_num, by omega, hU.set k hv, by simpa using hul, HE2, (HQ.out _ rfl).1, (HQ.out _ rfl).2⟩
      case measure => simp [intOf]; omega
    · obtain rfl : k = n := by omega
      have hru : Rd wr (.slice (some ⟨g, 0, none⟩) k k) us := Rd.of_owns hU (by rw [hul]; exact ho)
      obtain ⟨va, sa, ra⟩ := (ha.later hbel).head3S (k : Int) k rfl la
      obtain ⟨vb, sb, rb⟩ := (hb.later hbel).head3S (k : Int) k rfl lb
      obtain ⟨vc, sc, rc⟩ := (hc.later hbel).head3S (k : Int) k rfl lc
      have hx := csum_xor3 k xs ys zs us la lb lc hul HE.out
      have l1 := csum_lt ra.1
      have l2 := csum_lt rb.1
      have l3 := csum_lt rc.1
      have hl1 : ((xs.take k).length : Int) ≤ 140737488356000 := by rw [List.length_take]; omega
      have hl2 : ((ys.take k).length : Int) ≤ 140737488356000 := by rw [List.length_take]; omega
      have hl3 : ((zs.take k).length : Int) ≤ 140737488356000 := by rw [List.length_take]; omega
      have HS0 : Hid (∀ j, Calls Try.prog 7 #[.slice (some ⟨g, 0, none⟩) k k] (wr.drewN j) fun e w' => e = .returned (.int .u32 (csum us)) ∧ w' = wr.drewN j) := mkHid (fun j => crcsum_any _ _ us (hru.drewN j) (by omega))
      have HS1 : Hid (∀ j, Calls Try.prog 7 #[va] (wr.drewN j) fun e w' => e = .returned (.int .u32 (csum (xs.take k))) ∧ w' = wr.drewN j) := mkHid (fun j => crcsum_any _ _ _ (ra.drewN j) hl1)
      have HS2 : Hid (∀ j, Calls Try.prog 7 #[vb] (wr.drewN j) fun e w' => e = .returned (.int .u32 (csum (ys.take k))) ∧ w' = wr.drewN j) := mkHid (fun j => crcsum_any _ _ _ (rb.drewN j) hl2)
      have HS3 : Hid (∀ j, Calls Try.prog 7 #[vc] (wr.drewN j) fun e w' => e = .returned (.int .u32 (csum (zs.take k))) ∧ w' = wr.drewN j) := mkHid (fun j => crcsum_any _ _ _ (rc.drewN j) hl3)
      rw [hx] at HS0
      generalize csum (xs.take k) = A at *
      generalize csum (ys.take k) = B at *
      generalize csum (zs.take k) = C at *
      have hAB : A ^^^ B < 4294967296 := Nat.xor_lt_two_pow (n := 32) (by simpa using l1) (by simpa using l2)
      have x1 : bits .xor .u32 (A : Int) B = ((A ^^^ B : Nat) : Int) := u32_xor_nat A B l1 l2
      have x2 : bits .xor .u32 ((A ^^^ B : Nat) : Int) C = ((A ^^^ B ^^^ C : Nat) : Int) := u32_xor_nat (A ^^^ B) C hAB l3
      generalize A ^^^ B = D at *
      generalize D ^^^ C = E at *
      clear hx l1 l2 l3 hl1 hl2 hl3 ra rb rc hru HE ha hb hc hAB ho
      go_wp2
      go_quiet (first | (go_at_call 7; first | with_reducible exact Calls.quiet_of_same (HS0.out _) | with_reducible exact Calls.quiet_of_same (HS1.out _) | with_reducible exact Calls.quiet_of_same (HS2.out _) | with_reducible exact Calls.quiet_of_same (HS3.out _)))
      go_wp2
      go_ret
      exact ⟨rfl, hbel.trans ⟨rfl, rfl, rfl, Nat.le_refl _, fun _ _ => rfl⟩⟩
end Go.Proofs.Ytdegekoobgoekaa
