/- sink. -/
import Derived.Test.YtjlmkmhggkcbhaaDoorPrise
import Derived.Deep.QuietTactic
import Derived.BigQuiet
namespace Go.Proofs.YtjlmkmhggkcbhaaDoor
open Go.ChangeShapes Go.WideShapes Go.ChangeAt Go.RowKit
set_option maxRecDepth 100000

/-- None of the kids stands ahead. -/
def DownOk (V : List Th) (p : Nat) : Prop := ∀ s, 0 < s → s < V.length → (s - 1) / 2 = p → ¬ Ahd (gt V s) (gt V p)
set_option maxHeartbeats 6400000 in
theorem sink_is (F : Nat → Prop) (w : World) (p : Nat) (T : TypeId) (V : List Th) (x : Th) (V0 : List Th) (i : Nat) (h : Sg F w w p T V x V0 i) (hu : UpOk V0 i) (hl : V.length ≤ 1000000000000) :
    Calls Tryd.prog 61 #[.pointer (some ⟨p, 0, none⟩), .int .i64 (i : Int), tv x] w fun e w' => ∃ (j : Nat) (V' : List Th), e = .returned (.int .i64 (j : Int)) ∧ Sg F w w' p T V x V' j ∧ UpOk V' j ∧ DownOk V' j := by
  have HF : Hid (∀ k, F k → k < w.heap.size) := mkHid (by obtain ⟨xs, m, h1, _⟩ := h.rp; exact h1.1)
  obtain ⟨W, hW⟩ : ∃ W, W = w.alloc (.cells #[.int .i64 x.1, .int .i64 x.2] 52) := ⟨_, rfl⟩
  have hb : Below w.heap.size w W := by rw [hW]; exact (Below.refl _ w).alloc (Nat.le_refl _) _
  have x0 : W.cell? ⟨w.heap.size, 0, none⟩ = some (.int .i64 x.1) := by rw [hW]; simp
  have x1 : W.cell? ⟨w.heap.size, 1, none⟩ = some (.int .i64 x.2) := by rw [hW]; simp
  have HX := mkHid (And.intro x0 x1)
  have HS0 := mkHid (h.below hb)
  have HB := mkHid hb
  have HL := mkHid hl
  have HU := mkHid hu
  clear h hb x0 x1 hl hu
  unfold tv
  go_enter Tryd.func61, Tryd.ntmps61
  go_wp2
  rw [← hW]
  go_loopw [1] (fun iv wr => ∃ (j : Nat) (V' : List Th), iv = .int .i64 (j : Int) ∧ Sg F w wr p T V x V' j ∧ UpOk V' j ∧ Kept F W wr) (fun iv _ => V.length - (intOf iv).toNat)
  case atStart => exact ⟨i, V0, rfl, HS0.out, HU.out, Kept.refl _ _⟩
  case round =>
    clear HS0 hW HU
    obtain ⟨j, V', rfl, hS, hU, hK⟩ := hrel
    have HS := mkHid hS
    have HK := mkHid hK
    have HU := mkHid hU
    have hj : (j : Int) < 1000000000000 := by have := hS.lt; have := hS.len; have := HL.out; omega
    obtain ⟨d, hd⟩ : ∃ d : Nat, Hid (d = 2 * j) := ⟨_, mkHid rfl⟩
    obtain ⟨k, hk⟩ : ∃ k : Nat, Hid (k = d + 1) := ⟨_, mkHid rfl⟩
    obtain ⟨k1, hk1⟩ : ∃ k1 : Nat, Hid (k1 = k + 1) := ⟨_, mkHid rfl⟩
    have e1 : wrap64 (2 * (j : Int)) = (d : Int) := by have := hd.out; unfold wrap64; omega
    have e2 : wrap64 ((d : Int) + 1) = (k : Int) := by have := hd.out; have := hk.out; unfold wrap64; omega
    have e3 : wrap64 ((k : Int) + 1) = (k1 : Int) := by have := hd.out; have := hk.out; have := hk1.out; unfold wrap64; omega
    have e4 : IntKind.i64.wrap ((k : Int) + 1) = (k1 : Int) := by have := hd.out; have := hk.out; have := hk1.out; simp [IntKind.wrap, IntKind.bits, IntKind.signed]; omega
    have hlt := hS.lt
    obtain ⟨xs, m, hR, hH, hI⟩ := hS.rp
    obtain ⟨mb, g, cap, hP⟩ := hR.view (by rw [hH.1]; omega)
    have p0 : wr.cell? ⟨p, 0, none⟩ = some (.slice (some ⟨g, 0, none⟩) xs.length cap) := cell_of_block hP.hd rfl
    have HP := mkHid hP
    have HR := mkHid hR
    have HH := mkHid hH
    have HI := mkHid hI
    have HJ : Hid (j < xs.length) := mkHid (by rw [hH.1]; exact hlt)
    have n0 : ¬ F w.heap.size := fun f => absurd (HF.out _ f) (Nat.lt_irrefl _)
    have x0 := hK.cell HX.out.1 n0
    have x1 := hK.cell HX.out.2 n0
    clear hS hK hU hR hH hI hP hlt hj n0
    by_cases hkn : (xs.length : Int) ≤ k
    · go_wp2
      go_ret
      refine ⟨j, V', rfl, HS.out, HU.out, fun s hs1 hs2 hs3 => ?_⟩
      have := HH.out.1
      have := hd.out
      have := hk.out
      omega
    · have hkl : k < xs.length := by omega
      obtain ⟨y0, y1⟩ := HP.out.at k hkl
      have hkv : gt xs k = gt V' k := HH.out.2 k (by have := hd.out; have := hk.out; omega)
      rw [hkv] at y0 y1
      obtain ⟨y, hy⟩ : ∃ y, y = gt V' k := ⟨_, rfl⟩
      rw [← hy] at y0 y1
      have HY := mkHid hy
      have hki : (k : Int) < xs.length := by omega
      clear hkv hy hkl
      by_cases hk2 : (k1 : Int) < xs.length
      · have hk1l : k1 < xs.length := by omega
        obtain ⟨z0, z1⟩ := HP.out.at k1 hk1l
        have hkv : gt xs k1 = gt V' k1 := HH.out.2 k1 (by have := hd.out; have := hk.out; have := hk1.out; omega)
        rw [hkv] at z0 z1
        obtain ⟨z, hz⟩ : ∃ z, z = gt V' k1 := ⟨_, rfl⟩
        rw [← hz] at z0 z1
        have HZ := mkHid hz
        clear hkv hz hk1l
        have HC : Hid (∀ (w9 : World), Below wr.drew.heap.size wr.drew w9 → Hid (w9.cell? ⟨p, 0, none⟩ = some (.slice (some ⟨g, 0, none⟩) xs.length cap) ∧ w9.cell? ⟨w.heap.size, 0, none⟩ = some (.int .i64 x.1) ∧ w9.cell? ⟨w.heap.size, 1, none⟩ = some (.int .i64 x.2) ∧ w9.cell? ⟨g, k * 2, none⟩ = some (.int .i64 y.1) ∧ w9.cell? ⟨g, k * 2 + 1, none⟩ = some (.int .i64 y.2) ∧ w9.cell? ⟨g, k1 * 2, none⟩ = some (.int .i64 z.1) ∧ w9.cell? ⟨g, k1 * 2 + 1, none⟩ = some (.int .i64 z.2))) := mkHid (fun w9 hb => mkHid ⟨bcell hb p0, bcell hb x0, bcell hb x1, bcell hb y0, bcell hb y1, bcell hb z0, bcell hb z1⟩)
        have hk2d : decide ((k1 : Int) < xs.length) = true := by simp [hk2]
        by_cases haz : Ahd z y
        · have hdz : ahb z y = true := ahb_true haz
          go_wp2
          (try simp only [e1, e2])
          go_region_held3 (fun w' => w'.cell? ⟨p, 0, none⟩ = some (.slice (some ⟨g, 0, none⟩) xs.length cap) ∧ w'.cell? ⟨w.heap.size, 0, none⟩ = some (.int .i64 x.1) ∧ w'.cell? ⟨w.heap.size, 1, none⟩ = some (.int .i64 x.2) ∧ w'.cell? ⟨g, k * 2, none⟩ = some (.int .i64 y.1) ∧ w'.cell? ⟨g, k * 2 + 1, none⟩ = some (.int .i64 y.2) ∧ w'.cell? ⟨g, k1 * 2, none⟩ = some (.int .i64 z.1) ∧ w'.cell? ⟨g, k1 * 2 + 1, none⟩ = some (.int .i64 z.2)) (go_keep) (first | (go_at_call 68; refine (ahead_is z y _).mono ?_; rintro e w2 ⟨rfl, hb⟩; obtain ⟨p0', x0', x1', y0', y1', z0', z1'⟩ := (HC.out w2 hb).out; have HB2 := mkHid hb; clear hb))
          clear HC p0 x0 x1 y0 y1 z0 z1
          go_wp2
          (try simp only [e3])
          have hbw : Below wr.heap.size wr w2 := ((Below.refl _ wr).drew).trans HB2.out
          have HS2 := mkHid (HS.out.below hbw)
          have HR2 := mkHid (HR.out.below hbw)
          have HK2 : Hid (Kept F W w2) := mkHid (HK.out.trans (kept_below F hbw) (fun _ h => .inl h))
          clear hbw
          have HC : Hid (∀ (w9 : World), Below w2.drew.heap.size w2.drew w9 → Hid (w9.cell? ⟨p, 0, none⟩ = some (.slice (some ⟨g, 0, none⟩) xs.length cap) ∧ w9.cell? ⟨w.heap.size, 0, none⟩ = some (.int .i64 x.1) ∧ w9.cell? ⟨w.heap.size, 1, none⟩ = some (.int .i64 x.2) ∧ w9.cell? ⟨g, k1 * 2, none⟩ = some (.int .i64 z.1) ∧ w9.cell? ⟨g, k1 * 2 + 1, none⟩ = some (.int .i64 z.2))) := mkHid (fun w9 hb => mkHid ⟨bcell hb p0', bcell hb x0', bcell hb x1', bcell hb z0', bcell hb z1'⟩)
          have HMIN : Hid (∀ s, 0 < s → s < V'.length → (s - 1) / 2 = j → ¬ Ahd (gt V' s) z) := mkHid (fun s hs1 hs2 hs3 => by have hD := hd.out; have hK := hk.out; have hK1 := hk1.out; rcases (show s = k ∨ s = k1 by omega) with rfl | rfl <;> first | (rw [← HY.out]; exact haz.asymm) | (rw [← HZ.out]; exact Ahd.irrefl _))
          by_cases hax : Ahd z x
          · have hdx : ahb z x = true := ahb_true hax
            go_region_held3 (fun w' => w'.cell? ⟨p, 0, none⟩ = some (.slice (some ⟨g, 0, none⟩) xs.length cap) ∧ w'.cell? ⟨w.heap.size, 0, none⟩ = some (.int .i64 x.1) ∧ w'.cell? ⟨w.heap.size, 1, none⟩ = some (.int .i64 x.2) ∧ w'.cell? ⟨g, k1 * 2, none⟩ = some (.int .i64 z.1) ∧ w'.cell? ⟨g, k1 * 2 + 1, none⟩ = some (.int .i64 z.2)) (go_keep) (first | (go_at_call 68; refine (ahead_is z x _).mono ?_; rintro e w5 ⟨rfl, hb⟩; obtain ⟨p0'', x0'', x1'', z0'', z1''⟩ := (HC.out w5 hb).out; have HB5 := mkHid hb; clear hb))
            have hb5 : Below w2.heap.size w2 w5 := ((Below.refl _ w2).drew).trans HB5.out
            have HR5 := mkHid (HR2.out.below hb5)
            have HS5 := mkHid (HS2.out.below hb5)
            have HK5 : Hid (Kept F W w5) := mkHid (HK2.out.trans (kept_below F hb5) (fun _ h => .inl h))
            clear p0' x0' x1' z0' z1' hb5 HC
            go_wp2_with (first | (go_at_call 62; refine (lay_is F w5 p T xs m j z HR5.out HJ.out).mono ?_; rintro e w6 ⟨rfl, hR6, hK6⟩; have HR6 := mkHid hR6; have HK6 := mkHid hK6; clear hR6 hK6))
            go_roundw
            case rel =>
              have hR6 := HR6.out
              have hmin := HMIN.out
              rw [HZ.out] at hR6 hmin
              have hD := hd.out
              have hK := hk.out
              have hK1 := hk1.out
              have hHl := HH.out.1
              have hdn := HS5.out.hx.down (k := k1) (by omega) (by omega) (by omega) (by rw [← HZ.out, HS5.out.at']; exact hax) hmin
              exact ⟨k1, swp V' j k1, rfl, HS5.out.step HH.out HI.out (by omega) (by omega) hR6 HK6.out hdn.1, hdn.2, HK5.out.trans HK6.out (fun _ h => .inl h)⟩
            case measure =>
              have hD := hd.out
              have hK := hk.out
              have hK1 := hk1.out
              have hHl := HH.out.1
              have := HS.out.len
              simp [intOf]
              omega
          · have hdx : ahb z x = false := ahb_false hax
            go_region_held3 (fun w' => w'.cell? ⟨p, 0, none⟩ = some (.slice (some ⟨g, 0, none⟩) xs.length cap) ∧ w'.cell? ⟨w.heap.size, 0, none⟩ = some (.int .i64 x.1) ∧ w'.cell? ⟨w.heap.size, 1, none⟩ = some (.int .i64 x.2) ∧ w'.cell? ⟨g, k1 * 2, none⟩ = some (.int .i64 z.1) ∧ w'.cell? ⟨g, k1 * 2 + 1, none⟩ = some (.int .i64 z.2)) (go_keep) (first | (go_at_call 68; refine (ahead_is z x _).mono ?_; rintro e w5 ⟨rfl, hb⟩; obtain ⟨p0'', x0'', x1'', z0'', z1''⟩ := (HC.out w5 hb).out; have HB5 := mkHid hb; clear hb))
            have hb5 : Below w2.heap.size w2 w5 := ((Below.refl _ w2).drew).trans HB5.out
            have HS5 := mkHid (HS2.out.below hb5)
            clear hb5
            go_wp2
            go_ret
            refine ⟨j, V', rfl, HS5.out, HU.out, fun s hs1 hs2 hs3 => ?_⟩
            rw [HS5.out.at']
            exact not_ahd_trans (HMIN.out s hs1 hs2 hs3) hax
        · have hdz : ahb z y = false := ahb_false haz
          go_wp2
          (try simp only [e1, e2])
          go_region_held3 (fun w' => w'.cell? ⟨p, 0, none⟩ = some (.slice (some ⟨g, 0, none⟩) xs.length cap) ∧ w'.cell? ⟨w.heap.size, 0, none⟩ = some (.int .i64 x.1) ∧ w'.cell? ⟨w.heap.size, 1, none⟩ = some (.int .i64 x.2) ∧ w'.cell? ⟨g, k * 2, none⟩ = some (.int .i64 y.1) ∧ w'.cell? ⟨g, k * 2 + 1, none⟩ = some (.int .i64 y.2) ∧ w'.cell? ⟨g, k1 * 2, none⟩ = some (.int .i64 z.1) ∧ w'.cell? ⟨g, k1 * 2 + 1, none⟩ = some (.int .i64 z.2)) (go_keep) (first | (go_at_call 68; refine (ahead_is z y _).mono ?_; rintro e w2 ⟨rfl, hb⟩; obtain ⟨p0', x0', x1', y0', y1', z0', z1'⟩ := (HC.out w2 hb).out; have HB2 := mkHid hb; clear hb))
          clear HC p0 x0 x1 y0 y1 z0 z1
          go_wp2
          have hbw : Below wr.heap.size wr w2 := ((Below.refl _ wr).drew).trans HB2.out
          have HS2 := mkHid (HS.out.below hbw)
          have HR2 := mkHid (HR.out.below hbw)
          have HK2 : Hid (Kept F W w2) := mkHid (HK.out.trans (kept_below F hbw) (fun _ h => .inl h))
          clear hbw
          have HC : Hid (∀ (w9 : World), Below w2.drew.heap.size w2.drew w9 → Hid (w9.cell? ⟨p, 0, none⟩ = some (.slice (some ⟨g, 0, none⟩) xs.length cap) ∧ w9.cell? ⟨w.heap.size, 0, none⟩ = some (.int .i64 x.1) ∧ w9.cell? ⟨w.heap.size, 1, none⟩ = some (.int .i64 x.2) ∧ w9.cell? ⟨g, k * 2, none⟩ = some (.int .i64 y.1) ∧ w9.cell? ⟨g, k * 2 + 1, none⟩ = some (.int .i64 y.2))) := mkHid (fun w9 hb => mkHid ⟨bcell hb p0', bcell hb x0', bcell hb x1', bcell hb y0', bcell hb y1'⟩)
          have HMIN : Hid (∀ s, 0 < s → s < V'.length → (s - 1) / 2 = j → ¬ Ahd (gt V' s) y) := mkHid (fun s hs1 hs2 hs3 => by have hD := hd.out; have hK := hk.out; have hK1 := hk1.out; rcases (show s = k ∨ s = k1 by omega) with rfl | rfl <;> first | (rw [← HY.out]; exact Ahd.irrefl _) | (rw [← HZ.out]; exact haz))
          by_cases hax : Ahd y x
          · have hdx : ahb y x = true := ahb_true hax
            go_region_held3 (fun w' => w'.cell? ⟨p, 0, none⟩ = some (.slice (some ⟨g, 0, none⟩) xs.length cap) ∧ w'.cell? ⟨w.heap.size, 0, none⟩ = some (.int .i64 x.1) ∧ w'.cell? ⟨w.heap.size, 1, none⟩ = some (.int .i64 x.2) ∧ w'.cell? ⟨g, k * 2, none⟩ = some (.int .i64 y.1) ∧ w'.cell? ⟨g, k * 2 + 1, none⟩ = some (.int .i64 y.2)) (go_keep) (first | (go_at_call 68; refine (ahead_is y x _).mono ?_; rintro e w5 ⟨rfl, hb⟩; obtain ⟨p0'', x0'', x1'', y0'', y1''⟩ := (HC.out w5 hb).out; have HB5 := mkHid hb; clear hb))
            have hb5 : Below w2.heap.size w2 w5 := ((Below.refl _ w2).drew).trans HB5.out
            have HR5 := mkHid (HR2.out.below hb5)
            have HS5 := mkHid (HS2.out.below hb5)
            have HK5 : Hid (Kept F W w5) := mkHid (HK2.out.trans (kept_below F hb5) (fun _ h => .inl h))
            clear p0' x0' x1' y0' y1' hb5 HC
            go_wp2_with (first | (go_at_call 62; refine (lay_is F w5 p T xs m j y HR5.out HJ.out).mono ?_; rintro e w6 ⟨rfl, hR6, hK6⟩; have HR6 := mkHid hR6; have HK6 := mkHid hK6; clear hR6 hK6))
            go_roundw
            case rel =>
              have hR6 := HR6.out
              have hmin := HMIN.out
              rw [HY.out] at hR6 hmin
              have hD := hd.out
              have hK := hk.out
              have hK1 := hk1.out
              have hHl := HH.out.1
              have hdn := HS5.out.hx.down (k := k) (by omega) (by omega) (by omega) (by rw [← HY.out, HS5.out.at']; exact hax) hmin
              exact ⟨k, swp V' j k, rfl, HS5.out.step HH.out HI.out (by omega) (by omega) hR6 HK6.out hdn.1, hdn.2, HK5.out.trans HK6.out (fun _ h => .inl h)⟩
            case measure =>
              have hD := hd.out
              have hK := hk.out
              have hK1 := hk1.out
              have hHl := HH.out.1
              have := HS.out.len
              simp [intOf]
              omega
          · have hdx : ahb y x = false := ahb_false hax
            go_region_held3 (fun w' => w'.cell? ⟨p, 0, none⟩ = some (.slice (some ⟨g, 0, none⟩) xs.length cap) ∧ w'.cell? ⟨w.heap.size, 0, none⟩ = some (.int .i64 x.1) ∧ w'.cell? ⟨w.heap.size, 1, none⟩ = some (.int .i64 x.2) ∧ w'.cell? ⟨g, k * 2, none⟩ = some (.int .i64 y.1) ∧ w'.cell? ⟨g, k * 2 + 1, none⟩ = some (.int .i64 y.2)) (go_keep) (first | (go_at_call 68; refine (ahead_is y x _).mono ?_; rintro e w5 ⟨rfl, hb⟩; obtain ⟨p0'', x0'', x1'', y0'', y1''⟩ := (HC.out w5 hb).out; have HB5 := mkHid hb; clear hb))
            have hb5 : Below w2.heap.size w2 w5 := ((Below.refl _ w2).drew).trans HB5.out
            have HS5 := mkHid (HS2.out.below hb5)
            clear hb5
            go_wp2
            go_ret
            refine ⟨j, V', rfl, HS5.out, HU.out, fun s hs1 hs2 hs3 => ?_⟩
            rw [HS5.out.at']
            exact not_ahd_trans (HMIN.out s hs1 hs2 hs3) hax
      · have hk1n : Hid (¬ (k1 : Int) < xs.length) := mkHid hk2
        have hk2d : decide (k1 < xs.length) = false := decide_eq_false (by omega)
        have hk2e : ¬ k1 < xs.length := by omega
        go_wp2
        (try simp only [e1, e2])
        go_quiet (fail)
        go_wp2
        obtain ⟨w2, hw2⟩ : ∃ w2, w2 = wr.drewN nq := ⟨_, rfl⟩
        have p0' : w2.cell? ⟨p, 0, none⟩ = some (.slice (some ⟨g, 0, none⟩) xs.length cap) := by rw [hw2]; exact p0
        have x0' : w2.cell? ⟨w.heap.size, 0, none⟩ = some (.int .i64 x.1) := by rw [hw2]; exact x0
        have x1' : w2.cell? ⟨w.heap.size, 1, none⟩ = some (.int .i64 x.2) := by rw [hw2]; exact x1
        have y0' : w2.cell? ⟨g, k * 2, none⟩ = some (.int .i64 y.1) := by rw [hw2]; exact y0
        have y1' : w2.cell? ⟨g, k * 2 + 1, none⟩ = some (.int .i64 y.2) := by rw [hw2]; exact y1
        have HB2 : Hid (Below wr.heap.size wr w2) := mkHid (by rw [hw2]; exact ⟨rfl, rfl, rfl, Nat.le_refl _, fun _ _ => rfl⟩)
        rw [← hw2]
        clear hw2 p0 x0 x1 y0 y1
        have hbw : Below wr.heap.size wr w2 := HB2.out
        have HS2 := mkHid (HS.out.below hbw)
        have HR2 := mkHid (HR.out.below hbw)
        have HK2 : Hid (Kept F W w2) := mkHid (HK.out.trans (kept_below F hbw) (fun _ h => .inl h))
        clear hbw
        have HC : Hid (∀ (w9 : World), Below w2.drew.heap.size w2.drew w9 → Hid (w9.cell? ⟨p, 0, none⟩ = some (.slice (some ⟨g, 0, none⟩) xs.length cap) ∧ w9.cell? ⟨w.heap.size, 0, none⟩ = some (.int .i64 x.1) ∧ w9.cell? ⟨w.heap.size, 1, none⟩ = some (.int .i64 x.2) ∧ w9.cell? ⟨g, k * 2, none⟩ = some (.int .i64 y.1) ∧ w9.cell? ⟨g, k * 2 + 1, none⟩ = some (.int .i64 y.2))) := mkHid (fun w9 hb => mkHid ⟨bcell hb p0', bcell hb x0', bcell hb x1', bcell hb y0', bcell hb y1'⟩)
        have HMIN : Hid (∀ s, 0 < s → s < V'.length → (s - 1) / 2 = j → ¬ Ahd (gt V' s) y) := mkHid (fun s hs1 hs2 hs3 => by have hD := hd.out; have hK := hk.out; have hK1 := hk1.out; have := hk1n.out; have := HH.out.1; rcases (show s = k by omega) with rfl; rw [← HY.out]; exact Ahd.irrefl _)
        by_cases hax : Ahd y x
        · have hdx : ahb y x = true := ahb_true hax
          go_region_held3 (fun w' => w'.cell? ⟨p, 0, none⟩ = some (.slice (some ⟨g, 0, none⟩) xs.length cap) ∧ w'.cell? ⟨w.heap.size, 0, none⟩ = some (.int .i64 x.1) ∧ w'.cell? ⟨w.heap.size, 1, none⟩ = some (.int .i64 x.2) ∧ w'.cell? ⟨g, k * 2, none⟩ = some (.int .i64 y.1) ∧ w'.cell? ⟨g, k * 2 + 1, none⟩ = some (.int .i64 y.2)) (go_keep) (first | (go_at_call 68; refine (ahead_is y x _).mono ?_; rintro e w5 ⟨rfl, hb⟩; obtain ⟨p0'', x0'', x1'', y0'', y1''⟩ := (HC.out w5 hb).out; have HB5 := mkHid hb; clear hb))
          have hb5 : Below w2.heap.size w2 w5 := ((Below.refl _ w2).drew).trans HB5.out
          have HR5 := mkHid (HR2.out.below hb5)
          have HS5 := mkHid (HS2.out.below hb5)
          have HK5 : Hid (Kept F W w5) := mkHid (HK2.out.trans (kept_below F hb5) (fun _ h => .inl h))
          clear p0' x0' x1' y0' y1' hb5 HC
          go_wp2_with (first | (go_at_call 62; refine (lay_is F w5 p T xs m j y HR5.out HJ.out).mono ?_; rintro e w6 ⟨rfl, hR6, hK6⟩; have HR6 := mkHid hR6; have HK6 := mkHid hK6; clear hR6 hK6))
          go_roundw
          case rel =>
            have hR6 := HR6.out
            have hmin := HMIN.out
            rw [HY.out] at hR6 hmin
            have hD := hd.out
            have hK := hk.out
            have hK1 := hk1.out
            have hHl := HH.out.1
            have hdn := HS5.out.hx.down (k := k) (by omega) (by omega) (by omega) (by rw [← HY.out, HS5.out.at']; exact hax) hmin
            exact ⟨k, swp V' j k, rfl, HS5.out.step HH.out HI.out (by omega) (by omega) hR6 HK6.out hdn.1, hdn.2, HK5.out.trans HK6.out (fun _ h => .inl h)⟩
          case measure =>
            have hD := hd.out
            have hK := hk.out
            have hK1 := hk1.out
            have hHl := HH.out.1
            have := HS.out.len
            simp [intOf]
            omega
        · have hdx : ahb y x = false := ahb_false hax
          go_region_held3 (fun w' => w'.cell? ⟨p, 0, none⟩ = some (.slice (some ⟨g, 0, none⟩) xs.length cap) ∧ w'.cell? ⟨w.heap.size, 0, none⟩ = some (.int .i64 x.1) ∧ w'.cell? ⟨w.heap.size, 1, none⟩ = some (.int .i64 x.2) ∧ w'.cell? ⟨g, k * 2, none⟩ = some (.int .i64 y.1) ∧ w'.cell? ⟨g, k * 2 + 1, none⟩ = some (.int .i64 y.2)) (go_keep) (first | (go_at_call 68; refine (ahead_is y x _).mono ?_; rintro e w5 ⟨rfl, hb⟩; obtain ⟨p0'', x0'', x1'', y0'', y1''⟩ := (HC.out w5 hb).out; have HB5 := mkHid hb; clear hb))
          have hb5 : Below w2.heap.size w2 w5 := ((Below.refl _ w2).drew).trans HB5.out
          have HS5 := mkHid (HS2.out.below hb5)
          clear hb5
          go_wp2
          go_ret
          refine ⟨j, V', rfl, HS5.out, HU.out, fun s hs1 hs2 hs3 => ?_⟩
          rw [HS5.out.at']
          exact not_ahd_trans (HMIN.out s hs1 hs2 hs3) hax
end Go.Proofs.YtjlmkmhggkcbhaaDoor
