/- Package demand: Steps; the law DemandSteps. -/
import Derived.Test.YtilnchlnlnpkfaaDoorDm11
import Derived.Test.YtilnchlnlnpkfaaDoorSrcV
namespace Go.Proofs.YtilnchlnlnpkfaaDoor
open Go.ChangeShapes Go.WideShapes Go.ChangeAt Go.RowKit
set_option maxRecDepth 100000
set_option maxRecDepth 100000
set_option linter.unusedVariables false
attribute [local go_sem] World.cell?_alloc_some frozen_alloc_some

theorem own_shape {w : World} {base : Nat} {e : TypeId} {size : Nat} {v : Value} {n : Nat} {xs : List Value} (h : w.ownsRow base e size v n xs) : ∃ a c, v = .slice a n c := by
  rcases h.2 with ⟨rfl, h0⟩ | ⟨g, cap, cur, rfl, _⟩
  · exact ⟨none, 0, by rw [h0]⟩
  · exact ⟨_, _, rfl⟩
theorem own_keep {F : Nat → Prop} {w w' : World} {base : Nat} {e : TypeId} {v : Value} {n : Nat} {xs : List Value} (h : w.ownsRow base e 1 v n xs) (hk : Kept F w w') (hn : ∀ k, v.ownBlock = some k → ¬ F k) : w'.ownsRow base e 1 v n xs := by
  refine ⟨h.1, h.2.imp id ?_⟩
  rintro ⟨g, cap, cur, rfl, hb, hg, rest⟩
  exact ⟨g, cap, cur, rfl, hb, by rw [hk.block g (Array.getElem?_eq_some_iff.1 hg).1 (hn g rfl)]; exact hg, rest⟩
theorem own_late {w w' : World} {base : Nat} {e : TypeId} {v : Value} {n : Nat} {xs : List Value} (h : w.ownsRow base e 1 v n xs) (hb : Below w.heap.size w w') : w'.ownsRow base e 1 v n xs :=
  own_keep h (kept_of_below hb) (fun k hk hge => by have := (h.lt k hk).2; omega)
theorem info_int : (Tryd.prog.info? 3).map (fun i => (i.zero, i.size, i.bytes)) = some (some (.int .i64 0), 1, 8) := by kernel_rfl
theorem src_int1 (w : World) (x : Int) : Src Tryd.prog 1 56 (.slice (some ⟨w.heap.size, 0, none⟩) 1 1) 1 [.int .i64 x] (w.alloc (.cells #[.int .i64 x] 3)) := by
  refine Src.ofSlice _ Tryd.underlying56 _ _ _ _ rfl (fun j u hj => ?_) (fun u hu => by simp at hu; subst hu; rfl)
  match j, hj with
  | 0, hj => simp at hj; subst hj; rw [add_none]; simp
  | j + 1, hj => simp at hj
/-- Where the demand of servers grows, up to n. -/
def stp (xs : List Sv) : Nat → List Int
  | 0 => []
  | n + 1 => stp xs n ++ if tot (sdem · (n : Int)) xs < tot (sdem · ((n : Int) + 1)) xs then [(n : Int) + 1] else []
theorem stp_yes {xs : List Sv} {n : Nat} (h : tot (sdem · (n : Int)) xs < tot (sdem · ((n : Int) + 1)) xs) : stp xs (n + 1) = stp xs n ++ [(n : Int) + 1] := by
  show stp xs n ++ _ = _
  rw [if_pos h]
theorem stp_no {xs : List Sv} {n : Nat} (h : ¬ tot (sdem · (n : Int)) xs < tot (sdem · ((n : Int) + 1)) xs) : stp xs (n + 1) = stp xs n := by
  show stp xs n ++ _ = _
  rw [if_neg h, List.append_nil]
theorem stp_len (xs : List Sv) (n : Nat) : (stp xs n).length ≤ n := by
  induction n with
  | zero => exact Nat.le_refl _
  | succ n ih =>
    by_cases h : tot (sdem · (n : Int)) xs < tot (sdem · ((n : Int) + 1)) xs
    · rw [stp_yes h, List.length_append, List.length_singleton]; omega
    · rw [stp_no h]; omega
theorem stp_grow (xs : List Sv) (n : Nat) : ∀ k, ∃ r, stp xs (n + k) = stp xs n ++ r
  | 0 => ⟨[], by simp⟩
  | k + 1 => by
    obtain ⟨r, hr⟩ := stp_grow xs n k
    exact ⟨r ++ _, by rw [← List.append_assoc, ← hr]; rfl⟩
theorem stp_at {xs : List Sv} {n N : Nat} (hN : n + 1 ≤ N) (h : tot (sdem · (n : Int)) xs < tot (sdem · ((n : Int) + 1)) xs) : (stp xs n).length < (stp xs N).length ∧ (stp xs N)[(stp xs n).length]? = some ((n : Int) + 1) := by
  obtain ⟨r, hr⟩ := stp_grow xs (n + 1) (N - (n + 1))
  rw [show n + 1 + (N - (n + 1)) = N by omega, stp_yes h] at hr
  rw [hr]
  constructor
  · simp
  · simp
/-- Integers in memory. -/
def Ivs (w : World) (v : Value) (ns : List Int) : Prop := ∃ a cap, v = .slice a ns.length cap ∧ ∀ i x, ns[i]? = some x → ∃ b, a = some ⟨b, 0, none⟩ ∧ w.cell? ⟨b, i, none⟩ = some (.int .i64 x)
theorem Ivs.below {w w' : World} {v : Value} {ns : List Int} (h : Ivs w v ns) (hb : Below w.heap.size w w') : Ivs w' v ns := by
  obtain ⟨a, cap, rfl, hc⟩ := h
  refine ⟨a, cap, rfl, fun i x hi => ?_⟩
  obtain ⟨b, rfl, h1⟩ := hc i x hi
  exact ⟨b, rfl, kc h1 hb⟩
theorem ivs_of_owns {w : World} {base : Nat} {v : Value} {ns : List Int} (h : w.ownsRow base 3 1 v ns.length (ns.map (Value.int .i64))) : Ivs w v ns := by
  obtain ⟨a, c, rfl⟩ := own_shape h
  refine ⟨a, c, rfl, fun i x hi => ?_⟩
  rcases h.2 with ⟨e, h0⟩ | ⟨g, cap, cur, e, _⟩
  · have := (List.getElem?_eq_some_iff.mp hi).1
    omega
  · cases e
    have h1 := h.cells (g := g) rfl i (.int .i64 x) (by rw [List.getElem?_map, hi]; rfl)
    rw [add_none, Nat.zero_add] at h1
    exact ⟨g, rfl, h1⟩
set_option maxHeartbeats 3200000 in
theorem steps_ok (w : World) (v : Value) (xs : List Sv) (most N : Int) (K : Nat) (h : Svs w v xs) (hx : ∀ x ∈ xs, okS x) (hn : xs.length ≤ 8) (hN : (¬ 4096 < most ∧ N = most) ∨ (4096 < most ∧ N = 4096)) (hK : K = N.toNat) :
    Calls Tryd.prog 30 #[v, .int .i64 most] w fun e w' => ∃ r, e = .returned r ∧ Ivs w' r (stp xs K) ∧ Below w.heap.size w w' := by
  have H1 := mkHid (chk_any w v xs 0 h hx hn .nilIface (fun W _ => len_ok W 0 (by omega) (by omega)))
  have H2 : Hid (∀ W l, Below w.heap.size w W → 0 ≤ l → l ≤ 1099511627776 → Calls Tryd.prog 32 #[v, .int .i64 l, .func (.func 33) #[] #[]] W fun e w' => e = .returned (.int .i64 (tot (sdem · l) xs)) ∧ Below W.heap.size W w') := mkHid (fun W l hb l0 l1 => tot_sdem W v xs l (h.below hb) hx hn l0 l1)
  have HZ := mkHid (tot_zero hx)
  obtain ⟨ie, hie⟩ : ∃ ie, Hid (Tryd.prog.info? 3 = some ie ∧ ie.zero = some (.int .i64 0) ∧ ie.size = 1 ∧ ie.bytes = 8) := by
    obtain ⟨ie, h1, h2, h3, h4⟩ := info_parts info_int
    exact ⟨ie, mkHid ⟨h1, h2, h3, h4⟩⟩
  have hN1 : N ≤ 4096 := by omega
  have HK : Hid (K = N.toNat) := mkHid hK
  clear h hx hK
  rcases hN with ⟨hm, rfl⟩ | ⟨hm, rfl⟩
  · go_enter Tryd.func30, Tryd.ntmps30
    go_wp2_with (go_at_call 31; refine H1.out.mono ?_; rintro e w1 ⟨rfl, b1⟩; have HB1 := mkHid b1; clear b1)
    go_loopw [5, 6, 7] (fun sv nv lv wr => ∃ (j : Nat) (M : Int) (sa : Option Addr) (sc : Nat), sv = .slice sa (stp xs j).length sc ∧ nv = .int .i64 M ∧ lv = .int .i64 ((j : Int) + 1) ∧ j ≤ K ∧ Hid (tot (sdem · (j : Int)) xs = M) ∧ Hid (wr.ownsRow w.heap.size 3 1 (.slice sa (stp xs j).length sc) (stp xs j).length ((stp xs j).map (Value.int .i64))) ∧ Hid (Below w.heap.size w wr)) (fun _ _ lv _ => K + 1 - (intOf lv).toNat)
    case atStart => exact ⟨0, 0, none, 0, rfl, rfl, rfl, Nat.zero_le _, HZ, mkHid (World.ownsRow_nil w1 w.heap.size 3 1), HB1⟩
    case round =>
      obtain ⟨j, M, sa, sc, rfl, rfl, rfl, hj, HM, HO, HB⟩ := hrel
      have hjK : (j : Int) ≤ 4096 := by have := HK.out; omega
      by_cases hlt : (j : Int) + 1 ≤ N
      · have HC := mkHid (H2.out wr ((j : Int) + 1) HB.out (by omega) (by omega))
        obtain ⟨A, hA⟩ : ∃ A, tot (sdem · ((j : Int) + 1)) xs = A := ⟨_, rfl⟩
        have HA := mkHid hA
        rw [hA] at HC
        clear hA
        by_cases hg : M < A
        · have hst : stp xs (j + 1) = stp xs j ++ [(j : Int) + 1] := stp_yes (by rw [HM.out, HA.out]; exact hg)
          have HST := mkHid hst
          have HLE := mkHid (stp_len xs j)
          clear hst
          go_wp2_with (first
            | (go_at_call 32; refine HC.out.mono ?_; rintro e w2 ⟨rfl, b2⟩; have HO2 := mkHid (own_late HO.out b2); have HB2 := mkHid (bt HB.out b2); clear b2)
            | (at_builtin; refine wpList_append_srcV _ rfl (.tmp 24) (.tmp 26) 56 56 rfl w.heap.size 3 ie Tryd.underlying56 hie.out.1 (.int .i64 0) 8 hie.out.2.1 rfl hie.out.2.2.1 hie.out.2.2.2 (.slice sa (stp xs j).length sc) (stp xs j).length ((stp xs j).map (Value.int .i64)) rfl (own_late HO2.out ((Below.refl _ _).alloc (Nat.le_refl _) _)) (.slice (some ⟨w2.heap.size, 0, none⟩) 1 1) 1 [.int .i64 ((j : Int) + 1)] rfl (src_int1 w2 ((j : Int) + 1)) (by have := HLE.out; unfold maxLen; omega) (by have := HLE.out; omega) (by have := HB2.out.size; simp; omega) ?_; intro v4 w3 ho4 hg4 hat4; have HO4 := mkHid ho4; have HB4 := mkHid ((ba HB2.out _).grown hg4 (by have := HB2.out.size; simp; omega) (fun k hk => (HO2.out.lt k hk).1)); clear ho4 hg4 hat4; obtain ⟨pa, pc, rfl⟩ := own_shape HO4.out))
          go_roundw
          case rel => exact ⟨j + 1, A, pa, pc, by rw [HST.out]; simp, by go_num, by go_num, by have := HK.out; omega, mkHid HA.out, mkHid (by rw [HST.out]; simpa using HO4.out), HB4⟩
          case measure => have := HK.out; simp [intOf]; omega
        · have hst : stp xs (j + 1) = stp xs j := stp_no (by rw [HM.out, HA.out]; exact hg)
          have HST := mkHid hst
          clear hst
          go_wp2_with (go_at_call 32; refine HC.out.mono ?_; rintro e w2 ⟨rfl, b2⟩; have HO2 := mkHid (own_late HO.out b2); have HB2 := mkHid (bt HB.out b2); clear b2)
          go_roundw
          case rel => exact ⟨j + 1, A, sa, sc, by rw [HST.out], by go_num, by go_num, by have := HK.out; omega, mkHid HA.out, mkHid (by rw [HST.out]; exact HO2.out), HB2⟩
          case measure => have := HK.out; simp [intOf]; omega
      · obtain rfl : K = j := by have := HK.out; omega
        have HI := mkHid (ivs_of_owns HO.out)
        go_wp2
        go_ret
        exact ⟨_, rfl, HI.out, HB.out⟩
  · go_enter Tryd.func30, Tryd.ntmps30
    go_wp2_with (go_at_call 31; refine H1.out.mono ?_; rintro e w1 ⟨rfl, b1⟩; have HB1 := mkHid b1; clear b1)
    go_loopw [5, 6, 7] (fun sv nv lv wr => ∃ (j : Nat) (M : Int) (sa : Option Addr) (sc : Nat), sv = .slice sa (stp xs j).length sc ∧ nv = .int .i64 M ∧ lv = .int .i64 ((j : Int) + 1) ∧ j ≤ K ∧ Hid (tot (sdem · (j : Int)) xs = M) ∧ Hid (wr.ownsRow w.heap.size 3 1 (.slice sa (stp xs j).length sc) (stp xs j).length ((stp xs j).map (Value.int .i64))) ∧ Hid (Below w.heap.size w wr)) (fun _ _ lv _ => K + 1 - (intOf lv).toNat)
    case atStart => exact ⟨0, 0, none, 0, rfl, rfl, rfl, Nat.zero_le _, HZ, mkHid (World.ownsRow_nil w1 w.heap.size 3 1), HB1⟩
    case round =>
      obtain ⟨j, M, sa, sc, rfl, rfl, rfl, hj, HM, HO, HB⟩ := hrel
      have hjK : (j : Int) ≤ 4096 := by have := HK.out; omega
      by_cases hlt : (j : Int) + 1 ≤ 4096
      · have HC := mkHid (H2.out wr ((j : Int) + 1) HB.out (by omega) (by omega))
        obtain ⟨A, hA⟩ : ∃ A, tot (sdem · ((j : Int) + 1)) xs = A := ⟨_, rfl⟩
        have HA := mkHid hA
        rw [hA] at HC
        clear hA
        by_cases hg : M < A
        · have hst : stp xs (j + 1) = stp xs j ++ [(j : Int) + 1] := stp_yes (by rw [HM.out, HA.out]; exact hg)
          have HST := mkHid hst
          have HLE := mkHid (stp_len xs j)
          clear hst
          go_wp2_with (first
            | (go_at_call 32; refine HC.out.mono ?_; rintro e w2 ⟨rfl, b2⟩; have HO2 := mkHid (own_late HO.out b2); have HB2 := mkHid (bt HB.out b2); clear b2)
            | (at_builtin; refine wpList_append_srcV _ rfl (.tmp 24) (.tmp 26) 56 56 rfl w.heap.size 3 ie Tryd.underlying56 hie.out.1 (.int .i64 0) 8 hie.out.2.1 rfl hie.out.2.2.1 hie.out.2.2.2 (.slice sa (stp xs j).length sc) (stp xs j).length ((stp xs j).map (Value.int .i64)) rfl (own_late HO2.out ((Below.refl _ _).alloc (Nat.le_refl _) _)) (.slice (some ⟨w2.heap.size, 0, none⟩) 1 1) 1 [.int .i64 ((j : Int) + 1)] rfl (src_int1 w2 ((j : Int) + 1)) (by have := HLE.out; unfold maxLen; omega) (by have := HLE.out; omega) (by have := HB2.out.size; simp; omega) ?_; intro v4 w3 ho4 hg4 hat4; have HO4 := mkHid ho4; have HB4 := mkHid ((ba HB2.out _).grown hg4 (by have := HB2.out.size; simp; omega) (fun k hk => (HO2.out.lt k hk).1)); clear ho4 hg4 hat4; obtain ⟨pa, pc, rfl⟩ := own_shape HO4.out))
          go_roundw
          case rel => exact ⟨j + 1, A, pa, pc, by rw [HST.out]; simp, by go_num, by go_num, by have := HK.out; omega, mkHid HA.out, mkHid (by rw [HST.out]; simpa using HO4.out), HB4⟩
          case measure => have := HK.out; simp [intOf]; omega
        · have hst : stp xs (j + 1) = stp xs j := stp_no (by rw [HM.out, HA.out]; exact hg)
          have HST := mkHid hst
          clear hst
          go_wp2_with (go_at_call 32; refine HC.out.mono ?_; rintro e w2 ⟨rfl, b2⟩; have HO2 := mkHid (own_late HO.out b2); have HB2 := mkHid (bt HB.out b2); clear b2)
          go_roundw
          case rel => exact ⟨j + 1, A, sa, sc, by rw [HST.out], by go_num, by go_num, by have := HK.out; omega, mkHid HA.out, mkHid (by rw [HST.out]; exact HO2.out), HB2⟩
          case measure => have := HK.out; simp [intOf]; omega
      · obtain rfl : K = j := by have := HK.out; omega
        have HI := mkHid (ivs_of_owns HO.out)
        go_wp2
        go_ret
        exact ⟨_, rfl, HI.out, HB.out⟩
theorem steps_err (w : World) (v : Value) (most : Int) (a : Addr) (h : Calls Tryd.prog 31 #[v, .int .i64 0] w fun e w' => e = .returned (vE a) ∧ Below w.heap.size w w') :
    Calls Tryd.prog 30 #[v, .int .i64 most] w fun e w' => e = .returned (.slice none 0 0) ∧ Below w.heap.size w w' := by
  have H := mkHid h
  clear h
  go_enter Tryd.func30, Tryd.ntmps30
  go_wp2_with (go_at_call 31; refine H.out.mono ?_; rintro e w1 ⟨rfl, b1⟩; have HB1 := mkHid b1; clear b1)
  go_ret
  exact ⟨rfl, HB1.out⟩
theorem lsteps_no (w : World) (v : Value) (xs : List Sv) (most m : Int) (ad : Nat → Addr) (E : Er3 w ad) (h : Svs w v xs) (hl24 : xs.length * 24 ≤ 140737488355328) (hm : ¬ m = 0)
    (hr : ∀ w v, Svs w v xs → Calls Tryd.prog 12 #[v] w fun e w' => e = .returned (.tuple #[vP 0 0 0 0, .int .i64 m]) ∧ Below w.heap.size w w')
    (hs : ∀ w v, Svs w v xs → Er3 w ad → Calls Tryd.prog 30 #[v, .int .i64 most] w fun e w' => e = .returned (.slice none 0 0) ∧ Below w.heap.size w w') :
    Calls Tryd.prog 5 #[v, .int .i64 most] w fun e w' => e = .returned (.bool true) ∧ Below w.heap.size w w' := by
  have HAL : Hid (Ans w 9 #[] (.bool true)) := mkHid (fun W hb => dalive W ad (E.late hb))
  have HS := mkHid h
  have HE := mkHid E
  have HL := mkHid hl24
  obtain ⟨ie, hie⟩ : ∃ ie, Hid (Tryd.prog.info? 24 = some ie ∧ ie.zero = some (.agg #[.int .i64 0, .int .i64 0, .int .i64 0]) ∧ ie.size = 3 ∧ ie.bytes = 24) := by
    obtain ⟨ie, h1, h2, h3, h4⟩ := info_parts info_server
    exact ⟨ie, mkHid ⟨h1, h2, h3, h4⟩⟩
  obtain ⟨sa, sc, rfl, hsl, h9⟩ := id h
  have H2 := mkHid hr
  have H3 := mkHid hs
  clear E h hl24 h9 hr hs
  have M2 : Hid True := mkHid trivial
  go_enter Tryd.func5, Tryd.ntmps5
  go_wp2_with (first
    | (go_at_call 9; refine (HAL.out _ (Below.refl _ _)).mono ?_; rintro e w1 ⟨rfl, b1⟩; have HB1 := mkHid b1; clear b1)
    | (at_builtin; clear M2; have hm := World.ownsRow_made (base := w1.heap.size) (e := 24) (size := 3) w1 #[] 0 (Nat.le_refl _) (by unfold maxLen; omega) rfl; refine wpList_append_src3 _ rfl (.tmp 14) (.tmp 15) 22 22 rfl w1.heap.size 24 ie Tryd.underlying22 hie.out.1 (.agg #[.int .i64 0, .int .i64 0, .int .i64 0]) 24 hie.out.2.1 rfl hie.out.2.2.1 hie.out.2.2.2 (.slice (some ⟨w1.heap.size, 0, none⟩) 0 0) 0 [] rfl hm (.slice sa xs.length sc) xs.length (xs.flatMap c3) rfl (HS.out.below (ba HB1.out _)).src (by have := HL.out; unfold maxLen; omega) (by have := HL.out; omega) (by simp) ?_; intro v4 w2 ho4 hg4 hat4; rw [Nat.zero_add, List.nil_append] at ho4; have b2 : Below w1.heap.size w1 w2 := ((Below.refl _ w1).alloc (Nat.le_refl _) (.cells #[] 24)).grown hg4 (by simp) (fun k hk => by simp [Value.ownBlock] at hk; omega); have HB2 := mkHid (bt HB1.out b2); obtain ⟨p2, r2, rfl, ht4⟩ := svs_of_owns (xs := xs) (by omega) ho4; have HV2 := mkHid ht4; clear hm ho4 hg4 hat4 b2 ht4)
    | (go_at_call 30; refine (H3.out _ _ HV2.out (HE.out.late HB2.out)).mono ?_; rintro e w3 ⟨rfl, b3⟩; have HB3 := mkHid (bt HB2.out b3); clear b3)
    | (go_at_call 12; refine (H2.out _ _ (HS.out.below HB3.out)).mono ?_; rintro e w4 ⟨rfl, b4⟩; have HB4 := mkHid (bt HB3.out b4); clear b4))
  go_ret
  exact ⟨rfl, ba HB4.out _⟩
set_option maxHeartbeats 6400000 in
theorem lsteps_ok (w : World) (v : Value) (xs : List Sv) (most N A B C D : Int) (K : Nat) (ad : Nat → Addr) (E : Er3 w ad) (h : Svs w v xs) (hl24 : xs.length * 24 ≤ 140737488355328) (hx : ∀ x ∈ xs, okS x) (hn : xs.length ≤ 8)
    (hr : ∀ w v, Svs w v xs → Calls Tryd.prog 12 #[v] w fun e w' => e = .returned (.tuple #[vP A B C D, .int .i64 0]) ∧ Below w.heap.size w w')
    (hN : (¬ 4096 < most ∧ N = most) ∨ (4096 < most ∧ N = 4096)) (hK : K = N.toNat) :
    Calls Tryd.prog 5 #[v, .int .i64 most] w fun e w' => e = .returned (.bool true) ∧ Below w.heap.size w w' := by
  have HAL : Hid (Ans w 9 #[] (.bool true)) := mkHid (fun W hb => dalive W ad (E.late hb))
  have HS := mkHid h
  have HE := mkHid E
  have HL := mkHid hl24
  obtain ⟨ie, hie⟩ : ∃ ie, Hid (Tryd.prog.info? 24 = some ie ∧ ie.zero = some (.agg #[.int .i64 0, .int .i64 0, .int .i64 0]) ∧ ie.size = 3 ∧ ie.bytes = 24) := by
    obtain ⟨ie, h1, h2, h3, h4⟩ := info_parts info_server
    exact ⟨ie, mkHid ⟨h1, h2, h3, h4⟩⟩
  obtain ⟨sa, sc, rfl, hsl, h9⟩ := id h
  have H2 := mkHid hr
  have H3 : Hid (∀ w v, Svs w v xs → Calls Tryd.prog 30 #[v, .int .i64 most] w fun e w' => ∃ r, e = .returned r ∧ Ivs w' r (stp xs K) ∧ Below w.heap.size w w') := mkHid (fun w v h => steps_ok w v xs most N K h hx hn hN hK)
  have H4 : Hid (∀ w v l, Svs w v xs → 0 ≤ l → l ≤ 1099511627776 → Calls Tryd.prog 15 #[v, .int .i64 l] w fun e w' => e = .returned (.int .i64 (tot (sdem · l) xs)) ∧ Below w.heap.size w w') := mkHid (fun w v l h l0 l1 => rtot_sdem w v xs l h hx hn l0 l1)
  have HZ := mkHid (tot_zero hx)
  have hN1 : N ≤ 4096 := by omega
  have HK : Hid (K = N.toNat) := mkHid hK
  have HNN := mkHid hN
  have hK6 : (K : Int) ≤ 4096 := by omega
  clear E h hl24 h9 hr hx hK hN
  have M2 : Hid True := mkHid trivial
  go_enter Tryd.func5, Tryd.ntmps5
  go_wp2_with (first
    | (go_at_call 9; refine (HAL.out _ (Below.refl _ _)).mono ?_; rintro e w1 ⟨rfl, b1⟩; have HB1 := mkHid b1; clear b1)
    | (at_builtin; clear M2; have hm := World.ownsRow_made (base := w1.heap.size) (e := 24) (size := 3) w1 #[] 0 (Nat.le_refl _) (by unfold maxLen; omega) rfl; refine wpList_append_src3 _ rfl (.tmp 14) (.tmp 15) 22 22 rfl w1.heap.size 24 ie Tryd.underlying22 hie.out.1 (.agg #[.int .i64 0, .int .i64 0, .int .i64 0]) 24 hie.out.2.1 rfl hie.out.2.2.1 hie.out.2.2.2 (.slice (some ⟨w1.heap.size, 0, none⟩) 0 0) 0 [] rfl hm (.slice sa xs.length sc) xs.length (xs.flatMap c3) rfl (HS.out.below (ba HB1.out _)).src (by have := HL.out; unfold maxLen; omega) (by have := HL.out; omega) (by simp) ?_; intro v4 w2 ho4 hg4 hat4; rw [Nat.zero_add, List.nil_append] at ho4; have b2 : Below w1.heap.size w1 w2 := ((Below.refl _ w1).alloc (Nat.le_refl _) (.cells #[] 24)).grown hg4 (by simp) (fun k hk => by simp [Value.ownBlock] at hk; omega); have HB2 := mkHid (bt HB1.out b2); obtain ⟨p2, r2, rfl, ht4⟩ := svs_of_owns (xs := xs) (by omega) ho4; have HV2 := mkHid ht4; clear hm ho4 hg4 hat4 b2 ht4)
    | (go_at_call 30; refine (H3.out _ _ HV2.out).mono ?_; rintro e w3 ⟨gv, rfl, hiv, b3⟩; obtain ⟨ga, gc, rfl, hgc⟩ := hiv; have HI3 : Hid (Ivs w3 (.slice ga (stp xs K).length gc) (stp xs K)) := mkHid ⟨ga, gc, rfl, hgc⟩; have HB3 := mkHid (bt HB2.out b3); clear b3 hgc)
    | (go_at_call 12; refine (H2.out _ _ (HS.out.below HB3.out)).mono ?_; rintro e w4 ⟨rfl, b4⟩; have HI4 := mkHid (HI3.out.below (bt ((Below.refl _ _)) b4)); have HB4 := mkHid (bt HB3.out b4); clear b4))
  obtain ⟨G, hG⟩ : ∃ G, (stp xs K).length = G := ⟨_, rfl⟩
  have HG := mkHid hG
  have hGK : (G : Int) ≤ 4096 := by have := stp_len xs K; omega
  rw [hG] at HI4 ⊢
  clear hG
  clear HB1 HB2 HB3 HV2 HI3 HAL H2 H3
  go_loopw [8, 9, 10] (fun av nv lv wr => ∃ (j a : Nat) (M : Int), av = .int .i64 (a : Int) ∧ nv = .int .i64 M ∧ lv = .int .i64 ((j : Int) + 1) ∧ j ≤ K ∧ Hid (a = (stp xs j).length) ∧ Hid (tot (sdem · (j : Int)) xs = M) ∧ Hid (Ivs wr (.slice ga G gc) (stp xs K)) ∧ Hid (Below w.heap.size w wr)) (fun _ _ lv _ => K + 1 - (intOf lv).toNat)
  case atStart => exact ⟨0, 0, 0, rfl, rfl, rfl, Nat.zero_le _, mkHid rfl, HZ, mkHid (HI4.out.below ((Below.refl _ _).alloc (Nat.le_refl _) _)), mkHid (ba HB4.out _)⟩
  case round =>
    clear HI4 HB4
    obtain ⟨j, a, M, rfl, rfl, rfl, hj, HA, HM, HI, HB⟩ := hrel
    have ha6 : (a : Int) ≤ 4096 := by have := HA.out; have := stp_len xs j; omega
    by_cases hlt : j < K
    · have hc1 : (j : Int) + 1 ≤ most := by have := HK.out; have := HNN.out; omega
      have hc2 : (j : Int) + 1 ≤ 4096 := by omega
      have HC := mkHid (H4.out wr (.slice sa xs.length sc) ((j : Int) + 1) (HS.out.below HB.out) (by omega) (by omega))
      obtain ⟨X, hX⟩ : ∃ X, tot (sdem · ((j : Int) + 1)) xs = X := ⟨_, rfl⟩
      have HX := mkHid hX
      rw [hX] at HC
      clear hX
      by_cases hg : M < X
      · obtain ⟨q1, q2⟩ := stp_at (xs := xs) (n := j) (N := K) (by omega) (by rw [HM.out, HX.out]; exact hg)
        rw [← HA.out] at q1 q2
        have hst : stp xs (j + 1) = stp xs j ++ [(j : Int) + 1] := stp_yes (by rw [HM.out, HX.out]; exact hg)
        have HST : Hid (a + 1 = (stp xs (j + 1)).length) := mkHid (by rw [hst, List.length_append, ← HA.out]; rfl)
        obtain ⟨a9, c9, e9, hcell⟩ := id HI.out
        injection e9 with e91 e92 e93
        rw [← e91] at hcell
        clear e91 e92 e93
        obtain ⟨gb, rfl, gcell⟩ := hcell a _ q2
        have HGC := mkHid gcell
        have ha1 : (a : Int) < G := by have := HG.out; omega
        have ha2 : a < G := by omega
        have hnle : ¬ (G : Int) ≤ (a : Int) := by omega
        have hdb : decide ((G : Int) ≤ (a : Int)) = false := by simp; omega
        clear q1 q2 hst hcell gcell
        go_wp2_with (go_at_call 15; refine HC.out.mono ?_; rintro e w2 ⟨rfl, b2⟩; have gc2 := kc HGC.out b2; have HI2 := mkHid (HI.out.below b2); have HB2 := mkHid (bt HB.out b2); clear b2)
        go_roundw
        case rel => exact ⟨j + 1, a + 1, X, by go_num, by go_num, by go_num, by omega, HST, mkHid HX.out, HI2, HB2⟩
        case measure => simp [intOf]; omega
      · have hst : stp xs (j + 1) = stp xs j := stp_no (by rw [HM.out, HX.out]; exact hg)
        have HST : Hid (a = (stp xs (j + 1)).length) := mkHid (by rw [hst]; exact HA.out)
        clear hst
        go_wp2_with (go_at_call 15; refine HC.out.mono ?_; rintro e w2 ⟨rfl, b2⟩; have HI2 := mkHid (HI.out.below b2); have HB2 := mkHid (bt HB.out b2); clear b2)
        go_roundw
        case rel => exact ⟨j + 1, a, X, by go_num, by go_num, by go_num, by omega, HST, mkHid HX.out, HI2, HB2⟩
        case measure => simp [intOf]; omega
    · obtain rfl : j = K := by omega
      have haG : a = G := HA.out.trans HG.out
      subst haG
      have hc : (¬ (j : Int) + 1 ≤ most) ∨ ((j : Int) + 1 ≤ most ∧ ¬ (j : Int) + 1 ≤ 4096) := by have := HK.out; have := HNN.out; omega
      rcases hc with hc | ⟨hc, hc2⟩
      · go_wp2
        go_ret
        exact ⟨rfl, HB.out⟩
      · have hd : decide ((j : Int) + 1 ≤ 4096) = false := by simp; omega
        go_wp2
        go_ret
        exact ⟨rfl, HB.out⟩
theorem lsteps_any (w : World) (v : Value) (xs : List Sv) (most : Int) (ad : Nat → Addr) (E : Er3 w ad) (h : Svs w v xs) (hl : xs.length * 24 ≤ 140737488355328) : Calls Tryd.prog 5 #[v, .int .i64 most] w fun e w' => e = .returned (.bool true) ∧ Below w.heap.size w w' := by
  rcases scd_cases xs 0 with ⟨_, hx⟩ | ⟨_, hx, hn⟩ | ⟨_, _, _, hl0⟩ | ⟨_, hx, hn, _, _⟩
  · exact lsteps_no w v xs most 10 ad E h hl (by decide) (fun w v h => refservers_no w v xs h hx) (fun w v h E => steps_err w v most _ (chk_no w v xs 0 _ h hx E.cell_server))
  · exact lsteps_no w v xs most 7 ad E h hl (by decide) (fun w v h => refservers_full w v xs h hx hn) (fun w v h E => steps_err w v most _ (chk_full w v xs 0 _ h hx hn E.cell_full))
  · omega
  · obtain ⟨A, B, C, D, hp⟩ := sh_pt (xs.map qt) (fun y hy => by obtain ⟨x, hm, rfl⟩ := List.mem_map.mp hy; exact (hx x hm).q) (by simpa using hn)
    exact lsteps_ok w v xs most (if 4096 < most then 4096 else most) A B C D _ ad E h hl hx hn (fun w v h => refservers_ok w v xs A B C D h hx hn hp) (by split <;> omega) rfl
end Go.Proofs.YtilnchlnlnpkfaaDoor
