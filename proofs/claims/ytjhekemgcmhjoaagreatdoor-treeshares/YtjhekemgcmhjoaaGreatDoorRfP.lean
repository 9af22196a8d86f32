import Derived.Test.YtjhekemgcmhjoaaGreatDoorTk
import Derived.Test.YtjhekemgcmhjoaaGreatDoorPa
/- The document's Servers, Tasks and Within. -/
namespace Go.Proofs.YtjhekemgcmhjoaaGreatDoor
open Go.ChangeShapes Go.WideShapes Go.ChangeAt Go.RowKit
set_option maxRecDepth 100000
attribute [local go_sem] World.cell?_alloc_some frozen_alloc_some

set_option maxHeartbeats 1600000 in
theorem share_is (w : World) {p : Int × Int} {q t : Int} {A B C E A' B' C' E' : Int} (hp : Pt p A B C E) (hq : Pt (addp p (q, t)) A' B' C' E') (hx : okq (q, t)) (hD : 1 ≤ p.2) :
    Calls Tryz.prog 112 #[vP A B C E, .int .i64 q, .int .i64 t] w fun e w' => e = .returned (vP A' B' C' E') ∧ Below w.heap.size w w' := by
  have HP := mkHid (pt_pl hp hq hx hD)
  have HQ := mkHid hp
  have i1 : I64 q := ⟨by have := hx.1; simp only at this; omega, by have := hx.2.1; have := hx.2.2; simp only at *; omega⟩
  have i2 : I64 t := ⟨by have := hx.1; have := hx.2.1; simp only at *; omega, by have := hx.2.2; simp only at *; omega⟩
  have HI := mkHid (And.intro i1 i2)
  clear hp hq hx hD i1 i2
  go_enter Tryz.func112, Tryz.ntmps112
  go_wp2_with (go_at_call 150; refine (refPlus HQ.out.a HQ.out.b HQ.out.c HQ.out.e HI.out.1 HI.out.2 HP.out).mono ?_; rintro e w1 ⟨rfl, b1⟩; have HB1 := mkHid b1; clear b1; have h4 : P4 w1 (w.heap.size + 1) 0 0 0 0 := (by have := (P4.new (w.alloc (oP A B C E)) 0 0 0 0).below HB1.out; simpa using this); obtain ⟨⟨z0, z1, z2, z3⟩, f0, f1, f2, f3⟩ := h4)
  exact bodyPost_ret (v := vP A' B' C' E') (by simp [results, Tryz.results112, go_sem, z0, z1, z2, z3]) rfl ⟨rfl, ((((ba (bt (ba (ba (Below.refl _ _) _) _) HB1.out) _).setCell (Nat.le_add_right _ 1) _).setCell (Nat.le_add_right _ 1) _).setCell (Nat.le_add_right _ 1) _).setCell (Nat.le_add_right _ 1) _⟩
abbrev W2 (w : World) : World := (w.alloc (oP 0 0 0 0)).alloc (oP 0 0 0 1)
theorem W2.one (w : World) : P4 (W2 w) w.heap.size 0 0 0 0 := (P4.new w 0 0 0 0).alloc _
theorem W2.two (w : World) : P4 (W2 w) (w.heap.size + 1) 0 0 0 1 := by
  have := P4.new (w.alloc (oP 0 0 0 0)) 0 0 0 1
  simpa using this
theorem W2.below (w : World) : Below w.heap.size w (W2 w) := ba (ba (Below.refl _ _) _) _
set_option maxHeartbeats 1600000 in
theorem refservers_no (w : World) (v : Value) (xs : List Sv) (h : Svs w v xs) (hx : ∃ x ∈ xs, ¬ okS x) :
    Calls Tryz.prog 70 #[v] w fun e w' => e = .returned (.tuple #[vP 0 0 0 0, .int .i64 10]) ∧ Below w.heap.size w w' := by
  obtain ⟨a0, cap, rfl, hl, h9⟩ := id h
  have HS := mkHid h
  have HX := mkHid hx
  clear h hx h9
  go_enter Tryz.func70, Tryz.ntmps70
  go_wp2
  go_loopw [13] (fun iv wr => ∃ j : Nat, iv = .int .i64 (j : Int) ∧ j ≤ xs.length ∧ Hid (∀ i x, i < j → xs[i]? = some x → okS x) ∧ Hid (Below (W2 w).heap.size (W2 w) wr)) (fun iv _ => xs.length - (intOf iv).toNat)
  case atStart => exact ⟨0, rfl, Nat.zero_le _, mkHid (fun i x hi => by omega), Below.refl _ _⟩
  case round =>
    obtain ⟨j, rfl, hj, HO, HB⟩ := hrel
    by_cases hlt : j < xs.length
    · obtain ⟨b, off, k, q, t, rfl, hxj, c0, c1, c2⟩ := HS.out.at (bt (W2.below w) HB.out) j hlt
      have hji : (j : Int) < xs.length := by omega
      have HXJ := mkHid hxj
      clear hxj
      by_cases hk : okS (k, q, t)
      · have HK := mkHid hk
        clear hk
        go_wp2_with (go_at_call 41; refine (reflegal_ok _ (k, q, t) HK.out).mono ?_; rintro e w1 ⟨rfl, b1⟩; have HB1 := mkHid (bt (ba HB.out _) b1); clear b1)
        go_roundw
        case rel =>
          refine ⟨j + 1, by go_num, by omega, mkHid (fun i x hi hx => ?_), HB1⟩
          by_cases e : i = j
          · subst e
            rw [HXJ.out] at hx
            simp at hx
            rw [← hx]
            exact HK.out
          · exact HO.out i x (by omega) hx
        case measure => simp [intOf]; omega
      · have HK := mkHid hk
        clear hk
        go_wp2_with (go_at_call 41; refine (reflegal_no _ (k, q, t) HK.out).mono ?_; rintro e w1 ⟨rfl, b1⟩; have HB1 := mkHid (bt (ba HB.out _) b1); clear b1; obtain ⟨⟨z0, z1, z2, z3⟩, f0, f1, f2, f3⟩ := (W2.one w).below HB1.out)
        exact bodyPost_ret (v := .tuple #[vP 0 0 0 0, .int .i64 10]) (by simp [results, Tryz.results70, go_sem, z0, z1, z2, z3]) rfl ⟨rfl, ((((bt (W2.below w) HB1.out).setCell (Nat.le_refl _) _).setCell (Nat.le_refl _) _).setCell (Nat.le_refl _) _).setCell (Nat.le_refl _) _⟩
    · exfalso
      obtain ⟨x, hm, hn⟩ := HX.out
      obtain ⟨i, hi, rfl⟩ := List.getElem_of_mem hm
      exact hn (HO.out i _ (by omega) (List.getElem?_eq_getElem hi))
set_option maxHeartbeats 1600000 in
theorem refservers_full (w : World) (v : Value) (xs : List Sv) (h : Svs w v xs) (hx : ∀ x ∈ xs, okS x) (hn : 8 < xs.length) :
    Calls Tryz.prog 70 #[v] w fun e w' => e = .returned (.tuple #[vP 0 0 0 0, .int .i64 7]) ∧ Below w.heap.size w w' := by
  obtain ⟨a0, cap, rfl, hl, h9⟩ := id h
  have HS := mkHid h
  have HX := mkHid hx
  clear h hx h9
  go_enter Tryz.func70, Tryz.ntmps70
  go_wp2
  go_loopw [13] (fun iv wr => ∃ j : Nat, iv = .int .i64 (j : Int) ∧ j ≤ xs.length ∧ Hid (Below (W2 w).heap.size (W2 w) wr)) (fun iv _ => xs.length - (intOf iv).toNat)
  case atStart => exact ⟨0, rfl, Nat.zero_le _, Below.refl _ _⟩
  case round =>
    obtain ⟨j, rfl, hj, HB⟩ := hrel
    by_cases hlt : j < xs.length
    · obtain ⟨b, off, k, q, t, rfl, hxj, c0, c1, c2⟩ := HS.out.at (bt (W2.below w) HB.out) j hlt
      have hji : (j : Int) < xs.length := by omega
      have HK := mkHid (ok_at HX.out hxj)
      clear hxj
      go_wp2_with (go_at_call 41; refine (reflegal_ok _ (k, q, t) HK.out).mono ?_; rintro e w1 ⟨rfl, b1⟩; have HB1 := mkHid (bt (ba HB.out _) b1); clear b1)
      go_roundw
      case rel => exact ⟨j + 1, by go_num, by omega, HB1⟩
      case measure => simp [intOf]; omega
    · obtain rfl : j = xs.length := by omega
      have hni : (8 : Int) < xs.length := by omega
      obtain ⟨⟨z0, z1, z2, z3⟩, f0, f1, f2, f3⟩ := (W2.one w).below HB.out
      go_wp2
      exact bodyPost_ret (v := .tuple #[vP 0 0 0 0, .int .i64 7]) (by simp [results, Tryz.results70, go_sem, z0, z1, z2, z3]) rfl ⟨rfl, ((((bt (W2.below w) HB.out).setCell (Nat.le_refl _) _).setCell (Nat.le_refl _) _).setCell (Nat.le_refl _) _).setCell (Nat.le_refl _) _⟩
set_option maxHeartbeats 1600000 in
theorem refservers_ok (w : World) (v : Value) (xs : List Sv) (A B C E : Int) (h : Svs w v xs) (hx : ∀ x ∈ xs, okS x) (hn : xs.length ≤ 8) (hp : Pt (sh (xs.map qt)) A B C E) :
    Calls Tryz.prog 70 #[v] w fun e w' => e = .returned (.tuple #[vP A B C E, .int .i64 0]) ∧ Below w.heap.size w w' := by
  obtain ⟨a0, cap, rfl, hl, h9⟩ := id h
  have HS := mkHid h
  have HX := mkHid hx
  have HP := mkHid hp
  clear h hx h9 hp
  go_enter Tryz.func70, Tryz.ntmps70
  go_wp2
  go_loopw [13] (fun iv wr => ∃ j : Nat, iv = .int .i64 (j : Int) ∧ j ≤ xs.length ∧ Hid (Below (W2 w).heap.size (W2 w) wr)) (fun iv _ => xs.length - (intOf iv).toNat)
  case atStart => exact ⟨0, rfl, Nat.zero_le _, Below.refl _ _⟩
  case round =>
    obtain ⟨j, rfl, hj, HB⟩ := hrel
    by_cases hlt : j < xs.length
    · obtain ⟨b, off, k, q, t, rfl, hxj, c0, c1, c2⟩ := HS.out.at (bt (W2.below w) HB.out) j hlt
      have hji : (j : Int) < xs.length := by omega
      have HK := mkHid (ok_at HX.out hxj)
      clear hxj
      go_wp2_with (go_at_call 41; refine (reflegal_ok _ (k, q, t) HK.out).mono ?_; rintro e w1 ⟨rfl, b1⟩; have HB1 := mkHid (bt (ba HB.out _) b1); clear b1)
      go_roundw
      case rel => exact ⟨j + 1, by go_num, by omega, HB1⟩
      case measure => simp [intOf]; omega
    · obtain rfl : j = xs.length := by omega
      have hni : (xs.length : Int) ≤ 8 := by omega
      clear hlt hj
      have HQ := mkHid ((W2.one w).below HB.out)
      have HR := mkHid ((W2.two w).below HB.out)
      have HC := mkHid (bt (W2.below w) HB.out)
      clear HB
      go_wp2
      go_loopw [28] (fun iv wr => ∃ j : Nat, ∃ A B C E : Int, iv = .int .i64 (j : Int) ∧ j ≤ xs.length ∧ Hid (Pt (sh ((xs.map qt).take j)) A B C E) ∧ Hid (P4 wr w.heap.size 0 0 0 0) ∧ Hid (P4 wr (w.heap.size + 1) A B C E) ∧ Hid (Below w.heap.size w wr)) (fun iv _ => xs.length - (intOf iv).toNat)
      case atStart => exact ⟨0, 0, 0, 0, 1, rfl, Nat.zero_le _, mkHid (by simpa [sh] using pt01), HQ, HR, HC⟩
      case round =>
        clear HQ HR HC
        obtain ⟨j, A1, B1, C1, E1, rfl, hj, HP1, HQ, HR, HC⟩ := hrel
        by_cases hlt : j < xs.length
        · obtain ⟨b, off, k, q, t, rfl, hxj, c0, c1, c2⟩ := HS.out.at HC.out j hlt
          have hji : (j : Int) < xs.length := by omega
          have HK := mkHid (ok_at HX.out hxj)
          obtain ⟨A2, B2, C2, E2, hp2⟩ := sh_pt ((xs.map qt).take (j + 1)) (okq_take HX.out _) (by rw [List.length_take, List.length_map]; omega)
          have HP2 := mkHid hp2
          rw [take_qt hxj, sh_snoc] at hp2
          have HP3 := mkHid hp2
          have HD := mkHid (sh_fit ((xs.map qt).take j) (okq_take HX.out _) (by rw [List.length_take, List.length_map]; omega)).1
          clear hxj hp2
          obtain ⟨⟨y0, y1, y2, y3⟩, g0, g1, g2, g3⟩ := id HR.out
          go_wp2_with (go_at_call 112; refine (share_is _ (q := q) (t := t) HP1.out HP3.out HK.out.q HD.out).mono ?_; rintro e w2 ⟨rfl, b2⟩; have HR2 := mkHid ((HR.out.alloc _).below b2); have HQ2 := mkHid ((HQ.out.alloc _).below b2); have HC2 := mkHid (bt (ba HC.out _) b2); clear b2 y0 y1 y2 y3 g0 g1 g2 g3 c0 c1 c2; obtain ⟨⟨y0, y1, y2, y3⟩, g0, g1, g2, g3⟩ := id HR2.out)
          go_roundw
          case rel => exact ⟨j + 1, A2, B2, C2, E2, by go_num, by omega, HP2, mkHid (HQ2.out.other (by omega) _ _ _ _), mkHid (HR2.out.set A2 B2 C2 E2), mkHid ((((HC2.out.setCell (Nat.le_add_right _ 1) _).setCell (Nat.le_add_right _ 1) _).setCell (Nat.le_add_right _ 1) _).setCell (Nat.le_add_right _ 1) _)⟩
          case measure => simp [intOf]; omega
        · obtain rfl : j = xs.length := by omega
          have hp1 := HP1.out
          rw [List.take_of_length_le (by simp)] at hp1
          obtain ⟨rfl, rfl, rfl, rfl⟩ := hp1.un HP.out
          clear hp1
          obtain ⟨⟨y0, y1, y2, y3⟩, g0, g1, g2, g3⟩ := id HR.out
          obtain ⟨⟨z0, z1, z2, z3⟩, f0, f1, f2, f3⟩ := id HQ.out
          go_wp2
          exact bodyPost_ret (v := .tuple #[vP A1 B1 C1 E1, .int .i64 0]) (by simp [results, Tryz.results70, go_sem, z0, z1, z2, z3]) rfl ⟨rfl, (((HC.out.setCell (Nat.le_refl _) _).setCell (Nat.le_refl _) _).setCell (Nat.le_refl _) _).setCell (Nat.le_refl _) _⟩
end Go.Proofs.YtjhekemgcmhjoaaGreatDoor

/- The document's Tasks and Within. -/
namespace Go.Proofs.YtjhekemgcmhjoaaGreatDoor
open Go.ChangeShapes Go.WideShapes Go.ChangeAt Go.RowKit
set_option maxRecDepth 100000
attribute [local go_sem] World.cell?_alloc_some frozen_alloc_some

set_option maxHeartbeats 1600000 in
theorem reftasks_long (w : World) (v : Value) (xs : List Tk) (h : Tks w v xs) (hn : 8 < xs.length) :
    Calls Tryz.prog 88 #[v] w fun e w' => e = .returned (.tuple #[vP 0 0 0 0, .int .i64 11]) ∧ Below w.heap.size w w' := by
  obtain ⟨a0, cap, rfl, hl, h9⟩ := id h
  have HS := mkHid h
  have hni : (8 : Int) < xs.length := by omega
  clear h h9
  go_enter Tryz.func88, Tryz.ntmps88
  go_wp2
  go_loopw [11] (fun iv wr => iv = .int .i64 0 ∧ Hid (Below (W2 w).heap.size (W2 w) wr)) (fun iv _ => xs.length - (intOf iv).toNat)
  case atStart => exact ⟨rfl, Below.refl _ _⟩
  case round =>
    obtain ⟨rfl, HB⟩ := hrel
    obtain ⟨b, off, c, p, d, s, rfl, hxj, c0, c1, c2, c3⟩ := HS.out.at (bt (W2.below w) HB.out) 0 (by omega)
    have hji : (0 : Int) < xs.length := by omega
    by_cases hk : okT (c, p, d, s)
    · have HK := mkHid (bT_true hk)
      clear hk hxj
      simp only [Nat.zero_mul, Nat.add_zero] at c0 c1 c2 c3
      go_wp2_with (go_at_call 85; have hq := refLegalTask_is (wr.alloc (.cells #[.int .i64 c, .int .i64 p, .int .i64 d, .int .i64 s] 41)) (c, p, d, s); rw [HK.out] at hq; refine hq.mono ?_; clear hq; rintro e w1 ⟨rfl, b1⟩; have HB1 := mkHid (bt (ba HB.out _) b1); clear b1; obtain ⟨⟨z0, z1, z2, z3⟩, f0, f1, f2, f3⟩ := (W2.one w).below HB1.out)
      exact bodyPost_ret (v := .tuple #[vP 0 0 0 0, .int .i64 11]) (by simp [results, Tryz.results88, go_sem, z0, z1, z2, z3]) rfl ⟨rfl, ((((bt (W2.below w) HB1.out).setCell (Nat.le_refl _) _).setCell (Nat.le_refl _) _).setCell (Nat.le_refl _) _).setCell (Nat.le_refl _) _⟩
    · have HK := mkHid (bT_false hk)
      clear hk hxj
      simp only [Nat.zero_mul, Nat.add_zero] at c0 c1 c2 c3
      go_wp2_with (go_at_call 85; have hq := refLegalTask_is (wr.alloc (.cells #[.int .i64 c, .int .i64 p, .int .i64 d, .int .i64 s] 41)) (c, p, d, s); rw [HK.out] at hq; refine hq.mono ?_; clear hq; rintro e w1 ⟨rfl, b1⟩; have HB1 := mkHid (bt (ba HB.out _) b1); clear b1; obtain ⟨⟨z0, z1, z2, z3⟩, f0, f1, f2, f3⟩ := (W2.one w).below HB1.out)
      exact bodyPost_ret (v := .tuple #[vP 0 0 0 0, .int .i64 11]) (by simp [results, Tryz.results88, go_sem, z0, z1, z2, z3]) rfl ⟨rfl, ((((bt (W2.below w) HB1.out).setCell (Nat.le_refl _) _).setCell (Nat.le_refl _) _).setCell (Nat.le_refl _) _).setCell (Nat.le_refl _) _⟩
theorem takeok {xs : List Tk} {j : Nat} (hj : j ≤ xs.length) (h : ∀ i x, i < j → xs[i]? = some x → okT x) : ∀ y ∈ (xs.map cp).take j, okq y := by
  intro y hy
  rw [← List.map_take] at hy
  obtain ⟨x, hx, rfl⟩ := List.mem_map.mp hy
  obtain ⟨i, hi, rfl⟩ := List.getElem_of_mem hx
  rw [List.length_take] at hi
  rw [List.getElem_take]
  exact (h i _ (by omega) (List.getElem?_eq_getElem (by omega))).q

set_option maxHeartbeats 1600000 in
theorem reftasks_short (w : World) (v : Value) (xs : List Tk) (A B C E n : Int) (h : Tks w v xs) (hn : xs.length ≤ 8) (hok : (∀ x ∈ xs, okT x) → Pt (sh (xs.map cp)) A B C E ∧ n = 0) (hno : (∃ x ∈ xs, ¬ okT x) → A = 0 ∧ B = 0 ∧ C = 0 ∧ E = 0 ∧ n = 11) :
    Calls Tryz.prog 88 #[v] w fun e w' => e = .returned (.tuple #[vP A B C E, .int .i64 n]) ∧ Below w.heap.size w w' := by
  obtain ⟨a0, cap, rfl, hl, h9⟩ := id h
  have HS := mkHid h
  have HOK := mkHid hok
  have HNO := mkHid hno
  have hni : (xs.length : Int) ≤ 8 := by omega
  clear h h9 hok hno
  go_enter Tryz.func88, Tryz.ntmps88
  go_wp2
  go_loopw [11] (fun iv wr => ∃ j : Nat, ∃ A B C E : Int, iv = .int .i64 (j : Int) ∧ j ≤ xs.length ∧ Hid (∀ i x, i < j → xs[i]? = some x → okT x) ∧ Hid (Pt (sh ((xs.map cp).take j)) A B C E) ∧ Hid (P4 wr w.heap.size 0 0 0 0) ∧ Hid (P4 wr (w.heap.size + 1) A B C E) ∧ Hid (Below w.heap.size w wr)) (fun iv _ => xs.length - (intOf iv).toNat)
  case atStart => exact ⟨0, 0, 0, 0, 1, rfl, Nat.zero_le _, mkHid (fun i x hi => by omega), mkHid (by simpa [sh] using pt01), mkHid (W2.one w), mkHid (W2.two w), mkHid (W2.below w)⟩
  case round =>
    obtain ⟨j, A1, B1, C1, E1, rfl, hj, HO, HP1, HQ, HR, HC⟩ := hrel
    by_cases hlt : j < xs.length
    · obtain ⟨b, off, c, p, d, s, rfl, hxj, c0, c1, c2, c3⟩ := HS.out.at HC.out j hlt
      have hji : (j : Int) < xs.length := by omega
      by_cases hk : okT (c, p, d, s)
      · have HK := mkHid hk
        have HB := mkHid (bT_true hk)
        have HO2 : Hid (∀ i x, i < j + 1 → xs[i]? = some x → okT x) := mkHid (fun i x hi hx => by
          by_cases e : i = j
          · subst e
            rw [hxj] at hx
            simp at hx
            rw [← hx]
            exact hk
          · exact HO.out i x (by omega) hx)
        obtain ⟨A2, B2, C2, E2, hp2⟩ := sh_pt ((xs.map cp).take (j + 1)) (takeok hlt HO2.out) (by rw [List.length_take, List.length_map]; omega)
        have HP2 := mkHid hp2
        rw [take_cp hxj, sh_snoc] at hp2
        have HP3 := mkHid hp2
        have HD := mkHid (sh_fit ((xs.map cp).take j) (takeok hj HO.out) (by rw [List.length_take, List.length_map]; omega)).1
        clear hxj hp2 hk
        go_wp2_with (first
          | (go_at_call 85; have hq := refLegalTask_is (wr.alloc (.cells #[.int .i64 c, .int .i64 p, .int .i64 d, .int .i64 s] 41)) (c, p, d, s); rw [HB.out] at hq; refine hq.mono ?_; clear hq; rintro e w1 ⟨rfl, b1⟩; have HR1 := mkHid ((HR.out.alloc _).below b1); have HQ1 := mkHid ((HQ.out.alloc _).below b1); have HC1 := mkHid (bt (ba HC.out _) b1); have n0 := kc (a := ⟨wr.heap.size, 0, none⟩) (v := .int .i64 c) (by simp [go_sem]) b1; have n1 := kc (a := ⟨wr.heap.size, 1, none⟩) (v := .int .i64 p) (by simp [go_sem]) b1; clear b1 c0 c1 c2 c3; obtain ⟨⟨y0, y1, y2, y3⟩, g0, g1, g2, g3⟩ := id HR1.out)
          | (go_at_call 112; refine (share_is _ (q := c) (t := p) HP1.out HP3.out HK.out.q HD.out).mono ?_; rintro e w2 ⟨rfl, b2⟩; have HR2 := mkHid (HR1.out.below b2); have HQ2 := mkHid (HQ1.out.below b2); have HC2 := mkHid (bt HC1.out b2); clear b2 y0 y1 y2 y3 g0 g1 g2 g3 n0 n1; obtain ⟨⟨y0, y1, y2, y3⟩, g0, g1, g2, g3⟩ := id HR2.out))
        go_roundw
        case rel => exact ⟨j + 1, A2, B2, C2, E2, by go_num, by omega, HO2, HP2, mkHid (HQ2.out.other (by omega) _ _ _ _), mkHid (HR2.out.set A2 B2 C2 E2), mkHid ((((HC2.out.setCell (Nat.le_add_right _ 1) _).setCell (Nat.le_add_right _ 1) _).setCell (Nat.le_add_right _ 1) _).setCell (Nat.le_add_right _ 1) _)⟩
        case measure => simp [intOf]; omega
      · have HB := mkHid (bT_false hk)
        obtain ⟨rfl, rfl, rfl, rfl, rfl⟩ := HNO.out ⟨_, List.mem_of_getElem? hxj, hk⟩
        clear hk hxj
        go_wp2_with (go_at_call 85; have hq := refLegalTask_is (wr.alloc (.cells #[.int .i64 c, .int .i64 p, .int .i64 d, .int .i64 s] 41)) (c, p, d, s); rw [HB.out] at hq; refine hq.mono ?_; clear hq; rintro e w1 ⟨rfl, b1⟩; have HQ1 := mkHid ((HQ.out.alloc _).below b1); have HC1 := mkHid (bt (ba HC.out _) b1); clear b1; obtain ⟨⟨z0, z1, z2, z3⟩, f0, f1, f2, f3⟩ := id HQ1.out)
        exact bodyPost_ret (v := .tuple #[vP 0 0 0 0, .int .i64 11]) (by simp [results, Tryz.results88, go_sem, z0, z1, z2, z3]) rfl ⟨rfl, (((HC1.out.setCell (Nat.le_refl _) _).setCell (Nat.le_refl _) _).setCell (Nat.le_refl _) _).setCell (Nat.le_refl _) _⟩
    · obtain rfl : j = xs.length := by omega
      have hp1 := HP1.out
      rw [List.take_of_length_le (by simp)] at hp1
      obtain ⟨hq1, rfl⟩ := HOK.out (fun x hm => by
        obtain ⟨i, hi, rfl⟩ := List.getElem_of_mem hm
        exact HO.out i _ hi (List.getElem?_eq_getElem hi))
      obtain ⟨rfl, rfl, rfl, rfl⟩ := hp1.un hq1
      clear hp1 hq1
      obtain ⟨⟨y0, y1, y2, y3⟩, g0, g1, g2, g3⟩ := id HR.out
      obtain ⟨⟨z0, z1, z2, z3⟩, f0, f1, f2, f3⟩ := id HQ.out
      go_wp2
      exact bodyPost_ret (v := .tuple #[vP A1 B1 C1 E1, .int .i64 0]) (by simp [results, Tryz.results88, go_sem, z0, z1, z2, z3]) rfl ⟨rfl, (((HC.out.setCell (Nat.le_refl _) _).setCell (Nat.le_refl _) _).setCell (Nat.le_refl _) _).setCell (Nat.le_refl _) _⟩
end Go.Proofs.YtjhekemgcmhjoaaGreatDoor

