import Derived.Test.YtpdehdomilnmeaaGreatDoorIs
import Derived.Test.YtpdehdomilnmeaaGreatDoorTimes
import Derived.Deep.RegionHeld3
import Derived.Deep.AppendLies
/- What the document's answers for numbers of 128 bits do: Of, Back, Add, Sub, Mul, Compare. -/
namespace Go.Proofs.YtpdehdomilnmeaaGreatDoor
open Go.ChangeShapes Go.WideShapes Go.ChangeAt Go.RowKit
set_option maxRecDepth 100000

theorem ownsRow_below {w w' : World} {base : Nat} {e : TypeId} {size : Nat} {v : Value} {n : Nat} {xs : List Value} (h : w.ownsRow base e size v n xs) (hb : Below w.heap.size w w') : w'.ownsRow base e size v n xs := by
  refine ⟨h.1, ?_⟩
  rcases h.2 with h' | ⟨g, cap, cur, hv, hg, hh, r⟩
  · exact .inl h'
  · refine .inr ⟨g, cap, cur, hv, hg, ?_, r⟩
    have hlt : g < w.heap.size := by
      refine Nat.not_le.mp fun hn => ?_
      rw [Array.getElem?_eq_none hn] at hh
      cases hh
    rw [hb.block g hlt]; exact hh
theorem keep2 {W w1 : World} {a0 a1 : Addr} {v0 v1 : Value} (hb : Below W.heap.size W w1) (h : W.cell? a0 = some v0 ∧ W.cell? a1 = some v1) : w1.cell? a0 = some v0 ∧ w1.cell? a1 = some v1 :=
  ⟨kc h.1 hb, kc h.2 hb⟩
theorem keep2g {W w1 : World} {a0 a1 : Addr} {v0 v1 : Value} {row : Option Nat} (hb : W.grownBy w1 row) (h : W.cell? a0 = some v0 ∧ W.cell? a1 = some v1) (h0 : row ≠ some a0.block) (h1 : row ≠ some a1.block) : w1.cell? a0 = some v0 ∧ w1.cell? a1 = some v1 := by
  rw [hb.cell_far _ (cell_lt h.1) (Ne.symm h0), hb.cell_far _ (cell_lt h.2) (Ne.symm h1)]
  exact h
theorem ones (ds : List Int) : ∀ u ∈ ds.map (Value.int .u32), u.oneCell' = true := by
  intro u hu
  simp at hu
  obtain ⟨x, _, rfl⟩ := hu
  rfl
theorem of_own (n : Int) (w : World) (g : Nat) (hg : w.heap.size = g) (h : Word n) :
    Calls Tryz.prog 163 #[.int .u64 n] w fun e w' => ∃ ds, e = .returned (.slice (some ⟨g, 0, none⟩) 4 4) ∧ w'.ownsRow g 237 1 (.slice (some ⟨g, 0, none⟩) 4 4) 4 (ds.map (Value.int .u32)) ∧ Digs ds ∧ Hid (val ds = n) ∧ ds.length = 4 ∧ Below w.heap.size w w' := by
  subst hg
  obtain ⟨h0, h1⟩ := h
  have e1 := and16_u64 n h0 h1
  have e2 := and16_u64 (n / 65536) (by omega) (by omega)
  have e3 := and16_u64 (n / 4294967296) (by omega) (by omega)
  go_enter Tryz.func163, Tryz.ntmps163
  go_wp2
  go_ret
  refine ⟨[n % 65536, n / 65536 % 65536, n / 4294967296 % 65536, n / 281474976710656], rfl, ⟨rfl, .inr ⟨w.heap.size, 4, #[.int .u32 (n % 65536), .int .u32 (n / 65536 % 65536), .int .u32 (n / 4294967296 % 65536), .int .u32 (n / 281474976710656)], rfl, Nat.le_refl _, heap_alloc_new w _, Nat.le_refl _, by unfold maxLen; omega, rfl, rfl⟩⟩, ?_, ?_, rfl, (Below.refl _ _).alloc (Nat.le_refl _) _⟩
  · intro d hd
    simp at hd
    omega
  · show val _ = n
    simp only [val]; omega
theorem refOf {ah al : Int} {w : World} (a : Word ah) (b : Word al) :
    Calls Tryz.prog 138 #[.agg #[.int .u64 ah, .int .u64 al]] w fun e w' => ∃ v ds, e = .returned v ∧ Num w' v ds ∧ Hid (val ds = wv ah al) ∧ ds.length = 8 ∧ Below w.heap.size w w' := by
  obtain ⟨i0, hi, hz0, hz1, hz2⟩ := info_parts Tryz.info237
  go_enter Tryz.func138, Tryz.ntmps138
  go_wp2
  go_region_held3 (fun w' => w'.cell? ⟨w.heap.size, 0, none⟩ = some (.int .u64 ah) ∧ w'.cell? ⟨w.heap.size, 1, none⟩ = some (.int .u64 al)) (first | (simp [go_sem]; done) | (exact keep2 (by assumption) (by assumption)) | (exact keep2g (by assumption) (by assumption) (by simp [Value.ownBlock]) (by simp [Value.ownBlock])))
    (first
      | (go_at_call 163; with_reducible refine (of_own al _ (w.heap.size + 1) (by simp) b).mono ?_; rintro e w1 ⟨d1, rfl, o1, g1, E1, l1, b1⟩; have z1 : w.heap.size + 1 ≤ w1.heap.size := (by simpa using b1.size))
      | (go_at_call 163; with_reducible refine (of_own ah _ w1.heap.size rfl a).mono ?_; rintro e w2 ⟨d2, rfl, o2, g2, E2, l2, b2⟩)
      | (refine step_append_lies _ (by rfl) _ _ 219 (by rfl) _ 237 i0 (.int .u32 0) 1 4 Tryz.underlying219 hi hz0 hz1 hz2 rfl (by decide) _ 4 (d1.map (Value.int .u32)) (by rfl) (ownsRow_below o1 b2) _ 4 4 (d2.map (Value.int .u32)) (by rfl) (by simp [l2]) (o2.cells rfl) (ones d2) (by decide) (by unfold maxLen; omega) (by decide) (Nat.le_trans z1 b2.size) _ rfl ?_; intro g cap w3 o3 grow hat hlt))
  go_wp2
  go_ret
  have hl : (d1 ++ d2).length = 8 := by rw [List.length_append, l1, l2]
  refine ⟨_, d1 ++ d2, rfl, Num.of_owns ?_ (e := 237) (base := w.heap.size + 1) (by rw [hl, List.map_append]; exact o3), ?_, hl, ?_⟩
  · intro d hd
    rcases List.mem_append.mp hd with h | h
    · exact g1 d h
    · exact g2 d h
  · show val (d1 ++ d2) = wv ah al
    have p4 : pw 4 = 18446744073709551616 := rfl
    rw [val_append2, l1, E1.out, E2.out, p4]
    unfold wv
    omega
  · have T : Below w.heap.size w w2 := bt (bt (ba (Below.refl _ _) _).drew b1) b2
    exact T.grown grow T.size (fun k hk => by simp [Value.ownBlock] at hk; omega)
theorem back_great (ds : List Int) (hd : Digs ds) (i : Nat) (h8 : 8 ≤ i) (hz : ds.getD i 0 ≠ 0) : 340282366920938463463374607431768211456 ≤ val ds := by
  have h1 := take_le hd (i + 1)
  rw [val_take] at h1
  have h2 := take_nonneg hd i
  have h3 := (hd.at i).1
  have h5 : 1 * pw i ≤ ds.getD i 0 * pw i := Int.mul_le_mul_of_nonneg_right (by omega) (Int.le_of_lt (pw_pos i))
  have h6 := pw_le h8
  have h7 : pw 8 = 340282366920938463463374607431768211456 := rfl
  omega
theorem back_head (ds : List Int) (i : Nat) (hz : ds.getD i 0 = 0) (h : val (ds.take i) = val (ds.take 8)) : val (ds.take (i + 1)) = val (ds.take 8) := by
  rw [val_take, hz, h]; omega
theorem take8 (ds : List Int) (h : 8 ≤ ds.length) : val (ds.take 8) = wv (val ((ds.drop 4).take 4)) (val (ds.take 4)) := by
  have e : ds.take 8 = ds.take 4 ++ (ds.drop 4).take 4 := by rw [← List.take_add]
  have p4 : pw 4 = 18446744073709551616 := rfl
  rw [e, val_append2, List.length_take, Nat.min_eq_left (by omega), p4]
  unfold wv
  omega
theorem getD_take (ds : List Int) (n k : Nat) (h : k < n) : (ds.take n).getD k 0 = ds.getD k 0 := by
  simp [List.getD, h]
theorem getD_drop (ds : List Int) (n k : Nat) : (ds.drop n).getD k 0 = ds.getD (n + k) 0 := by
  simp [List.getD]
set_option maxHeartbeats 1600000 in
theorem back_any {ds : List Int} {v : Value} {w : World} {H L : Int} {ok : Bool} (h : Num w v ds) (h8 : 8 ≤ ds.length) (hl : ds.length ≤ 30000000000000) (hI : Is (val ds) H L ok) :
    Calls Tryz.prog 173 #[v] w fun e w' => e = .returned (.tuple #[.agg #[.int .u64 H, .int .u64 L], .bool ok]) ∧ Below w.heap.size w w' := by
  have hd := h.1
  obtain ⟨_, a, ca, ea, hr⟩ := id h
  subst ea
  obtain ⟨b, off, rfl, hb, hc⟩ := hr (by omega)
  go_enter Tryz.func173, Tryz.ntmps173
  go_wp2
  go_loop [4] (fun iv => ∃ i : Nat, 8 ≤ i ∧ i ≤ ds.length ∧ iv = .int .i64 i ∧ Hid (val (ds.take i) = val (ds.take 8))) (fun iv => ds.length - (intOf iv).toNat)
  case atStart => exact ⟨8, by omega, by omega, rfl, rfl⟩
  case round =>
    obtain ⟨i, h4, hm, rfl, HV⟩ := hrel
    by_cases hlt : i < ds.length
    · have hcell := hc i hlt
      clear hc hr
      by_cases hz : ds.getD i 0 = 0
      · have HV' : Hid (val (ds.take (i + 1)) = val (ds.take 8)) := back_head ds i hz HV.out
        rw [hz] at hcell
        clear hz
        go_wp2
        go_round
        case rel => exact ⟨i + 1, by omega, by omega, by go_num, HV'⟩
        case measure => simp [intOf]; omega
      · have hg := back_great ds hd i h4 hz
        have hx := hd.at i
        generalize ds.getD i 0 = x at *
        have hz' : (x != 0) = true := by simpa using hz
        have hn : ok = false := by
          cases ok
          · rfl
          · have := hI.yes rfl
            have := wv_hi hI.h hI.l
            omega
        subst hn
        obtain ⟨rfl, rfl, _⟩ := hI.no rfl
        clear hI
        go_wp2
        exact bodyPost_ret (v := .tuple #[.agg #[.int .u64 0, .int .u64 0], .bool false]) (by simp [results, Tryz.results173, go_sem]) rfl ⟨rfl, ba (Below.refl _ _) _⟩
    · have hv : val ds = val (ds.take 8) := by rw [← HV.out, List.take_of_length_le (by omega)]
      have h48 := take8 ds h8
      have hok : ok = true := by
        cases ok
        · obtain ⟨_, _, hno⟩ := hI.no rfl
          have := val_nonneg hd
          have := take_lt hd 8
          have p8 : pw 8 = 340282366920938463463374607431768211456 := rfl
          exact absurd ⟨by omega, by omega⟩ hno
        · rfl
      subst hok
      have b4 := fits_less ds hd
      have b8 := fits_less (ds.drop 4) (hd.drop 4)
      have n4 := take_nonneg hd 4
      have n8 := take_nonneg (hd.drop 4) 4
      obtain ⟨e1, e2⟩ := wv_inj hI.h hI.l ⟨n8, b8⟩ ⟨n4, b4⟩ (by rw [hI.yes rfl, hv, h48])
      have HL : Hid (L = val (ds.take 4)) := e2
      have HH : Hid (H = val ((ds.drop 4).take 4)) := e1
      have hLh := hI.l.hi
      have hHh := hI.h.hi
      clear e1 e2 hI hv h48 HV b4 b8 n4 n8 hr
      have N1 : Num w (.slice (some ⟨b, off, none⟩) 4 (ds.length + ca)) (ds.take 4) := by
        refine ⟨hd.take 4, some ⟨b, off, none⟩, ds.length + ca - 4, ?_, fun _ => ⟨b, off, rfl, hb, fun k hk => ?_⟩⟩
        · rw [List.length_take, Nat.min_eq_left (by omega), Nat.add_sub_cancel' (by omega)]
        · rw [List.length_take] at hk
          rw [getD_take ds 4 k (by omega)]
          exact hc k (by omega)
      have N2 : Num w (.slice (some ⟨b, off + 4, none⟩) 4 (ds.length + ca - 4)) ((ds.drop 4).take 4) := by
        refine ⟨(hd.drop 4).take 4, some ⟨b, off + 4, none⟩, ds.length + ca - 4 - 4, ?_, fun _ => ⟨b, off + 4, rfl, hb, fun k hk => ?_⟩⟩
        · rw [List.length_take, List.length_drop, Nat.min_eq_left (by omega), Nat.add_sub_cancel' (by omega)]
        · rw [List.length_take, List.length_drop] at hk
          rw [getD_take _ 4 k (by omega), getD_drop]
          have := hc (4 + k) (by omega)
          rw [Nat.add_assoc]
          exact this
      have M1 := N1.later (ba (Below.refl _ _) (Obj.cells #[Value.int IntKind.u64 0, Value.int IntKind.u64 0] 199))
      have M2 := N2.later (ba (Below.refl _ _) (Obj.cells #[Value.int IntKind.u64 0, Value.int IntKind.u64 0] 199))
      clear hc h
      go_wp2
      go_loop [0] (fun bv => bv = .slice (some ⟨b, off, none⟩) ds.length (ds.length + ca)) (fun _ => 0)
      case atStart => rfl
      case round =>
        subst hrel
        go_wp2_with (go_at_call 188; first | (with_reducible refine (fits_yes M1 HL (by simp; omega) hLh).mono ?_; rintro e wx ⟨rfl, hw⟩; rw [hw]; clear hw) | (with_reducible refine (fits_yes M2 HH (by simp; omega) hHh).mono ?_; rintro e wx ⟨rfl, hw⟩; rw [hw]; clear hw))
        exact bodyPost_ret (v := .tuple #[.agg #[.int .u64 H, .int .u64 L], .bool true]) (by simp [results, Tryz.results173, go_sem]) rfl ⟨rfl, ba (Below.refl _ _) _⟩
end Go.Proofs.YtpdehdomilnmeaaGreatDoor

/- What the document's Add, Sub, Mul, Compare for numbers of 128 bits answer. -/
namespace Go.Proofs.YtpdehdomilnmeaaGreatDoor
open Go.ChangeShapes Go.WideShapes Go.ChangeAt Go.RowKit
set_option maxRecDepth 100000

theorem keep4 {W w1 : World} {a0 a1 a2 a3 : Addr} {v0 v1 v2 v3 : Value} (hb : Below W.heap.size W w1) (h : W.cell? a0 = some v0 ∧ W.cell? a1 = some v1 ∧ W.cell? a2 = some v2 ∧ W.cell? a3 = some v3) :
    w1.cell? a0 = some v0 ∧ w1.cell? a1 = some v1 ∧ w1.cell? a2 = some v2 ∧ w1.cell? a3 = some v3 :=
  ⟨kc h.1 hb, kc h.2.1 hb, kc h.2.2.1 hb, kc h.2.2.2 hb⟩
theorem kf {w w1 : World} {a : Addr} {v : Value} (h : w.cell? a = some v) (hb : Below w.heap.size w w1) (f : w.frozen? a = false) : w1.frozen? a = false := by
  rw [hb.frozen (cell_lt h)]; exact f
theorem keep4s {w : World} {a0 a1 a2 a3 p q : Addr} {v0 v1 v2 v3 x y : Value} (h : w.cell? a0 = some v0 ∧ w.cell? a1 = some v1 ∧ w.cell? a2 = some v2 ∧ w.cell? a3 = some v3) (h0 : a0.block ≠ p.block ∧ a1.block ≠ p.block ∧ a2.block ≠ p.block ∧ a3.block ≠ p.block) (h1 : p.block = q.block) :
    ((w.setCell p x).setCell q y).cell? a0 = some v0 ∧ ((w.setCell p x).setCell q y).cell? a1 = some v1 ∧ ((w.setCell p x).setCell q y).cell? a2 = some v2 ∧ ((w.setCell p x).setCell q y).cell? a3 = some v3 := by
  obtain ⟨c0, c1, c2, c3⟩ := h0
  have f : ∀ (a : Addr) (v : Value), a.block ≠ p.block → w.cell? a = some v → ((w.setCell p x).setCell q y).cell? a = some v := by
    intro a v hn hv
    rw [World.cell?_of_block (w := w.setCell p x) (Below.heap_setCell _ q y a.block (by omega)), World.cell?_of_block (w := w) (Below.heap_setCell _ p x a.block hn)]
    exact hv
  exact ⟨f _ _ c0 h.1, f _ _ c1 h.2.1, f _ _ c2 h.2.2.1, f _ _ c3 h.2.2.2⟩
theorem sum_eq {p q r a b : Int} (h : r = p + q) (h1 : Hid (p = a)) (h2 : Hid (q = b)) : r = a + b := by rw [h, h1.out, h2.out]
theorem diff_eq {p q r a b : Int} (h : r = p - q) (h1 : Hid (p = a)) (h2 : Hid (q = b)) : r = a - b := by rw [h, h1.out, h2.out]
theorem less_is {ps qs : List Int} {va vb : Value} {w : World} {x y : Int} {t : Bool} (hx : Hid (val ps = x)) (hy : Hid (val qs = y)) (ht : Hid (decide (x < y) = t)) (ha : Num w va ps) (hb : Num w vb qs) (la : ps.length ≤ 30000000000000) (lb : qs.length ≤ 30000000000000) :
    Calls Tryz.prog 139 #[va, vb] w fun e w' => e = .returned (.bool t) ∧ w' = w := by
  rw [← ht.out, ← hx.out, ← hy.out]
  exact less_any ps qs va vb w ha hb la lb
theorem refMul {ah al n H L : Int} {ok : Bool} {w : World} (a1 : Word ah) (a2 : Word al) (b : Word n) (h : Is (wv ah al * n) H L ok) :
    Calls Tryz.prog 174 #[.agg #[.int .u64 ah, .int .u64 al], .int .u64 n] w fun e w' => e = .returned (.tuple #[.agg #[.int .u64 H, .int .u64 L], .bool ok]) ∧ Below w.heap.size w w' := by
  go_enter Tryz.func174, Tryz.ntmps174
  go_wp2_with (first
      | (go_at_call 138; with_reducible refine (refOf a1 a2).mono ?_; rintro e w1 ⟨v1, d1, rfl, n1, E1, l1, c1⟩)
      | (go_at_call 163; with_reducible refine (of_hid n _ b.lo b.hi).mono ?_; rintro e w2 ⟨v2, d2, rfl, n2, E2, l2, c2⟩)
      | (go_at_call 140; refine (times_any d1 d2 _ _ _ (n1.later c2) n2 (by omega) (by omega)).mono ?_; rintro e w3 ⟨v3, d3, rfl, n3, E3, l3, c3⟩; have E3 : Hid (_ = _) := E3)
      | (go_at_call 173; refine (back_any n3 (by omega) (by omega) (by rw [E3.out, E1.out, E2.out]; exact h)).mono ?_; rintro e w4 ⟨rfl, c4⟩; have T := bt (bt (bt c1 c2) c3) c4; have f0 := kc (a := ⟨w.heap.size + 1, 0, none⟩) (v := .int .u64 0) (by simp [go_sem]) T; have f1 := kc (a := ⟨w.heap.size + 1, 1, none⟩) (v := .int .u64 0) (by simp [go_sem]) T; have f2 := kf (a := ⟨w.heap.size + 1, 0, none⟩) (v := .int .u64 0) (by simp [go_sem]) T (by simp [go_sem]); have f3 := kf (a := ⟨w.heap.size + 1, 1, none⟩) (v := .int .u64 0) (by simp [go_sem]) T (by simp [go_sem]); clear T))
  have T : Below w.heap.size w w4 := bt (bt (bt (bt (ba (ba (Below.refl _ _) _) _) c1) c2) c3) c4
  exact bodyPost_ret (v := .tuple #[.agg #[.int .u64 H, .int .u64 L], .bool ok]) (by simp [results, Tryz.results174, go_sem, f0, f1]) rfl ⟨rfl, (T.setCell (by simp) _).setCell (by simp) _⟩
end Go.Proofs.YtpdehdomilnmeaaGreatDoor

