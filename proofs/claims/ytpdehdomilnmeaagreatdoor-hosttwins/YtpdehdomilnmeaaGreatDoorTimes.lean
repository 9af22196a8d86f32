import Derived.Test.YtpdehdomilnmeaaGreatDoorBg
import Derived.Test.YtpdehdomilnmeaaGreatDoorMul
/- What the document's product of two numbers (lists of digits) is, and the document's Mul of two integers. -/
namespace Go.Proofs.YtpdehdomilnmeaaGreatDoor
open Go.ChangeShapes Go.WideShapes Go.ChangeAt Go.RowKit
set_option maxRecDepth 100000

theorem mul_digit (x y c : Int) (x0 : 0 ≤ x) (x1 : x ≤ 65535) (y0 : 0 ≤ y) (y1 : y ≤ 65535) (c0 : 0 ≤ c) (c1 : c ≤ 65535) : 0 ≤ x * y ∧ x * y ≤ 4294836225 ∧ 0 ≤ x * y + c ∧ x * y + c ≤ 4294901760 := by
  have h1 := Int.mul_nonneg x0 y0
  have h2 := Int.mul_le_mul x1 y1 y0 (by omega : (0 : Int) ≤ 65535)
  omega
theorem row_rel {ps zs : List Int} {i j : Nat} {x c p : Int} {B : Nat} {w wr w1 : World} {o : Obj} {ov v' : Value} (hp : p = x * ps.getD j 0 + c) (dp : Digs ps) (x0 : 0 ≤ x) (x1 : x ≤ 65535) (c0 : 0 ≤ c) (c1 : c ≤ 65535) (hlen : zs.length = i + j) (hdz : Digs zs)
    (hown : wr.ownsRow B 237 1 ov (i + j) (zs.map (Value.int .u32))) (HV : Hid (val zs + c * pw (i + j) = x * val (ps.take j) * pw i)) (hbel : Below B w wr) (hB : B ≤ wr.heap.size)
    (hown' : w1.ownsRow B 237 1 v' (i + j + 1) (zs.map (Value.int .u32) ++ [.int .u32 (p % 65536)])) (hgrow : (wr.alloc o).grownBy w1 ov.ownBlock) :
    (0 ≤ p / 65536 ∧ p / 65536 ≤ 65535) ∧ (zs ++ [p % 65536]).length = i + (j + 1) ∧ Digs (zs ++ [p % 65536]) ∧ w1.ownsRow B 237 1 v' (i + (j + 1)) ((zs ++ [p % 65536]).map (Value.int .u32)) ∧
      Hid (val (zs ++ [p % 65536]) + p / 65536 * pw (i + (j + 1)) = x * val (ps.take (j + 1)) * pw i) ∧ Below B w w1 ∧ B ≤ w1.heap.size := by
  have h1 := dp.at j
  have h2 := mul_digit x (ps.getD j 0) c x0 x1 h1.1 h1.2 c0 c1
  have hs := hgrow.size
  simp at hs
  refine ⟨by omega, by simp [hlen]; omega, hdz.snoc (by omega) (by omega), by simpa [Nat.add_assoc] using hown', ?_, ?_, by omega⟩
  · have := times_round zs ps i j x c hlen HV.out
    rw [← hp] at this
    exact this
  · exact (hbel.alloc hB _).grown hgrow (by simp; omega) (fun k hk => (hown.lt k hk).1)
set_option maxHeartbeats 3200000 in
theorem times_any (ps qs : List Int) (va vb : Value) (w : World) (ha : Num w va ps) (hb : Num w vb qs) (la : ps.length ≤ 1000) (lb : qs.length ≤ 1000) :
    Calls Tryz.prog 140 #[va, vb] w fun e w' => ∃ v ds, e = .returned v ∧ Num w' v ds ∧ val ds = val ps * val qs ∧ (ds.length ≤ ps.length + qs.length + 1 ∧ (qs.length = 0 ∨ ps.length + qs.length ≤ ds.length)) ∧ Below w.heap.size w w' := by
  have da := ha.1
  have db := hb.1
  obtain ⟨_, a, ca, ea, ra⟩ := id ha
  obtain ⟨_, b, cb, eb, rb⟩ := id hb
  subst ea eb
  obtain ⟨i0, hi, hz0, hz1, hz2⟩ := info_parts Tryz.info237
  go_enter Tryz.func140, Tryz.ntmps140
  go_wp2
  go_loopw [5, 16] (fun ov iv wr => ∃ (i : Nat) (xs : List Int), iv = .int .i64 i ∧ i ≤ qs.length ∧ Num wr ov xs ∧ (xs.length ≤ ps.length + i + 1 ∧ (i = 0 ∨ ps.length + i ≤ xs.length)) ∧ Hid (val xs = val ps * val (qs.take i)) ∧ Below w.heap.size w wr)
    (fun _ iv _ => qs.length - (intOf iv).toNat)
  case atStart =>
    refine ⟨0, [], rfl, by omega, num_empty _ _ _, by simp, ?_, (Below.refl _ _).alloc (Nat.le_refl _) _⟩
    show val [] = val ps * val (qs.take 0)
    simp [val]
  case round =>
    obtain ⟨i, xs, rfl, hiq, hnx, hlx, HV, hbel⟩ := hrel
    by_cases hlt : i < qs.length
    · obtain ⟨bb, offb, rfl, hltb, hcb⟩ := rb (by omega)
      obtain ⟨x, hx⟩ : ∃ x, x = qs.getD i 0 := ⟨_, rfl⟩
      have HX : Hid (x = qs.getD i 0) := hx
      have bx := db.at i
      rw [← hx] at bx
      have cx : wr.cell? ⟨bb, offb + i, none⟩ = some (.int .u32 x) := by rw [hbel.cell (p := ⟨bb, offb + i, none⟩) hltb, hx]; exact hcb i hlt
      clear hx hcb
      go_wp2_with (at_make; refine wpList_make_full _ rfl _ _ 219 rfl wr.heap.size 237 i0 (.int .u32 0) 1 Tryz.underlying219 hi hz0 hz1 .i64 .i64 _ _ i rfl rfl rfl rfl (by rw [hz2]; omega) (by unfold maxLen; omega) (Nat.le_refl _) ?_; intro w0 hown0 hgrow0)
      have hm0 : (madeCells (Value.int .u32 0).cells (i * 1)).toList = (List.replicate i (0 : Int)).map (Value.int .u32) := by
        rw [show (Value.int .u32 0).cells = #[Value.int .u32 0] from rfl, toList_madeCells_one]; simp
      rw [hm0] at hown0
      have hb0 : Below wr.heap.size wr w0 := (Below.refl _ _).grown hgrow0 (Nat.le_refl _) (fun k hk => by simp at hk)
      have hs0 := hgrow0.size
      clear hm0 hgrow0 rb
      have HO : Hid _ := hown0
      clear hown0
      go_loopw [8, 9, 25] (fun rv cv jv wq => ∃ (j : Nat) (c : Int) (zs : List Int), jv = .int .i64 j ∧ j ≤ ps.length ∧ cv = .int .u32 c ∧ 0 ≤ c ∧ c ≤ 65535 ∧ zs.length = i + j ∧ Digs zs ∧ wq.ownsRow wr.heap.size 237 1 rv (i + j) (zs.map (Value.int .u32)) ∧
          Hid (val zs + c * pw (i + j) = x * val (ps.take j) * pw i) ∧ Below wr.heap.size wr wq ∧ wr.heap.size ≤ wq.heap.size)
        (fun _ _ jv _ => ps.length - (intOf jv).toNat)
      case atStart =>
        refine ⟨0, 0, List.replicate i 0, rfl, by omega, rfl, by omega, by omega, by simp, digs_zeros i, HO.out, ?_, hb0, hs0⟩
        show val (List.replicate i 0) + 0 * pw (i + 0) = x * val (ps.take 0) * pw i
        rw [val_zeros]
        simp [val]
      case round =>
        obtain ⟨j, c, zs, rfl, hjp, rfl, c0, c1, hlz, hdz, hown, HZ, hbz, hsz⟩ := hrel
        clear HO hb0 hs0
        by_cases hjl : j < ps.length
        · obtain ⟨ba, offa, rfl, hlta, hca⟩ := ra (by omega)
          obtain ⟨y, hy⟩ : ∃ y, y = ps.getD j 0 := ⟨_, rfl⟩
          have bY := da.at j
          rw [← hy] at bY
          have cy : wr.cell? ⟨ba, offa + j, none⟩ = some (.int .u32 y) := by rw [hbz.cell (p := ⟨ba, offa + j, none⟩) (Nat.lt_of_lt_of_le hlta hbel.size), hbel.cell (p := ⟨ba, offa + j, none⟩) hlta, hy]; exact hca j hjl
          have HP : Hid (x * y + c = x * ps.getD j 0 + c) := by show x * y + c = x * ps.getD j 0 + c; rw [hy]
          have hpb := mul_digit x y c bx.1 bx.2 bY.1 bY.2 c0 c1
          have e1 := and16_u32 (x * y + c) (by omega) (by omega)
          clear hy hca ra
          go_wp2_with (at_builtin; refine wpList_append_own _ rfl _ _ 219 rfl _ 237 i0 (.int .u32 0) 1 4 Tryz.underlying219 hi hz0 hz1 hz2 rfl (by decide) _ _ _ rfl (hown.alloc _) ⟨wr.heap.size, 0, none⟩ 1 1 [.int .u32 ((x * y + c) % 65536)] rfl rfl ?c1 ?c2 ?c3 ?c4 ?c5 ?_)
          case c1 =>
            intro j u hj
            match j, hj with
            | 0, hj => simp at hj; subst hj; simp [Addr.add]
          case c2 => intro u hu; simp at hu; subst hu; rfl
          case c3 => unfold maxLen; omega
          case c4 => omega
          case c5 => simp; omega
          intro v' w1 hown' hgrow _
          obtain ⟨⟨r0, r1⟩, r2, r3, r4, r5, r6, r7⟩ := row_rel HP.out da bx.1 bx.2 c0 c1 hlz hdz hown HZ hbz hsz hown' hgrow
          clear hown' hgrow hown hbz
          go_wp2
          go_roundw
          case rel => exact ⟨j + 1, _, _, by go_num, by omega, rfl, r0, r1, r2, r3, r4, r5, r6, r7⟩
          case measure => simp [intOf]; omega
        · have hj : j = ps.length := by omega
          subst hj
          have HZ' : Hid (val (zs ++ [c]) = x * val ps * pw i) := by
            show val (zs ++ [c]) = x * val ps * pw i
            have := HZ.out
            rw [take_all ps _ (Nat.le_refl _)] at this
            rw [val_append, hlz]; exact this
          clear HZ ra
          go_wp2_with (first | (at_builtin; refine wpList_append_own _ rfl _ _ 219 rfl _ 237 i0 (.int .u32 0) 1 4 Tryz.underlying219 hi hz0 hz1 hz2 rfl (by decide) _ _ _ rfl (hown.alloc _) ⟨wr.heap.size, 0, none⟩ 1 1 [.int .u32 c] rfl rfl ?c1 ?c2 ?c3 ?c4 ?c5 ?_))
          case c1 =>
            intro j u hj
            match j, hj with
            | 0, hj => simp at hj; subst hj; simp [Addr.add]
          case c2 => intro u hu; simp at hu; subst hu; rfl
          case c3 => unfold maxLen; omega
          case c4 => omega
          case c5 => simp; omega
          intro v' w1 hown' hgrow _
          have hs1 := hgrow.size
          simp at hs1
          have b1 := (hbz.alloc hsz _).grown hgrow (by simp; omega) (fun k hk => (hown.lt k hk).1)
          have n1 : Num w1 v' (zs ++ [c]) := Num.of_owns (hdz.snoc c0 c1) (by simpa [hlz] using hown')
          have l1 : (zs ++ [c]).length = i + ps.length + 1 := by simp [hlz]
          have n2 := hnx.later b1
          clear hown' hgrow hown hbz
          go_wp2_with (go_at_call 142; refine (plus_any xs (zs ++ [c]) _ _ _ n2 n1 (by omega) (by omega)).mono ?_; rintro e w2 ⟨v2, d2, rfl, n3, e3, l3, b3⟩)
          go_roundw
          case rel =>
            refine ⟨i + 1, d2, by go_num, by omega, n3, by omega, ?_, (hbel.trans (b1.mono hbel.size)).trans (b3.mono (by have := hbel.size; omega))⟩
            show val d2 = val ps * val (qs.take (i + 1))
            rw [e3, HV.out, HZ'.out, val_take, ← HX.out]
            generalize val (qs.take i) = T
            generalize val ps = A
            generalize pw i = P
            grind
          case measure => simp [intOf]; omega
    · have hj : i = qs.length := by omega
      subst hj
      clear ra rb
      go_wp2
      go_ret
      refine ⟨_, xs, rfl, hnx, ?_, by omega, hbel⟩
      have := HV.out
      rwa [take_all qs _ (Nat.le_refl _)] at this
/-- As of_any; what it is worth is kept from the walk. -/
theorem of_hid (n : Int) (w : World) (h0 : 0 ≤ n) (h1 : n < 18446744073709551616) :
    Calls Tryz.prog 163 #[.int .u64 n] w fun e w' => ∃ v ds, e = .returned v ∧ Num w' v ds ∧ Hid (val ds = n) ∧ ds.length = 4 ∧ Below w.heap.size w w' :=
  of_any n w h0 h1
end Go.Proofs.YtpdehdomilnmeaaGreatDoor
