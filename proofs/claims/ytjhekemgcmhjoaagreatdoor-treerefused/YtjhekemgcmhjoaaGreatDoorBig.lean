/- What the document's numbers (lists of digits) do: Of, Plus, at, Less, Minus, Fits, Times, Whole. -/
import Derived.Test.YtjhekemgcmhjoaaGreatDoorDigits
import Derived.Test.YtjhekemgcmhjoaaGreatDoorTick
import Derived.OwnWalk
import Derived.WalkSmall
namespace Go.Proofs.YtjhekemgcmhjoaaGreatDoor
open Go.ChangeShapes Go.WideShapes Go.ChangeAt Go.RowKit
set_option maxRecDepth 100000

theorem Tryz.info203 : (Tryz.prog.info? 203).map (fun i => (i.zero, i.size, i.bytes)) = some (some (.int .u32 0), 1, 4) := by kernel_rfl
/-- A slice of digits that lies in memory and reads as the list ds. -/
def Num (w : World) (v : Value) (ds : List Int) : Prop :=
  Digs ds ∧ ∃ a cap, v = .slice a ds.length (ds.length + cap) ∧
    (0 < ds.length → ∃ b off, a = some ⟨b, off, none⟩ ∧ b < w.heap.size ∧ ∀ k, k < ds.length → w.cell? ⟨b, off + k, none⟩ = some (.int .u32 (ds.getD k 0)))
theorem Num.later {w w' : World} {v : Value} {ds : List Int} (h : Num w v ds) (hb : Below w.heap.size w w') : Num w' v ds := by
  obtain ⟨hd, a, cap, rfl, hr⟩ := h
  refine ⟨hd, a, cap, rfl, fun h0 => ?_⟩
  obtain ⟨b, off, rfl, hlt, hc⟩ := hr h0
  refine ⟨b, off, rfl, Nat.lt_of_lt_of_le hlt hb.size, fun k hk => ?_⟩
  rw [hb.cell (p := ⟨b, off + k, none⟩) hlt]
  exact hc k hk
theorem Num.of_owns {w : World} {base : Nat} {e : TypeId} {v : Value} {ds : List Int} (hd : Digs ds) (h : w.ownsRow base e 1 v ds.length (ds.map (Value.int .u32))) : Num w v ds := by
  refine ⟨hd, ?_⟩
  have hc := @World.ownsRow.cells
  rcases h.2 with ⟨rfl, h0⟩ | ⟨g, cap, cur, rfl, hg, hh, hcap, hm, hs, ht⟩
  · exact ⟨none, 0, by rw [h0], fun hp => by omega⟩
  · refine ⟨some ⟨g, 0, none⟩, cap - ds.length, by rw [Nat.add_sub_cancel' hcap], fun hp => ⟨g, 0, rfl, ?_, fun k hk => ?_⟩⟩
    · exact (h.lt g rfl).2
    · have := h.cells (g := g) rfl k (.int .u32 (ds.getD k 0)) (by simp [List.getD, hk])
      have e : (⟨g, 0, none⟩ : Addr).add k = ⟨g, 0 + k, none⟩ := by cases k <;> simp [Addr.add]
      rwa [e] at this
theorem num_empty (w : World) (a : Option Addr) (cap : Nat) : Num w (.slice a 0 cap) [] := ⟨by simp [Digs], a, cap, by simp, fun h => by simp at h⟩
theorem of_any (n : Int) (w : World) (h0 : 0 ≤ n) (h1 : n < 18446744073709551616) :
    Calls Tryz.prog 151 #[.int .u64 n] w fun e w' => ∃ v ds, e = .returned v ∧ Num w' v ds ∧ val ds = n ∧ ds.length = 4 ∧ Below w.heap.size w w' := by
  have e1 := and16_u64 n h0 h1
  have e2 := and16_u64 (n / 65536) (by omega) (by omega)
  have e3 := and16_u64 (n / 4294967296) (by omega) (by omega)
  go_enter Tryz.func151, Tryz.ntmps151
  go_wp2
  go_ret
  refine ⟨_, [n % 65536, n / 65536 % 65536, n / 4294967296 % 65536, n / 281474976710656], rfl, ⟨?_, some ⟨w.heap.size, 0, none⟩, 0, rfl, fun _ => ⟨w.heap.size, 0, rfl, by simp, ?_⟩⟩, ?_, rfl, (Below.refl _ _).alloc (Nat.le_refl _) _⟩
  · intro d hd
    simp at hd
    omega
  · intro k hk
    have : k = 0 ∨ k = 1 ∨ k = 2 ∨ k = 3 := by simp at hk; omega
    rcases this with rfl | rfl | rfl | rfl <;> go_simp
  · simp only [val]; omega
theorem plus_rel {ps qs xs : List Int} {i : Nat} {c s : Int} {w wr w1 : World} {o : Obj} {ov v' : Value} (hs : s = c + ps.getD i 0 + qs.getD i 0) (dp : Digs ps) (dq : Digs qs) (hc0 : 0 ≤ c) (hc1 : c ≤ 1) (hlen : xs.length = i) (hdx : Digs xs)
    (hown : wr.ownsRow w.heap.size 203 1 ov i (xs.map (Value.int .u32))) (HV : Hid (val xs + c * pw i = val (ps.take i) + val (qs.take i))) (hbel : Below w.heap.size w wr)
    (hown' : w1.ownsRow w.heap.size 203 1 v' (i + 1) (xs.map (Value.int .u32) ++ [.int .u32 (s % 65536)])) (hgrow : (wr.alloc o).grownBy w1 ov.ownBlock) :
    (0 ≤ s / 65536 ∧ s / 65536 ≤ 1) ∧ (xs ++ [s % 65536]).length = i + 1 ∧ Digs (xs ++ [s % 65536]) ∧ w1.ownsRow w.heap.size 203 1 v' (i + 1) ((xs ++ [s % 65536]).map (Value.int .u32)) ∧
      Hid (val (xs ++ [s % 65536]) + s / 65536 * pw (i + 1) = val (ps.take (i + 1)) + val (qs.take (i + 1))) ∧ Below w.heap.size w w1 := by
  have h1 := dp.at i
  have h2 := dq.at i
  have hsz := hbel.size
  refine ⟨by omega, by simp [hlen], hdx.snoc (by omega) (by omega), by simpa using hown', ?_, ?_⟩
  · have := plus_round xs ps qs i c hlen HV.out
    rw [← hs] at this
    exact this
  · exact (hbel.alloc hsz _).grown hgrow (by simp; omega) (fun k hk => (hown.lt k hk).1)
set_option maxHeartbeats 1600000 in
theorem plus_any (ps qs : List Int) (va vb : Value) (w : World) (ha : Num w va ps) (hb : Num w vb qs) (la : ps.length ≤ 30000000000000) (lb : qs.length ≤ 30000000000000) :
    Calls Tryz.prog 118 #[va, vb] w fun e w' => ∃ v ds, e = .returned v ∧ Num w' v ds ∧ val ds = val ps + val qs ∧ (ds.length ≤ max ps.length qs.length + 1 ∧ max ps.length qs.length ≤ ds.length) ∧ Below w.heap.size w w' := by
  obtain ⟨da, a, ca, rfl, ra⟩ := ha
  obtain ⟨db, b, cb, rfl, rb⟩ := hb
  obtain ⟨i0, hi, hz0, hz1, hz2⟩ := info_parts Tryz.info203
  go_enter Tryz.func118, Tryz.ntmps118
  go_wp2
  go_loopw [5, 6, 7] (fun ov cv iv wr => ∃ (i : Nat) (c : Int) (xs : List Int), iv = .int .i64 i ∧ cv = .int .u32 c ∧ 0 ≤ c ∧ c ≤ 1 ∧ xs.length = i ∧ Digs xs ∧ wr.ownsRow w.heap.size 203 1 ov i (xs.map (Value.int .u32)) ∧
      (i ≤ ps.length ∨ i ≤ qs.length ∨ (i ≤ max ps.length qs.length + 1 ∧ c = 0)) ∧ Hid (val xs + c * pw i = val (ps.take i) + val (qs.take i)) ∧ Below w.heap.size w wr)
    (fun _ cv iv _ => max ps.length qs.length + 1 - (intOf iv).toNat)
  case atStart =>
    refine ⟨0, 0, [], rfl, rfl, by omega, by omega, rfl, by simp [Digs], ?_, by omega, ?_, (Below.refl _ _).alloc (Nat.le_refl _) _⟩
    · exact World.ownsRow_made w #[] 0 (Nat.le_refl _) (by unfold maxLen; omega) rfl
    · show val [] + 0 * pw 0 = val (ps.take 0) + val (qs.take 0)
      simp [val]
  case round =>
    obtain ⟨i, c, xs, rfl, rfl, hc0, hc1, hlen, hdx, hown, hst, HV, hbel⟩ := hrel
    obtain ⟨x, hx⟩ : ∃ x, x = ps.getD i 0 := ⟨_, rfl⟩
    obtain ⟨y, hy⟩ : ∃ y, y = qs.getD i 0 := ⟨_, rfl⟩
    have bx := da.at i
    rw [← hx] at bx
    have bY := db.at i
    rw [← hy] at bY
    by_cases hia : i < ps.length
    · by_cases hib : i < qs.length
      · obtain ⟨ba, offa, rfl, hlta, hca⟩ := ra (by omega)
        obtain ⟨bb, offb, rfl, hltb, hcb⟩ := rb (by omega)
        have cx : wr.cell? ⟨ba, offa + i, none⟩ = some (.int .u32 x) := by rw [hbel.cell (p := ⟨ba, offa + i, none⟩) hlta, hx]; exact hca i hia
        have cy : wr.cell? ⟨bb, offb + i, none⟩ = some (.int .u32 y) := by rw [hbel.cell (p := ⟨bb, offb + i, none⟩) hltb, hy]; exact hcb i hib
        clear hca hcb ra rb
        have hs : c + x + y = c + ps.getD i 0 + qs.getD i 0 := by rw [hx, hy]
        have HS : Hid (c + x + y = c + ps.getD i 0 + qs.getD i 0) := hs
        have hb1 : 0 ≤ c + x + y := by omega
        have hb2 : c + x + y ≤ 131071 := by omega
        have e1 := and16_u32 (c + x + y) (by omega) (by omega)
        clear hs hx hy
        go_wp2_with (at_builtin; refine wpList_append_own _ rfl _ _ 170 rfl w.heap.size 203 i0 (.int .u32 0) 1 4 Tryz.underlying170 hi hz0 hz1 hz2 rfl (by decide) _ _ _ rfl (hown.alloc _) ⟨wr.heap.size, 0, none⟩ 1 1 [.int .u32 ((c + x + y) % 65536)] rfl rfl ?c1 ?c2 ?c3 ?c4 ?c5 ?_)
        case c1 =>
          intro j u hj
          match j, hj with
          | 0, hj => simp at hj; subst hj; simp [Addr.add]
        case c2 => intro u hu; simp at hu; subst hu; rfl
        case c3 => unfold maxLen; omega
        case c4 => omega
        case c5 => have := hbel.size; simp; omega
        intro v' w1 hown' hgrow _
        obtain ⟨⟨r0, r1⟩, r2, r3, r4, r5, r6⟩ := plus_rel HS.out da db hc0 hc1 hlen hdx hown HV hbel hown' hgrow
        clear hown' hgrow hown hbel
        go_wp2
        go_roundw
        case rel => exact ⟨i + 1, _, _, by go_num, rfl, r0, r1, r2, r3, r4, by omega, r5, r6⟩
        case measure => simp [intOf]; omega
      · obtain ⟨ba, offa, rfl, hlta, hca⟩ := ra (by omega)
        have cx : wr.cell? ⟨ba, offa + i, none⟩ = some (.int .u32 x) := by rw [hbel.cell (p := ⟨ba, offa + i, none⟩) hlta, hx]; exact hca i hia
        clear hca ra rb
        have hs : c + x = c + ps.getD i 0 + qs.getD i 0 := by rw [hx, getD_past qs i (by omega)]; omega
        have HS : Hid (c + x = c + ps.getD i 0 + qs.getD i 0) := hs
        have hb1 : 0 ≤ c + x := by omega
        have hb2 : c + x ≤ 131071 := by omega
        have e1 := and16_u32 (c + x) (by omega) (by omega)
        clear hs hx hy
        go_wp2_with (at_builtin; refine wpList_append_own _ rfl _ _ 170 rfl w.heap.size 203 i0 (.int .u32 0) 1 4 Tryz.underlying170 hi hz0 hz1 hz2 rfl (by decide) _ _ _ rfl (hown.alloc _) ⟨wr.heap.size, 0, none⟩ 1 1 [.int .u32 ((c + x) % 65536)] rfl rfl ?c1 ?c2 ?c3 ?c4 ?c5 ?_)
        case c1 =>
          intro j u hj
          match j, hj with
          | 0, hj => simp at hj; subst hj; simp [Addr.add]
        case c2 => intro u hu; simp at hu; subst hu; rfl
        case c3 => unfold maxLen; omega
        case c4 => omega
        case c5 => have := hbel.size; simp; omega
        intro v' w1 hown' hgrow _
        obtain ⟨⟨r0, r1⟩, r2, r3, r4, r5, r6⟩ := plus_rel HS.out da db hc0 hc1 hlen hdx hown HV hbel hown' hgrow
        clear hown' hgrow hown hbel
        go_wp2
        go_roundw
        case rel => exact ⟨i + 1, _, _, by go_num, rfl, r0, r1, r2, r3, r4, by omega, r5, r6⟩
        case measure => simp [intOf]; omega
    · by_cases hib : i < qs.length
      · obtain ⟨bb, offb, rfl, hltb, hcb⟩ := rb (by omega)
        have cy : wr.cell? ⟨bb, offb + i, none⟩ = some (.int .u32 y) := by rw [hbel.cell (p := ⟨bb, offb + i, none⟩) hltb, hy]; exact hcb i hib
        clear hcb ra rb
        have hs : c + y = c + ps.getD i 0 + qs.getD i 0 := by rw [hy, getD_past ps i (by omega)]; omega
        have HS : Hid (c + y = c + ps.getD i 0 + qs.getD i 0) := hs
        have hb1 : 0 ≤ c + y := by omega
        have hb2 : c + y ≤ 131071 := by omega
        have e1 := and16_u32 (c + y) (by omega) (by omega)
        clear hs hx hy
        go_wp2_with (at_builtin; refine wpList_append_own _ rfl _ _ 170 rfl w.heap.size 203 i0 (.int .u32 0) 1 4 Tryz.underlying170 hi hz0 hz1 hz2 rfl (by decide) _ _ _ rfl (hown.alloc _) ⟨wr.heap.size, 0, none⟩ 1 1 [.int .u32 ((c + y) % 65536)] rfl rfl ?c1 ?c2 ?c3 ?c4 ?c5 ?_)
        case c1 =>
          intro j u hj
          match j, hj with
          | 0, hj => simp at hj; subst hj; simp [Addr.add]
        case c2 => intro u hu; simp at hu; subst hu; rfl
        case c3 => unfold maxLen; omega
        case c4 => omega
        case c5 => have := hbel.size; simp; omega
        intro v' w1 hown' hgrow _
        obtain ⟨⟨r0, r1⟩, r2, r3, r4, r5, r6⟩ := plus_rel HS.out da db hc0 hc1 hlen hdx hown HV hbel hown' hgrow
        clear hown' hgrow hown hbel
        go_wp2
        go_roundw
        case rel => exact ⟨i + 1, _, _, by go_num, rfl, r0, r1, r2, r3, r4, by omega, r5, r6⟩
        case measure => simp [intOf]; omega
      · by_cases hcz : c = 1
        · clear ra rb
          have hcp : 0 < c := by omega
          have hst' : i ≤ ps.length ∨ i ≤ qs.length := by omega
          clear hcz
          have hs : c = c + ps.getD i 0 + qs.getD i 0 := by rw [getD_past ps i (by omega), getD_past qs i (by omega)]; omega
          have HS : Hid (c = c + ps.getD i 0 + qs.getD i 0) := hs
          have hb1 : 0 ≤ c := by omega
          have hb2 : c ≤ 131071 := by omega
          have e1 := and16_u32 (c) (by omega) (by omega)
          clear hs hx hy
          go_wp2_with (at_builtin; refine wpList_append_own _ rfl _ _ 170 rfl w.heap.size 203 i0 (.int .u32 0) 1 4 Tryz.underlying170 hi hz0 hz1 hz2 rfl (by decide) _ _ _ rfl (hown.alloc _) ⟨wr.heap.size, 0, none⟩ 1 1 [.int .u32 ((c) % 65536)] rfl rfl ?c1 ?c2 ?c3 ?c4 ?c5 ?_)
          case c1 =>
            intro j u hj
            match j, hj with
            | 0, hj => simp at hj; subst hj; simp [Addr.add]
          case c2 => intro u hu; simp at hu; subst hu; rfl
          case c3 => unfold maxLen; omega
          case c4 => omega
          case c5 => have := hbel.size; simp; omega
          intro v' w1 hown' hgrow _
          obtain ⟨⟨r0, r1⟩, r2, r3, r4, r5, r6⟩ := plus_rel HS.out da db hc0 hc1 hlen hdx hown HV hbel hown' hgrow
          clear hown' hgrow hown hbel
          go_wp2
          go_roundw
          case rel => exact ⟨i + 1, _, _, by go_num, rfl, r0, r1, r2, r3, r4, by omega, r5, r6⟩
          case measure => simp [intOf]; omega
        · have hc2 : c = 0 := by omega
          subst hc2
          clear ra rb hx hy
          go_wp2
          go_ret
          refine ⟨_, rfl, xs, Num.of_owns hdx (hlen ▸ hown), ?_, by omega, hbel⟩
          have := HV.out
          rw [List.take_of_length_le (by omega), List.take_of_length_le (by omega)] at this
          omega
end Go.Proofs.YtjhekemgcmhjoaaGreatDoor
