/- TickOrders: the sum of a list turned round, and of two lists together, at all lists of together at most 2000000 integers. -/
import Derived.Test.YtpjlppffehjemaaSum
import Derived.OwnWalk
import Derived.WalkSmall
import Derived.Laws.AppendOwnNone
namespace Go.Proofs.Ytpjlppffehjemaa
open Go.ChangeShapes Go.WideShapes Go.ChangeAt Go.RowKit

theorem Try.info3 : (Try.prog.info? 3).map (fun i => (i.zero, i.size, i.bytes)) = some (some (.int .i64 0), 1, 8) := by kernel_rfl
theorem cell_block {w : World} {a : Addr} {v : Value} (h : w.cell? a = some v) : a.block < w.heap.size := by
  refine Nat.lt_of_not_le fun hge => ?_
  unfold World.cell? at h
  rw [Array.getElem?_eq_none hge] at h
  simp at h
theorem Reads.later {w w' : World} {v : Value} {zs : List Int} (h : Reads w v zs) (hb : Below w.heap.size w w') : Reads w' v zs := by
  obtain ⟨a, cap, rfl, hz, hr⟩ := h
  refine ⟨a, cap, rfl, hz, fun h0 => ?_⟩
  obtain ⟨b, off, rfl, hc⟩ := hr h0
  refine ⟨b, off, rfl, fun k hk => ?_⟩
  rw [hb.cell (p := ⟨b, off + k, none⟩) (cell_block (hc k hk))]
  exact hc k hk
def Ints (zs : List Int) : Prop := ∀ z ∈ zs, -9223372036854775808 ≤ z ∧ z ≤ 9223372036854775807
theorem Reads.of_owns {w : World} {base : Nat} {e : TypeId} {v : Value} {zs : List Int} (hd : Ints zs) (h : w.ownsRow base e 1 v zs.length (zs.map (Value.int .i64))) : Reads w v zs := by
  rcases h.2 with ⟨rfl, h0⟩ | ⟨g, cap, cur, rfl, hg, hh, hcap, hm, hs, ht⟩
  · exact ⟨none, 0, by rw [h0], hd, fun hp => by omega⟩
  · refine ⟨some ⟨g, 0, none⟩, cap, rfl, hd, fun hp => ⟨g, 0, rfl, fun k hk => ?_⟩⟩
    have := h.cells (g := g) rfl k (.int .i64 (zs.getD k 0)) (by simp [List.getD, hk])
    have e : (⟨g, 0, none⟩ : Addr).add k = ⟨g, 0 + k, none⟩ := by cases k <;> simp [Addr.add]
    rwa [e] at this
theorem sum_rev (zs : List Int) : zs.reverse.sum = zs.sum := by
  induction zs with
  | nil => rfl
  | cons z zs ih => simp only [List.reverse_cons, List.sum_append, ih, List.sum_cons, List.sum_nil]; omega
theorem ints_rev {zs : List Int} (h : Ints zs) : Ints zs.reverse := fun z hz => h z (by simpa using hz)
theorem drop_rev (zs : List Int) (k : Nat) (h : k < zs.length) : (zs.drop k).reverse = (zs.drop (k + 1)).reverse ++ [zs.getD k 0] := by
  rw [List.drop_eq_getElem_cons h, List.reverse_cons]
  simp [List.getD, h]
theorem src_cells {w : World} {ad : Addr} {ys : List Int} {n c : Nat} (h : Reads w (.slice (some ad) n c) ys) : n = ys.length ∧ ∀ j u, (ys.map (Value.int .i64))[j]? = some u → w.cell? (ad.add j) = some u := by
  obtain ⟨a, cap, ea, hz, hr⟩ := h
  simp at ea
  obtain ⟨rfl, rfl, rfl⟩ := ea
  refine ⟨rfl, fun j u hj => ?_⟩
  have hjl : j < ys.length := by
    have := (List.getElem?_eq_some_iff.mp hj).1
    simpa using this
  obtain ⟨b, off, e, hc⟩ := hr (by omega)
  simp at e
  subst e
  have e : (⟨b, off, none⟩ : Addr).add j = ⟨b, off + j, none⟩ := by cases j <;> simp [Addr.add]
  rw [e, hc j hjl]
  simp [hjl] at hj
  simp [List.getD, hjl, hj]
theorem src_none {w : World} {ys : List Int} {n c : Nat} (h : Reads w (.slice none n c) ys) : n = 0 ∧ ys = [] := by
  obtain ⟨a, cap, ea, hz, hr⟩ := h
  simp at ea
  obtain ⟨rfl, rfl, rfl⟩ := ea
  by_cases h0 : 0 < ys.length
  · obtain ⟨b, off, e, _⟩ := hr h0
    simp at e
  · have : ys = [] := List.length_eq_zero_iff.mp (by omega)
    exact ⟨by omega, this⟩
theorem ints_oneCell (ys : List Int) : ∀ u ∈ ys.map (Value.int .i64), u.oneCell' = true := by
  intro u hu
  obtain ⟨y, _, rfl⟩ := List.mem_map.mp hu
  rfl
theorem both_rel {zs ys : List Int} {w wr w1 : World} {ov v' : Value} {n : Nat} (hz : Ints zs) (hy : Ints ys) (hn : n = ys.length)
    (hown : wr.ownsRow w.heap.size 3 1 ov (zs.length - 0) ((zs.drop 0).reverse.map (Value.int .i64))) (hbel : Below w.heap.size w wr)
    (hown' : w1.ownsRow w.heap.size 3 1 v' (zs.length - 0 + n) ((zs.drop 0).reverse.map (Value.int .i64) ++ ys.map (Value.int .i64))) (hgrow : wr.grownBy w1 ov.ownBlock) :
    Reads w1 v' (zs.reverse ++ ys) ∧ Below w.heap.size w w1 := by
  subst hn
  refine ⟨Reads.of_owns ?_ (by simpa using hown'), hbel.grown hgrow hbel.size (fun k hk => (hown.lt k hk).1)⟩
  intro z h
  rcases List.mem_append.mp h with h | h
  · exact ints_rev hz z h
  · exact hy z h
theorem tickSum_is {zs : List Int} {S : Int} {v : Value} {w : World} (hl : zs.length ≤ 140737488355328) (h : Reads w v zs) (hS : Hid (S = zs.sum)) :
    Calls Try.prog 13 #[v] w fun e w' => e = .returned (.tuple #[.int .i64 (fitN S), .bool (fitB S)]) ∧ w' = w := by
  rw [hS.out]
  exact tickSum_any zs v w hl h
/-- The first loop: the list turned round lies in memory of the call's own. -/
theorem turn_rel {zs : List Int} {k la : Nat} {w wr w1 : World} {o : Obj} {ov v' : Value} (hla : zs.length = la) (hk : k < la)
    (hown : wr.ownsRow w.heap.size 3 1 ov (la - (k + 1)) ((zs.drop (k + 1)).reverse.map (Value.int .i64))) (hbel : Below w.heap.size w wr)
    (hown' : w1.ownsRow w.heap.size 3 1 v' (la - (k + 1) + 1) ((List.drop (k + 1) (zs.map (Value.int .i64))).reverse ++ [.int .i64 (zs.getD k 0)])) (hgrow : (wr.alloc o).grownBy w1 ov.ownBlock) :
    w1.ownsRow w.heap.size 3 1 v' (la - k) ((zs.drop k).reverse.map (Value.int .i64)) ∧ Below w.heap.size w w1 := by
  have hsz := hbel.size
  refine ⟨?_, (hbel.alloc hsz _).grown hgrow (by simp; omega) (fun k hk => (hown.lt k hk).1)⟩
  rw [drop_rev zs k (by omega), List.map_append]
  rw [show la - (k + 1) + 1 = la - k by omega, ← List.map_drop, ← List.map_reverse] at hown'
  exact hown'
set_option maxHeartbeats 1600000 in
theorem orders_any (zs ys : List Int) (va vb : Value) (w : World) (la : zs.length ≤ 2000000) (lb : ys.length ≤ 2000000) (ha : Reads w va zs) (hb : Reads w vb ys) (hn : ∀ n c, vb = .slice none n c → c = 0) :
    Calls Try.prog 8 #[va, vb] w fun e w' => e = .returned (.bool true) ∧ Below w.heap.size w w' := by
  obtain ⟨a, ca, ea, ia, ra⟩ := id ha
  obtain ⟨b0, cb, eb, ib, rb⟩ := id hb
  subst ea eb
  obtain ⟨i0, hi, hz0, hz1, hz2⟩ := info_parts Try.info3
  go_enter Try.func8, Try.ntmps8
  go_wp2_with (go_at_call 9; refine (alive_any _).mono ?_; rintro e wx ⟨rfl, hw⟩; rw [hw]; clear hw)
  go_loopw [5, 6] (fun tv iv wr => ∃ j : Nat, j ≤ zs.length ∧ iv = .int .i64 ((j : Int) - 1) ∧ wr.ownsRow w.heap.size 3 1 tv (zs.length - j) ((zs.drop j).reverse.map (Value.int .i64)) ∧ Below w.heap.size w wr) (fun _ iv _ => (intOf iv + 1).toNat)
  case atStart =>
    refine ⟨zs.length, Nat.le_refl _, rfl, ?_, (Below.refl _ _).alloc (Nat.le_refl _) _⟩
    have := World.ownsRow_made (e := 3) (size := 1) w #[] 0 (Nat.le_refl _) (by unfold maxLen; omega) rfl
    simpa using this
  case round =>
    obtain ⟨j, hj, rfl, hown, hbel⟩ := hrel
    by_cases h0 : j = 0
    · subst h0
      have nt : Reads wr _ zs.reverse := Reads.of_owns (ints_rev ia) (by simpa using hown)
      obtain ⟨S, hS⟩ : ∃ S, S = zs.sum := ⟨_, rfl⟩
      obtain ⟨T, hT⟩ : ∃ T, T = ys.sum := ⟨_, rfl⟩
      have HS : Hid (S = zs.sum) := hS
      have HR : Hid (S = zs.reverse.sum) := by show S = zs.reverse.sum; rw [sum_rev, hS]
      have HT : Hid (T = ys.sum) := hT
      have ha' := ha.later hbel
      have hb' := hb.later hbel
      clear hS hT ra
      have hlr : zs.reverse.length ≤ 140737488355328 := by simp; omega
      by_cases h1 : fitB S = true
      · by_cases h2 : fitB T = true
        · have f1 := fitN_of_fitB h1
          have f2 := fitN_of_fitB h2
          have s1 := fitN_lo S
          have s2 := fitN_hi S
          have t1 := fitN_lo T
          have t2 := fitN_hi T
          rw [f1] at s1 s2
          rw [f2] at t1 t2
          have HB : Hid (S + T = (zs.reverse ++ ys).sum) := by show S + T = (zs.reverse ++ ys).sum; rw [List.sum_append, ← HR.out, ← HT.out]
          have hlb : (zs.reverse ++ ys).length ≤ 140737488355328 := by simp; omega
          cases b0 with
          | none =>
            obtain ⟨hlen, rfl⟩ := src_none hb
            obtain rfl := hn _ _ rfl
            obtain rfl : T = 0 := HT.out
            have hb0 : Reads wr (.slice none 0 0) [] := hb'
            clear rb hb hb' hlen
            go_wp2_with (first | (go_at_call 13; with_reducible refine (tickSum_is (by omega) ha' HS).mono ?_; rintro e wx ⟨rfl, hw⟩; rw [hw]; clear hw) | (go_at_call 13; with_reducible refine (tickSum_is hlr nt HR).mono ?_; rintro e wx ⟨rfl, hw⟩; rw [hw]; clear hw) | (go_at_call 13; with_reducible refine (tickSum_is (zs := []) (by simp) hb0 HT).mono ?_; rintro e wx ⟨rfl, hw⟩; rw [hw]; clear hw) | (at_builtin; refine wpList_append_own_none rfl (.tmp 64) (.tmp 65) 22 rfl w.heap.size 3 i0 1 Try.underlying22 hi _ _ _ rfl hown rfl ?_) | (go_at_call 10; refine (add_any _ _ _ (by omega) (by omega) (by omega) (by omega)).mono ?_; rintro e wx ⟨rfl, hw⟩; rw [hw]; clear hw))
            go_ret
            exact ⟨rfl, hbel⟩
          | some ad =>
            clear rb
            go_wp2_with (first | (go_at_call 13; with_reducible refine (tickSum_is (by omega) ha' HS).mono ?_; rintro e wx ⟨rfl, hw⟩; rw [hw]; clear hw) | (go_at_call 13; with_reducible refine (tickSum_is hlr nt HR).mono ?_; rintro e wx ⟨rfl, hw⟩; rw [hw]; clear hw) | (go_at_call 13; with_reducible refine (tickSum_is (by omega) hb' HT).mono ?_; rintro e wx ⟨rfl, hw⟩; rw [hw]; clear hw) | (at_builtin; refine wpList_append_own _ rfl (.tmp 64) (.tmp 65) 22 rfl w.heap.size 3 i0 (.int .i64 0) 1 8 Try.underlying22 hi hz0 hz1 hz2 rfl (by decide) _ _ _ rfl hown ad ys.length cb (ys.map (Value.int .i64)) rfl (by simp) (src_cells hb').2 (ints_oneCell ys) (by unfold maxLen; omega) (by omega) hbel.size ?_; intro v' w1 hown' hgrow _; obtain ⟨q1, q2⟩ := both_rel ia ib rfl hown hbel (by simpa using hown') hgrow; clear hown' hgrow) | (go_at_call 13; with_reducible refine (tickSum_is hlb q1 HB).mono ?_; rintro e wx ⟨rfl, hw⟩; rw [hw]; clear hw) | (go_at_call 10; refine (add_any _ _ _ (by omega) (by omega) (by omega) (by omega)).mono ?_; rintro e wx ⟨rfl, hw⟩; rw [hw]; clear hw))
            go_ret
            exact ⟨rfl, q2⟩
        · have h2' : fitB T = false := by simpa using h2
          go_wp2_with (first | (go_at_call 13; with_reducible refine (tickSum_is (by omega) ha' HS).mono ?_; rintro e wx ⟨rfl, hw⟩; rw [hw]; clear hw) | (go_at_call 13; with_reducible refine (tickSum_is hlr nt HR).mono ?_; rintro e wx ⟨rfl, hw⟩; rw [hw]; clear hw) | (go_at_call 13; with_reducible refine (tickSum_is (by omega) hb' HT).mono ?_; rintro e wx ⟨rfl, hw⟩; rw [hw]; clear hw))
          go_ret
          exact ⟨rfl, hbel⟩
      · have h1' : fitB S = false := by simpa using h1
        go_wp2_with (first | (go_at_call 13; with_reducible refine (tickSum_is (by omega) ha' HS).mono ?_; rintro e wx ⟨rfl, hw⟩; rw [hw]; clear hw) | (go_at_call 13; with_reducible refine (tickSum_is hlr nt HR).mono ?_; rintro e wx ⟨rfl, hw⟩; rw [hw]; clear hw) | (go_at_call 13; with_reducible refine (tickSum_is (by omega) hb' HT).mono ?_; rintro e wx ⟨rfl, hw⟩; rw [hw]; clear hw))
        go_ret
        exact ⟨rfl, hbel⟩
    · obtain ⟨k, rfl⟩ : ∃ k, j = k + 1 := ⟨j - 1, by omega⟩
      have ek : ((k + 1 : Nat) : Int) - 1 = (k : Int) := by omega
      rw [ek]
      obtain ⟨b, off, rfl, hc⟩ := ra (by omega)
      have hcell : wr.cell? ⟨b, off + k, none⟩ = some (.int .i64 (zs.getD k 0)) := by rw [hbel.cell (p := ⟨b, off + k, none⟩) (cell_block (hc k (by omega)))]; exact hc k (by omega)
      obtain ⟨x, hx⟩ : ∃ x, x = zs.getD k 0 := ⟨_, rfl⟩
      rw [← hx] at hcell
      have HX : Hid (x = zs.getD k 0) := hx
      clear hx hc ra
      have hkl : k < zs.length := by omega
      go_wp2_with (at_builtin; refine wpList_append_own _ rfl _ _ 22 rfl w.heap.size 3 i0 (.int .i64 0) 1 8 Try.underlying22 hi hz0 hz1 hz2 rfl (by decide) _ _ _ rfl (hown.alloc _) ⟨wr.heap.size, 0, none⟩ 1 1 [.int .i64 x] rfl rfl ?c1 ?c2 ?c3 ?c4 ?c5 ?_)
      case c1 =>
        intro j u hj
        match j, hj with
        | 0, hj => simp at hj; subst hj; simp [Addr.add]
      case c2 => intro u hu; simp at hu; subst hu; rfl
      case c3 => unfold maxLen; omega
      case c4 => omega
      case c5 => have := hbel.size; simp; omega
      intro v' w1 hown' hgrow _
      rw [HX.out] at hown'
      obtain ⟨r1, r2⟩ := turn_rel rfl hkl hown hbel hown' hgrow
      clear hown' hgrow hown hbel
      go_wp2
      go_roundw
      case rel => exact ⟨k, by omega, rfl, r1, r2⟩
      case measure => simp [intOf]
end Go.Proofs.Ytpjlppffehjemaa
