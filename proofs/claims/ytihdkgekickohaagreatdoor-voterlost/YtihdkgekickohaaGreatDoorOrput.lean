import Derived.Test.YtihdkgekickohaaGreatDoorOled
import Derived.Test.YtihdkgekickohaaGreatDoorBaseA
import Derived.Test.YtihdkgekickohaaGreatDoorRefNum
/- The document's Put. -/
namespace Go.Proofs.YtihdkgekickohaaGreatDoor
open Go.ChangeShapes Go.WideShapes Go.ChangeAt Go.RowKit
set_option maxRecDepth 100000
attribute [local go_sem] World.cell?_alloc_some frozen_alloc_some

theorem info_int : (Tryz.prog.info? 3).map (fun i => (i.zero, i.size, i.bytes)) = some (some (.int .i64 0), 1, 8) := by kernel_rfl
theorem src_ints (w : World) (xs : List Int) (cs : Array Value) (n : Nat) (hn : xs.length = n) (h : cs = (xs.map (Value.int .i64)).toArray) : Src Tryz.prog 1 75 (.slice (some ⟨w.heap.size, 0, none⟩) n n) n (xs.map (Value.int .i64)) (w.alloc (.cells cs 3)) := by
  refine Src.ofSlice _ Tryz.underlying75 _ n n _ (by simp [hn]) (fun j u hj => ?_) (fun u hu => by obtain ⟨x, _, rfl⟩ := List.mem_map.mp hu; rfl)
  rw [add_none]
  refine cell_of_block (heap_alloc_new w (.cells cs 3)) ?_
  rw [h, Nat.zero_add]
  simpa using hj
theorem row_of_owns {w : World} {base n : Nat} {v : Value} {xs : List Int} (hn : 0 < n) (h : w.ownsRow base 3 1 v n (xs.map (Value.int .i64))) : ∃ g cap, v = .slice (some ⟨g, 0, none⟩) n cap ∧ Row w g 0 xs := by
  rcases h.2 with ⟨_, h0⟩ | ⟨g, cap, cur, rfl, _⟩
  · omega
  · refine ⟨g, cap, rfl, fun i x hx => ?_⟩
    have := h.cells (g := g) rfl i (.int .i64 x) (by simp [hx])
    rw [add_none] at this
    exact this
theorem owns_full (w : World) (base : Nat) (e : TypeId) (size n : Nat) (cs : Array Value) (hb : base ≤ w.heap.size) (hm : n ≤ maxLen) (hs : cs.size = n * size) : (w.alloc (.cells cs e)).ownsRow base e size (.slice (some ⟨w.heap.size, 0, none⟩) n n) n cs.toList :=
  ⟨by simpa using hs, .inr ⟨w.heap.size, n, cs, rfl, hb, heap_alloc_new w _, Nat.le_refl _, hm, hs, by rw [List.take_of_length_le]; simp [hs]⟩⟩
theorem nums_j {e : En} {j : Nat} {x : Tk} (hx : e.ts[j]? = some x) : (hnum e ++ ((e.ts.length : Int) :: (e.ts.take (j + 1)).flatMap tnum)).map (Value.int .i64) = (hnum e ++ ((e.ts.length : Int) :: (e.ts.take j).flatMap tnum)).map (Value.int .i64) ++ (tnum x).map (Value.int .i64) := by
  rw [List.take_add_one, hx]
  simp
theorem nums_jl (e : En) (j : Nat) (hj : j ≤ e.ts.length) : (hnum e ++ ((e.ts.length : Int) :: (e.ts.take j).flatMap tnum)).length = 10 + 4 * j := by
  rw [List.length_append, List.length_cons, tnum_len, List.length_take]
  simp [hnum]
  omega
set_option maxHeartbeats 12800000 in
theorem refput_any (w : World) (t : Ep) (ht : EnW w t) (hf : inF t.1) : Calls Tryz.prog 101 #[vP t] w fun r w' => ∃ v, r = .returned v ∧ w'.ownsRow w.heap.size 5 1 v (bytesE t.1).length ((bytesE t.1).map (Value.int .u8)) ∧ Below w.heap.size w w' := by
  obtain ⟨i0, hi, hz0, hz1, hz2⟩ := info_parts Tryz.info5
  have hie := mkHid (And.intro hi (And.intro hz0 (And.intro hz1 hz2)))
  clear hi hz0 hz1 hz2
  obtain ⟨i1, hi, hz0, hz1, hz2⟩ := info_parts info_int
  have hie2 := mkHid (And.intro hi (And.intro hz0 (And.intro hz1 hz2)))
  clear hi hz0 hz1 hz2
  obtain ⟨e, a, cap⟩ := t
  have HS := mkHid ht
  have HF := mkHid hf
  have h8 : (e.ts.length : Int) ≤ 8 := by have := hf.2.1.1; simp only at this; omega
  clear ht hf
  simp only [vP, vN, tv]
  go_enter Tryz.func101, Tryz.ntmps101
  go_wp2
  go_loopw [4, 40] (fun lv iv wr => ∃ j : Nat, iv = .int .i64 (j : Int) ∧ j ≤ e.ts.length ∧ Hid (wr.ownsRow w.heap.size 3 1 lv (10 + 4 * j) ((hnum e ++ ((e.ts.length : Int) :: (e.ts.take j).flatMap tnum)).map (Value.int .i64)) ∧ Below w.heap.size w wr)) (fun _ iv _ => e.ts.length - (intOf iv).toNat)
  case atStart =>
    refine ⟨0, rfl, Nat.zero_le _, mkHid ⟨?_, ba (ba (ba (Below.refl _ w) _) _) _⟩⟩
    have := owns_full ((w.alloc (oE e (.slice a e.ts.length cap))).alloc (.cells #[.int .i64 e.ki, .int .i64 e.id, .int .i64 e.sk, .int .i64 e.sq, .int .i64 e.st, .int .i64 e.po, .slice a e.ts.length cap, .int .i64 e.tm] 67)) w.heap.size 3 1 10 #[.int .i64 e.cl, .int .i64 e.nu, .int .i64 e.ki, .int .i64 e.tm, .int .i64 e.id, .int .i64 e.sk, .int .i64 e.sq, .int .i64 e.st, .int .i64 e.po, .int .i64 (e.ts.length : Int)] (by simp; omega) (by unfold maxLen; omega) rfl
    rw [show ((w.alloc (oE e (.slice a e.ts.length cap))).alloc (.cells #[.int .i64 e.ki, .int .i64 e.id, .int .i64 e.sk, .int .i64 e.sq, .int .i64 e.st, .int .i64 e.po, .slice a e.ts.length cap, .int .i64 e.tm] 67)).heap.size = w.heap.size + 1 + 1 by simp] at this
    exact this
  case round =>
    obtain ⟨j, rfl, hj, HI⟩ := hrel
    obtain ⟨la, lc, rfl⟩ := own_shape HI.out.1
    by_cases hlt : j < e.ts.length
    · obtain ⟨b, off, c, p, d, s, rfl, hxj, c0, c1, c2, c3⟩ := Tks.at HS.out HI.out.2 j hlt
      have hji : (j : Int) < e.ts.length := by omega
      have HN := mkHid (nums_j hxj)
      clear hxj
      have HSI : Hid (Src Tryz.prog 1 75 (.slice (some ⟨wr.heap.size + 1, 0, none⟩) 4 4) 4 ((tnum (c, p, d, s)).map (Value.int .i64)) ((wr.alloc (.cells #[.int .i64 c, .int .i64 p, .int .i64 d, .int .i64 s] 137)).alloc (.cells #[.int .i64 c, .int .i64 p, .int .i64 d, .int .i64 s] 3))) := mkHid (by
        have := src_ints (wr.alloc (.cells #[.int .i64 c, .int .i64 p, .int .i64 d, .int .i64 s] 137)) (tnum (c, p, d, s)) #[.int .i64 c, .int .i64 p, .int .i64 d, .int .i64 s] 4 rfl rfl
        rw [show (wr.alloc (.cells #[.int .i64 c, .int .i64 p, .int .i64 d, .int .i64 s] 137)).heap.size = wr.heap.size + 1 by simp] at this
        exact this)
      have HOW : Hid (((wr.alloc (.cells #[.int .i64 c, .int .i64 p, .int .i64 d, .int .i64 s] 137)).alloc (.cells #[.int .i64 c, .int .i64 p, .int .i64 d, .int .i64 s] 3)).ownsRow w.heap.size 3 1 (.slice la (10 + 4 * j) lc) (10 + 4 * j) ((hnum e ++ ((e.ts.length : Int) :: (e.ts.take j).flatMap tnum)).map (Value.int .i64))) := mkHid ((HI.out.1.alloc _).alloc _)
      go_wp2_with (at_builtin; refine wpList_append_srcV _ rfl (.tmp 44) (.tmp 53) 75 75 rfl w.heap.size 3 i1 Tryz.underlying75 hie2.out.1 (.int .i64 0) 8 hie2.out.2.1 rfl hie2.out.2.2.1 hie2.out.2.2.2 _ _ _ rfl HOW.out _ 4 ((tnum (c, p, d, s)).map (Value.int .i64)) rfl HSI.out (by unfold maxLen; omega) (by omega) (by have := HI.out.2.size; simp; omega) ?_; intro v2 w2 ho2 hg2 _; have HO : Hid (w2.ownsRow w.heap.size 3 1 v2 (10 + 4 * (j + 1)) ((hnum e ++ ((e.ts.length : Int) :: (e.ts.take (j + 1)).flatMap tnum)).map (Value.int .i64)) ∧ Below w.heap.size w w2) := mkHid ⟨by rw [HN.out, show 10 + 4 * (j + 1) = 10 + 4 * j + 4 by omega]; exact ho2, (ba (ba HI.out.2 _) _).grown hg2 (by have := HI.out.2.size; simp; omega) (fun k hk => (HOW.out.lt k hk).1)⟩; clear ho2 hg2)
      go_roundw
      case rel => exact ⟨j + 1, by go_num, by omega, HO⟩
      case measure => simp [intOf]; omega
    · obtain rfl : j = e.ts.length := by omega
      obtain ⟨W5, h5⟩ : ∃ W5, W5 = wr := ⟨_, rfl⟩
      subst h5
      have hq := HI.out.1
      rw [List.take_of_length_le (Nat.le_refl _)] at hq
      obtain ⟨g, gc, hge, hrow⟩ := row_of_owns (xs := nums e) (by omega) hq
      simp only [Value.slice.injEq] at hge
      obtain ⟨rfl, _, rfl⟩ := hge
      have HR := mkHid hrow
      have HGL := mkHid (hq.lt g rfl)
      have hnl : ((nums e).length : Int) = ((10 + 4 * e.ts.length : Nat) : Int) := by rw [nums_len]
      have HB0 := mkHid HI.out.2
      clear hq hrow
      go_wp2
      go_loopw [7, 9, 59] (fun bv _ iv wq => ∃ k : Nat, iv = .int .i64 (k : Int) ∧ k ≤ (nums e).length ∧ Hid (wq.ownsRow W5.heap.size 5 1 bv (encL ((nums e).take k)).length ((encL ((nums e).take k)).map (Value.int .u8)) ∧ Below W5.heap.size W5 wq)) (fun _ _ iv _ => (nums e).length - (intOf iv).toNat)
      case atStart => exact ⟨0, rfl, Nat.zero_le _, mkHid ⟨World.ownsRow_made (base := W5.heap.size) (e := 5) (size := 1) W5 #[] 0 (Nat.le_refl _) (by unfold maxLen; omega) rfl, (Below.refl _ W5).alloc (Nat.le_refl _) _⟩⟩
      case round =>
        obtain ⟨k, rfl, hk, HK⟩ := hrel
        obtain ⟨ba2, bc2, rfl⟩ := own_shape HK.out.1
        by_cases hlt2 : k < (nums e).length
        · obtain ⟨y, hy⟩ : ∃ x, (nums e)[k]? = some x := ⟨_, List.getElem?_eq_getElem hlt2⟩
          have hcell := kc (HR.out k y hy) HK.out.2
          rw [Nat.zero_add] at hcell
          have hki : (k : Int) < ((10 + 4 * e.ts.length : Nat) : Int) := by omega
          obtain ⟨hy0, hy1⟩ := amt_i64 (HF.out.all y (List.mem_of_getElem? hy))
          obtain ⟨m, rfl⟩ := Int.eq_ofNat_of_zero_le hy0
          have HT := mkHid (encL_take hy)
          have HLN : Hid ((encL ((nums e).take k)).length ≤ 1000 ∧ (enc m).length ≤ 9) := mkHid ⟨by
            have := encL_take_len (xs := nums e) (fun x hx => amt_i64 (HF.out.all x hx)) k
            have := HF.out.len
            omega, enc_len9 m (by omega)⟩
          clear hy hy0
          push_cast at hki
          go_wp2_with (first
            | (go_at_call 99; refine (refnum_any _ m hy1).mono ?_; rintro r w3 ⟨v3, rfl, ho3, hb3⟩; obtain ⟨a3, c3, rfl⟩ := own_shape ho3; have HN3 := mkHid (And.intro ho3 hb3); have HS3 := mkHid (Rd.of_owns (enc_byts m) ho3).src; have HOB := mkHid (ownN_kept HK.out.1 (kept_of_below hb3) (fun k e hge => by have := (HK.out.1.lt k e).2; omega)); clear ho3 hb3)
            | (at_builtin; refine wpList_append_src _ rfl (.tmp 63) (.tmp 65) 74 74 rfl W5.heap.size 5 i0 Tryz.underlying74 hie.out.1 hie.out.2.1 hie.out.2.2.1 hie.out.2.2.2 _ _ _ rfl HOB.out _ _ _ rfl HS3.out (by have := HLN.out; unfold maxLen; omega) (by have := HLN.out; omega) (by have := HK.out.2.size; have := HN3.out.2.size; omega) ?_; intro v4 w4 ho4 hg4 _; have HO4 : Hid (w4.ownsRow W5.heap.size 5 1 v4 (encL ((nums e).take (k + 1))).length ((encL ((nums e).take (k + 1))).map (Value.int .u8)) ∧ Below W5.heap.size W5 w4) := mkHid ⟨by rw [HT.out, List.length_append, List.map_append]; exact ho4, (bt HK.out.2 HN3.out.2).grown hg4 (by have := HK.out.2.size; have := HN3.out.2.size; omega) (fun k hk => (HOB.out.lt k hk).1)⟩; clear ho4 hg4))
          go_roundw
          case rel => exact ⟨k + 1, by go_num, by omega, HO4⟩
          case measure => simp [intOf]; omega
        · obtain rfl : k = (nums e).length := by omega
          have hq := HK.out
          have htk : (nums e).take (nums e).length = nums e := List.take_of_length_le (Nat.le_refl _)
          rw [htk] at hq ⊢
          have HK2 := mkHid hq
          clear hq htk
          go_wp2
          go_ret
          exact ⟨_, rfl, own_up HK2.out.1 HB0.out.size, bt HB0.out HK2.out.2⟩
end Go.Proofs.YtihdkgekickohaaGreatDoor
