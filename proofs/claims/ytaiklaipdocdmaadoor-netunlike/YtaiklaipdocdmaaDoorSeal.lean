/- Seal and Open of package wire. -/
import Derived.Test.YtaiklaipdocdmaaDoorAlive
import Derived.Lib.AppendZerosOnto
import Derived.Deep.RegionWith
namespace Go.Proofs.YtaiklaipdocdmaaDoor
open Go.ChangeShapes Go.WideShapes Go.ChangeAt Go.RowKit
set_option maxRecDepth 100000

set_option maxHeartbeats 1600000 in
/-- slices.Grow of nil. -/
theorem grow_any (n : Nat) (w : World) (h0 : (1 : Int) ≤ n) (h1 : (n : Int) ≤ 140737488355328) :
    Calls Tryd.prog 97 #[.slice none 0 0, .int .i64 n] w fun e w' => ∃ v', e = .returned v' ∧ w'.ownsRow w.heap.size 5 1 v' 0 [] ∧ Below w.heap.size w w' := by
  obtain ⟨i0, hi, hz0, hz1, hz2⟩ := info_parts Tryd.info5
  have hrz : ∀ ty, (Builtin.append_ #[32, 3] ty #[.slice none 0 0, .int .i64 n]).run Tryd.prog w =
      .ok (.slice (some ⟨w.heap.size, 0, none⟩) n (grownCap w n 0 5)) (w.drew.alloc (.cells (#[] ++ Builtin.zeroCells (Value.int .u8 0).cells n ++ Builtin.zeroCells (Value.int .u8 0).cells (grownCap w n 0 5 - n)) 5)) := fun ty => by
    have h := Lib.run_append_grow_zeros w 32 3 ty 5 i0 (.int .u8 0) .i64 .i64 Tryd.underlying32 Tryd.underlying3 hi hz0 none 0 0 [] (run_firstCells_none w.drew i0.size 0 0 0) n (by omega) (by omega) (by omega) (by omega) (by rw [hz2]; omega) (by rw [hz2]; exact growslice_fits (by omega) (by omega))
    simpa using h
  have hGn : n ≤ grownCap w n 0 5 := grownCap_ge w _ _ _
  have hGm : grownCap w n 0 5 ≤ maxLen := grownCap_le_maxLen w n 0 _ (by unfold maxLen; omega)
  obtain ⟨G, hG⟩ : ∃ G, G = grownCap w n 0 5 := ⟨_, rfl⟩
  rw [← hG] at hrz hGn hGm
  obtain ⟨X, hX⟩ : ∃ X, X = #[] ++ Builtin.zeroCells (Value.int .u8 0).cells n ++ Builtin.zeroCells (Value.int .u8 0).cells (G - n) := ⟨_, rfl⟩
  rw [← hX] at hrz
  have hXs : X.size = G := by
    have hz : (Value.int IntKind.u8 0).cells.size = 1 := rfl
    rw [hX]
    simp only [Array.size_append, size_zeroCells, hz]
    simp
    omega
  clear hX
  have HQ : Hid ((w.drew.alloc (.cells X 5)).ownsRow w.heap.size 5 1 (.slice (some ⟨w.heap.size, 0, none⟩) 0 G) 0 [] ∧
      Below w.heap.size w (w.drew.alloc (.cells X 5))) := by
    refine ⟨⟨rfl, .inr ⟨w.heap.size, G, _, rfl, Nat.le_refl _, heap_alloc_new w.drew _, by omega, hGm, ?_, by simp⟩⟩, (Below.refl _ _).drew.alloc (Nat.le_refl _) _⟩
    omega
  have hG63 : (G : Int) ≤ 9223372036854775807 := by unfold maxLen at hGm; omega
  clear hG hGm
  go_enter Tryd.func97, Tryd.ntmps97
  go_wp2_with (at_builtin; refine Lib.wpList_append_run _ rfl _ _ _ _ rfl _ _ rfl rfl _ _ (hrz _) ?_)
  all_goals go_ret
  all_goals exact ⟨_, rfl, HQ.out⟩
/-- The four bytes of a sum. -/
def sumb (s : Nat) : List Int := [((s / 16777216 % 256 : Nat) : Int), ((s / 65536 % 256 : Nat) : Int), ((s / 256 % 256 : Nat) : Int), ((s % 256 : Nat) : Int)]
theorem sumb_byts (s : Nat) : Byts (sumb s) := by
  intro b hb
  simp only [sumb, List.mem_cons, List.not_mem_nil, or_false] at hb
  omega
theorem sumb_len (s : Nat) : (sumb s).length = 4 := rfl
theorem sumb_inj (s t : Nat) (hs : s < 4294967296) (ht : t < 4294967296) (h : sumb s = sumb t) : s = t := by
  simp only [sumb, List.cons.injEq] at h
  omega
theorem rd_four (w : World) (a b c d : Int) (h : Byts [a, b, c, d]) : Rd (w.alloc (.cells #[.int .u8 a, .int .u8 b, .int .u8 c, .int .u8 d] 5)) (.slice (some ⟨w.heap.size, 0, none⟩) 4 4) [a, b, c, d] := by
  refine ⟨h, some ⟨w.heap.size, 0, none⟩, 4, rfl, by simp, fun e => by simp at e, fun _ => ⟨w.heap.size, 0, rfl, by simp, fun k hk => ?_⟩⟩
  have : k = 0 ∨ k = 1 ∨ k = 2 ∨ k = 3 := by simp at hk; omega
  rcases this with rfl | rfl | rfl | rfl <;> go_simp
theorem rd_sumb (w : World) (s : Nat) (a b c d : Int) (h : [a, b, c, d] = sumb s) : Rd (w.alloc (.cells #[.int .u8 a, .int .u8 b, .int .u8 c, .int .u8 d] 5)) (.slice (some ⟨w.heap.size, 0, none⟩) 4 4) (sumb s) := by
  have := rd_four w a b c d (by rw [h]; exact sumb_byts s)
  rwa [h] at this
set_option maxHeartbeats 1600000 in
theorem tail_any (w : World) (v : Value) (bs : List Int) (h : Rd w v bs) (hl : (bs.length : Int) ≤ 140737488355328) :
    Calls Tryd.prog 76 #[v] w fun e w' => e = .returned (.slice (some ⟨w.heap.size, 0, none⟩) 4 4) ∧ Rd w' (.slice (some ⟨w.heap.size, 0, none⟩) 4 4) (sumb (fnv bs)) ∧ Below w.heap.size w w' := by
  have hf := fnv_lt bs
  have hfi : (fnv bs : Int) ≤ 4294967295 := by omega
  clear hf
  go_enter Tryd.func76, Tryd.ntmps76
  go_wp2_with (go_at_call 98; refine (sum_any _ _ bs h hl).mono ?_; rintro e wx ⟨rfl, hw⟩; rw [hw]; clear hw)
  go_ret
  refine ⟨rfl, rd_sumb w (fnv bs) _ _ _ _ ?_, (Below.refl _ _).alloc (Nat.le_refl _) _⟩
  simp only [sumb, List.cons.injEq, and_true]
  omega
set_option maxHeartbeats 1600000 in
/-- slices.Concat of two lists of bytes. -/
theorem concat_any (w : World) (q : Nat) (va vb : Value) (xs ys : List Int) (c0 : w.cell? ⟨q, 0, none⟩ = some va) (c1 : w.cell? ⟨q, 1, none⟩ = some vb) (ha : Rd w va xs) (hb : Rd w vb ys) (h0 : (1 : Int) ≤ xs.length + ys.length) (h1 : (xs.length : Int) + ys.length ≤ 140737488355328) :
    Calls Tryd.prog 75 #[.slice (some ⟨q, 0, none⟩) 2 2] w fun e w' => ∃ v', e = .returned v' ∧ w'.ownsRow w.heap.size 5 1 v' (xs.length + ys.length) ((xs ++ ys).map (Value.int .u8)) ∧ Below w.heap.size w w' := by
  obtain ⟨i0, hi, hz0, hz1, hz2⟩ := info_parts Tryd.info5
  obtain ⟨aa, ca, eva⟩ : ∃ a c, va = .slice a xs.length c := ha.2.imp fun a h => h.imp fun c h => h.1
  obtain ⟨ab, cb, evb⟩ : ∃ a c, vb = .slice a ys.length c := hb.2.imp fun a h => h.imp fun c h => h.1
  subst eva evb
  go_enter Tryd.func75, Tryd.ntmps75
  go_wp2
  go_loop [3, 11] (fun sv iv => (iv = .int .i64 0 ∧ sv = .int .i64 0) ∨ (iv = .int .i64 1 ∧ sv = .int .i64 xs.length) ∨ (iv = .int .i64 2 ∧ sv = .int .i64 (xs.length + ys.length))) (fun _ iv => 2 - (intOf iv).toNat)
  case atStart => exact .inl ⟨rfl, rfl⟩
  case round =>
    rcases hrel with ⟨rfl, rfl⟩ | ⟨rfl, rfl⟩ | ⟨rfl, rfl⟩
    · go_wp2
      go_round
      case rel => exact .inr (.inl ⟨rfl, by simp⟩)
      case measure => simp [intOf]
    · go_wp2
      go_round
      case rel => exact .inr (.inr ⟨rfl, rfl⟩)
      case measure => simp [intOf]
    · have hN : ((xs.length : Int) + ys.length) = ((xs.length + ys.length : Nat) : Int) := by omega
      rw [hN]
      have hn1 : (1 : Int) ≤ ((xs.length + ys.length : Nat) : Int) := by omega
      have hn2 : ((xs.length + ys.length : Nat) : Int) ≤ 140737488355328 := by omega
      clear hN
      go_wp2_with (go_at_call 97; refine (grow_any (xs.length + ys.length) _ hn1 hn2).mono ?_; rintro e w1 ⟨v1, rfl, ho1, hb1⟩)
      go_loopw [6, 27] (fun sv iv wr => ∃ zs : List Int, ((iv = .int .i64 0 ∧ zs = []) ∨ (iv = .int .i64 1 ∧ zs = xs) ∨ (iv = .int .i64 2 ∧ zs = xs ++ ys)) ∧ wr.ownsRow w.heap.size 5 1 sv zs.length (zs.map (Value.int .u8)) ∧ Below w.heap.size w wr) (fun _ iv _ => 2 - (intOf iv).toNat)
      case atStart => exact ⟨[], .inl ⟨rfl, rfl⟩, ho1, hb1⟩
      case round =>
        clear ho1 hb1
        obtain ⟨zs, hz, ho, hbel⟩ := hrel
        have hbs := hbel.size
        have ha' := (ha.later hbel).src
        have hb' := (hb.later hbel).src
        have d0 : wr.cell? ⟨q, 0, none⟩ = some (.slice aa xs.length ca) := (kept_of_below hbel).cell c0 (by have := World.block_lt_of_cell? w _ c0; simp at this ⊢; omega)
        have d1 : wr.cell? ⟨q, 1, none⟩ = some (.slice ab ys.length cb) := (kept_of_below hbel).cell c1 (by have := World.block_lt_of_cell? w _ c1; simp at this ⊢; omega)
        clear c0 c1
        rcases hz with ⟨rfl, rfl⟩ | ⟨rfl, rfl⟩ | ⟨rfl, rfl⟩
        · have HL : Hid (([] : List Int).length + xs.length ≤ 140737488355328 ∧ ([] : List Int).length + xs.length ≤ maxLen) := mkHid ⟨by simp; omega, by unfold maxLen; simp; omega⟩
          go_wp2_with (at_builtin; refine wpList_append_src _ rfl (.tmp 31) (.tmp 32) 32 32 rfl w.heap.size 5 i0 Tryd.underlying32 hi hz0 hz1 hz2 _ _ _ rfl ho _ _ _ rfl ha' HL.out.2 HL.out.1 hbs ?_; intro v' w2 hown hgrow _; have HQ : Hid (w2.ownsRow w.heap.size 5 1 v' xs.length (xs.map (Value.int .u8)) ∧ Below w.heap.size w w2) := mkHid ⟨by simpa using hown, hbel.grown hgrow hbs (fun k hk => (ho.lt k hk).1)⟩; clear hown hgrow)
          go_roundw
          case rel => exact ⟨xs, .inr (.inl ⟨rfl, rfl⟩), HQ.out.1, HQ.out.2⟩
          case measure => simp [intOf]
        · have HL : Hid (zs.length + ys.length ≤ 140737488355328 ∧ zs.length + ys.length ≤ maxLen) := mkHid ⟨by omega, by unfold maxLen; omega⟩
          go_wp2_with (at_builtin; refine wpList_append_src _ rfl (.tmp 31) (.tmp 32) 32 32 rfl w.heap.size 5 i0 Tryd.underlying32 hi hz0 hz1 hz2 _ _ _ rfl ho _ _ _ rfl hb' HL.out.2 HL.out.1 hbs ?_; intro v' w2 hown hgrow _; have HQ : Hid (w2.ownsRow w.heap.size 5 1 v' (zs ++ ys).length ((zs ++ ys).map (Value.int .u8)) ∧ Below w.heap.size w w2) := mkHid ⟨by simpa using hown, hbel.grown hgrow hbs (fun k hk => (ho.lt k hk).1)⟩; clear hown hgrow)
          go_roundw
          case rel => exact ⟨zs ++ ys, .inr (.inr ⟨rfl, rfl⟩), HQ.out.1, HQ.out.2⟩
          case measure => simp [intOf]
        · have HQ : Hid (wr.ownsRow w.heap.size 5 1 _ (xs.length + ys.length) ((xs ++ ys).map (Value.int .u8)) ∧ Below w.heap.size w wr) := mkHid ⟨by simpa using ho, hbel⟩
          clear ho
          go_wp2
          go_ret
          exact ⟨_, rfl, HQ.out⟩
set_option maxHeartbeats 1600000 in
theorem seal_any (w : World) (v : Value) (bs : List Int) (h : Rd w v bs) (hl : (bs.length : Int) ≤ 140737488355320) :
    Calls Tryd.prog 49 #[v] w fun e w' => ∃ v', e = .returned v' ∧ w'.ownsRow w.heap.size 5 1 v' (bs ++ sumb (fnv bs)).length ((bs ++ sumb (fnv bs)).map (Value.int .u8)) ∧ Below w.heap.size w w' := by
  have h' := h
  obtain ⟨a, c, rfl⟩ : ∃ a c, v = .slice a bs.length c := h.2.imp fun a h => h.imp fun c h => h.1
  clear h
  go_enter Tryd.func49, Tryd.ntmps49
  go_wp2_with (first | (go_at_call 76; refine (tail_any _ _ bs h' (by omega)).mono ?_; rintro e w1 ⟨rfl, hr1, hb1⟩; have h1 := h'.later hb1) | (go_at_call 75; refine (concat_any _ w1.heap.size _ _ bs (sumb (fnv bs)) (by go_simp) (by go_simp) (h1.alloc _) (hr1.alloc _) (by rw [sumb_len]; omega) (by rw [sumb_len]; omega)).mono ?_; rintro e w2 ⟨v', rfl, ho, hb2⟩))
  go_ret
  refine ⟨_, rfl, ?_, ?_⟩
  · rw [List.length_append]
    refine ⟨ho.1, ho.2.imp id ?_⟩
    rintro ⟨g, cap, cur, e, hg, rest⟩
    exact ⟨g, cap, cur, e, by have := hb1.size; simp at hg; omega, rest⟩
  · exact (hb1.alloc hb1.size _).trans (hb2.mono (by have := hb1.size; simp; omega))
theorem equal_any (w : World) (va vb : Value) (xs ys : List Int) (ha : Rd w va xs) (hb : Rd w vb ys) : Calls Tryd.prog 80 #[va, vb] w fun e w' => e = .returned (.bool (decide (xs = ys))) ∧ w' = w := by
  have c1 := ha.conv
  have c2 := hb.conv
  by_cases h : xs = ys
  · subst h
    go_enter Tryd.func80, Tryd.ntmps80
    go_wp2
    go_ret
    exact ⟨by simp, rfl⟩
  · have hn := str_neL ha.1 hb.1 h
    go_enter Tryd.func80, Tryd.ntmps80
    go_wp2
    go_ret
    exact ⟨by simp [h, hn], rfl⟩
set_option maxHeartbeats 1600000 in
theorem open_short (w : World) (v : Value) (bs : List Int) (ev : Value) (h : Rd w v bs) (hl : bs.length < 4) (he : w.cell? ⟨4, 0, none⟩ = some ev) :
    Calls Tryd.prog 53 #[v] w fun e w' => e = .returned (.tuple #[.slice none 0 0, ev]) ∧ Below w.heap.size w w' := by
  obtain ⟨a, c, rfl⟩ : ∃ a c, v = .slice a bs.length c := h.2.imp fun a h => h.imp fun c h => h.1
  have hi : (bs.length : Int) - 4 < 0 := by omega
  go_enter Tryd.func53, Tryd.ntmps53
  go_wp2
  go_region
  all_goals go_wp2
  all_goals go_ret2
  all_goals exact ⟨rfl, (Below.refl _ _).drew⟩
theorem Rd.drop {w : World} {b off n m cap : Nat} {bs : List Int} (h : Rd w (.slice (some ⟨b, off, none⟩) bs.length cap) bs) (hn : n + m = bs.length) : Rd w (.slice (some ⟨b, off + n, none⟩) m (cap - n)) (bs.drop n) := by
  obtain ⟨hB, a', cap', e, hc, h0, hr⟩ := h
  simp at e
  obtain ⟨rfl, rfl⟩ := e
  have hl : (bs.drop n).length = m := by rw [List.length_drop]; omega
  refine ⟨hB.drop n, some ⟨b, off + n, none⟩, cap - n, by rw [hl], by omega, fun e => by simp at e, fun hp => ?_⟩
  obtain ⟨b', off', e, hlt, hcell⟩ := hr (by omega)
  simp at e
  obtain ⟨rfl, rfl⟩ := e
  refine ⟨b, off + n, rfl, hlt, fun k hk => ?_⟩
  rw [Nat.add_assoc, hcell (n + k) (by omega)]
  simp [List.getD, List.getElem?_drop]
theorem Rd.drewN {w : World} {v : Value} {bs : List Int} (h : Rd w v bs) (k : Nat) : Rd (w.drewN k) v bs := h.later ⟨rfl, rfl, rfl, Nat.le_refl _, fun _ _ => rfl⟩
theorem Rd.drew {w : World} {v : Value} {bs : List Int} (h : Rd w v bs) : Rd w.drew v bs := h.later ⟨rfl, rfl, rfl, Nat.le_refl _, fun _ _ => rfl⟩
theorem cell_later {w w' : World} {a : Addr} {v : Value} (hb : Below w.heap.size w w') (h : w.cell? a = some v) : w'.cell? a = some v :=
  (kept_of_below hb).cell h (by have := World.block_lt_of_cell? w _ h; omega)
set_option maxHeartbeats 3200000 in
theorem open_bad (w : World) (b off cap n : Nat) (xs ys : List Int) (ev : Value) (hx : xs.length = n) (hy : ys.length = 4) (h : Rd w (.slice (some ⟨b, off, none⟩) (n + 4) cap) (xs ++ ys)) (hl : (n : Int) ≤ 140737488355320) (hne : ys ≠ sumb (fnv xs)) (he : w.cell? ⟨1, 0, none⟩ = some ev) :
    Calls Tryd.prog 53 #[.slice (some ⟨b, off, none⟩) (n + 4 : Nat) cap] w fun e w' => e = .returned (.tuple #[.slice none 0 0, ev]) ∧ Below w.heap.size w w' := by
  have hle : (xs ++ ys).length = n + 4 := by rw [List.length_append]; omega
  have hc : n + 4 ≤ cap := by obtain ⟨_, _, _, e, hc, _⟩ := h; simp at e; omega
  rw [← hle] at h
  have r1 := Rd.take h (n := n) (by omega)
  have r2 := Rd.drop h (n := n) (m := 4) (by omega)
  rw [List.take_left' hx] at r1
  rw [List.drop_left' hx] at r2
  have hcn : ¬ cap = n := by omega
  go_enter Tryd.func53, Tryd.ntmps53
  go_wp2
  have hdn : decide (ys = sumb (fnv xs)) = false := by simpa using hne
  go_region_with (first | (go_at_call 76; refine (tail_any _ _ xs r1.drew (by omega)).mono ?_; rintro e w1 ⟨rfl, hr1, hb1⟩; have r3 := (r2.drew).later hb1; have he1 : w1.cell? ⟨1, 0, none⟩ = some ev := cell_later hb1 he; have hbw : Below w.heap.size w w1 := ((Below.refl _ _).drew).trans hb1; clear hb1) | (go_at_call 76; refine (tail_any _ _ xs (r1.drewN _) (by omega)).mono ?_; rintro e w1 ⟨rfl, hr1, hb1⟩; have r3 := (r2.drewN _).later hb1; have he1 : w1.cell? ⟨1, 0, none⟩ = some ev := cell_later hb1 he; have hbw : Below w.heap.size w w1 := ((Below.refl _ _).drew).trans hb1; clear hb1) | (go_at_call 80; refine (equal_any _ _ _ _ _ r3 hr1).mono ?_; rintro e wx ⟨rfl, hw⟩; rw [hw]; clear hw) | (go_at_call 80; refine (equal_any _ _ _ _ _ r3.drew hr1.drew).mono ?_; rintro e wx ⟨rfl, hw⟩; rw [hw]; clear hw))
  all_goals go_wp2
  all_goals go_region
  all_goals go_wp2
  all_goals go_ret2
  all_goals exact ⟨rfl, hbw.drew⟩
set_option maxHeartbeats 3200000 in
theorem open_good (w : World) (b off cap n : Nat) (xs ys : List Int) (hx : xs.length = n) (hy : ys.length = 4) (h : Rd w (.slice (some ⟨b, off, none⟩) (n + 4) cap) (xs ++ ys)) (hl : (n : Int) ≤ 140737488355320) (heq : ys = sumb (fnv xs)) :
    Calls Tryd.prog 53 #[.slice (some ⟨b, off, none⟩) (n + 4 : Nat) cap] w fun e w' => ∃ v', e = .returned (.tuple #[v', .nilIface]) ∧ w'.ownsRow w.heap.size 5 1 v' xs.length (xs.map (Value.int .u8)) ∧ Below w.heap.size w w' := by
  have hle : (xs ++ ys).length = n + 4 := by rw [List.length_append]; omega
  have hc : n + 4 ≤ cap := by obtain ⟨_, _, _, e, hc, _⟩ := h; simp at e; omega
  rw [← hle] at h
  have r1 := Rd.take h (n := n) (by omega)
  have r2 := Rd.drop h (n := n) (m := 4) (by omega)
  rw [List.take_left' hx] at r1
  rw [List.drop_left' hx] at r2
  have hcn : ¬ cap = n := by omega
  go_enter Tryd.func53, Tryd.ntmps53
  go_wp2
  have hdn : decide (ys = sumb (fnv xs)) = true := by simpa using heq
  clear heq
  go_region_with (first | (go_at_call 76; refine (tail_any _ _ xs r1.drew (by omega)).mono ?_; rintro e w1 ⟨rfl, hr1, hb1⟩; have r3 := (r2.drew).later hb1; have r4 := (r1.drew).later hb1; have hbw : Below w.heap.size w w1 := ((Below.refl _ _).drew).trans hb1; clear hb1) | (go_at_call 76; refine (tail_any _ _ xs (r1.drewN _) (by omega)).mono ?_; rintro e w1 ⟨rfl, hr1, hb1⟩; have r3 := (r2.drewN _).later hb1; have r4 := (r1.drew).later hb1; have hbw : Below w.heap.size w w1 := ((Below.refl _ _).drew).trans hb1; clear hb1) | (go_at_call 80; refine (equal_any _ _ _ _ _ r3 hr1).mono ?_; rintro e wx ⟨rfl, hw⟩; rw [hw]; clear hw) | (go_at_call 80; refine (equal_any _ _ _ _ _ r3.drew hr1.drew).mono ?_; rintro e wx ⟨rfl, hw⟩; rw [hw]; clear hw))
  all_goals go_wp2_with (go_at_call 68; refine (clone_any _ _ xs r4 (by omega)).mono ?_; rintro e w2 ⟨v', rfl, ho, hb2⟩)
  all_goals go_ret2
  all_goals refine ⟨_, rfl, ⟨ho.1, ho.2.imp id ?_⟩, hbw.trans (hb2.mono hbw.size)⟩
  all_goals
    rintro ⟨g, cap, cur, e, hg, rest⟩
    exact ⟨g, cap, cur, e, Nat.le_trans hbw.size hg, rest⟩
end Go.Proofs.YtaiklaipdocdmaaDoor
