/- The document's guest: its memory; which job is next, how many are late. -/
import Derived.Test.YthncfkeoephipaaDoorGs8
namespace Go.Proofs.YthncfkeoephipaaDoor
open Go.ChangeShapes Go.WideShapes Go.ChangeAt Go.RowKit
attribute [local go_sem] World.cell?_alloc_some frozen_alloc_some

/-- The document's guest in its block, its tasks, last releases and jobs in rows of their own. -/
structure DG (base : Nat) (w : World) (b : Nat) (p : Int) (tv lv jv : Value) (ls : List Int) (s : Gt) : Prop where
  blk : w.heap[b]? = some (.cells #[.int .i64 p, tv, lv, jv] 70 (0, 0))
  town : w.ownsRow base 37 4 tv s.xs.length (s.ts.flatMap c4)
  lown : w.ownsRow base 3 1 lv s.xs.length (ls.map (Value.int .i64))
  jown : w.ownsRow base 45 5 jv s.js.length (s.js.flatMap cj)
  bb : base ≤ b
  tb : tv.ownBlock ≠ some b
  lb : lv.ownBlock ≠ some b
  jb : jv.ownBlock ≠ some b
  tl : ∀ k, tv.ownBlock = some k → lv.ownBlock ≠ some k
  tj : ∀ k, tv.ownBlock = some k → jv.ownBlock ≠ some k
  lj : ∀ k, lv.ownBlock = some k → jv.ownBlock ≠ some k
  ll : ls.length = s.xs.length
  rel : ∀ (i : Nat) (l : Int) (x : Tq), ls[i]? = some l → s.xs[i]? = some x → 0 ≤ l ∧ ((l = 0 ∧ x.2 = 0) ∨ (0 < l ∧ x.2 = l - 1 + x.1.2.1))
def Fd (tv lv jv : Value) (b k : Nat) : Prop := k = b ∨ tv.ownBlock = some k ∨ lv.ownBlock = some k ∨ jv.ownBlock = some k
theorem DG.lt {base : Nat} {w : World} {b : Nat} {p : Int} {tv lv jv : Value} {ls : List Int} {s : Gt} (h : DG base w b p tv lv jv ls s) : b < w.heap.size := lt_of_heap h.blk
theorem DG.base_le {base : Nat} {w : World} {b : Nat} {p : Int} {tv lv jv : Value} {ls : List Int} {s : Gt} (h : DG base w b p tv lv jv ls s) : base ≤ w.heap.size := by
  have := h.lt; have := h.bb; omega
theorem DG.foot {base : Nat} {w : World} {b : Nat} {p : Int} {tv lv jv : Value} {ls : List Int} {s : Gt} (h : DG base w b p tv lv jv ls s) {k : Nat} (hk : Fd tv lv jv b k) : base ≤ k ∧ k < w.heap.size := by
  rcases hk with rfl | e | e | e
  · exact ⟨h.bb, h.lt⟩
  · exact h.town.lt k e
  · exact h.lown.lt k e
  · exact h.jown.lt k e
theorem DG.kept {F : Nat → Prop} {base : Nat} {w w' : World} {b : Nat} {p : Int} {tv lv jv : Value} {ls : List Int} {s : Gt} (h : DG base w b p tv lv jv ls s) (hk : Kept F w w') (hF : ∀ k, F k → Fd tv lv jv b k → False) : DG base w' b p tv lv jv ls s :=
  ⟨(hk.block b h.lt (fun f => hF b f (.inl rfl))).trans h.blk, ownN_kept h.town hk (fun k e f => hF k f (.inr (.inl e))), ownN_kept h.lown hk (fun k e f => hF k f (.inr (.inr (.inl e)))), ownN_kept h.jown hk (fun k e f => hF k f (.inr (.inr (.inr e)))), h.bb, h.tb, h.lb, h.jb, h.tl, h.tj, h.lj, h.ll, h.rel⟩
theorem DG.below {base : Nat} {w w' : World} {b : Nat} {p : Int} {tv lv jv : Value} {ls : List Int} {s : Gt} (h : DG base w b p tv lv jv ls s) (hb : Below w.heap.size w w') : DG base w' b p tv lv jv ls s :=
  h.kept (kept_new (F := fun _ => False) hb) (fun _ f _ => f)
theorem DG.bel {base : Nat} {w w' : World} {b : Nat} {p : Int} {tv lv jv : Value} {ls : List Int} {s : Gt} (h : DG base w b p tv lv jv ls s) (hk : Kept (Fd tv lv jv b) w w') : Below base w w' := hk.below (fun _ e => (h.foot e).1) h.base_le
theorem DG.c0 {base : Nat} {w : World} {b : Nat} {p : Int} {tv lv jv : Value} {ls : List Int} {s : Gt} (h : DG base w b p tv lv jv ls s) : w.cell? ⟨b, 0, none⟩ = some (.int .i64 p) := cell_of_block h.blk rfl
theorem DG.c1 {base : Nat} {w : World} {b : Nat} {p : Int} {tv lv jv : Value} {ls : List Int} {s : Gt} (h : DG base w b p tv lv jv ls s) : w.cell? ⟨b, 1, none⟩ = some tv := cell_of_block h.blk rfl
theorem DG.c2 {base : Nat} {w : World} {b : Nat} {p : Int} {tv lv jv : Value} {ls : List Int} {s : Gt} (h : DG base w b p tv lv jv ls s) : w.cell? ⟨b, 2, none⟩ = some lv := cell_of_block h.blk rfl
theorem DG.c3 {base : Nat} {w : World} {b : Nat} {p : Int} {tv lv jv : Value} {ls : List Int} {s : Gt} (h : DG base w b p tv lv jv ls s) : w.cell? ⟨b, 3, none⟩ = some jv := cell_of_block h.blk rfl
theorem DG.fz {base : Nat} {w : World} {b : Nat} {p : Int} {tv lv jv : Value} {ls : List Int} {s : Gt} (h : DG base w b p tv lv jv ls s) (i : Nat) : w.frozen? ⟨b, i, none⟩ = false := frozen_of_block h.blk
theorem own_t4 {w : World} {base n : Nat} {tv : Value} {ts : List Tk} (hn : n = ts.length) (h : w.ownsRow base 37 4 tv n (ts.flatMap c4)) {i : Nat} {x : Tk} (hx : ts[i]? = some x) : ∃ g c, tv = .slice (some ⟨g, 0, none⟩) n c ∧ TkAt w g (i * 4) x := by
  subst hn
  obtain ⟨g, c, rfl, hg, hl⟩ := own_addr h (List.getElem?_eq_some_iff.mp hx).1
  have hc : ∀ r u, r < 4 → (c4 x)[r]? = some u → w.cell? ⟨g, i * 4 + r, none⟩ = some u := fun r u hr hu => (own_cell h ((fl_get c4 4 (fun _ => rfl) ts i r x hx hr).trans hu)).1
  exact ⟨g, c, rfl, hc 0 _ (by omega) rfl, hc 1 _ (by omega) rfl, hc 2 _ (by omega) rfl, hc 3 _ (by omega) rfl⟩
theorem ts_len (s : Gt) : s.xs.length = s.ts.length := by simp [Gt.ts]
theorem dahead_is (base : Nat) (w : World) (b : Nat) (p : Int) (tv lv jv : Value) (ls : List Int) (s : Gt) (x y : Jb) (h : DG base w b p tv lv jv ls s) : Calls Tryd.prog 34 #[.pointer (some ⟨b, 0, none⟩), vJ x, vJ y] w fun e w' => e = .returned (.bool (ahd p x y)) ∧ Below w.heap.size w w' := by
  have c0 := h.c0
  clear h
  obtain ⟨ta, ra, da, la, na⟩ := x
  obtain ⟨tb, rb, db, lb, nb⟩ := y
  by_cases hp : p = 1
  · subst hp
    by_cases e : da = db
    · subst e
      have ea : ahd 1 ⟨ta, ra, da, la, na⟩ ⟨tb, rb, da, lb, nb⟩ = decide (ta < tb) := by simp [ahd]
      rw [ea]
      go_enter Tryd.func34, Tryd.ntmps34
      go_wp2
      go_ret
      exact ⟨by simp, ba (ba (Below.refl _ _) _) _⟩
    · have ea : ahd 1 ⟨ta, ra, da, la, na⟩ ⟨tb, rb, db, lb, nb⟩ = decide (da < db) := by simp [ahd, e]
      have e2 : (da == db) = false := by simpa using e
      rw [ea]
      go_enter Tryd.func34, Tryd.ntmps34
      go_wp2
      go_ret
      exact ⟨rfl, ba (ba (Below.refl _ _) _) _⟩
  · have hp2 : (p == 1) = false := by simpa using hp
    have ea : ahd p ⟨ta, ra, da, la, na⟩ ⟨tb, rb, db, lb, nb⟩ = decide (ta < tb) := by simp [ahd, hp]
    rw [ea]
    go_enter Tryd.func34, Tryd.ntmps34
    go_wp2
    go_ret
    exact ⟨by simp, ba (ba (Below.refl _ _) _) _⟩
set_option maxHeartbeats 1600000 in
theorem dlate_is (base : Nat) (w : World) (b : Nat) (p : Int) (tv lv jv : Value) (ls : List Int) (s : Gt) (now : Int) (h : DG base w b p tv lv jv ls s) (hl : s.js.length ≤ 64) : Calls Tryd.prog 28 #[.pointer (some ⟨b, 0, none⟩), .int .i64 now] w fun e w' => e = .returned (.int .i64 (lateN now s.js : Int)) ∧ Below w.heap.size w w' := by
  have c1 := h.c3
  obtain ⟨a, c, rfl, hc⟩ := own_sh h.jown
  have HG := mkHid h
  clear h hc
  go_enter Tryd.func28, Tryd.ntmps28
  go_wp2
  go_loopw [5, 13] (fun cv iv wr => ∃ k n : Nat, cv = .int .i64 (n : Int) ∧ iv = .int .i64 (k : Int) ∧ k ≤ s.js.length ∧ n ≤ k ∧ Hid (n = lateN now (s.js.take k)) ∧ Hid (Below w.heap.size w wr)) (fun _ iv _ => s.js.length - (intOf iv).toNat)
  case atStart => exact ⟨0, 0, rfl, rfl, Nat.zero_le _, Nat.le_refl _, rfl, Below.refl _ _⟩
  case round =>
    obtain ⟨k, n, rfl, rfl, hk, hnk, HN, HB⟩ := hrel
    clear c1
    by_cases hlt : k < s.js.length
    · obtain ⟨x, hx⟩ : ∃ x, s.js[k]? = some x := ⟨_, List.getElem?_eq_getElem hlt⟩
      obtain ⟨g, c', e, qx⟩ := own_job (HG.out.below HB.out).jown hx
      simp only [Value.slice.injEq] at e
      obtain ⟨rfl, _, rfl⟩ := e
      obtain ⟨x0, x1, x2, x3, x4, _⟩ := qx
      have hki : (k : Int) < s.js.length := by omega
      have HS := mkHid (late_step (now := now) hx)
      clear hx
      obtain ⟨tx, rx, dx, lx, ex⟩ := x
      simp only at x0 x1 x2 x3 x4
      by_cases hd : dx ≤ now
      · go_wp2
        go_roundw
        case rel => exact ⟨k + 1, n + 1, by go_num, by go_num, by omega, by omega, mkHid (by rw [HS.out, ← HN.out, if_pos hd]), mkHid (ba HB.out _)⟩
        case measure => simp [intOf]; omega
      · go_wp2
        go_roundw
        case rel => exact ⟨k + 1, n, rfl, by go_num, by omega, by omega, mkHid (by rw [HS.out, ← HN.out, if_neg hd]; rfl), mkHid (ba HB.out _)⟩
        case measure => simp [intOf]; omega
    · obtain rfl : k = s.js.length := by omega
      have HT : Hid (n = lateN now s.js) := mkHid (by rw [HN.out, List.take_of_length_le (Nat.le_refl _)])
      go_wp2
      go_ret
      exact ⟨by rw [← HT.out]; rfl, HB.out⟩
theorem bst_one (p : Int) (js : List Jb) : bst p js 1 = 0 := by
  unfold bst
  split
  · split <;> simp [bst]
  · simp [bst]
set_option maxHeartbeats 12800000 in
theorem dnext_is (base : Nat) (w : World) (b : Nat) (p : Int) (tv lv jv : Value) (ls : List Int) (s : Gt) (h : DG base w b p tv lv jv ls s) (ok : s.Ok p) (N : Int) (hN : N = (if s.js.length = 0 then -1 else (nx p s.ts s.js : Int))) : Calls Tryd.prog 26 #[.pointer (some ⟨b, 0, none⟩)] w fun e w' => e = .returned (.int .i64 N) ∧ Below w.heap.size w w' := by
  obtain ⟨ja, c, rfl, _⟩ := own_sh h.jown
  have HG := mkHid h
  have HOK := mkHid ok
  have HN := mkHid hN
  have hln : s.js.length ≤ 64 := ok.l
  have c3 := h.c3
  clear h ok hN
  go_enter Tryd.func26, Tryd.ntmps26
  go_wp2
  go_loopw [13] (fun iv wr => ∃ k : Nat, iv = .int .i64 (k : Int) ∧ k ≤ s.js.length ∧ Hid (∀ (i : Nat) (x : Jb), i < k → s.js[i]? = some x → hol s.ts x = false) ∧ Hid (Below w.heap.size w wr)) (fun iv _ => s.js.length - (intOf iv).toNat)
  case atStart => exact ⟨0, rfl, Nat.zero_le _, mkHid (fun i x hi => by omega), Below.refl _ _⟩
  case round =>
    obtain ⟨k, rfl, hk, HNH, HB⟩ := hrel
    clear c3
    have HGR := mkHid (HG.out.below HB.out)
    have c3 := HGR.out.c3
    have c1 := HGR.out.c1
    by_cases hlt : k < s.js.length
    · obtain ⟨x, hx⟩ : ∃ x, s.js[k]? = some x := ⟨_, List.getElem?_eq_getElem hlt⟩
      obtain ⟨g, c', e, qx⟩ := own_job HGR.out.jown hx
      simp only [Value.slice.injEq] at e
      obtain ⟨rfl, _, rfl⟩ := e
      obtain ⟨x0, x1, x2, x3, x4, _⟩ := qx
      obtain ⟨y, hy, jo, _⟩ := HOK.out.j _ _ hx
      obtain ⟨gt, ct, rfl, q0, q1, q2, q3⟩ := own_t4 (ts_len s) HGR.out.town (ts_at hy)
      have hyl := (List.getElem?_eq_some_iff.mp hy).1
      have hyi : (x.tk : Int) < s.xs.length := by omega
      have hki : (k : Int) < s.js.length := by omega
      have HX := mkHid hx
      have hcs : (hol s.ts x = true ∧ 0 < x.dn ∧ x.dn < y.1.2.2.2) ∨ (hol s.ts x = false ∧ ¬ 0 < x.dn) ∨ (hol s.ts x = false ∧ 0 < x.dn ∧ ¬ x.dn < y.1.2.2.2) := by
        unfold hol
        rw [tkS_at (ts_at hy)]
        by_cases a1 : 0 < x.dn
        · by_cases a2 : x.dn < y.1.2.2.2
          · exact .inl ⟨by simp [a1, a2], a1, a2⟩
          · exact .inr (.inr ⟨by simp [a2], a1, a2⟩)
        · exact .inr (.inl ⟨by simp [a1], a1⟩)
      have HNX : hol s.ts x = false → Hid (∀ (i : Nat) (z : Jb), i < k + 1 → s.js[i]? = some z → hol s.ts z = false) := fun hf => mkHid (fun i z hi hz => by
        by_cases e : i = k
        · subst e
          rw [HX.out] at hz
          rw [← Option.some.inj hz]
          exact hf
        · exact HNH.out i z (by omega) hz)
      clear hx hy jo q0 q1 q2 hyl
      obtain ⟨⟨yc, yp, yd, yS⟩, ya⟩ := y
      obtain ⟨tx, rx, dx, lx, ex⟩ := x
      simp only at x0 x1 x2 x3 x4 q3 hcs hyi
      rcases hcs with ⟨hh, a1, a2⟩ | ⟨hh, a1⟩ | ⟨hh, a1, a2⟩
      · have HH := mkHid hh
        clear hh HNX
        go_wp2
        go_quiet (fail)
        go_wp2
        go_ret
        refine ⟨?_, below_drewN (ba HB.out _) _⟩
        have hz : ¬ s.js.length = 0 := by omega
        rw [HN.out, if_neg hz, nx_hol HX.out HH.out HNH.out]
        rfl
      · have HQ := HNX hh
        have n1 : decide (0 < ex) = false := decide_eq_false a1
        clear HNX hh
        go_wp2
        go_quiet (fail)
        go_wp2
        go_roundw
        case rel => exact ⟨k + 1, by go_num, by omega, HQ, mkHid (below_drewN (ba HB.out _) _)⟩
        case measure => simp [intOf]; omega
      · have HQ := HNX hh
        have n1 : decide (ex < yS) = false := decide_eq_false a2
        clear HNX hh
        go_wp2
        go_quiet (fail)
        go_wp2
        go_roundw
        case rel => exact ⟨k + 1, by go_num, by omega, HQ, mkHid (below_drewN (ba HB.out _) _)⟩
        case measure => simp [intOf]; omega
    · obtain rfl : k = s.js.length := by omega
      have HNB : Hid (s.js.length = 0 ∨ N = (bst p s.js s.js.length : Int)) := mkHid (by
        by_cases hz : s.js.length = 0
        · exact .inl hz
        · right
          rw [HN.out, if_neg hz, nx_none (fun i x hx => HNH.out i x (List.getElem?_eq_some_iff.mp hx).1 hx)])
      clear hlt c1
      go_wp2
      clear c3
      have HB1 := mkHid HB.out
      clear HB HGR
      go_loopw [5, 42] (fun bv iv wr => ∃ (k : Nat) (bi : Int), bv = .int .i64 bi ∧ iv = .int .i64 (k : Int) ∧ k ≤ s.js.length ∧ Hid (bi = if k = 0 then -1 else (bst p s.js k : Int)) ∧ Hid (Below w.heap.size w wr)) (fun _ iv _ => s.js.length - (intOf iv).toNat)
      case atStart => exact ⟨0, -1, rfl, rfl, Nat.zero_le _, rfl, HB1⟩
      case round =>
        clear HB1
        obtain ⟨k, bi, rfl, rfl, hk, HBI, HB⟩ := hrel
        have HGR := mkHid (HG.out.below HB.out)
        have c3 := HGR.out.c3
        by_cases hlt : k < s.js.length
        · obtain ⟨x, hx⟩ : ∃ x, s.js[k]? = some x := ⟨_, List.getElem?_eq_getElem hlt⟩
          obtain ⟨g, c', e, qx⟩ := own_job HGR.out.jown hx
          simp only [Value.slice.injEq] at e
          obtain ⟨rfl, _, rfl⟩ := e
          obtain ⟨x0, x1, x2, x3, x4, _⟩ := qx
          have hki : (k : Int) < s.js.length := by omega
          have HX := mkHid hx
          clear hx
          obtain ⟨tx, rx, dx, lx, ex⟩ := x
          simp only at x0 x1 x2 x3 x4
          by_cases hz : k = 0
          · subst hz
            have hb0 := HBI.out
            simp only [if_true] at hb0
            subst hb0
            go_wp2
            obtain ⟨W4, hW4⟩ : ∃ W4, W4 = wr.alloc (.cells #[.int .i64 (tx : Int), .int .i64 rx, .int .i64 dx, .int .i64 lx, .int .i64 ex] 45) := ⟨_, rfl⟩
            have HBW : Hid (Below w.heap.size w W4) := mkHid (by rw [hW4]; exact ba HB.out _)
            have d3 := (HG.out.below HBW.out).c3
            have d0 := (HG.out.below HBW.out).c0
            rw [← hW4]
            clear hW4 x0 x1 x2 x3 x4 c3
            refine wp_region_held_drew (S := fun w' => w'.cell? ⟨b, 3, none⟩ = some (.slice (some ⟨g, 0, none⟩) s.js.length c) ∧ w'.cell? ⟨b, 0, none⟩ = some (.int .i64 p)) (by kernel_rfl) ⟨d3, d0⟩ (fun hHeld => ?_)
            refine takeD 0 47 (.int .i64 (-1)) rfl rfl (by kernel_rfl) (by kernel_rfl) (by kernel_rfl) (fun _ _ _ h => h) (Or.inl ⟨by kernel_rfl, by intro w hSw; (try dsimp only at hSw); go_simp⟩) hHeld ?_
            simp only [List.set_cons_zero, List.set_cons_succ]
            refine takeD 1 48 (.bool true) rfl rfl (by kernel_rfl) (by kernel_rfl) (by kernel_rfl) (fun _ _ _ h => h) (Or.inl ⟨by kernel_rfl, by intro w hSw; (try dsimp only at hSw); go_simp⟩) hHeld ?_
            simp only [List.set_cons_zero, List.set_cons_succ]
            refine takeD 2 49 (.bool true) rfl rfl (by kernel_rfl) (by kernel_rfl) (by kernel_rfl) (fun _ _ _ h => h) (Or.inl ⟨by kernel_rfl, by intro w hSw; (try dsimp only at hSw); go_simp⟩) hHeld ?_
            simp only [List.set_cons_zero, List.set_cons_succ]
            refine takeD 3 50 (undef) rfl rfl (by kernel_rfl) (by kernel_rfl) (by kernel_rfl) (fun _ _ _ h => h) (Or.inr ⟨by kernel_rfl, rfl⟩) hHeld ?_
            simp only [List.set_cons_zero, List.set_cons_succ]
            refine takeD 4 51 (undef) rfl rfl (by kernel_rfl) (by kernel_rfl) (by kernel_rfl) (fun _ _ _ h => h) (Or.inr ⟨by kernel_rfl, rfl⟩) hHeld ?_
            simp only [List.set_cons_zero, List.set_cons_succ]
            refine takeD 5 52 (undef) rfl rfl (by kernel_rfl) (by kernel_rfl) (by kernel_rfl) (fun _ _ _ h => h) (Or.inr ⟨by kernel_rfl, rfl⟩) hHeld ?_
            simp only [List.set_cons_zero, List.set_cons_succ]
            refine takeD 6 53 (undef) rfl rfl (by kernel_rfl) (by kernel_rfl) (by kernel_rfl) (fun _ _ _ h => h) (Or.inr ⟨by kernel_rfl, rfl⟩) hHeld ?_
            simp only [List.set_cons_zero, List.set_cons_succ]
            refine takeD 7 54 (undef) rfl rfl (by kernel_rfl) (by kernel_rfl) (by kernel_rfl) (fun _ _ _ h => h) (Or.inr ⟨by kernel_rfl, rfl⟩) hHeld ?_
            simp only [List.set_cons_zero, List.set_cons_succ]
            refine takeD 8 55 (undef) rfl rfl (by kernel_rfl) (by kernel_rfl) (by kernel_rfl) (fun _ _ _ h => h) (Or.inr ⟨by kernel_rfl, rfl⟩) hHeld ?_
            simp only [List.set_cons_zero, List.set_cons_succ]
            refine takeD 9 56 (undef) rfl rfl (by kernel_rfl) (by kernel_rfl) (by kernel_rfl) (fun _ _ _ h => h) (Or.inr ⟨by kernel_rfl, rfl⟩) hHeld ?_
            simp only [List.set_cons_zero, List.set_cons_succ]
            refine takeD 10 57 (undef) rfl rfl (by kernel_rfl) (by kernel_rfl) (by kernel_rfl) (fun _ _ _ h => h) (Or.inr ⟨by kernel_rfl, rfl⟩) hHeld ?_
            simp only [List.set_cons_zero, List.set_cons_succ]
            refine takeD 11 58 (undef) rfl rfl (by kernel_rfl) (by kernel_rfl) (by kernel_rfl) (fun _ _ _ h => h) (Or.inr ⟨by kernel_rfl, rfl⟩) hHeld ?_
            simp only [List.set_cons_zero, List.set_cons_succ]
            refine takeD 12 59 (undef) rfl rfl (by kernel_rfl) (by kernel_rfl) (by kernel_rfl) (fun _ _ _ h => h) (Or.inr ⟨by kernel_rfl, rfl⟩) hHeld ?_
            simp only [List.set_cons_zero, List.set_cons_succ]
            refine takeD 13 60 (.bool true) rfl rfl (by kernel_rfl) (by kernel_rfl) (by kernel_rfl) (fun _ _ _ h => h) (Or.inl ⟨by kernel_rfl, by intro w hSw; (try dsimp only at hSw); go_simp⟩) hHeld ?_
            simp only [List.set_cons_zero, List.set_cons_succ]
            refine wpAnyH_done (by kernel_rfl) ?_ _
            clear hHeld
            go_wp2
            go_roundw
            case rel => exact ⟨0 + 1, 0, rfl, by go_num, by omega, mkHid (by simp [bst_one]), mkHid HBW.out.drew⟩
            case measure => simp [intOf]; omega
          · have hb0 := HBI.out
            rw [if_neg hz] at hb0
            obtain ⟨m, hm⟩ : ∃ m, m = bst p s.js k := ⟨_, rfl⟩
            rw [← hm] at hb0
            subst hb0
            have hml : m < s.js.length := by rw [hm]; exact bst_lt p s.js (by omega) k hk
            have hmi : (m : Int) < s.js.length := by omega
            obtain ⟨y, hy⟩ : ∃ y, s.js[m]? = some y := ⟨_, List.getElem?_eq_getElem hml⟩
            obtain ⟨g', c', e, qy⟩ := own_job HGR.out.jown hy
            simp only [Value.slice.injEq, Option.some.injEq, Addr.mk.injEq] at e
            obtain ⟨⟨rfl, _⟩, _, rfl⟩ := e
            obtain ⟨y0, y1, y2, y3, y4, _⟩ := qy
            have HST := mkHid (bst_step (p := p) HX.out (by rw [← hm]; exact hy))
            have HMB := mkHid hm
            clear hy hm hz
            obtain ⟨ty, ry, dy, ly, ey⟩ := y
            simp only at y0 y1 y2 y3 y4
            obtain ⟨A, hA⟩ : ∃ A, A = ahd p ⟨tx, rx, dx, lx, ex⟩ ⟨ty, ry, dy, ly, ey⟩ := ⟨_, rfl⟩
            have HA := mkHid hA
            clear hA
            have HD : Hid (∀ W', Below w.heap.size w W' → Calls Tryd.prog 34 #[.pointer (some ⟨b, 0, none⟩), vJ ⟨tx, rx, dx, lx, ex⟩, vJ ⟨ty, ry, dy, ly, ey⟩] W' fun e w' => e = .returned (.bool A) ∧ Below W'.heap.size W' w') := mkHid (fun W' hW' => by rw [HA.out]; exact dahead_is base W' b p tv lv _ ls s _ _ (HG.out.below hW'))
            go_wp2
            obtain ⟨W4, hW4⟩ : ∃ W4, W4 = wr.alloc (.cells #[.int .i64 (tx : Int), .int .i64 rx, .int .i64 dx, .int .i64 lx, .int .i64 ex] 45) := ⟨_, rfl⟩
            have b4 : Below wr.heap.size wr W4 := by rw [hW4]; exact ba (Below.refl _ _) _
            have HBW : Hid (Below w.heap.size w W4) := mkHid (bt HB.out b4)
            have d3 := (HG.out.below HBW.out).c3
            have hx4 : W4.heap[wr.heap.size]? = some (oJ ⟨tx, rx, dx, lx, ex⟩) := by rw [hW4]; exact heap_alloc_new wr _
            obtain ⟨z0, z1, z2, z3, z4, _⟩ := J5.of_blk hx4
            simp only [Nat.zero_add] at z0 z1 z2 z3 z4
            have v0 := kc y0 b4
            have v1 := kc y1 b4
            have v2 := kc y2 b4
            have v3 := kc y3 b4
            have v4 := kc y4 b4
            rw [← hW4]
            clear hW4 x0 x1 x2 x3 x4 c3 y0 y1 y2 y3 y4 b4 hx4
            generalize wr.heap.size = X at *
            refine wp_region_held_drew (S := fun w' => w'.cell? ⟨b, 3, none⟩ = some (.slice (some ⟨g, 0, none⟩) s.js.length c) ∧ w'.cell? ⟨X, 0, none⟩ = some (.int .i64 (tx : Int)) ∧ w'.cell? ⟨X, 1, none⟩ = some (.int .i64 rx) ∧ w'.cell? ⟨X, 2, none⟩ = some (.int .i64 dx) ∧ w'.cell? ⟨X, 3, none⟩ = some (.int .i64 lx) ∧ w'.cell? ⟨X, 4, none⟩ = some (.int .i64 ex) ∧ w'.cell? ⟨g, m * 5, none⟩ = some (.int .i64 (ty : Int)) ∧ w'.cell? ⟨g, m * 5 + 1, none⟩ = some (.int .i64 ry) ∧ w'.cell? ⟨g, m * 5 + 2, none⟩ = some (.int .i64 dy) ∧ w'.cell? ⟨g, m * 5 + 3, none⟩ = some (.int .i64 ly) ∧ w'.cell? ⟨g, m * 5 + 4, none⟩ = some (.int .i64 ey)) (by kernel_rfl) ⟨d3, z0, z1, z2, z3, z4, v0, v1, v2, v3, v4⟩ (fun hHeld => ?_)
            refine takeD 0 47 (.int .i64 (m : Int)) rfl rfl (by kernel_rfl) (by kernel_rfl) (by kernel_rfl) (fun _ _ _ h => h) (Or.inl ⟨by kernel_rfl, by intro w hSw; (try dsimp only at hSw); go_simp⟩) hHeld ?_
            simp only [List.set_cons_zero, List.set_cons_succ]
            refine takeD 1 48 (.bool false) rfl rfl (by kernel_rfl) (by kernel_rfl) (by kernel_rfl) (fun _ _ _ h => h) (Or.inl ⟨by kernel_rfl, by intro w hSw; (try dsimp only at hSw); go_simp⟩) hHeld ?_
            simp only [List.set_cons_zero, List.set_cons_succ]
            refine takeD 2 49 (.bool false) rfl rfl (by kernel_rfl) (by kernel_rfl) (by kernel_rfl) (fun _ _ _ h => h) (Or.inl ⟨by kernel_rfl, by intro w hSw; (try dsimp only at hSw); go_simp⟩) hHeld ?_
            simp only [List.set_cons_zero, List.set_cons_succ]
            refine takeD 3 50 (.pointer (some ⟨b, 0, none⟩)) rfl rfl (by kernel_rfl) (by kernel_rfl) (by kernel_rfl) (fun _ _ _ h => h) (Or.inl ⟨by kernel_rfl, by intro w hSw; (try dsimp only at hSw); go_simp⟩) hHeld ?_
            simp only [List.set_cons_zero, List.set_cons_succ]
            refine takeD 4 51 (.agg #[.int .i64 (tx : Int), .int .i64 rx, .int .i64 dx, .int .i64 lx, .int .i64 ex]) rfl rfl (by kernel_rfl) (by kernel_rfl) (by kernel_rfl) (fun _ _ _ h => h) (Or.inl ⟨by kernel_rfl, by intro w hSw; (try dsimp only at hSw); go_simp⟩) hHeld ?_
            simp only [List.set_cons_zero, List.set_cons_succ]
            refine takeD 5 52 (.pointer (some ⟨b, 0, none⟩)) rfl rfl (by kernel_rfl) (by kernel_rfl) (by kernel_rfl) (fun _ _ _ h => h) (Or.inl ⟨by kernel_rfl, by intro w hSw; (try dsimp only at hSw); go_simp⟩) hHeld ?_
            simp only [List.set_cons_zero, List.set_cons_succ]
            refine takeD 6 53 (.pointer (some ⟨b, 0, none⟩)) rfl rfl (by kernel_rfl) (by kernel_rfl) (by kernel_rfl) (fun _ _ _ h => h) (Or.inl ⟨by kernel_rfl, by intro w hSw; (try dsimp only at hSw); go_simp⟩) hHeld ?_
            simp only [List.set_cons_zero, List.set_cons_succ]
            refine takeD 7 54 (.pointer (some ⟨b, 3, none⟩)) rfl rfl (by kernel_rfl) (by kernel_rfl) (by kernel_rfl) (fun _ _ _ h => h) (Or.inl ⟨by kernel_rfl, by intro w hSw; (try dsimp only at hSw); go_simp⟩) hHeld ?_
            simp only [List.set_cons_zero, List.set_cons_succ]
            refine takeD 8 55 (.slice (some ⟨g, 0, none⟩) s.js.length c) rfl rfl (by kernel_rfl) (by kernel_rfl) (by kernel_rfl) (fun _ _ _ h => h) (Or.inl ⟨by kernel_rfl, by intro w hSw; (try dsimp only at hSw); go_simp⟩) hHeld ?_
            simp only [List.set_cons_zero, List.set_cons_succ]
            refine takeD 9 56 (.int .i64 (m : Int)) rfl rfl (by kernel_rfl) (by kernel_rfl) (by kernel_rfl) (fun _ _ _ h => h) (Or.inl ⟨by kernel_rfl, by intro w hSw; (try dsimp only at hSw); go_simp⟩) hHeld ?_
            simp only [List.set_cons_zero, List.set_cons_succ]
            refine takeD 10 57 (.pointer (some ⟨g, m * 5, none⟩)) rfl rfl (by kernel_rfl) (by kernel_rfl) (by kernel_rfl) (fun _ _ _ h => h) (Or.inl ⟨by kernel_rfl, by intro w hSw; (try dsimp only at hSw); go_simp⟩) hHeld ?_
            simp only [List.set_cons_zero, List.set_cons_succ]
            refine takeD 11 58 (.agg #[.int .i64 (ty : Int), .int .i64 ry, .int .i64 dy, .int .i64 ly, .int .i64 ey]) rfl rfl (by kernel_rfl) (by kernel_rfl) (by kernel_rfl) (fun _ _ _ h => h) (Or.inl ⟨by kernel_rfl, by intro w hSw; (try dsimp only at hSw); go_simp⟩) hHeld ?_
            simp only [List.set_cons_zero, List.set_cons_succ]
            refine wpAnyH_ready (rs := [12]) (by kernel_rfl) (by simp) (AllReadyH.cons rfl (fun K hK => ?_) AllReadyH.nil)
            go_simp
            refine (HD.out W4.drew (HBW.out.drew)).mono ?_
            rintro e w5 ⟨rfl, bw5⟩
            have fw5_0 : w5.cell? ⟨b, 3, none⟩ = some (.slice (some ⟨g, 0, none⟩) s.js.length c) := kc (show W4.drew.cell? _ = _ from d3) bw5
            have fw5_1 : w5.cell? ⟨X, 0, none⟩ = some (.int .i64 (tx : Int)) := kc (show W4.drew.cell? _ = _ from z0) bw5
            have fw5_2 : w5.cell? ⟨X, 1, none⟩ = some (.int .i64 rx) := kc (show W4.drew.cell? _ = _ from z1) bw5
            have fw5_3 : w5.cell? ⟨X, 2, none⟩ = some (.int .i64 dx) := kc (show W4.drew.cell? _ = _ from z2) bw5
            have fw5_4 : w5.cell? ⟨X, 3, none⟩ = some (.int .i64 lx) := kc (show W4.drew.cell? _ = _ from z3) bw5
            have fw5_5 : w5.cell? ⟨X, 4, none⟩ = some (.int .i64 ex) := kc (show W4.drew.cell? _ = _ from z4) bw5
            have fw5_6 : w5.cell? ⟨g, m * 5, none⟩ = some (.int .i64 (ty : Int)) := kc (show W4.drew.cell? _ = _ from v0) bw5
            have fw5_7 : w5.cell? ⟨g, m * 5 + 1, none⟩ = some (.int .i64 ry) := kc (show W4.drew.cell? _ = _ from v1) bw5
            have fw5_8 : w5.cell? ⟨g, m * 5 + 2, none⟩ = some (.int .i64 dy) := kc (show W4.drew.cell? _ = _ from v2) bw5
            have fw5_9 : w5.cell? ⟨g, m * 5 + 3, none⟩ = some (.int .i64 ly) := kc (show W4.drew.cell? _ = _ from v3) bw5
            have fw5_10 : w5.cell? ⟨g, m * 5 + 4, none⟩ = some (.int .i64 ey) := kc (show W4.drew.cell? _ = _ from v4) bw5
            have HB5 := mkHid (bt HBW.out.drew bw5)
            clear bw5 hHeld
            refine hK.out _ _ ⟨fw5_0, fw5_1, fw5_2, fw5_3, fw5_4, fw5_5, fw5_6, fw5_7, fw5_8, fw5_9, fw5_10⟩ (fun hHeld => ?_)
            clear hK K
            refine takeD 13 60 (.bool A) rfl rfl (by kernel_rfl) (by kernel_rfl) (by kernel_rfl) (fun _ _ _ h => h) (Or.inl ⟨by kernel_rfl, by intro w hSw; (try dsimp only at hSw); go_simp⟩) hHeld ?_
            simp only [List.set_cons_zero, List.set_cons_succ]
            refine wpAnyH_done (by kernel_rfl) ?_ _
            clear hHeld
            cases A
            · go_wp2
              go_roundw
              case rel => exact ⟨k + 1, m, rfl, by go_num, by omega, mkHid (by rw [if_neg (by omega), HST.out, ← HA.out, ← HMB.out]; rfl), HB5⟩
              case measure => simp [intOf]; omega
            · go_wp2
              go_roundw
              case rel => exact ⟨k + 1, k, rfl, by go_num, by omega, mkHid (by rw [if_neg (by omega), HST.out, ← HA.out]; rfl), HB5⟩
              case measure => simp [intOf]; omega
        · obtain rfl : k = s.js.length := by omega
          have HF : Hid (bi = N) := mkHid (by
            rw [HBI.out]
            rcases HNB.out with e | e
            · rw [if_pos e, HN.out, if_pos e]
            · by_cases hz : s.js.length = 0
              · rw [if_pos hz, HN.out, if_pos hz]
              · rw [if_neg hz, e])
          go_wp2
          go_ret
          exact ⟨by rw [← HF.out]; rfl, HB.out⟩
end Go.Proofs.YthncfkeoephipaaDoor
