/- The law RoundNewest. -/
import Derived.Test.YtjocjkfllicjdaaDoorRnB
import Derived.Test.YtjocjkfllicjdaaDoorOpenRd
import Derived.Test.YtjocjkfllicjdaaDoorOsamel
import Derived.Test.YtjocjkfllicjdaaDoorOradd
import Derived.Test.YtjocjkfllicjdaaDoorStoreBx
namespace Go.Proofs.YtjocjkfllicjdaaDoor
open Go.ChangeShapes Go.WideShapes Go.ChangeAt Go.RowKit
set_option maxRecDepth 100000
attribute [local go_sem] World.cell?_alloc_some frozen_alloc_some

theorem one2 (x0 x1 : Int) : (#[Value.int .i64 x0, .int .i64 x1] : Array Value).all (·.oneCell') = true := by simp [Value.oneCell']
theorem rest7 (n : Int) : ∃ A B K : Int, n.tmod 7 = A ∧ IntKind.i64.wrap A = A ∧ IntKind.i64.wrap (A + 7) = B ∧ B.tmod 7 = K ∧ IntKind.i64.wrap K = K ∧ IntKind.i64.wrap (K + 1) = K + 1 ∧ 0 ≤ K ∧ K ≤ 6 := by
  have a1 := Int.tmod_lt_of_pos n (show (0 : Int) < 7 by omega)
  have a2 : -7 < n.tmod 7 := by
    by_cases hn : 0 ≤ n
    · have := Int.tmod_nonneg 7 hn; omega
    · have e := Int.neg_tmod (a := -n) (b := 7)
      rw [Int.neg_neg] at e
      have := Int.tmod_lt_of_pos (-n) (show (0 : Int) < 7 by omega)
      omega
  have b1 := Int.tmod_lt_of_pos (n.tmod 7 + 7) (show (0 : Int) < 7 by omega)
  have b2 := Int.tmod_nonneg 7 (show 0 ≤ n.tmod 7 + 7 by omega)
  exact ⟨n.tmod 7, n.tmod 7 + 7, (n.tmod 7 + 7).tmod 7, rfl, by rw [IntKind.wrap_i64]; omega, by rw [IntKind.wrap_i64]; omega, rfl, by rw [IntKind.wrap_i64]; omega, by rw [IntKind.wrap_i64]; omega, b2, by omega⟩
/-- The round with i promises; behind more than half it tells. -/
def RI (N : Int) (i : Nat) (nw : Bl) : Rn := ⟨N, false, 1, (1099511627776, 6), decide (0 < i), decide (1 < i), decide (2 < i), decide (3 < i), decide (4 < i), decide (5 < i), decide (6 < i), nw, 1⟩
def RS (N : Int) (i : Nat) (nw : Bl) : Rn := if halfI N ≤ (i : Int) then (RI N i nw).enter 2 else RI N i nw
def LS (N : Int) (i : Nat) (L : List En) : List En := if halfI N ≤ (i : Int) then L ++ [mk1] else L
theorem ri_hear (N : Int) {i : Nat} (nw x : Bl) (hi : i < 4) : hearN (RI N i nw) i x = RI N (i + 1) (if aboveB x nw then x else nw) := by
  rcases (show i = 0 ∨ i = 1 ∨ i = 2 ∨ i = 3 by omega) with rfl | rfl | rfl | rfl <;> rfl
theorem ri_cnt (N : Int) {i : Nat} (nw : Bl) (hi : i < 4) : ((RI N i nw).hear i).cnt = i + 1 := by
  rcases (show i = 0 ∨ i = 1 ∨ i = 2 ∨ i = 3 by omega) with rfl | rfl | rfl | rfl <;> rfl
theorem ri_counts {N : Int} {i : Nat} (nw : Bl) (hi : i < 4) (hN : (i : Int) < N) : cntsB (RI N i nw) 1 (i : Int) (1099511627776, 6) = true := by
  rcases (show i = 0 ∨ i = 1 ∨ i = 2 ∨ i = 3 by omega) with rfl | rfl | rfl | rfl <;> simp [cntsB, RI, Rn.at, Rn.an] <;> omega
theorem prom_rs {N : Int} {i n : Nat} (nw x : Bl) (hi : i < 4) (hh : (i : Int) < halfI N) (hn : n < 64) : promS (RS N i nw) i x 0 n = RS N (i + 1) (if aboveB x nw then x else nw) := by
  have e0 : RS N i nw = RI N i nw := by unfold RS; rw [if_neg (by omega)]
  rw [e0]
  unfold promS
  rw [ri_cnt N nw hi, ri_hear N nw x hi, show (RI N i nw).N = N from rfl]
  by_cases h : halfI N ≤ ((i + 1 : Nat) : Int)
  · rw [if_pos h]
    unfold tellS RS
    rw [if_neg (by simp [RI]), if_neg (fun q => by omega), if_pos h]
  · rw [if_neg h]
    unfold RS
    rw [if_neg h]
theorem prom_ls {N : Int} {i : Nat} (nw x : Bl) (L m : List En) (hi : i < 4) (hh : (i : Int) < halfI N) (hn : (newL (RS N i nw) x L m).length < 64) : promL (RS N i nw) i x 0 mk1 L m = LS N (i + 1) (if aboveB x nw then m else L) := by
  have e0 : RS N i nw = RI N i nw := by unfold RS; rw [if_neg (by omega)]
  rw [e0] at hn ⊢
  have e1 : newL (RI N i nw) x L m = if aboveB x nw then m else L := rfl
  unfold promL
  rw [ri_cnt N nw hi, show (RI N i nw).N = N from rfl, e1]
  rw [e1] at hn
  by_cases h : halfI N ≤ ((i + 1 : Nat) : Int)
  · rw [if_pos h]
    unfold tellL LS
    rw [if_neg (by simp [RI]), if_pos rfl, if_neg (by omega), if_pos h]
  · rw [if_neg h]
    unfold LS
    rw [if_neg h]
/-- What the law wants: no entry, or one. -/
def WT (p nb : Nat) (W : World) (v : Value) (L : List En) : Prop :=
  (L = [] ∧ ∃ a, v = .slice a 0 0) ∨ ∃ (b : Nat) (n x : Int), v = .slice (some ⟨b, 0, none⟩) 1 1 ∧ L = [mkD 5 n x] ∧ W.heap[b]? = some (oE (mkD 5 n x) (.slice none 0 0)) ∧ b ≠ p ∧ b ≠ nb
theorem WT.shape {p nb : Nat} {W : World} {v : Value} {L : List En} (h : WT p nb W v L) : ∃ a k c, v = .slice a k c := by
  rcases h with ⟨_, a, rfl⟩ | ⟨b, n, x, rfl, _⟩ <;> exact ⟨_, _, _, rfl⟩
theorem WT.kept {p nb : Nat} {W W' : World} {v : Value} {L : List En} (h : WT p nb W v L) (hk : Kept (fun k => k = p ∨ k = nb) W W') : WT p nb W' v L := by
  rcases h with h | ⟨b, n, x, rfl, h1, h2, h3, h4⟩
  · exact .inl h
  · exact .inr ⟨b, n, x, rfl, h1, (hk.block b (lt_of_heap h2) (by omega)).trans h2, h3, h4⟩
theorem WT.no {p nb : Nat} {W : World} {v : Value} {L : List En} (h : WT p nb W v L) : PlIs L 0 1 0 ∧ L.length ≤ 1 := by
  rcases h with ⟨rfl, _⟩ | ⟨b, n, x, _, rfl, _⟩
  · exact ⟨plis_nil _ _, by simp⟩
  · exact ⟨.inl ⟨rfl, fun i e hx ha => by
      have hi : i = 0 := by have := (List.getElem?_eq_some_iff.mp hx).1; simp at this; exact this
      subst hi
      simp at hx
      subst hx
      have := ha.1
      simp [mkD] at this⟩, by simp⟩
theorem ens_blk {W : World} {b : Nat} {n x : Int} (h : W.heap[b]? = some (oE (mkD 5 n x) (.slice none 0 0))) : Ens W (.slice (some ⟨b, 0, none⟩) 1 1) [(mkD 5 n x, none, 0)] := by
  refine ⟨_, _, rfl, by simp, fun _ => ⟨b, 0, rfl, fun i y hy => ?_⟩, fun u hu => ?_⟩
  · have hi : i = 0 := by have := (List.getElem?_eq_some_iff.mp hy).1; simp at this; exact this
    subst hi
    simp at hy
    subst hy
    exact EnAt.of (fun r u hr hu => by
      have : (r = 0 ∨ r = 1 ∨ r = 2 ∨ r = 3 ∨ r = 4 ∨ r = 5 ∨ r = 6 ∨ r = 7 ∨ r = 8 ∨ r = 9) := by omega
      rcases this with rfl | rfl | rfl | rfl | rfl | rfl | rfl | rfl | rfl | rfl <;> simp only [c10, List.getElem?_cons_zero, List.getElem?_cons_succ, Option.some.injEq] at hu <;> subst hu <;> exact cell_of_block h rfl)
  · simp at hu
    subst hu
    exact ⟨none, 0, rfl, by simp [mkD], fun hp => by simp [mkD] at hp⟩
theorem ens_empty (W : World) (a : Option Addr) : Ens W (.slice a 0 0) [] := ⟨a, 0, rfl, by simp, fun hp => by simp at hp, fun u hu => by simp at hu⟩
theorem WT.ens {p nb : Nat} {W : World} {v : Value} {L : List En} (h : WT p nb W v L) : ∃ ps, Ens W v ps ∧ fs1 ps = L ∧ (∀ u ∈ ps, small u) ∧ ps.length ≤ 1 := by
  rcases h with ⟨rfl, a, rfl⟩ | ⟨b, n, x, rfl, rfl, h2, _⟩
  · exact ⟨[], ens_empty W a, rfl, by simp, by simp⟩
  · exact ⟨_, ens_blk h2, rfl, fun u hu => by simp at hu; subst hu; simp [small, mkD], by simp⟩
/-- A round that was made behind w, the law's box nb apart from it. -/
def LX (nb : Nat) (w W : World) (p : Nat) (r : Rn) (e : En) (l : List En) : Prop :=
  ∃ (G : Nat → Prop) (a : Option Addr) (c : Nat) (t : Ep) (qs : List Ep), RB G W p r t (.slice a qs.length c) qs ∧ t.1 = e ∧ fs1 qs = l ∧ (∀ k, G k → w.heap.size ≤ k ∧ k ≠ nb) ∧ Below w.heap.size w W ∧ w.heap.size ≤ nb
theorem LX.lr {nb : Nat} {w W : World} {p : Nat} {r : Rn} {e : En} {l : List En} (h : LX nb w W p r e l) : LR w W p r e l := by
  obtain ⟨G, a, c, t, qs, h1, h2, h3, h4, h5, _⟩ := h
  exact ⟨G, a, c, t, qs, h1, h2, h3, fun k hk => (h4 k hk).1, h5⟩
theorem LX.made {w W W' : World} {p : Nat} {r : Rn} {e : En} {l : List En} (h : LR w W p r e l) (hb : Below W.heap.size W W') : LX W.heap.size w W' p r e l := by
  obtain ⟨G, a, c, t, qs, h1, h2, h3, h4, h5⟩ := h
  exact ⟨G, a, c, t, qs, h1.below hb, h2, h3, fun k hk => ⟨h4 k hk, by have := h1.lt k hk; omega⟩, bt h5 hb, h5.size⟩
theorem LX.late {nb : Nat} {w W W' : World} {p : Nat} {r : Rn} {e : En} {l : List En} (h : LX nb w W p r e l) (hb : Below W.heap.size W W') : LX nb w W' p r e l := by
  obtain ⟨G, a, c, t, qs, h1, h2, h3, h4, h5, h6⟩ := h
  exact ⟨G, a, c, t, qs, h1.below hb, h2, h3, h4, bt h5 hb, h6⟩
theorem LX.store {nb : Nat} {w W W' : World} {p : Nat} {r : Rn} {e : En} {l : List En} (h : LX nb w W p r e l) (hk : Kept (fun k => k = nb) W W') : LX nb w W' p r e l := by
  obtain ⟨G, a, c, t, qs, h1, h2, h3, h4, h5, h6⟩ := h
  exact ⟨G, a, c, t, qs, h1.kept hk (fun k e g => (h4 k g).2 e), h2, h3, h4, h5.trans (hk.below (fun j e => by omega) h5.size), h6⟩
theorem lx_promise {nb : Nat} {w W : World} {p : Nat} {r : Rn} {e : En} {l : List En} (i k : Nat) (b a : Bl) (lm : Value) (ms : List Ep) (ef : Addr) (h : LX nb w W p r e l) (hn : nb < W.heap.size) (hc : cntsB r 1 (i : Int) b = true) (hm : ∀ W', Kept (fun k => k = p) W W' → Ens W' lm ms) (hml : ms.length * 96 ≤ 140737488355328) (hms : ∀ u ∈ ms, small u)
    (hk : PlIs (newL r a l (fs1 ms)) e.cl e.nu k) (he : w.cell? ⟨7, 0, none⟩ = some (vErr ef)) :
    Calls Tryd.prog 19 #[.pointer (some ⟨p, 0, none⟩), .int .i64 (i : Int), vB b, vB a, lm] W fun x w' => x = .returned (.bool true) ∧ LX nb w w' p (promS r i a k (newL r a l (fs1 ms)).length) e (promL r i a k e l (fs1 ms)) ∧ Kept (fun k => k = p) W w' := by
  have hp := h.lr.at.1
  obtain ⟨G, av, c, t, qs, h1, rfl, rfl, h4, h5, h6⟩ := h
  refine (promise_any i k b a lm ms ef h1 hc hm hml hms hk (fun W' hk' => (below_of h5 hp hk').cell (World.block_lt_of_cell? w _ he) ▸ he)).mono ?_
  rintro x w' ⟨rfl, G', a', c', qs', h1', h3', h4', hk'⟩
  refine ⟨rfl, ⟨G', a', c', t, qs', h1', rfl, h3', fun k hk => ?_, below_of h5 hp hk', h6⟩, hk'⟩
  have := h5.size
  rcases h4' k hk with q | q
  · exact h4 k q
  · omega
theorem lr_promise_lx {nb : Nat} {w W : World} {p : Nat} {r : Rn} {l : List En} (i : Nat) (b a : Bl) (lm : Value) (ms : List Ep) (ef : Addr) (h : LX nb w W p r mk1 l) (hn : nb < W.heap.size) (hc : cntsB r 1 (i : Int) b = true) (hm : ∀ W', Kept (fun k => k = p) W W' → Ens W' lm ms) (hml : ms.length * 96 ≤ 140737488355328) (hms : ∀ u ∈ ms, small u)
    (hk : PlIs (newL r a l (fs1 ms)) 0 1 0) (he : w.cell? ⟨7, 0, none⟩ = some (vErr ef)) :
    Calls Tryd.prog 19 #[.pointer (some ⟨p, 0, none⟩), .int .i64 (i : Int), vB b, vB a, lm] W fun x w' => x = .returned (.bool true) ∧ LX nb w w' p (promS r i a 0 (newL r a l (fs1 ms)).length) mk1 (promL r i a 0 mk1 l (fs1 ms)) ∧ Kept (fun k => k = p) W w' := lx_promise i 0 b a lm ms ef h hn hc hm hml hms hk he
theorem fs_snoc (qs : List Ep) (t : Ep) : fs1 (qs ++ [t]) = fs1 qs ++ [t.1] := by simp [fs1]
theorem bal_one (b : Bl) : balF b → 1 ≤ b.1 := fun h => h.1.1
theorem below_box {W w w' : World} {b : Nat} (h : Below W.heap.size W w) (hb : W.heap.size ≤ b) (hk : Kept (fun k => k = b) w w') : Below W.heap.size W w' := h.trans (hk.below (fun j e => by omega) h.size)
set_option maxHeartbeats 25600000 in
theorem newest_walk (w : World) (n : Int) (ta ga : Option Addr) (tc gc : Nat) (bs : List Bl) (xs : List Int) (ef : Addr) (hbs : RowIn 2 c2 w (.slice ta bs.length tc) bs) (hxs : RowIn 1 c1i w (.slice ga xs.length gc) xs) (hef : w.cell? ⟨7, 0, none⟩ = some (vErr ef)) :
    Calls Tryd.prog 4 #[.int .i64 n, .slice ta bs.length tc, .slice ga xs.length gc] w fun e w' => e = .returned (.bool true) ∧ Below w.heap.size w w' := by
  obtain ⟨rA, rB, rK, a1, a2, a3, a4, a5, a6, a7, a8⟩ := rest7 n
  have HBS := mkHid hbs
  have HXS := mkHid hxs
  have HEF := mkHid hef
  have HV := mkHid (ralive w ef hef)
  have hbl : (bs.length : Int) ≤ 9223372036854775807 := by obtain ⟨_, _, e, _, hl, _⟩ := hbs; exact hl
  have hxl : (xs.length : Int) ≤ 9223372036854775807 := by obtain ⟨_, _, e, _, hl, _⟩ := hxs; exact hl
  obtain ⟨N, hN⟩ : ∃ N, N = rK + 1 := ⟨_, rfl⟩
  replace a6 : IntKind.i64.wrap (rK + 1) = N := a6.trans hN.symm
  have hN1 : 1 ≤ N ∧ N ≤ 7 := by omega
  have HN := mkHid hN1
  have hhf := halfI_le hN1
  have HHN : Hid (halfI N ≤ N ∧ 1 ≤ halfI N ∧ halfI N ≤ 4) := mkHid ⟨by unfold halfI; rw [if_neg (by omega)]; omega, hhf⟩
  have HHF : Hid (∀ W, Calls Tryd.prog 16 #[.int .i64 N] W fun e w' => e = .returned (.int .i64 (halfI N)) ∧ w' = W) := mkHid (fun W => half_any W N (by omega))
  clear hbs hxs hef hN1 hhf a7 a8 hN

  go_enter Tryd.func4, Tryd.ntmps4
  go_wp2_with (first
    | (go_at_call 7; (with_reducible refine HV.out.mono ?_); rintro e w1 ⟨rfl, b1⟩; have HB1 := mkHid b1; clear b1)
    | (go_at_call 14; (with_reducible refine (make1_is w1).mono ?_); rintro x w2 ⟨rfl, b2⟩; have HB2 := mkHid (bt HB1.out b2); clear b2; simp only [vP, vN, tv])
    | (go_at_call 9; have HC : Calls Tryd.prog 9 #[.int .i64 N, .agg #[.int .i64 mk1.cl, .int .i64 mk1.nu, .int .i64 mk1.ki, .int .i64 mk1.id, .int .i64 mk1.sk, .int .i64 mk1.sq, .int .i64 mk1.st, .int .i64 mk1.po, .slice none mk1.ts.length 0, .int .i64 mk1.tm], .bool false] w2 fun x w' => ∃ p, x = .returned (.tuple #[.pointer (some ⟨p, 0, none⟩), .nilIface]) ∧ LR w w' p (Rn.zero N false) mk1 [] ∧ Below w2.heap.size w2 w' ∧ w2.heap.size ≤ p := lr_new N (mk1, none, 0) HB2.out HN.out (mk1_ent w2) (by simp [small, mk1, mkD]) mk1_in; (with_reducible refine HC.mono ?_); clear HC; rintro x w3 ⟨p, rfl, h3, b3, p3⟩; have H3 := mkHid h3; have HP3 := mkHid h3.at.2; clear h3 b3 p3)
    | (go_at_call 15; have HC : Calls Tryd.prog 15 #[.pointer (some ⟨p, 0, none⟩), vB (1099511627776, 6)] (w3.alloc (oB (1099511627776, 6))) fun x w' => x = .returned .nilIface ∧ LR w w' p (RI N 0 (0, 0)) mk1 [] ∧ Kept (fun k => k = p) (w3.alloc (oB (1099511627776, 6))) w' := lr_begin (1099511627776, 6) (H3.out.late (ba (Below.refl _ w3) (oB (1099511627776, 6)))) (by show (0 : Int) ≠ 3; decide) (by show (0 : Int) ≠ 4; decide) rfl (by show (0 : Int) ≤ 0 ∧ (0 : Int) ≤ 9223372036854775806; decide); (with_reducible refine HC.mono ?_); clear HC; rintro x w4 ⟨rfl, h4, k4⟩; have H4 := mkHid h4; have HX4 := mkHid (two_kept k4 (by have := HP3.out; omega) (heap_alloc_new w3 (oB (1099511627776, 6)))); have HS4 : Hid (w3.heap.size < w4.heap.size) := mkHid (by have := k4.size; simp at this; omega); clear h4 k4))
  obtain ⟨bb, hbb⟩ : ∃ bb, bb = w3.heap.size := ⟨_, rfl⟩
  have HPB : Hid (p < bb) := mkHid (by rw [hbb]; exact HP3.out)
  have HBW : Hid (w.heap.size ≤ p) := mkHid H3.out.at.1
  rw [← hbb] at HX4 HS4 ⊢
  clear hbb
  have hx5 : ((w4.alloc (oB (0, 0))).alloc (.cells #[] 28)).heap[bb]? = some (oB (1099511627776, 6)) := ((ba (ba (Below.refl _ w4) (oB (0, 0))) (.cells #[] 28)).block bb (lt_of_heap HX4.out)).trans HX4.out
  have hn5 : ((w4.alloc (oB (0, 0))).alloc (.cells #[] 28)).heap[w4.heap.size]? = some (oB (0, 0)) := ((ba (Below.refl _ (w4.alloc (oB (0, 0)))) (.cells #[] 28)).block _ (by simp)).trans (heap_alloc_new w4 _)
  have h5 := LX.made H4.out (ba (ba (Below.refl _ w4) (oB (0, 0))) (.cells #[] 28))
  obtain ⟨nb, hnb⟩ : ∃ nb, nb = w4.heap.size := ⟨_, rfl⟩
  have HBN : Hid (bb < nb) := mkHid (by rw [hnb]; exact lt_of_heap HX4.out)
  rw [← hnb] at hn5 h5 ⊢
  clear hnb
  generalize (w4.alloc (oB (0, 0))).alloc (.cells #[] 28) = w5 at hx5 hn5 h5 ⊢
  have H5 := mkHid h5
  have HX5 := mkHid hx5
  have HN5 := mkHid hn5
  clear h5 hx5 hn5
  have hrs0 : RS N 0 (0, 0) = RI N 0 (0, 0) ∧ LS N 0 [] = [] := ⟨by unfold RS; rw [if_neg (by have := HHN.out.2.1; omega)], by unfold LS; rw [if_neg (by have := HHN.out.2.1; omega)]⟩
  have HRS0 := mkHid hrs0
  clear hrs0
  go_loopw [11, 12] (fun wv iv wr => ∃ (i : Nat) (nw : Bl) (L : List En) (wa : Option Addr) (wk wc : Nat), iv = .int .i64 (i : Int) ∧ wv = .slice wa wk wc ∧ (i : Int) ≤ halfI N ∧ Hid (LX nb w wr p (RS N i nw) mk1 (LS N i L)) ∧ Hid (wr.heap[bb]? = some (oB (1099511627776, 6))) ∧ Hid (wr.heap[nb]? = some (oB nw)) ∧ Hid (WT p nb wr (.slice wa wk wc) L)) (fun _ iv _ => (halfI N).toNat - (intOf iv).toNat)
  case atStart => exact ⟨0, (0, 0), [], _, _, _, rfl, rfl, by have := HHN.out.2.1; omega, mkHid (by rw [HRS0.out.1, HRS0.out.2]; exact H5.out), HX5, HN5, mkHid (.inl ⟨rfl, _, rfl⟩)⟩
  case round =>
    clear H5 HX5 HN5 HRS0
    obtain ⟨i, nw, L, wa, wk, wc, rfl, rfl, hi, HR, HXB, HXN, HWT⟩ := hrel
    obtain ⟨n1, n2⟩ := nw
    have HLOW := mkHid HR.out.lr.low
    by_cases hlt : (i : Int) < halfI N
    · have hi4 : i < 4 := by have := HHN.out.2.2; omega
      have hw5 : IntKind.i64.wrap (5 + (i : Int)) = 5 + (i : Int) := by rw [IntKind.wrap_i64]; omega
      have hst : (RS N i (n1, n2)).st = 1 := by unfold RS; rw [if_neg (by omega)]; rfl
      have HSG := mkHid (lr_stage HR.out.lr)
      rw [hst] at HSG
      clear hst
      have HXW : Hid (bb < wr.heap.size ∧ nb < wr.heap.size) := mkHid ⟨lt_of_heap HXB.out, lt_of_heap HXN.out⟩
      by_cases hb1 : i < bs.length
      · obtain ⟨tb, toff, ⟨x1, x2⟩, rfl, hbi, hbc⟩ := HBS.out.at HLOW.out i hb1
        have t0 : wr.cell? ⟨tb, toff + i * 2, none⟩ = some (.int .i64 x1) := hbc 0 _ (by omega) rfl
        have t1 : wr.cell? ⟨tb, toff + i * 2 + 1, none⟩ = some (.int .i64 x2) := hbc 1 _ (by omega) rfl
        have hbi2 : (i : Int) < (bs.length : Int) := by omega
        clear hbi hbc
        by_cases hx1 : i < xs.length
        · obtain ⟨gb, goff, gx, rfl, hxi, hxc⟩ := HXS.out.at HLOW.out i hx1
          have g0 : wr.cell? ⟨gb, goff + i, none⟩ = some (.int .i64 gx) := by have := hxc 0 _ (by omega) rfl; simpa using this
          have hxi2 : (i : Int) < (xs.length : Int) := by omega
          clear hxi hxc
          cases hq : balB (x1, x2) with
          | true =>
            have HLG : Hid (∀ W, Calls Tryd.prog 18 #[.agg #[.int .i64 x1, .int .i64 x2]] W fun e w' => e = .returned (.bool true) ∧ Below W.heap.size W w') := mkHid (fun W => by have := rLegal_any W (x1, x2); rw [hq] at this; exact this)
            have HT := mkHid (And.intro t0 (And.intro t1 g0))
            clear hq hb1 hx1 t0 t1 g0
            cases hab : aboveB (x1, x2) (n1, n2) with
            | true =>
              have HAB : Hid (∀ W, Calls Tryd.prog 20 #[.agg #[.int .i64 x1, .int .i64 x2], .agg #[.int .i64 n1, .int .i64 n2]] W fun e w' => e = .returned (.bool true) ∧ Below W.heap.size W w') := mkHid (fun W => by have := rabove_any W (x1, x2) (n1, n2); rw [hab] at this; exact this)
              have HPR : Hid (∀ W lm (ms : List Ep), LX nb w W p (RS N i (n1, n2)) mk1 (LS N i L) → nb < W.heap.size → (∀ W', Kept (fun k => k = p) W W' → Ens W' lm ms) → ms = [(mkD 5 (5 + (i : Int)) gx, none, 0)] → Calls Tryd.prog 19 #[.pointer (some ⟨p, 0, none⟩), .int .i64 (i : Int), .agg #[.int .i64 1099511627776, .int .i64 6], .agg #[.int .i64 x1, .int .i64 x2], lm] W fun x w' => x = .returned (.bool true) ∧ LX nb w w' p (RS N (i + 1) (x1, x2)) mk1 (LS N (i + 1) [mkD 5 (5 + (i : Int)) gx]) ∧ Kept (fun k => k = p) W w') := mkHid (fun W lm ms hW hnW hm hms => by
                have e0 : RS N i (n1, n2) = RI N i (n1, n2) := by unfold RS; rw [if_neg (by omega)]
                have e1 : LS N i L = L := by unfold LS; rw [if_neg (by omega)]
                have hno := HWT.out.no
                have hnl : newL (RS N i (n1, n2)) (x1, x2) (LS N i L) (fs1 ms) = fs1 ms := by
                  rw [e0, e1]
                  unfold newL
                  rw [show (RI N i (n1, n2)).nw = (n1, n2) from rfl, hab]
                  rfl
                have hk0 : PlIs (fs1 ms) 0 1 0 ∧ (fs1 ms).length < 64 := by subst hms; exact ⟨.inl ⟨rfl, fun j y hy ha => by have hj : j = 0 := by { have := (List.getElem?_eq_some_iff.mp hy).1; simp [fs1] at this; exact this }; subst hj; simp [fs1] at hy; subst hy; have := ha.1; simp [mkD] at this⟩, by simp [fs1]⟩
                have hc := lr_promise_lx i (1099511627776, 6) (x1, x2) lm ms ef hW hnW (by rw [e0]; exact ri_counts _ hi4 (by have := HHN.out.1; omega)) hm (by subst hms; simp) (by subst hms; intro u hu; simp at hu; subst hu; simp [small, mkD]) (by rw [hnl]; exact hk0.1) HEF.out
                rw [prom_rs _ _ hi4 hlt (by rw [hnl]; exact hk0.2), e1, prom_ls _ _ _ _ hi4 hlt (by rw [← e1, hnl]; exact hk0.2), hab] at hc
                subst hms
                exact hc)
              have b67 := ba (ba (Below.refl _ wr) (oB (0, 0))) (.cells #[] 28)
              have y0 := kc HT.out.1 b67
              have y1 := kc HT.out.2.1 b67
              clear hab b67
              go_wp2_with (first
                | (go_at_call 16; (with_reducible refine (HHF.out _).mono ?_); rintro x w6 ⟨rfl, hw⟩; obtain rfl := hw.symm)
                | (go_at_call 17; (with_reducible refine HSG.out.mono ?_); rintro x w6 ⟨rfl, hw⟩; obtain rfl := hw.symm)
                | (go_at_call 18; (with_reducible refine (HLG.out _).mono ?_); rintro x w6 ⟨rfl, b6⟩; have hx6 := (b6.block _ (by simp; omega)).trans ((ba (Below.refl _ (wr.alloc (oB (0, 0)))) (.cells #[] 28)).block _ (by simp) |>.trans (heap_alloc_new wr _)); have HX6 := mkHid hx6; have HB6 := mkHid (bt (ba (ba (Below.refl _ wr) (oB (0, 0))) (.cells #[] 28)) b6); have z0 := kc HT.out.1 HB6.out; have z1 := kc HT.out.2.1 HB6.out; clear hx6 b6 y0 y1)
                | (refine wpList_store_box rfl 47 (.tmp 13) (.tmp 74) rfl wr.heap.size #[.int .i64 x1, .int .i64 x2] rfl rfl 47 _ HX6.out size2 rfl (one2 _ _) ?_; intro w7 h7 k7; have HX7 : Hid (w7.heap[wr.heap.size]? = some (oB (x1, x2))) := mkHid h7; have HB7 := mkHid (below_box HB6.out (Nat.le_refl _) k7); have g7 := kc HT.out.2.2 HB7.out; have hbx7 := (HB7.out.block bb HXW.out.1).trans HXB.out; obtain ⟨u0, u1⟩ := two_at hbx7; obtain ⟨v0, v1⟩ := two_at HX7.out; clear h7 k7 z0 z1 hbx7)
                | (go_at_call 19; have HC : Calls Tryd.prog 19 #[.pointer (some ⟨p, 0, none⟩), .int .i64 (i : Int), .agg #[.int .i64 1099511627776, .int .i64 6], .agg #[.int .i64 x1, .int .i64 x2], .slice (some ⟨w7.heap.size, 0, none⟩) 1 1] (w7.alloc (.cells #[.int .i64 5, .int .i64 (5 + (i : Int)), .int .i64 3, .int .i64 0, .int .i64 0, .int .i64 0, .int .i64 0, .int .i64 0, .slice none 0 0, .int .i64 gx] 28)) fun x w' => x = .returned (.bool true) ∧ LX nb w w' p (RS N (i + 1) (x1, x2)) mk1 (LS N (i + 1) [mkD 5 (5 + (i : Int)) gx]) ∧ Kept (fun k => k = p) (w7.alloc (.cells #[.int .i64 5, .int .i64 (5 + (i : Int)), .int .i64 3, .int .i64 0, .int .i64 0, .int .i64 0, .int .i64 0, .int .i64 0, .slice none 0 0, .int .i64 gx] 28)) w' := HPR.out _ _ [(mkD 5 (5 + (i : Int)) gx, none, 0)] (HR.out.late (ba HB7.out (.cells #[.int .i64 5, .int .i64 (5 + (i : Int)), .int .i64 3, .int .i64 0, .int .i64 0, .int .i64 0, .int .i64 0, .int .i64 0, .slice none 0 0, .int .i64 gx] 28))) (by have := HB7.out.size; have := HXW.out.2; simp; omega) (fun W' k => ens_blk ((k.block _ (by simp) (by have := HB7.out.size; have := HXW.out.1; have := HPB.out; omega)).trans (heap_alloc_new w7 _))) rfl; (with_reducible refine HC.mono ?_); clear HC; rintro x w8 ⟨rfl, h8, k8⟩; have H8 := mkHid h8; have HK8 := mkHid ((below_kept (fun k => k = p ∨ k = nb) (ba HB7.out (.cells #[.int .i64 5, .int .i64 (5 + (i : Int)), .int .i64 3, .int .i64 0, .int .i64 0, .int .i64 0, .int .i64 0, .int .i64 0, .slice none 0 0, .int .i64 gx] 28))).trans (k8.mono (fun _ e => .inl e)) (fun _ e => .inl e)); have hx8 := two_kept k8 (by have := HXW.out.1; have := HPB.out; omega) (((ba (Below.refl _ w7) (.cells #[.int .i64 5, .int .i64 (5 + (i : Int)), .int .i64 3, .int .i64 0, .int .i64 0, .int .i64 0, .int .i64 0, .int .i64 0, .slice none 0 0, .int .i64 gx] 28)).block _ (lt_of_heap HX7.out)).trans HX7.out); have HX8 := mkHid hx8; have hn8 := two_kept k8 (by have := HBN.out; have := HPB.out; omega) (((ba HB7.out (.cells #[.int .i64 5, .int .i64 (5 + (i : Int)), .int .i64 3, .int .i64 0, .int .i64 0, .int .i64 0, .int .i64 0, .int .i64 0, .slice none 0 0, .int .i64 gx] 28)).block _ HXW.out.2).trans HXN.out); have HN8 := mkHid hn8; have HBB8 := mkHid (two_kept k8 (by have := HPB.out; omega) (((ba HB7.out (.cells #[.int .i64 5, .int .i64 (5 + (i : Int)), .int .i64 3, .int .i64 0, .int .i64 0, .int .i64 0, .int .i64 0, .int .i64 0, .slice none 0 0, .int .i64 gx] 28)).block _ HXW.out.1).trans HXB.out)); have HE8 := mkHid ((k8.block _ (by simp) (by have := HB7.out.size; have := HXW.out.1; have := HPB.out; omega)).trans (heap_alloc_new w7 (.cells #[.int .i64 5, .int .i64 (5 + (i : Int)), .int .i64 3, .int .i64 0, .int .i64 0, .int .i64 0, .int .i64 0, .int .i64 0, .slice none 0 0, .int .i64 gx] 28))); obtain ⟨s0, s1⟩ := two_at hx8; obtain ⟨s2, s3⟩ := two_at hn8; clear h8 k8 hx8 hn8 u0 u1 v0 v1 g7)
                | (go_at_call 20; (with_reducible refine (HAB.out w8).mono ?_); rintro x w9 ⟨rfl, b9⟩; have HB9 := mkHid b9; have hx9 := (b9.block _ (lt_of_heap HX8.out)).trans HX8.out; obtain ⟨s4, s5⟩ := two_at hx9; have HN9 := mkHid ((b9.block _ (lt_of_heap HN8.out)).trans HN8.out); clear b9 hx9 s0 s1 s2 s3)
                | (refine wpList_store_box rfl 47 (.tmp 10) (.tmp 94) rfl nb #[.int .i64 x1, .int .i64 x2] rfl rfl 47 _ HN9.out size2 rfl (one2 _ _) ?_; intro w10 h10 k10; have H10 := mkHid (And.intro h10 k10); clear h10 k10 s4 s5))
              go_roundw
              case rel =>
                have hk9 := HK8.out.trans (below_kept (fun k => k = p ∨ k = nb) HB9.out) (fun _ e => .inl e)
                exact ⟨i + 1, (x1, x2), [mkD 5 (5 + (i : Int)) gx], _, _, _, by go_num, rfl, by omega, mkHid ((H8.out.late HB9.out).store H10.out.2), mkHid ((H10.out.2.block bb (Nat.lt_of_lt_of_le (lt_of_heap HBB8.out) HB9.out.size) (by have := HBN.out; omega)).trans ((HB9.out.block bb (lt_of_heap HBB8.out)).trans HBB8.out)), mkHid H10.out.1, mkHid (.inr ⟨_, _, _, rfl, rfl, (H10.out.2.block _ (Nat.lt_of_lt_of_le (lt_of_heap HE8.out) HB9.out.size) (by have := HB7.out.size; have := HXW.out.2; omega)).trans ((HB9.out.block _ (lt_of_heap HE8.out)).trans HE8.out), by have := HB7.out.size; have := HXW.out.1; have := HPB.out; omega, by have := HB7.out.size; have := HXW.out.2; omega⟩)⟩
              case measure => simp [intOf]; omega
            | false =>
              have HAB : Hid (∀ W, Calls Tryd.prog 20 #[.agg #[.int .i64 x1, .int .i64 x2], .agg #[.int .i64 n1, .int .i64 n2]] W fun e w' => e = .returned (.bool false) ∧ Below W.heap.size W w') := mkHid (fun W => by have := rabove_any W (x1, x2) (n1, n2); rw [hab] at this; exact this)
              have HPR : Hid (∀ W lm (ms : List Ep), LX nb w W p (RS N i (n1, n2)) mk1 (LS N i L) → nb < W.heap.size → (∀ W', Kept (fun k => k = p) W W' → Ens W' lm ms) → ms = [(mkD 5 (5 + (i : Int)) gx, none, 0)] → Calls Tryd.prog 19 #[.pointer (some ⟨p, 0, none⟩), .int .i64 (i : Int), .agg #[.int .i64 1099511627776, .int .i64 6], .agg #[.int .i64 x1, .int .i64 x2], lm] W fun x w' => x = .returned (.bool true) ∧ LX nb w w' p (RS N (i + 1) (n1, n2)) mk1 (LS N (i + 1) L) ∧ Kept (fun k => k = p) W w') := mkHid (fun W lm ms hW hnW hm hms => by
                have e0 : RS N i (n1, n2) = RI N i (n1, n2) := by unfold RS; rw [if_neg (by omega)]
                have e1 : LS N i L = L := by unfold LS; rw [if_neg (by omega)]
                have hno := HWT.out.no
                have hnl : newL (RS N i (n1, n2)) (x1, x2) (LS N i L) (fs1 ms) = L := by
                  rw [e0, e1]
                  unfold newL
                  rw [show (RI N i (n1, n2)).nw = (n1, n2) from rfl, hab]
                  rfl
                have hk0 : PlIs L 0 1 0 ∧ L.length < 64 := ⟨hno.1, by have := hno.2; omega⟩
                have hc := lr_promise_lx i (1099511627776, 6) (x1, x2) lm ms ef hW hnW (by rw [e0]; exact ri_counts _ hi4 (by have := HHN.out.1; omega)) hm (by subst hms; simp) (by subst hms; intro u hu; simp at hu; subst hu; simp [small, mkD]) (by rw [hnl]; exact hk0.1) HEF.out
                rw [prom_rs _ _ hi4 hlt (by rw [hnl]; exact hk0.2), e1, prom_ls _ _ _ _ hi4 hlt (by rw [← e1, hnl]; exact hk0.2), hab] at hc
                subst hms
                exact hc)
              have b67 := ba (ba (Below.refl _ wr) (oB (0, 0))) (.cells #[] 28)
              have y0 := kc HT.out.1 b67
              have y1 := kc HT.out.2.1 b67
              clear hab b67
              go_wp2_with (first
                | (go_at_call 16; (with_reducible refine (HHF.out _).mono ?_); rintro x w6 ⟨rfl, hw⟩; obtain rfl := hw.symm)
                | (go_at_call 17; (with_reducible refine HSG.out.mono ?_); rintro x w6 ⟨rfl, hw⟩; obtain rfl := hw.symm)
                | (go_at_call 18; (with_reducible refine (HLG.out _).mono ?_); rintro x w6 ⟨rfl, b6⟩; have hx6 := (b6.block _ (by simp; omega)).trans ((ba (Below.refl _ (wr.alloc (oB (0, 0)))) (.cells #[] 28)).block _ (by simp) |>.trans (heap_alloc_new wr _)); have HX6 := mkHid hx6; have HB6 := mkHid (bt (ba (ba (Below.refl _ wr) (oB (0, 0))) (.cells #[] 28)) b6); have z0 := kc HT.out.1 HB6.out; have z1 := kc HT.out.2.1 HB6.out; clear hx6 b6 y0 y1)
                | (refine wpList_store_box rfl 47 (.tmp 13) (.tmp 74) rfl wr.heap.size #[.int .i64 x1, .int .i64 x2] rfl rfl 47 _ HX6.out size2 rfl (one2 _ _) ?_; intro w7 h7 k7; have HX7 : Hid (w7.heap[wr.heap.size]? = some (oB (x1, x2))) := mkHid h7; have HB7 := mkHid (below_box HB6.out (Nat.le_refl _) k7); have g7 := kc HT.out.2.2 HB7.out; have hbx7 := (HB7.out.block bb HXW.out.1).trans HXB.out; obtain ⟨u0, u1⟩ := two_at hbx7; obtain ⟨v0, v1⟩ := two_at HX7.out; clear h7 k7 z0 z1 hbx7)
                | (go_at_call 19; have HC : Calls Tryd.prog 19 #[.pointer (some ⟨p, 0, none⟩), .int .i64 (i : Int), .agg #[.int .i64 1099511627776, .int .i64 6], .agg #[.int .i64 x1, .int .i64 x2], .slice (some ⟨w7.heap.size, 0, none⟩) 1 1] (w7.alloc (.cells #[.int .i64 5, .int .i64 (5 + (i : Int)), .int .i64 3, .int .i64 0, .int .i64 0, .int .i64 0, .int .i64 0, .int .i64 0, .slice none 0 0, .int .i64 gx] 28)) fun x w' => x = .returned (.bool true) ∧ LX nb w w' p (RS N (i + 1) (n1, n2)) mk1 (LS N (i + 1) L) ∧ Kept (fun k => k = p) (w7.alloc (.cells #[.int .i64 5, .int .i64 (5 + (i : Int)), .int .i64 3, .int .i64 0, .int .i64 0, .int .i64 0, .int .i64 0, .int .i64 0, .slice none 0 0, .int .i64 gx] 28)) w' := HPR.out _ _ [(mkD 5 (5 + (i : Int)) gx, none, 0)] (HR.out.late (ba HB7.out (.cells #[.int .i64 5, .int .i64 (5 + (i : Int)), .int .i64 3, .int .i64 0, .int .i64 0, .int .i64 0, .int .i64 0, .int .i64 0, .slice none 0 0, .int .i64 gx] 28))) (by have := HB7.out.size; have := HXW.out.2; simp; omega) (fun W' k => ens_blk ((k.block _ (by simp) (by have := HB7.out.size; have := HXW.out.1; have := HPB.out; omega)).trans (heap_alloc_new w7 _))) rfl; (with_reducible refine HC.mono ?_); clear HC; rintro x w8 ⟨rfl, h8, k8⟩; have H8 := mkHid h8; have HK8 := mkHid ((below_kept (fun k => k = p ∨ k = nb) (ba HB7.out (.cells #[.int .i64 5, .int .i64 (5 + (i : Int)), .int .i64 3, .int .i64 0, .int .i64 0, .int .i64 0, .int .i64 0, .int .i64 0, .slice none 0 0, .int .i64 gx] 28))).trans (k8.mono (fun _ e => .inl e)) (fun _ e => .inl e)); have hx8 := two_kept k8 (by have := HXW.out.1; have := HPB.out; omega) (((ba (Below.refl _ w7) (.cells #[.int .i64 5, .int .i64 (5 + (i : Int)), .int .i64 3, .int .i64 0, .int .i64 0, .int .i64 0, .int .i64 0, .int .i64 0, .slice none 0 0, .int .i64 gx] 28)).block _ (lt_of_heap HX7.out)).trans HX7.out); have HX8 := mkHid hx8; have hn8 := two_kept k8 (by have := HBN.out; have := HPB.out; omega) (((ba HB7.out (.cells #[.int .i64 5, .int .i64 (5 + (i : Int)), .int .i64 3, .int .i64 0, .int .i64 0, .int .i64 0, .int .i64 0, .int .i64 0, .slice none 0 0, .int .i64 gx] 28)).block _ HXW.out.2).trans HXN.out); have HN8 := mkHid hn8; have HBB8 := mkHid (two_kept k8 (by have := HPB.out; omega) (((ba HB7.out (.cells #[.int .i64 5, .int .i64 (5 + (i : Int)), .int .i64 3, .int .i64 0, .int .i64 0, .int .i64 0, .int .i64 0, .int .i64 0, .slice none 0 0, .int .i64 gx] 28)).block _ HXW.out.1).trans HXB.out)); have HE8 := mkHid ((k8.block _ (by simp) (by have := HB7.out.size; have := HXW.out.1; have := HPB.out; omega)).trans (heap_alloc_new w7 (.cells #[.int .i64 5, .int .i64 (5 + (i : Int)), .int .i64 3, .int .i64 0, .int .i64 0, .int .i64 0, .int .i64 0, .int .i64 0, .slice none 0 0, .int .i64 gx] 28))); obtain ⟨s0, s1⟩ := two_at hx8; obtain ⟨s2, s3⟩ := two_at hn8; clear h8 k8 hx8 hn8 u0 u1 v0 v1 g7)
                | (go_at_call 20; (with_reducible refine (HAB.out w8).mono ?_); rintro x w9 ⟨rfl, b9⟩; have HB9 := mkHid b9; have hx9 := (b9.block _ (lt_of_heap HX8.out)).trans HX8.out; obtain ⟨s4, s5⟩ := two_at hx9; have HN9 := mkHid ((b9.block _ (lt_of_heap HN8.out)).trans HN8.out); clear b9 hx9 s0 s1 s2 s3))
              go_roundw
              case rel =>
                have hk9 := HK8.out.trans (below_kept (fun k => k = p ∨ k = nb) HB9.out) (fun _ e => .inl e)
                exact ⟨i + 1, (n1, n2), L, _, _, _, by go_num, rfl, by omega, mkHid (H8.out.late HB9.out), mkHid ((HB9.out.block bb (lt_of_heap HBB8.out)).trans HBB8.out), HN9, mkHid (HWT.out.kept hk9)⟩
              case measure => simp [intOf]; omega
          | false =>
            have HLG : Hid (∀ W, Calls Tryd.prog 18 #[.agg #[.int .i64 x1, .int .i64 x2]] W fun e w' => e = .returned (.bool false) ∧ Below W.heap.size W w') := mkHid (fun W => by have := rLegal_any W (x1, x2); rw [hq] at this; exact this)
            have HT := mkHid (And.intro t0 t1)
            clear hq hb1 hx1 t0 t1 g0
            cases hab : aboveB (0, 0) (n1, n2) with
            | true =>
              have HAB : Hid (∀ W, Calls Tryd.prog 20 #[.agg #[.int .i64 0, .int .i64 0], .agg #[.int .i64 n1, .int .i64 n2]] W fun e w' => e = .returned (.bool true) ∧ Below W.heap.size W w') := mkHid (fun W => by have := rabove_any W (0, 0) (n1, n2); rw [hab] at this; exact this)
              have HPR : Hid (∀ W lm (ms : List Ep), LX nb w W p (RS N i (n1, n2)) mk1 (LS N i L) → nb < W.heap.size → (∀ W', Kept (fun k => k = p) W W' → Ens W' lm ms) → ms = [] → Calls Tryd.prog 19 #[.pointer (some ⟨p, 0, none⟩), .int .i64 (i : Int), .agg #[.int .i64 1099511627776, .int .i64 6], .agg #[.int .i64 0, .int .i64 0], lm] W fun x w' => x = .returned (.bool true) ∧ LX nb w w' p (RS N (i + 1) (0, 0)) mk1 (LS N (i + 1) []) ∧ Kept (fun k => k = p) W w') := mkHid (fun W lm ms hW hnW hm hms => by
                have e0 : RS N i (n1, n2) = RI N i (n1, n2) := by unfold RS; rw [if_neg (by omega)]
                have e1 : LS N i L = L := by unfold LS; rw [if_neg (by omega)]
                have hno := HWT.out.no
                have hnl : newL (RS N i (n1, n2)) (0, 0) (LS N i L) (fs1 ms) = fs1 ms := by
                  rw [e0, e1]
                  unfold newL
                  rw [show (RI N i (n1, n2)).nw = (n1, n2) from rfl, hab]
                  rfl
                have hk0 : PlIs (fs1 ms) 0 1 0 ∧ (fs1 ms).length < 64 := by subst hms; exact ⟨plis_nil _ _, by simp [fs1]⟩
                have hc := lr_promise_lx i (1099511627776, 6) (0, 0) lm ms ef hW hnW (by rw [e0]; exact ri_counts _ hi4 (by have := HHN.out.1; omega)) hm (by subst hms; simp) (by subst hms; intro u hu; simp at hu) (by rw [hnl]; exact hk0.1) HEF.out
                rw [prom_rs _ _ hi4 hlt (by rw [hnl]; exact hk0.2), e1, prom_ls _ _ _ _ hi4 hlt (by rw [← e1, hnl]; exact hk0.2), hab] at hc
                subst hms
                exact hc)
              have b67 := ba (ba (Below.refl _ wr) (oB (0, 0))) (.cells #[] 28)
              have y0 := kc HT.out.1 b67
              have y1 := kc HT.out.2 b67
              clear hab b67
              go_wp2_with (first
                | (go_at_call 16; (with_reducible refine (HHF.out _).mono ?_); rintro x w6 ⟨rfl, hw⟩; obtain rfl := hw.symm)
                | (go_at_call 17; (with_reducible refine HSG.out.mono ?_); rintro x w6 ⟨rfl, hw⟩; obtain rfl := hw.symm)
                | (go_at_call 18; (with_reducible refine (HLG.out _).mono ?_); rintro x w6 ⟨rfl, b6⟩; have hx6 := (b6.block _ (by simp; omega)).trans ((ba (Below.refl _ (wr.alloc (oB (0, 0)))) (.cells #[] 28)).block _ (by simp) |>.trans (heap_alloc_new wr _)); have HX6 := mkHid hx6; have HB6 := mkHid (bt (ba (ba (Below.refl _ wr) (oB (0, 0))) (.cells #[] 28)) b6); have hbx6 := (HB6.out.block bb HXW.out.1).trans HXB.out; obtain ⟨u0, u1⟩ := two_at hbx6; obtain ⟨v0, v1⟩ := two_at hx6; clear hx6 b6 y0 y1 hbx6)
                | (go_at_call 19; have HC : Calls Tryd.prog 19 #[.pointer (some ⟨p, 0, none⟩), .int .i64 (i : Int), .agg #[.int .i64 1099511627776, .int .i64 6], .agg #[.int .i64 0, .int .i64 0], .slice (some ⟨wr.heap.size + 1, 0, none⟩) 0 0] w6 fun x w' => x = .returned (.bool true) ∧ LX nb w w' p (RS N (i + 1) (0, 0)) mk1 (LS N (i + 1) []) ∧ Kept (fun k => k = p) w6 w' := HPR.out _ _ [] (HR.out.late HB6.out) (by have := HB6.out.size; have := HXW.out.2; omega) (fun W' _ => ens_empty W' _) rfl; (with_reducible refine HC.mono ?_); clear HC; rintro x w8 ⟨rfl, h8, k8⟩; have H8 := mkHid h8; have HK8 := mkHid ((below_kept (fun k => k = p ∨ k = nb) HB6.out).trans (k8.mono (fun _ e => .inl e)) (fun _ e => .inl e)); have hx8 := two_kept k8 (by have := HXW.out.1; have := HPB.out; omega) HX6.out; have HX8 := mkHid hx8; have hn8 := two_kept k8 (by have := HBN.out; have := HPB.out; omega) ((HB6.out.block _ HXW.out.2).trans HXN.out); have HN8 := mkHid hn8; have HBB8 := mkHid (two_kept k8 (by have := HPB.out; omega) ((HB6.out.block _ HXW.out.1).trans HXB.out)); obtain ⟨s0, s1⟩ := two_at hx8; obtain ⟨s2, s3⟩ := two_at hn8; clear h8 k8 hx8 hn8 u0 u1 v0 v1)
                | (go_at_call 20; (with_reducible refine (HAB.out w8).mono ?_); rintro x w9 ⟨rfl, b9⟩; have HB9 := mkHid b9; have hx9 := (b9.block _ (lt_of_heap HX8.out)).trans HX8.out; obtain ⟨s4, s5⟩ := two_at hx9; have HN9 := mkHid ((b9.block _ (lt_of_heap HN8.out)).trans HN8.out); clear b9 hx9 s0 s1 s2 s3)
                | (refine wpList_store_box rfl 47 (.tmp 10) (.tmp 94) rfl nb #[.int .i64 0, .int .i64 0] rfl rfl 47 _ HN9.out size2 rfl (one2 _ _) ?_; intro w10 h10 k10; have H10 := mkHid (And.intro h10 k10); clear h10 k10 s4 s5))
              go_roundw
              case rel =>
                have hk9 := HK8.out.trans (below_kept (fun k => k = p ∨ k = nb) HB9.out) (fun _ e => .inl e)
                exact ⟨i + 1, (0, 0), [], _, _, _, by go_num, rfl, by omega, mkHid ((H8.out.late HB9.out).store H10.out.2), mkHid ((H10.out.2.block bb (Nat.lt_of_lt_of_le (lt_of_heap HBB8.out) HB9.out.size) (by have := HBN.out; omega)).trans ((HB9.out.block bb (lt_of_heap HBB8.out)).trans HBB8.out)), mkHid H10.out.1, mkHid (.inl ⟨rfl, _, rfl⟩)⟩
              case measure => simp [intOf]; omega
            | false =>
              have HAB : Hid (∀ W, Calls Tryd.prog 20 #[.agg #[.int .i64 0, .int .i64 0], .agg #[.int .i64 n1, .int .i64 n2]] W fun e w' => e = .returned (.bool false) ∧ Below W.heap.size W w') := mkHid (fun W => by have := rabove_any W (0, 0) (n1, n2); rw [hab] at this; exact this)
              have HPR : Hid (∀ W lm (ms : List Ep), LX nb w W p (RS N i (n1, n2)) mk1 (LS N i L) → nb < W.heap.size → (∀ W', Kept (fun k => k = p) W W' → Ens W' lm ms) → ms = [] → Calls Tryd.prog 19 #[.pointer (some ⟨p, 0, none⟩), .int .i64 (i : Int), .agg #[.int .i64 1099511627776, .int .i64 6], .agg #[.int .i64 0, .int .i64 0], lm] W fun x w' => x = .returned (.bool true) ∧ LX nb w w' p (RS N (i + 1) (n1, n2)) mk1 (LS N (i + 1) L) ∧ Kept (fun k => k = p) W w') := mkHid (fun W lm ms hW hnW hm hms => by
                have e0 : RS N i (n1, n2) = RI N i (n1, n2) := by unfold RS; rw [if_neg (by omega)]
                have e1 : LS N i L = L := by unfold LS; rw [if_neg (by omega)]
                have hno := HWT.out.no
                have hnl : newL (RS N i (n1, n2)) (0, 0) (LS N i L) (fs1 ms) = L := by
                  rw [e0, e1]
                  unfold newL
                  rw [show (RI N i (n1, n2)).nw = (n1, n2) from rfl, hab]
                  rfl
                have hk0 : PlIs L 0 1 0 ∧ L.length < 64 := ⟨hno.1, by have := hno.2; omega⟩
                have hc := lr_promise_lx i (1099511627776, 6) (0, 0) lm ms ef hW hnW (by rw [e0]; exact ri_counts _ hi4 (by have := HHN.out.1; omega)) hm (by subst hms; simp) (by subst hms; intro u hu; simp at hu) (by rw [hnl]; exact hk0.1) HEF.out
                rw [prom_rs _ _ hi4 hlt (by rw [hnl]; exact hk0.2), e1, prom_ls _ _ _ _ hi4 hlt (by rw [← e1, hnl]; exact hk0.2), hab] at hc
                subst hms
                exact hc)
              have b67 := ba (ba (Below.refl _ wr) (oB (0, 0))) (.cells #[] 28)
              have y0 := kc HT.out.1 b67
              have y1 := kc HT.out.2 b67
              clear hab b67
              go_wp2_with (first
                | (go_at_call 16; (with_reducible refine (HHF.out _).mono ?_); rintro x w6 ⟨rfl, hw⟩; obtain rfl := hw.symm)
                | (go_at_call 17; (with_reducible refine HSG.out.mono ?_); rintro x w6 ⟨rfl, hw⟩; obtain rfl := hw.symm)
                | (go_at_call 18; (with_reducible refine (HLG.out _).mono ?_); rintro x w6 ⟨rfl, b6⟩; have hx6 := (b6.block _ (by simp; omega)).trans ((ba (Below.refl _ (wr.alloc (oB (0, 0)))) (.cells #[] 28)).block _ (by simp) |>.trans (heap_alloc_new wr _)); have HX6 := mkHid hx6; have HB6 := mkHid (bt (ba (ba (Below.refl _ wr) (oB (0, 0))) (.cells #[] 28)) b6); have hbx6 := (HB6.out.block bb HXW.out.1).trans HXB.out; obtain ⟨u0, u1⟩ := two_at hbx6; obtain ⟨v0, v1⟩ := two_at hx6; clear hx6 b6 y0 y1 hbx6)
                | (go_at_call 19; have HC : Calls Tryd.prog 19 #[.pointer (some ⟨p, 0, none⟩), .int .i64 (i : Int), .agg #[.int .i64 1099511627776, .int .i64 6], .agg #[.int .i64 0, .int .i64 0], .slice (some ⟨wr.heap.size + 1, 0, none⟩) 0 0] w6 fun x w' => x = .returned (.bool true) ∧ LX nb w w' p (RS N (i + 1) (n1, n2)) mk1 (LS N (i + 1) L) ∧ Kept (fun k => k = p) w6 w' := HPR.out _ _ [] (HR.out.late HB6.out) (by have := HB6.out.size; have := HXW.out.2; omega) (fun W' _ => ens_empty W' _) rfl; (with_reducible refine HC.mono ?_); clear HC; rintro x w8 ⟨rfl, h8, k8⟩; have H8 := mkHid h8; have HK8 := mkHid ((below_kept (fun k => k = p ∨ k = nb) HB6.out).trans (k8.mono (fun _ e => .inl e)) (fun _ e => .inl e)); have hx8 := two_kept k8 (by have := HXW.out.1; have := HPB.out; omega) HX6.out; have HX8 := mkHid hx8; have hn8 := two_kept k8 (by have := HBN.out; have := HPB.out; omega) ((HB6.out.block _ HXW.out.2).trans HXN.out); have HN8 := mkHid hn8; have HBB8 := mkHid (two_kept k8 (by have := HPB.out; omega) ((HB6.out.block _ HXW.out.1).trans HXB.out)); obtain ⟨s0, s1⟩ := two_at hx8; obtain ⟨s2, s3⟩ := two_at hn8; clear h8 k8 hx8 hn8 u0 u1 v0 v1)
                | (go_at_call 20; (with_reducible refine (HAB.out w8).mono ?_); rintro x w9 ⟨rfl, b9⟩; have HB9 := mkHid b9; have hx9 := (b9.block _ (lt_of_heap HX8.out)).trans HX8.out; obtain ⟨s4, s5⟩ := two_at hx9; have HN9 := mkHid ((b9.block _ (lt_of_heap HN8.out)).trans HN8.out); clear b9 hx9 s0 s1 s2 s3))
              go_roundw
              case rel =>
                have hk9 := HK8.out.trans (below_kept (fun k => k = p ∨ k = nb) HB9.out) (fun _ e => .inl e)
                exact ⟨i + 1, (n1, n2), L, _, _, _, by go_num, rfl, by omega, mkHid (H8.out.late HB9.out), mkHid ((HB9.out.block bb (lt_of_heap HBB8.out)).trans HBB8.out), HN9, mkHid (HWT.out.kept hk9)⟩
              case measure => simp [intOf]; omega
        · have hxi2 : (xs.length : Int) ≤ (i : Int) := by omega
          clear t0 t1 hb1 hx1
          cases hab : aboveB (0, 0) (n1, n2) with
          | true =>
            have HAB : Hid (∀ W, Calls Tryd.prog 20 #[.agg #[.int .i64 0, .int .i64 0], .agg #[.int .i64 n1, .int .i64 n2]] W fun e w' => e = .returned (.bool true) ∧ Below W.heap.size W w') := mkHid (fun W => by have := rabove_any W (0, 0) (n1, n2); rw [hab] at this; exact this)
            have HPR : Hid (∀ W lm (ms : List Ep), LX nb w W p (RS N i (n1, n2)) mk1 (LS N i L) → nb < W.heap.size → (∀ W', Kept (fun k => k = p) W W' → Ens W' lm ms) → ms = [] → Calls Tryd.prog 19 #[.pointer (some ⟨p, 0, none⟩), .int .i64 (i : Int), .agg #[.int .i64 1099511627776, .int .i64 6], .agg #[.int .i64 0, .int .i64 0], lm] W fun x w' => x = .returned (.bool true) ∧ LX nb w w' p (RS N (i + 1) (0, 0)) mk1 (LS N (i + 1) []) ∧ Kept (fun k => k = p) W w') := mkHid (fun W lm ms hW hnW hm hms => by
              have e0 : RS N i (n1, n2) = RI N i (n1, n2) := by unfold RS; rw [if_neg (by omega)]
              have e1 : LS N i L = L := by unfold LS; rw [if_neg (by omega)]
              have hno := HWT.out.no
              have hnl : newL (RS N i (n1, n2)) (0, 0) (LS N i L) (fs1 ms) = fs1 ms := by
                rw [e0, e1]
                unfold newL
                rw [show (RI N i (n1, n2)).nw = (n1, n2) from rfl, hab]
                rfl
              have hk0 : PlIs (fs1 ms) 0 1 0 ∧ (fs1 ms).length < 64 := by subst hms; exact ⟨plis_nil _ _, by simp [fs1]⟩
              have hc := lr_promise_lx i (1099511627776, 6) (0, 0) lm ms ef hW hnW (by rw [e0]; exact ri_counts _ hi4 (by have := HHN.out.1; omega)) hm (by subst hms; simp) (by subst hms; intro u hu; simp at hu) (by rw [hnl]; exact hk0.1) HEF.out
              rw [prom_rs _ _ hi4 hlt (by rw [hnl]; exact hk0.2), e1, prom_ls _ _ _ _ hi4 hlt (by rw [← e1, hnl]; exact hk0.2), hab] at hc
              subst hms
              exact hc)
            obtain ⟨u0, u1⟩ := two_at HXB.out
            clear hab
            go_wp2_with (first
              | (go_at_call 16; (with_reducible refine (HHF.out _).mono ?_); rintro x w6 ⟨rfl, hw⟩; obtain rfl := hw.symm)
              | (go_at_call 17; (with_reducible refine HSG.out.mono ?_); rintro x w6 ⟨rfl, hw⟩; obtain rfl := hw.symm)
              | (go_at_call 19; have HC : Calls Tryd.prog 19 #[.pointer (some ⟨p, 0, none⟩), .int .i64 (i : Int), .agg #[.int .i64 1099511627776, .int .i64 6], .agg #[.int .i64 0, .int .i64 0], .slice (some ⟨wr.heap.size + 1, 0, none⟩) 0 0] ((wr.alloc (oB (0, 0))).alloc (.cells #[] 28)) fun x w' => x = .returned (.bool true) ∧ LX nb w w' p (RS N (i + 1) (0, 0)) mk1 (LS N (i + 1) []) ∧ Kept (fun k => k = p) ((wr.alloc (oB (0, 0))).alloc (.cells #[] 28)) w' := HPR.out _ _ [] (HR.out.late (ba (ba (Below.refl _ wr) (oB (0, 0))) (.cells #[] 28))) (by have := HXW.out.2; simp; omega) (fun W' _ => ens_empty W' _) rfl; (with_reducible refine HC.mono ?_); clear HC; rintro x w8 ⟨rfl, h8, k8⟩; have H8 := mkHid h8; have HK8 := mkHid ((below_kept (fun k => k = p ∨ k = nb) (ba (ba (Below.refl _ wr) (oB (0, 0))) (.cells #[] 28))).trans (k8.mono (fun _ e => .inl e)) (fun _ e => .inl e)); have hx8 := two_kept k8 (by have := HXW.out.1; have := HPB.out; omega) (((ba (Below.refl _ (wr.alloc (oB (0, 0)))) (.cells #[] 28)).block _ (by simp)).trans (heap_alloc_new wr _)); have HX8 := mkHid hx8; have hn8 := two_kept k8 (by have := HBN.out; have := HPB.out; omega) (((ba (ba (Below.refl _ wr) (oB (0, 0))) (.cells #[] 28)).block _ HXW.out.2).trans HXN.out); have HN8 := mkHid hn8; have HBB8 := mkHid (two_kept k8 (by have := HPB.out; omega) (((ba (ba (Below.refl _ wr) (oB (0, 0))) (.cells #[] 28)).block _ HXW.out.1).trans HXB.out)); obtain ⟨s0, s1⟩ := two_at hx8; obtain ⟨s2, s3⟩ := two_at hn8; clear h8 k8 hx8 hn8 u0 u1)
              | (go_at_call 20; (with_reducible refine (HAB.out w8).mono ?_); rintro x w9 ⟨rfl, b9⟩; have HB9 := mkHid b9; have hx9 := (b9.block _ (lt_of_heap HX8.out)).trans HX8.out; obtain ⟨s4, s5⟩ := two_at hx9; have HN9 := mkHid ((b9.block _ (lt_of_heap HN8.out)).trans HN8.out); clear b9 hx9 s0 s1 s2 s3)
              | (refine wpList_store_box rfl 47 (.tmp 10) (.tmp 94) rfl nb #[.int .i64 0, .int .i64 0] rfl rfl 47 _ HN9.out size2 rfl (one2 _ _) ?_; intro w10 h10 k10; have H10 := mkHid (And.intro h10 k10); clear h10 k10 s4 s5))
            go_roundw
            case rel =>
              have hk9 := HK8.out.trans (below_kept (fun k => k = p ∨ k = nb) HB9.out) (fun _ e => .inl e)
              exact ⟨i + 1, (0, 0), [], _, _, _, by go_num, rfl, by omega, mkHid ((H8.out.late HB9.out).store H10.out.2), mkHid ((H10.out.2.block bb (Nat.lt_of_lt_of_le (lt_of_heap HBB8.out) HB9.out.size) (by have := HBN.out; omega)).trans ((HB9.out.block bb (lt_of_heap HBB8.out)).trans HBB8.out)), mkHid H10.out.1, mkHid (.inl ⟨rfl, _, rfl⟩)⟩
            case measure => simp [intOf]; omega
          | false =>
            have HAB : Hid (∀ W, Calls Tryd.prog 20 #[.agg #[.int .i64 0, .int .i64 0], .agg #[.int .i64 n1, .int .i64 n2]] W fun e w' => e = .returned (.bool false) ∧ Below W.heap.size W w') := mkHid (fun W => by have := rabove_any W (0, 0) (n1, n2); rw [hab] at this; exact this)
            have HPR : Hid (∀ W lm (ms : List Ep), LX nb w W p (RS N i (n1, n2)) mk1 (LS N i L) → nb < W.heap.size → (∀ W', Kept (fun k => k = p) W W' → Ens W' lm ms) → ms = [] → Calls Tryd.prog 19 #[.pointer (some ⟨p, 0, none⟩), .int .i64 (i : Int), .agg #[.int .i64 1099511627776, .int .i64 6], .agg #[.int .i64 0, .int .i64 0], lm] W fun x w' => x = .returned (.bool true) ∧ LX nb w w' p (RS N (i + 1) (n1, n2)) mk1 (LS N (i + 1) L) ∧ Kept (fun k => k = p) W w') := mkHid (fun W lm ms hW hnW hm hms => by
              have e0 : RS N i (n1, n2) = RI N i (n1, n2) := by unfold RS; rw [if_neg (by omega)]
              have e1 : LS N i L = L := by unfold LS; rw [if_neg (by omega)]
              have hno := HWT.out.no
              have hnl : newL (RS N i (n1, n2)) (0, 0) (LS N i L) (fs1 ms) = L := by
                rw [e0, e1]
                unfold newL
                rw [show (RI N i (n1, n2)).nw = (n1, n2) from rfl, hab]
                rfl
              have hk0 : PlIs L 0 1 0 ∧ L.length < 64 := ⟨hno.1, by have := hno.2; omega⟩
              have hc := lr_promise_lx i (1099511627776, 6) (0, 0) lm ms ef hW hnW (by rw [e0]; exact ri_counts _ hi4 (by have := HHN.out.1; omega)) hm (by subst hms; simp) (by subst hms; intro u hu; simp at hu) (by rw [hnl]; exact hk0.1) HEF.out
              rw [prom_rs _ _ hi4 hlt (by rw [hnl]; exact hk0.2), e1, prom_ls _ _ _ _ hi4 hlt (by rw [← e1, hnl]; exact hk0.2), hab] at hc
              subst hms
              exact hc)
            obtain ⟨u0, u1⟩ := two_at HXB.out
            clear hab
            go_wp2_with (first
              | (go_at_call 16; (with_reducible refine (HHF.out _).mono ?_); rintro x w6 ⟨rfl, hw⟩; obtain rfl := hw.symm)
              | (go_at_call 17; (with_reducible refine HSG.out.mono ?_); rintro x w6 ⟨rfl, hw⟩; obtain rfl := hw.symm)
              | (go_at_call 19; have HC : Calls Tryd.prog 19 #[.pointer (some ⟨p, 0, none⟩), .int .i64 (i : Int), .agg #[.int .i64 1099511627776, .int .i64 6], .agg #[.int .i64 0, .int .i64 0], .slice (some ⟨wr.heap.size + 1, 0, none⟩) 0 0] ((wr.alloc (oB (0, 0))).alloc (.cells #[] 28)) fun x w' => x = .returned (.bool true) ∧ LX nb w w' p (RS N (i + 1) (n1, n2)) mk1 (LS N (i + 1) L) ∧ Kept (fun k => k = p) ((wr.alloc (oB (0, 0))).alloc (.cells #[] 28)) w' := HPR.out _ _ [] (HR.out.late (ba (ba (Below.refl _ wr) (oB (0, 0))) (.cells #[] 28))) (by have := HXW.out.2; simp; omega) (fun W' _ => ens_empty W' _) rfl; (with_reducible refine HC.mono ?_); clear HC; rintro x w8 ⟨rfl, h8, k8⟩; have H8 := mkHid h8; have HK8 := mkHid ((below_kept (fun k => k = p ∨ k = nb) (ba (ba (Below.refl _ wr) (oB (0, 0))) (.cells #[] 28))).trans (k8.mono (fun _ e => .inl e)) (fun _ e => .inl e)); have hx8 := two_kept k8 (by have := HXW.out.1; have := HPB.out; omega) (((ba (Below.refl _ (wr.alloc (oB (0, 0)))) (.cells #[] 28)).block _ (by simp)).trans (heap_alloc_new wr _)); have HX8 := mkHid hx8; have hn8 := two_kept k8 (by have := HBN.out; have := HPB.out; omega) (((ba (ba (Below.refl _ wr) (oB (0, 0))) (.cells #[] 28)).block _ HXW.out.2).trans HXN.out); have HN8 := mkHid hn8; have HBB8 := mkHid (two_kept k8 (by have := HPB.out; omega) (((ba (ba (Below.refl _ wr) (oB (0, 0))) (.cells #[] 28)).block _ HXW.out.1).trans HXB.out)); obtain ⟨s0, s1⟩ := two_at hx8; obtain ⟨s2, s3⟩ := two_at hn8; clear h8 k8 hx8 hn8 u0 u1)
              | (go_at_call 20; (with_reducible refine (HAB.out w8).mono ?_); rintro x w9 ⟨rfl, b9⟩; have HB9 := mkHid b9; have hx9 := (b9.block _ (lt_of_heap HX8.out)).trans HX8.out; obtain ⟨s4, s5⟩ := two_at hx9; have HN9 := mkHid ((b9.block _ (lt_of_heap HN8.out)).trans HN8.out); clear b9 hx9 s0 s1 s2 s3))
            go_roundw
            case rel =>
              have hk9 := HK8.out.trans (below_kept (fun k => k = p ∨ k = nb) HB9.out) (fun _ e => .inl e)
              exact ⟨i + 1, (n1, n2), L, _, _, _, by go_num, rfl, by omega, mkHid (H8.out.late HB9.out), mkHid ((HB9.out.block bb (lt_of_heap HBB8.out)).trans HBB8.out), HN9, mkHid (HWT.out.kept hk9)⟩
            case measure => simp [intOf]; omega
      · have hbi2 : (bs.length : Int) ≤ (i : Int) := by omega
        clear hb1
        cases hab : aboveB (0, 0) (n1, n2) with
        | true =>
          have HAB : Hid (∀ W, Calls Tryd.prog 20 #[.agg #[.int .i64 0, .int .i64 0], .agg #[.int .i64 n1, .int .i64 n2]] W fun e w' => e = .returned (.bool true) ∧ Below W.heap.size W w') := mkHid (fun W => by have := rabove_any W (0, 0) (n1, n2); rw [hab] at this; exact this)
          have HPR : Hid (∀ W lm (ms : List Ep), LX nb w W p (RS N i (n1, n2)) mk1 (LS N i L) → nb < W.heap.size → (∀ W', Kept (fun k => k = p) W W' → Ens W' lm ms) → ms = [] → Calls Tryd.prog 19 #[.pointer (some ⟨p, 0, none⟩), .int .i64 (i : Int), .agg #[.int .i64 1099511627776, .int .i64 6], .agg #[.int .i64 0, .int .i64 0], lm] W fun x w' => x = .returned (.bool true) ∧ LX nb w w' p (RS N (i + 1) (0, 0)) mk1 (LS N (i + 1) []) ∧ Kept (fun k => k = p) W w') := mkHid (fun W lm ms hW hnW hm hms => by
            have e0 : RS N i (n1, n2) = RI N i (n1, n2) := by unfold RS; rw [if_neg (by omega)]
            have e1 : LS N i L = L := by unfold LS; rw [if_neg (by omega)]
            have hno := HWT.out.no
            have hnl : newL (RS N i (n1, n2)) (0, 0) (LS N i L) (fs1 ms) = fs1 ms := by
              rw [e0, e1]
              unfold newL
              rw [show (RI N i (n1, n2)).nw = (n1, n2) from rfl, hab]
              rfl
            have hk0 : PlIs (fs1 ms) 0 1 0 ∧ (fs1 ms).length < 64 := by subst hms; exact ⟨plis_nil _ _, by simp [fs1]⟩
            have hc := lr_promise_lx i (1099511627776, 6) (0, 0) lm ms ef hW hnW (by rw [e0]; exact ri_counts _ hi4 (by have := HHN.out.1; omega)) hm (by subst hms; simp) (by subst hms; intro u hu; simp at hu) (by rw [hnl]; exact hk0.1) HEF.out
            rw [prom_rs _ _ hi4 hlt (by rw [hnl]; exact hk0.2), e1, prom_ls _ _ _ _ hi4 hlt (by rw [← e1, hnl]; exact hk0.2), hab] at hc
            subst hms
            exact hc)
          obtain ⟨u0, u1⟩ := two_at HXB.out
          clear hab
          go_wp2_with (first
            | (go_at_call 16; (with_reducible refine (HHF.out _).mono ?_); rintro x w6 ⟨rfl, hw⟩; obtain rfl := hw.symm)
            | (go_at_call 17; (with_reducible refine HSG.out.mono ?_); rintro x w6 ⟨rfl, hw⟩; obtain rfl := hw.symm)
            | (go_at_call 19; have HC : Calls Tryd.prog 19 #[.pointer (some ⟨p, 0, none⟩), .int .i64 (i : Int), .agg #[.int .i64 1099511627776, .int .i64 6], .agg #[.int .i64 0, .int .i64 0], .slice (some ⟨wr.heap.size + 1, 0, none⟩) 0 0] ((wr.alloc (oB (0, 0))).alloc (.cells #[] 28)) fun x w' => x = .returned (.bool true) ∧ LX nb w w' p (RS N (i + 1) (0, 0)) mk1 (LS N (i + 1) []) ∧ Kept (fun k => k = p) ((wr.alloc (oB (0, 0))).alloc (.cells #[] 28)) w' := HPR.out _ _ [] (HR.out.late (ba (ba (Below.refl _ wr) (oB (0, 0))) (.cells #[] 28))) (by have := HXW.out.2; simp; omega) (fun W' _ => ens_empty W' _) rfl; (with_reducible refine HC.mono ?_); clear HC; rintro x w8 ⟨rfl, h8, k8⟩; have H8 := mkHid h8; have HK8 := mkHid ((below_kept (fun k => k = p ∨ k = nb) (ba (ba (Below.refl _ wr) (oB (0, 0))) (.cells #[] 28))).trans (k8.mono (fun _ e => .inl e)) (fun _ e => .inl e)); have hx8 := two_kept k8 (by have := HXW.out.1; have := HPB.out; omega) (((ba (Below.refl _ (wr.alloc (oB (0, 0)))) (.cells #[] 28)).block _ (by simp)).trans (heap_alloc_new wr _)); have HX8 := mkHid hx8; have hn8 := two_kept k8 (by have := HBN.out; have := HPB.out; omega) (((ba (ba (Below.refl _ wr) (oB (0, 0))) (.cells #[] 28)).block _ HXW.out.2).trans HXN.out); have HN8 := mkHid hn8; have HBB8 := mkHid (two_kept k8 (by have := HPB.out; omega) (((ba (ba (Below.refl _ wr) (oB (0, 0))) (.cells #[] 28)).block _ HXW.out.1).trans HXB.out)); obtain ⟨s0, s1⟩ := two_at hx8; obtain ⟨s2, s3⟩ := two_at hn8; clear h8 k8 hx8 hn8 u0 u1)
            | (go_at_call 20; (with_reducible refine (HAB.out w8).mono ?_); rintro x w9 ⟨rfl, b9⟩; have HB9 := mkHid b9; have hx9 := (b9.block _ (lt_of_heap HX8.out)).trans HX8.out; obtain ⟨s4, s5⟩ := two_at hx9; have HN9 := mkHid ((b9.block _ (lt_of_heap HN8.out)).trans HN8.out); clear b9 hx9 s0 s1 s2 s3)
            | (refine wpList_store_box rfl 47 (.tmp 10) (.tmp 94) rfl nb #[.int .i64 0, .int .i64 0] rfl rfl 47 _ HN9.out size2 rfl (one2 _ _) ?_; intro w10 h10 k10; have H10 := mkHid (And.intro h10 k10); clear h10 k10 s4 s5))
          go_roundw
          case rel =>
            have hk9 := HK8.out.trans (below_kept (fun k => k = p ∨ k = nb) HB9.out) (fun _ e => .inl e)
            exact ⟨i + 1, (0, 0), [], _, _, _, by go_num, rfl, by omega, mkHid ((H8.out.late HB9.out).store H10.out.2), mkHid ((H10.out.2.block bb (Nat.lt_of_lt_of_le (lt_of_heap HBB8.out) HB9.out.size) (by have := HBN.out; omega)).trans ((HB9.out.block bb (lt_of_heap HBB8.out)).trans HBB8.out)), mkHid H10.out.1, mkHid (.inl ⟨rfl, _, rfl⟩)⟩
          case measure => simp [intOf]; omega
        | false =>
          have HAB : Hid (∀ W, Calls Tryd.prog 20 #[.agg #[.int .i64 0, .int .i64 0], .agg #[.int .i64 n1, .int .i64 n2]] W fun e w' => e = .returned (.bool false) ∧ Below W.heap.size W w') := mkHid (fun W => by have := rabove_any W (0, 0) (n1, n2); rw [hab] at this; exact this)
          have HPR : Hid (∀ W lm (ms : List Ep), LX nb w W p (RS N i (n1, n2)) mk1 (LS N i L) → nb < W.heap.size → (∀ W', Kept (fun k => k = p) W W' → Ens W' lm ms) → ms = [] → Calls Tryd.prog 19 #[.pointer (some ⟨p, 0, none⟩), .int .i64 (i : Int), .agg #[.int .i64 1099511627776, .int .i64 6], .agg #[.int .i64 0, .int .i64 0], lm] W fun x w' => x = .returned (.bool true) ∧ LX nb w w' p (RS N (i + 1) (n1, n2)) mk1 (LS N (i + 1) L) ∧ Kept (fun k => k = p) W w') := mkHid (fun W lm ms hW hnW hm hms => by
            have e0 : RS N i (n1, n2) = RI N i (n1, n2) := by unfold RS; rw [if_neg (by omega)]
            have e1 : LS N i L = L := by unfold LS; rw [if_neg (by omega)]
            have hno := HWT.out.no
            have hnl : newL (RS N i (n1, n2)) (0, 0) (LS N i L) (fs1 ms) = L := by
              rw [e0, e1]
              unfold newL
              rw [show (RI N i (n1, n2)).nw = (n1, n2) from rfl, hab]
              rfl
            have hk0 : PlIs L 0 1 0 ∧ L.length < 64 := ⟨hno.1, by have := hno.2; omega⟩
            have hc := lr_promise_lx i (1099511627776, 6) (0, 0) lm ms ef hW hnW (by rw [e0]; exact ri_counts _ hi4 (by have := HHN.out.1; omega)) hm (by subst hms; simp) (by subst hms; intro u hu; simp at hu) (by rw [hnl]; exact hk0.1) HEF.out
            rw [prom_rs _ _ hi4 hlt (by rw [hnl]; exact hk0.2), e1, prom_ls _ _ _ _ hi4 hlt (by rw [← e1, hnl]; exact hk0.2), hab] at hc
            subst hms
            exact hc)
          obtain ⟨u0, u1⟩ := two_at HXB.out
          clear hab
          go_wp2_with (first
            | (go_at_call 16; (with_reducible refine (HHF.out _).mono ?_); rintro x w6 ⟨rfl, hw⟩; obtain rfl := hw.symm)
            | (go_at_call 17; (with_reducible refine HSG.out.mono ?_); rintro x w6 ⟨rfl, hw⟩; obtain rfl := hw.symm)
            | (go_at_call 19; have HC : Calls Tryd.prog 19 #[.pointer (some ⟨p, 0, none⟩), .int .i64 (i : Int), .agg #[.int .i64 1099511627776, .int .i64 6], .agg #[.int .i64 0, .int .i64 0], .slice (some ⟨wr.heap.size + 1, 0, none⟩) 0 0] ((wr.alloc (oB (0, 0))).alloc (.cells #[] 28)) fun x w' => x = .returned (.bool true) ∧ LX nb w w' p (RS N (i + 1) (n1, n2)) mk1 (LS N (i + 1) L) ∧ Kept (fun k => k = p) ((wr.alloc (oB (0, 0))).alloc (.cells #[] 28)) w' := HPR.out _ _ [] (HR.out.late (ba (ba (Below.refl _ wr) (oB (0, 0))) (.cells #[] 28))) (by have := HXW.out.2; simp; omega) (fun W' _ => ens_empty W' _) rfl; (with_reducible refine HC.mono ?_); clear HC; rintro x w8 ⟨rfl, h8, k8⟩; have H8 := mkHid h8; have HK8 := mkHid ((below_kept (fun k => k = p ∨ k = nb) (ba (ba (Below.refl _ wr) (oB (0, 0))) (.cells #[] 28))).trans (k8.mono (fun _ e => .inl e)) (fun _ e => .inl e)); have hx8 := two_kept k8 (by have := HXW.out.1; have := HPB.out; omega) (((ba (Below.refl _ (wr.alloc (oB (0, 0)))) (.cells #[] 28)).block _ (by simp)).trans (heap_alloc_new wr _)); have HX8 := mkHid hx8; have hn8 := two_kept k8 (by have := HBN.out; have := HPB.out; omega) (((ba (ba (Below.refl _ wr) (oB (0, 0))) (.cells #[] 28)).block _ HXW.out.2).trans HXN.out); have HN8 := mkHid hn8; have HBB8 := mkHid (two_kept k8 (by have := HPB.out; omega) (((ba (ba (Below.refl _ wr) (oB (0, 0))) (.cells #[] 28)).block _ HXW.out.1).trans HXB.out)); obtain ⟨s0, s1⟩ := two_at hx8; obtain ⟨s2, s3⟩ := two_at hn8; clear h8 k8 hx8 hn8 u0 u1)
            | (go_at_call 20; (with_reducible refine (HAB.out w8).mono ?_); rintro x w9 ⟨rfl, b9⟩; have HB9 := mkHid b9; have hx9 := (b9.block _ (lt_of_heap HX8.out)).trans HX8.out; obtain ⟨s4, s5⟩ := two_at hx9; have HN9 := mkHid ((b9.block _ (lt_of_heap HN8.out)).trans HN8.out); clear b9 hx9 s0 s1 s2 s3))
          go_roundw
          case rel =>
            have hk9 := HK8.out.trans (below_kept (fun k => k = p ∨ k = nb) HB9.out) (fun _ e => .inl e)
            exact ⟨i + 1, (n1, n2), L, _, _, _, by go_num, rfl, by omega, mkHid (H8.out.late HB9.out), mkHid ((HB9.out.block bb (lt_of_heap HBB8.out)).trans HBB8.out), HN9, mkHid (HWT.out.kept hk9)⟩
          case measure => simp [intOf]; omega
    · obtain ⟨ws, hE, hfs, hsm, hl1⟩ := HWT.out.ens
      obtain ⟨rfl⟩ : wk = ws.length := by obtain ⟨a', c', e, _⟩ := hE; simp only [Value.slice.injEq] at e; exact e.2.1
      have hst : RS N i (n1, n2) = (RI N i (n1, n2)).enter 2 := by unfold RS; rw [if_pos (by omega)]
      have hls : LS N i L = L ++ [mk1] := by unfold LS; rw [if_pos (by omega)]
      have hR := HR.out.lr
      rw [hst, hls] at hR
      have HR2 := mkHid hR
      have HNO := mkHid (And.intro HWT.out.no.1 (show L.length = ws.length by rw [← hfs]; simp [fs1]))
      have HWE := mkHid (And.intro hE (And.intro hfs (And.intro hsm hl1)))
      clear hE hfs hsm hl1 hst hls hR
      obtain ⟨ie2, hi2, hz0, hz1, hz2⟩ := info_parts info_entry
      obtain ⟨zth2, hzth⟩ : ∃ z : Value, z = .agg #[.int .i64 0, .int .i64 0, .int .i64 0, .int .i64 0, .int .i64 0, .int .i64 0, .int .i64 0, .int .i64 0, .slice none 0 0, .int .i64 0] := ⟨_, rfl⟩
      rw [← hzth] at hz0
      have HZ2 : Hid (zth2.cells.size = 10) := mkHid (by rw [hzth]; rfl)
      have hie2 := mkHid (And.intro hi2 (And.intro hz0 (And.intro hz1 hz2)))
      clear hzth hi2 hz0 hz1 hz2
      go_wp2_with (first
        | (go_at_call 16; (with_reducible refine (HHF.out _).mono ?_); rintro x w6 ⟨rfl, hw⟩; obtain rfl := hw.symm)
        | (go_at_call 8; (with_reducible refine (copy_any wr _ ws HWE.out.1 (by have := HWE.out.2.2.2; omega) HWE.out.2.2.1).mono ?_); rintro x w6 ⟨v6, qs, rfl, hl6, hq6, b6⟩; obtain ⟨xa, xc, rfl, _⟩ := own_sh hl6.own; have HL6 := mkHid (And.intro hl6 hq6); have HB6 := mkHid b6; clear hl6 hq6 b6)
        | (go_at_call 14; (with_reducible refine (make1_is w6).mono ?_); rintro x w7 ⟨rfl, b7⟩; have HL7 := mkHid (HL6.out.1.below b7); have HB7 := mkHid (bt HB6.out b7); clear b7; simp only [vP, vN, tv])
        | (at_builtin; refine wpList_append_src10 _ rfl (.tmp 97) (.tmp 99) 35 35 rfl wr.heap.size 28 ie2 Tryd.underlying35 hie2.out.1 zth2 96 hie2.out.2.1 HZ2.out hie2.out.2.2.1 hie2.out.2.2.2 _ qs.length (qs.flatMap c10) rfl (HL7.out.below (ba (Below.refl _ w7) (oE mk1 (.slice none 0 0)))).own _ 1 (c10 (mk1, none, 0)) rfl (src_blk (t := (mk1, none, 0)) (heap_alloc_new w7 _)) (by have := HWE.out.2.2.2; have := len_fs HL6.out.2; unfold maxLen; omega) (by have := HWE.out.2.2.2; have := len_fs HL6.out.2; omega) (by have := HB7.out.size; simp; omega) ?_; intro v8 w8 ho8 hg8 _; obtain ⟨ya, yc, rfl⟩ := own_shape ho8; have HE8 := mkHid (radd_ens (HL7.out.below (ba (Below.refl _ w7) (oE mk1 (.slice none 0 0)))) rfl HWE.out.2.2.1 (by have := HWE.out.2.2.2; have := len_fs HL6.out.2; omega) HL6.out.2 (mk1_ent wr) (bt HB7.out (ba (Below.refl _ w7) _)) ho8 hg8); have HB8 := mkHid ((bt HB7.out (ba (Below.refl _ w7) (oE mk1 (.slice none 0 0)))).grown hg8 (bt HB7.out (ba (Below.refl _ w7) (oE mk1 (.slice none 0 0)))).size (fun k e => ((HL7.out.below (ba (Below.refl _ w7) (oE mk1 (.slice none 0 0)))).own.lt k e).1)); have HR8 := mkHid (HR2.out.late HB8.out); clear ho8 hg8; obtain ⟨m, hm⟩ : ∃ m, m = qs.length + 1 := ⟨_, rfl⟩; have HM : Hid (m = ws.length + 1) := mkHid (by rw [hm, len_fs HL6.out.2]); rw [← hm] at HE8 ⊢; clear hm)
        | (go_at_call 17; have HC : Calls Tryd.prog 17 #[.pointer (some ⟨p, 0, none⟩)] w8 fun x w' => x = .returned (.int .i64 2) ∧ w' = w8 := lr_stage HR8.out; (with_reducible refine HC.mono ?_); clear HC; rintro x w9 ⟨rfl, e9⟩; obtain rfl := e9.symm)
        | (go_at_call 22; (with_reducible refine (lr_ledger HR8.out rfl).mono ?_); rintro x w9 ⟨za, zc, gs, rfl, _, hE9, hq9, b9⟩; have HG9 := mkHid (And.intro hE9 hq9); have HB9 := mkHid b9; have HR9 := mkHid (HR8.out.late b9); clear hE9 hq9 b9)
        | (go_at_call 21; have HC : Calls Tryd.prog 21 #[.slice za gs.length zc, .slice ya m yc] w9 fun x w' => x = .returned (.bool true) ∧ Below w9.heap.size w9 w' := sameL_yes w9 _ _ gs (qs ++ [(mk1, none, 0)]) HG9.out.1 (HE8.out.below HB9.out) (by rw [HG9.out.2, ← HWE.out.2.1]; rw [fs_snoc]; exact congrArg (· ++ [mk1]) HL6.out.2.symm); (with_reducible refine HC.mono ?_); clear HC; rintro x w10 ⟨rfl, b10⟩; have HR10 := mkHid (HR9.out.late b10); clear b10)
        | (go_at_call 23; have HC : Calls Tryd.prog 23 #[.pointer (some ⟨p, 0, none⟩)] w10 fun x w' => x = .returned (.int .i64 (m : Int)) ∧ Below w10.heap.size w10 w' := (by have := lr_place L.length HR10.out rfl rfl (plis_last (e := mk1) HNO.out.1); rw [show (L.length : Int) + 1 = (m : Int) by rw [HM.out, HNO.out.2]; simp] at this; exact this); (with_reducible refine HC.mono ?_); clear HC; rintro x w11 ⟨rfl, b11⟩; have HB11 := mkHid (bt HR10.out.low b11); clear b11))
      go_ret
      exact ⟨rfl, HB11.out⟩
end Go.Proofs.YtjocjkfllicjdaaDoor
