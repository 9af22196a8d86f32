/- Package demand: Task, Tasks, Until; and the document's. -/
import Derived.Test.YtilnchlnlnpkfaaDoorDm5
namespace Go.Proofs.YtilnchlnlnpkfaaDoor
open Go.ChangeShapes Go.WideShapes Go.ChangeAt Go.RowKit
set_option maxRecDepth 100000
attribute [local go_sem] World.cell?_alloc_some frozen_alloc_some

abbrev oT (s : Tk) : Obj := .cells #[.int .i64 s.1, .int .i64 s.2.1, .int .i64 s.2.2.1, .int .i64 s.2.2.2] 52
theorem tks_one (w : World) (s : Tk) : Tks (w.alloc (oT s)) (.slice (some ⟨w.heap.size, 0, none⟩) 1 1) [s] := by
  refine ⟨_, 1, rfl, by simp, fun _ => ⟨_, _, rfl, fun i x hi => ?_⟩⟩
  have hl : i < 1 := by have := (List.getElem?_eq_some_iff.mp hi).1; simpa using this
  obtain rfl : i = 0 := by omega
  simp at hi
  subst hi
  refine ⟨?_, ?_, ?_, ?_⟩ <;> simp [go_sem]
theorem T4.new (w : World) (s : Tk) : TkAt (w.alloc (oT s)) w.heap.size 0 s := by
  refine ⟨?_, ?_, ?_, ?_⟩ <;> simp [go_sem]
theorem Tks.take {w : World} {a : Option Addr} {n cap : Nat} {xs : List Tk} (h : Tks w (.slice a n cap) xs) (k : Nat) (hk : k ≤ xs.length) : Tks w (.slice a k cap) (xs.take k) := by
  obtain ⟨a', cap', e, hl, hr⟩ := h
  simp at e
  obtain ⟨rfl, rfl, rfl⟩ := e
  have e : (xs.take k).length = k := by rw [List.length_take]; omega
  refine ⟨a, cap, by rw [e], by rw [e]; omega, fun hp => ?_⟩
  rw [e] at hp
  obtain ⟨b, off, rfl, hc⟩ := hr (by omega)
  refine ⟨b, off, rfl, fun i x hi => hc i x ?_⟩
  rw [List.getElem?_take] at hi
  split at hi
  · exact hi
  · simp at hi
def tsk (xs : List Tk) (l : Int) : Int := if tot (tdem · l) xs = 0 then 0 else tot (tdem · l) xs + bdl l xs
def unt (xs : List Tk) (i : Nat) (l : Int) : Int := tot (treq · l) (xs.take (i + 1)) + blk (xs.drop (i + 1))
def ucd (xs : List Tk) (i l : Int) : Int := if tcd xs l = 0 then (if 0 ≤ i ∧ i < xs.length then 0 else 1) else tcd xs l
theorem ok_tot {xs : List Tk} (hx : okTs xs) {l : Int} (l0 : 0 ≤ l) (l1 : l ≤ 1099511627776) : 0 ≤ tot (tdem · l) xs ∧ tot (tdem · l) xs ≤ 8796093026304 := by
  have := tot_fit (tdem · l) 1099511628288 (by omega) xs (fun x hm => by have := tdem_bounds (hx.2 x hm) l0; omega) hx.1
  omega
theorem ok_utot {xs : List Tk} (hx : okTs xs) {l : Int} (l0 : 0 ≤ l) (l1 : l ≤ 1099511627776) (k : Nat) : 0 ≤ tot (treq · l) (xs.take k) ∧ tot (treq · l) (xs.take k) ≤ 8796093026304 := by
  have := tot_fit (treq · l) 1099511628288 (by omega) (xs.take k) (fun x hm => by have := treq_bounds (hx.2 x (List.mem_of_mem_take hm)) l0; omega) (by rw [List.length_take]; have := hx.1; omega)
  omega
theorem task_err (w : World) (s : Tk) (l n : Int) (a : Nat → Addr) (E : Er4 w a) (hn : tcd [s] l = n) (hz : n = 11 ∨ n = 1) :
    Calls Tryd.prog 27 #[vT s, .int .i64 l] w fun e w' => e = .returned (.tuple #[.int .i64 0, ev a n]) ∧ Below w.heap.size w w' := by
  obtain ⟨c, p, d, s⟩ := s
  have H1 : Hid (Calls Tryd.prog 37 #[.slice (some ⟨w.heap.size + 1, 0, none⟩) 1 1, .int .i64 l] ((w.alloc (oT (c, p, d, s))).alloc (oT (c, p, d, s))) fun e w' => e = .returned (ev a n) ∧ Below ((w.alloc (oT (c, p, d, s))).alloc (oT (c, p, d, s))).heap.size ((w.alloc (oT (c, p, d, s))).alloc (oT (c, p, d, s))) w') := by
    have h := tks_one (w.alloc (oT (c, p, d, s))) (c, p, d, s)
    have e : (w.alloc (oT (c, p, d, s))).heap.size = w.heap.size + 1 := by simp
    rw [e] at h
    rw [← hn]
    exact mkHid (tchk _ _ _ l a h (E.late (ba (ba (Below.refl _ _) _) _)))
  clear E hn
  rcases hz with rfl | rfl
  · rw [ev11] at H1 ⊢
    go_enter Tryd.func27, Tryd.ntmps27
    go_wp2_with (go_at_call 37; refine H1.out.mono ?_; rintro e w1 ⟨rfl, b1⟩)
    go_ret2
    exact ⟨rfl, bt (ba (ba (Below.refl _ _) _) _) b1⟩
  · rw [ev1] at H1 ⊢
    go_enter Tryd.func27, Tryd.ntmps27
    go_wp2_with (go_at_call 37; refine H1.out.mono ?_; rintro e w1 ⟨rfl, b1⟩)
    go_ret2
    exact ⟨rfl, bt (ba (ba (Below.refl _ _) _) _) b1⟩
theorem task_ok (w : World) (s : Tk) (l : Int) (a : Nat → Addr) (E : Er4 w a) (hn : tcd [s] l = 0) (hs : okT s) (l0 : 0 ≤ l) (l1 : l ≤ 1099511627776) :
    Calls Tryd.prog 27 #[vT s, .int .i64 l] w fun e w' => e = .returned (.tuple #[.int .i64 (tdem s l), .nilIface]) ∧ Below w.heap.size w w' := by
  obtain ⟨c, p, d, s⟩ := s
  have H1 : Hid (Calls Tryd.prog 37 #[.slice (some ⟨w.heap.size + 1, 0, none⟩) 1 1, .int .i64 l] ((w.alloc (oT (c, p, d, s))).alloc (oT (c, p, d, s))) fun e w' => e = .returned .nilIface ∧ Below ((w.alloc (oT (c, p, d, s))).alloc (oT (c, p, d, s))).heap.size ((w.alloc (oT (c, p, d, s))).alloc (oT (c, p, d, s))) w') := by
    have h := tks_one (w.alloc (oT (c, p, d, s))) (c, p, d, s)
    have e : (w.alloc (oT (c, p, d, s))).heap.size = w.heap.size + 1 := by simp
    rw [e] at h
    have h2 := tchk _ _ _ l a h (E.late (ba (ba (Below.refl _ _) _) _))
    rw [hn, ev0] at h2
    exact mkHid h2
  have HT : Hid (TkAt ((w.alloc (oT (c, p, d, s))).alloc (oT (c, p, d, s))) w.heap.size 0 (c, p, d, s)) := mkHid ((T4.new w (c, p, d, s)).below (ba (Below.refl _ _) _))
  have HS := mkHid hs
  clear E hn hs
  generalize hN : tdem (c, p, d, s) l = N
  have HN := mkHid hN
  clear hN
  go_enter Tryd.func27, Tryd.ntmps27
  go_wp2_with (first
    | (go_at_call 37; refine H1.out.mono ?_; rintro e w1 ⟨rfl, b1⟩; have HB1 := mkHid (bt (ba (ba (Below.refl _ w) _) _) b1); obtain ⟨c0, c1, c2, c3⟩ := HT.out.below b1; clear b1)
    | (go_at_call 39; refine (tdem_is _ (c, p, d, s) l HS.out l0 l1).mono ?_; rw [HN.out]; rintro e w2 ⟨rfl, b2⟩; have HB2 := mkHid (bt HB1.out b2); clear b2))
  go_ret2
  exact ⟨rfl, HB2.out⟩
theorem tasks_err (w : World) (v : Value) (l : Int) (a : Addr) (h : Calls Tryd.prog 37 #[v, .int .i64 l] w fun e w' => e = .returned (vE a) ∧ Below w.heap.size w w') :
    Calls Tryd.prog 22 #[v, .int .i64 l] w fun e w' => e = .returned (.tuple #[.int .i64 0, vE a]) ∧ Below w.heap.size w w' := by
  have H := mkHid h
  clear h
  go_enter Tryd.func22, Tryd.ntmps22
  go_wp2_with (go_at_call 37; refine H.out.mono ?_; rintro e w1 ⟨rfl, b1⟩)
  go_ret2
  exact ⟨rfl, b1⟩
theorem tasks_ok (w : World) (v : Value) (xs : List Tk) (l : Int) (h : Tks w v xs) (hx : okTs xs) (l0 : 0 ≤ l) (l1 : l ≤ 1099511627776) :
    Calls Tryd.prog 22 #[v, .int .i64 l] w fun e w' => e = .returned (.tuple #[.int .i64 (tsk xs l), .nilIface]) ∧ Below w.heap.size w w' := by
  have H1 := mkHid (tchk_any w v xs l h hx .nilIface (fun W _ => len_ok W l l0 l1))
  have H2 : Hid (∀ W, Below w.heap.size w W → Calls Tryd.prog 38 #[v, .int .i64 l, .func (.func 39) #[] #[]] W fun e w' => e = .returned (.int .i64 (tot (tdem · l) xs)) ∧ Below W.heap.size W w') := mkHid (fun W hb => tot_tdem W v xs l (h.below hb) hx.2 hx.1 l0 l1)
  have H3 : Hid (∀ W, Below w.heap.size w W → Calls Tryd.prog 40 #[v, .int .i64 l] W fun e w' => e = .returned (.int .i64 (bdl l xs)) ∧ Below W.heap.size W w') := mkHid (fun W hb => bdl_is W v xs l (h.below hb) hx.2)
  obtain ⟨n0, n1⟩ := ok_tot hx l0 l1
  obtain ⟨m0, m1⟩ := bdl_bounds l xs hx.2
  clear h hx
  unfold tsk
  generalize tot (tdem · l) xs = N at *
  generalize bdl l xs = B at *
  have ew : IntKind.i64.wrap (N + B) = N + B := wfit (by omega) (by omega)
  by_cases hN : N = 0
  · subst hN
    rw [if_pos rfl]
    go_enter Tryd.func22, Tryd.ntmps22
    go_wp2_with (first
      | (go_at_call 37; refine H1.out.mono ?_; rintro e w1 ⟨rfl, b1⟩; have HB1 := mkHid b1; clear b1)
      | (go_at_call 38; refine (H2.out _ HB1.out).mono ?_; rintro e w2 ⟨rfl, b2⟩; have HB2 := mkHid (bt HB1.out b2); clear b2))
    go_ret2
    exact ⟨rfl, HB2.out⟩
  · rw [if_neg hN]
    go_enter Tryd.func22, Tryd.ntmps22
    go_wp2_with (first
      | (go_at_call 37; refine H1.out.mono ?_; rintro e w1 ⟨rfl, b1⟩; have HB1 := mkHid b1; clear b1)
      | (go_at_call 38; refine (H2.out _ HB1.out).mono ?_; rintro e w2 ⟨rfl, b2⟩; have HB2 := mkHid (bt HB1.out b2); clear b2)
      | (go_at_call 40; refine (H3.out _ HB2.out).mono ?_; rintro e w3 ⟨rfl, b3⟩; have HB3 := mkHid (bt HB2.out b3); clear b3))
    go_ret2
    exact ⟨rfl, HB3.out⟩
theorem dtasks (w : World) (v : Value) (xs : List Tk) (l : Int) (a : Nat → Addr) (h : Tks w v xs) (E : Er4 w a) :
    Calls Tryd.prog 22 #[v, .int .i64 l] w fun e w' => e = .returned (.tuple #[.int .i64 (if tcd xs l = 0 then tsk xs l else 0), ev a (tcd xs l)]) ∧ Below w.heap.size w w' := by
  rcases tcd_cases xs l with ⟨e, hx⟩ | ⟨e, hx, hl⟩ | ⟨e, hx, l0, l1⟩
  · rw [e, if_neg (by decide), ev11]; exact tasks_err w v l _ (tchk_no w v xs l _ h hx E.cell_task)
  · rw [e, if_neg (by decide), ev1]; exact tasks_err w v l _ (tchk_any w v xs l h hx _ (fun W hb => len_no W l hl _ (E.late hb).er3.cell_number))
  · rw [e, if_pos rfl, ev0]; exact tasks_ok w v xs l h hx l0 l1
theorem until_err (w : World) (v : Value) (i l : Int) (a : Addr) (h : Calls Tryd.prog 37 #[v, .int .i64 l] w fun e w' => e = .returned (vE a) ∧ Below w.heap.size w w') :
    Calls Tryd.prog 23 #[v, .int .i64 i, .int .i64 l] w fun e w' => e = .returned (.tuple #[.int .i64 0, vE a]) ∧ Below w.heap.size w w' := by
  have H := mkHid h
  clear h
  go_enter Tryd.func23, Tryd.ntmps23
  go_wp2_with (go_at_call 37; refine H.out.mono ?_; rintro e w1 ⟨rfl, b1⟩)
  go_ret2
  exact ⟨rfl, b1⟩
theorem until_num (w : World) (v : Value) (xs : List Tk) (i l : Int) (a : Addr) (h : Tks w v xs) (hx : okTs xs) (l0 : 0 ≤ l) (l1 : l ≤ 1099511627776) (hi : ¬ (0 ≤ i ∧ i < xs.length)) (he : w.cell? ⟨1, 0, none⟩ = some (vE a)) :
    Calls Tryd.prog 23 #[v, .int .i64 i, .int .i64 l] w fun e w' => e = .returned (.tuple #[.int .i64 0, vE a]) ∧ Below w.heap.size w w' := by
  have H1 := mkHid (tchk_any w v xs l h hx .nilIface (fun W _ => len_ok W l l0 l1))
  obtain ⟨a0, cap, rfl, hl, h9⟩ := id h
  have HE := mkHid he
  clear h h9 hx he
  have hc : i < 0 ∨ (¬ i < 0 ∧ (xs.length : Int) ≤ i) := by omega
  clear hi
  rcases hc with hi | ⟨hi, hi2⟩
  all_goals
    go_enter Tryd.func23, Tryd.ntmps23
    go_wp2_with (go_at_call 37; refine H1.out.mono ?_; rintro e w1 ⟨rfl, b1⟩; have he1 := kc HE.out b1; have HB1 := mkHid b1; clear b1)
    go_quiet (fail)
    go_wp2
    go_ret2
    exact ⟨rfl, bdN HB1.out _⟩
theorem until_ok (w : World) (a0 : Option Addr) (cap : Nat) (xs : List Tk) (i : Nat) (l : Int) (h : Tks w (.slice a0 xs.length cap) xs) (hx : okTs xs) (l0 : 0 ≤ l) (l1 : l ≤ 1099511627776) (hi : i < xs.length) (hc : xs.length ≤ cap) :
    Calls Tryd.prog 23 #[.slice a0 xs.length cap, .int .i64 (i : Int), .int .i64 l] w fun e w' => e = .returned (.tuple #[.int .i64 (unt xs i l), .nilIface]) ∧ Below w.heap.size w w' := by
  have H1 := mkHid (tchk_any w _ xs l h hx .nilIface (fun W _ => len_ok W l l0 l1))
  have H2 : Hid (∀ W, Below w.heap.size w W → Calls Tryd.prog 38 #[.slice a0 (i + 1) cap, .int .i64 l, .func (.func 41) #[] #[]] W fun e w' => e = .returned (.int .i64 (tot (treq · l) (xs.take (i + 1)))) ∧ Below W.heap.size W w') := mkHid (fun W hb => tot_treq W _ (xs.take (i + 1)) l ((h.below hb).take (i + 1) (by omega)) (fun x hm => hx.2 x (List.mem_of_mem_take hm)) (by rw [List.length_take]; have := hx.1; omega) l0 l1)
  have H3 : Hid (∀ W, Below w.heap.size w W → Calls Tryd.prog 42 #[.slice a0 xs.length cap, .int .i64 (i : Int)] W fun e w' => e = .returned (.int .i64 (blk (xs.drop (i + 1)))) ∧ Below W.heap.size W w') := mkHid (fun W hb => blk_is W a0 cap xs i (h.below hb) hx.2 hi hc hx.1)
  obtain ⟨n0, n1⟩ := ok_utot hx l0 l1 (i + 1)
  obtain ⟨m0, m1⟩ := blk_bounds (xs.drop (i + 1)) (fun x hm => hx.2 x (List.mem_of_mem_drop hm))
  obtain ⟨b, off, c, p, d, s, rfl, _⟩ := h.at (Below.refl _ _) i hi
  have h8 : (xs.length : Int) ≤ 8 := by have := hx.1; omega
  clear h hx
  unfold unt
  generalize tot (treq · l) (xs.take (i + 1)) = N at *
  generalize blk (xs.drop (i + 1)) = B at *
  have ew : IntKind.i64.wrap (N + B) = N + B := wfit (by omega) (by omega)
  have hii : (i : Int) < xs.length := by omega
  have hci : (i : Int) + 1 ≤ cap := by omega
  have hcn : i + 1 ≤ cap := by omega
  go_enter Tryd.func23, Tryd.ntmps23
  go_wp2_with (first
    | (go_at_call 37; refine H1.out.mono ?_; rintro e w1 ⟨rfl, b1⟩; have HB1 := mkHid b1; clear b1)
    | (go_at_call 38; refine (H2.out _ HB1.out).mono ?_; rintro e w2 ⟨rfl, b2⟩; have HB2 := mkHid (bt HB1.out b2); clear b2)
    | (go_at_call 42; refine (H3.out _ HB2.out).mono ?_; rintro e w3 ⟨rfl, b3⟩; have HB3 := mkHid (bt HB2.out b3); clear b3))
  go_ret2
  exact ⟨rfl, HB3.out⟩
theorem duntil (w : World) (a0 : Option Addr) (cap : Nat) (xs : List Tk) (i l : Int) (a : Nat → Addr) (h : Tks w (.slice a0 xs.length cap) xs) (E : Er4 w a) (hc : xs.length ≤ cap) :
    Calls Tryd.prog 23 #[.slice a0 xs.length cap, .int .i64 i, .int .i64 l] w fun e w' => e = .returned (.tuple #[.int .i64 (if ucd xs i l = 0 then unt xs i.toNat l else 0), ev a (ucd xs i l)]) ∧ Below w.heap.size w w' := by
  rcases tcd_cases xs l with ⟨e, hx⟩ | ⟨e, hx, hl⟩ | ⟨e, hx, l0, l1⟩
  · rw [show ucd xs i l = 11 by unfold ucd; rw [e]; exact if_neg (by decide), if_neg (by decide), ev11]; exact until_err w _ i l _ (tchk_no w _ xs l _ h hx E.cell_task)
  · rw [show ucd xs i l = 1 by unfold ucd; rw [e]; exact if_neg (by decide), if_neg (by decide), ev1]; exact until_err w _ i l _ (tchk_any w _ xs l h hx _ (fun W hb => len_no W l hl _ (E.late hb).er3.cell_number))
  · by_cases hi : 0 ≤ i ∧ i < xs.length
    · rw [show ucd xs i l = 0 by unfold ucd; rw [e, if_pos rfl, if_pos hi], if_pos rfl, ev0]
      obtain ⟨k, rfl⟩ := Int.eq_ofNat_of_zero_le hi.1
      exact until_ok w a0 cap xs k l h hx l0 l1 (by omega) hc
    · rw [show ucd xs i l = 1 by unfold ucd; rw [e, if_pos rfl, if_neg hi], if_neg (by decide), ev1]
      exact until_num w _ xs i l _ h hx l0 l1 hi E.er3.cell_number
set_option maxHeartbeats 1600000 in
theorem rtasks_is (w : World) (v : Value) (xs : List Tk) (l : Int) (h : Tks w v xs) (hx : okTs xs) (l0 : 0 ≤ l) (l1 : l ≤ 1099511627776) :
    Calls Tryd.prog 25 #[v, .int .i64 l] w fun e w' => e = .returned (.int .i64 (tsk xs l)) ∧ Below w.heap.size w w' := by
  obtain ⟨a0, cap, rfl, hl, h9⟩ := id h
  have HS := mkHid h
  have HX := mkHid hx
  clear h hx h9
  go_enter Tryd.func25, Tryd.ntmps25
  go_wp2
  go_loopw [5, 6, 11] (fun nv bv iv wr => ∃ (j : Nat) (N B : Int), nv = .int .i64 N ∧ bv = .int .i64 B ∧ iv = .int .i64 (j : Int) ∧ j ≤ xs.length ∧ 0 ≤ N ∧ N ≤ 8796093026304 ∧ 0 ≤ B ∧ B ≤ 256 ∧ Hid (tot (tdem · l) (xs.take j) = N) ∧ Hid (bdl l (xs.take j) = B) ∧ Hid (Below w.heap.size w wr)) (fun _ _ iv _ => xs.length - (intOf iv).toNat)
  case atStart => exact ⟨0, 0, 0, rfl, rfl, rfl, Nat.zero_le _, by omega, by omega, by omega, by omega, mkHid rfl, mkHid rfl, mkHid (Below.refl _ _)⟩
  case round =>
    obtain ⟨j, N, B, rfl, rfl, rfl, hj, n0, n1, m0, m1, HN, HM, HB⟩ := hrel
    by_cases hlt : j < xs.length
    · obtain ⟨b, off, c, p, d, s, rfl, hxj, c0, c1, c2, c3⟩ := HS.out.at HB.out j hlt
      have hji : (j : Int) < xs.length := by omega
      have HO := mkHid (HX.out.2 _ (List.mem_of_getElem? hxj))
      obtain ⟨o1, o2, o3, o4, o5, o6⟩ := id HO.out
      simp only at o1 o2 o3 o4 o5 o6
      have HT := mkHid (tot_take (tdem · l) hxj)
      have HU := mkHid (bdl_take (l := l) hxj)
      have HF := mkHid (tot_fit (tdem · l) 1099511628288 (by omega) (xs.take (j + 1)) (fun x hm => by have := tdem_bounds (HX.out.2 x (List.mem_of_mem_take hm)) l0; omega) (by rw [List.length_take]; have := HX.out.1; omega))
      obtain ⟨A, hA⟩ : ∃ A, tdem (c, p, d, s) l = A := ⟨_, rfl⟩
      have HA := mkHid hA
      have b1 := tdem_bounds HO.out l0
      rw [hA] at b1
      have hs : 0 ≤ N + A ∧ N + A ≤ 8796093026304 := by have e := HT.out; have e2 := HF.out; have e3 := HN.out; simp only [hA] at e; rw [e, e3] at e2; omega
      have ew : IntKind.i64.wrap (N + A) = N + A := wfit (by omega) (by omega)
      have es : IntKind.i64.wrap (s - 1) = s - 1 := wfit (by omega) (by omega)
      rw [HM.out] at HU
      simp only at HU
      have hc : (l < d ∧ B < s - 1 ∧ bdl l (xs.take (j + 1)) = s - 1) ∨ (l < d ∧ ¬ B < s - 1 ∧ bdl l (xs.take (j + 1)) = B) ∨ (¬ l < d ∧ bdl l (xs.take (j + 1)) = B) := by
        by_cases x : l < d
        · have e := HU.out
          rw [if_pos x] at e
          omega
        · exact .inr (.inr ⟨x, HU.out.trans (if_neg x)⟩)
      clear hxj hA HU HF
      have HK : Hid (tot (tdem · l) (xs.take (j + 1)) = N + A) := mkHid (by rw [HT.out, HN.out, HA.out])
      clear HT
      have HQ : Hid (∀ k w', Below (wr.alloc (oT (c, p, d, s))).heap.size (wr.alloc (oT (c, p, d, s))) w' → k = wr.heap.size → TkAt w' k 0 (c, p, d, s)) := mkHid (fun k w' hb e => by subst e; exact (T4.new wr (c, p, d, s)).below hb)
      rcases hc with ⟨x, y, hv⟩ | ⟨x, y, hv⟩ | ⟨x, hv⟩
      · have HV := mkHid hv
        clear hv
        go_wp2_with (go_at_call 29; refine (rtdem_is _ (c, p, d, s) l HO.out l0 l1).mono ?_; rw [HA.out]; rintro e w1 ⟨rfl, b2⟩; obtain ⟨_, _, d2, d3⟩ := HQ.out _ _ b2 rfl; have HB2 := mkHid (bt (ba HB.out _) b2); clear b2)
        go_roundw
        case rel => exact ⟨j + 1, N + A, s - 1, by go_num, by go_num, by go_num, by omega, hs.1, hs.2, by omega, by omega, HK, HV, HB2⟩
        case measure => simp [intOf]; omega
      · have HV := mkHid hv
        clear hv
        go_wp2_with (go_at_call 29; refine (rtdem_is _ (c, p, d, s) l HO.out l0 l1).mono ?_; rw [HA.out]; rintro e w1 ⟨rfl, b2⟩; obtain ⟨_, _, d2, d3⟩ := HQ.out _ _ b2 rfl; have HB2 := mkHid (bt (ba HB.out _) b2); clear b2)
        go_roundw
        case rel => exact ⟨j + 1, N + A, B, by go_num, by go_num, by go_num, by omega, hs.1, hs.2, by omega, by omega, HK, HV, HB2⟩
        case measure => simp [intOf]; omega
      · have HV := mkHid hv
        clear hv
        go_wp2_with (go_at_call 29; refine (rtdem_is _ (c, p, d, s) l HO.out l0 l1).mono ?_; rw [HA.out]; rintro e w1 ⟨rfl, b2⟩; obtain ⟨_, _, d2, d3⟩ := HQ.out _ _ b2 rfl; have HB2 := mkHid (bt (ba HB.out _) b2); clear b2)
        go_roundw
        case rel => exact ⟨j + 1, N + A, B, by go_num, by go_num, by go_num, by omega, hs.1, hs.2, by omega, by omega, HK, HV, HB2⟩
        case measure => simp [intOf]; omega
    · obtain rfl : j = xs.length := by omega
      have hN := HN.out
      have hM := HM.out
      rw [List.take_length] at hN hM
      have ht : Hid (tsk xs l = if N = 0 then 0 else N + B) := mkHid (by unfold tsk; rw [hN, hM])
      clear hN hM HN HM
      have ew : IntKind.i64.wrap (N + B) = N + B := wfit (by omega) (by omega)
      by_cases hz : N = 0
      · subst hz
        have ht2 := mkHid (ht.out.trans (if_pos rfl))
        clear ht
        go_wp2
        go_ret
        exact ⟨by rw [ht2.out]; rfl, HB.out⟩
      · have ht2 := mkHid (ht.out.trans (if_neg hz))
        clear ht
        have hp : 0 < N := by omega
        go_wp2
        go_ret
        exact ⟨by rw [ht2.out]; rfl, HB.out⟩
end Go.Proofs.YtilnchlnlnpkfaaDoor
