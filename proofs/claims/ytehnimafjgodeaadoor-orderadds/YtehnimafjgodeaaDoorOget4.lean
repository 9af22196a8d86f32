/- Get: the entry of bytes. -/
import Derived.Test.YtehnimafjgodeaaDoorOget3
namespace Go.Proofs.YtehnimafjgodeaaDoor
open Go.ChangeShapes Go.WideShapes Go.ChangeAt Go.RowKit
set_option maxRecDepth 100000
attribute [local go_sem] World.cell?_alloc_some frozen_alloc_some

theorem tasks_of : ∀ (n : Nat) (M : List Int), M.length = 4 * n → ∃ ts : List Tk, ts.length = n ∧ ts.flatMap tnum = M
  | 0, M, h => ⟨[], rfl, (List.eq_nil_of_length_eq_zero (by omega)).symm⟩
  | n + 1, M, h => by
    match M, h with
    | a :: b :: c :: d :: M, h =>
      obtain ⟨ts, h1, h2⟩ := tasks_of n M (by simp at h; omega)
      exact ⟨(a, b, c, d) :: ts, by simp [h1], by simp [tnum, h2]⟩
    | [], h => simp at h
    | [_], h => simp at h; omega
    | [_, _], h => simp at h; omega
    | [_, _, _], h => simp at h; omega
theorem head_of (M : List Int) (h : M.length = 9) : ∃ cl nu ki tm id sk sq st po, M = [cl, nu, ki, tm, id, sk, sq, st, po] := by
  match M, h with
  | [a, b, c, d, e, f, g, h, i], _ => exact ⟨a, b, c, d, e, f, g, h, i, rfl⟩
abbrev zE : Value := .agg #[.int .i64 0, .int .i64 0, .int .i64 0, .int .i64 0, .int .i64 0, .int .i64 0, .int .i64 0, .int .i64 0, .slice none 0 0, .int .i64 0]
theorem getEntry_no (F : Nat → Prop) (B : Nat) (w : World) (p : Nat) (bs : List Int) (ea : Addr) (h : Rr F w p bs 0) (hl : (bs.length : Int) ≤ 140737488355328) (he : w.cell? ⟨1, 0, none⟩ = some (vErr ea)) (hg : 1 < B) (hB : ∀ k, F k → B ≤ k) (hBw : B ≤ w.heap.size) (hno : ∀ e s, okN e → bs ≠ encL (nums e) ++ s) :
    Calls Tryd.prog 45 #[.pointer (some ⟨p, 0, none⟩)] w fun r w' => r = .returned (.tuple #[zE, vErr ea]) ∧ Kept F w w' := by
  rcases num_or bs 9 with ⟨M, s, hM, ha, rfl⟩ | ⟨L, r, hL, ha, hd, hr⟩
  · obtain ⟨cl, nu, ki, tm, id, sk, sq, st, po, rfl⟩ := head_of M hM
    by_cases hN : ∃ (N : Nat) (q : List Int), (N : Int) ≤ 8 ∧ s = enc N ++ q
    · obtain ⟨N, q, hN8, rfl⟩ := hN
      rcases num_or q (4 * N) with ⟨M2, s2, hM2, ha2, rfl⟩ | ⟨L, r, hL, ha2, rfl, hr⟩
      · obtain ⟨ts, rfl, rfl⟩ := tasks_of N M2 hM2
        exfalso
        refine hno ⟨cl, nu, ki, id, sk, sq, st, po, ts, tm⟩ s2 ⟨by simp only; omega, fun n hn => ?_⟩ ?_
        · simp only [nums, hnum, List.mem_append, List.mem_cons] at hn
          simp only [List.mem_cons] at ha
          rcases hn with hn | rfl | hn
          · exact ha n (by simpa using hn)
          · exact ⟨by omega, by omega⟩
          · exact ha2 n hn
        · simp only [nums, hnum]
          rw [encL_append, encN_cons]
          simp
      · obtain ⟨j, hj, hj2⟩ : ∃ j, j = L.length / 4 ∧ L.length < 4 * j + 4 ∧ 4 * j ≤ L.length := ⟨_, rfl, by omega, by omega⟩
        obtain ⟨T, hT1, hT2⟩ := tasks_of j (L.take (4 * j)) (by rw [List.length_take]; omega)
        have hLs : encL L = encL (T.flatMap tnum) ++ encL (L.drop (4 * j)) := by rw [hT2, ← encL_append, List.take_append_drop]
        refine getEntry_no3 F B w p _ ea ⟨cl, nu, ki, id, sk, sq, st, po, T, tm⟩ h hl he hg hB hBw ⟨by simp only; omega, fun n hn => ?_⟩ N (L.drop (4 * j)) r (by simp only; omega) hN8 (by rw [List.length_drop]; omega) (fun x hx => ha2 x (List.mem_of_mem_drop hx)) hr ?_
        · simp only [nums, hnum, List.mem_append, List.mem_cons] at hn
          simp only [List.mem_cons] at ha
          rcases hn with hn | rfl | hn
          · exact ha n (by simpa using hn)
          · exact ⟨by omega, by omega⟩
          · rw [hT2] at hn; exact ha2 n (List.mem_of_mem_take hn)
        · simp only [hnum]
          rw [hLs, List.append_assoc]
    · exact getEntry_no2 F B w p _ ea ⟨cl, nu, ki, id, sk, sq, st, po, [], tm⟩ s h hl he hg hB hBw (fun n hn => ha n hn) (fun N q hN8 e => hN ⟨N, q, hN8, e⟩) rfl
  · exact getEntry_no1 F B w p bs ea L r h hl he hg hB hBw hL ha hr hd
abbrev oZ : Obj := .cells #[.int .i64 0, .int .i64 0, .int .i64 0, .int .i64 0, .int .i64 0, .int .i64 0, .int .i64 0, .int .i64 0, .slice none 0 0, .int .i64 0] 28
theorem inF.okN {e : En} (h : inF e) : okN e := ⟨h.2.1.1, h.all⟩
theorem nums_pre {e f : En} (he : okN e) (hf : okN f) {s : List Int} (h : encL (nums e) = encL (nums f) ++ s) : e = f ∧ s = [] := by
  have hle := nums_len e
  have hlf := nums_len f
  have pe : ∀ n ∈ nums e, 0 ≤ n := fun n hn => (he.2 n hn).1
  have pf : ∀ n ∈ nums f, 0 ≤ n := fun n hn => (hf.2 n hn).1
  have p10 : ∀ {g : En}, nums g = (nums g).take 10 ++ (nums g).drop 10 := fun {g} => (List.take_append_drop 10 _).symm
  have h' := h
  rw [p10 (g := e), p10 (g := f), encL_append, encL_append, List.append_assoc] at h
  obtain ⟨h1, h2⟩ := encL_free _ _ _ _ (fun n hn => pe n (List.mem_of_mem_take hn)) (fun n hn => pf n (List.mem_of_mem_take hn)) (by simp [hle, hlf]) h
  have h9 : (e.ts.length : Int) = f.ts.length := by
    have e9 := nums_ten (a := e)
    have f9 := nums_ten (a := f)
    have x := congrArg (fun l => l[9]?) h1
    simp only [List.getElem?_take] at x
    rw [if_pos (by omega), if_pos (by omega), e9, f9] at x
    simpa using x
  have := encL_free (nums e) (nums f) [] s pe pf (by rw [hle, hlf]; omega) (by simpa using h')
  exact ⟨nums_inj this.1, this.2.symm⟩
/-- What Get answers: the entry that has these bytes, in new memory; or an error. -/
def GetPost (w : World) (bs : List Int) (ea : Addr) (r : Ending) (w' : World) : Prop :=
  (∃ t : Ep, inF t.1 ∧ bs = bytesE t.1 ∧ r = .returned (.tuple #[vP t, .nilIface]) ∧ w'.ownsRow w.heap.size 68 4 (tv t) t.1.ts.length (t.1.ts.flatMap c4) ∧ Below w.heap.size w w') ∨
  ((∀ e, inF e → bs ≠ bytesE e) ∧ r = .returned (.tuple #[zE, vErr ea]) ∧ Below w.heap.size w w')
theorem dh {W : World} {R : Nat} {o : Obj} (h : W.heap[R]? = some o) : W.drew.heap[R]? = some o := h
theorem lt_of_heap {w : World} {k : Nat} {o : Obj} (h : w.heap[k]? = some o) : k < w.heap.size := (Array.getElem?_eq_some_iff.mp h).1
theorem set10_below {w W : World} (h : Below w.heap.size w W) {b : Nat} (hb : w.heap.size ≤ b) (v0 v1 v2 v3 v4 v5 v6 v7 v8 v9 : Value) : Below w.heap.size w (set10 W b v0 v1 v2 v3 v4 v5 v6 v7 v8 v9) :=
  (set10_kept (kept_of_below h) (.inl hb) v0 v1 v2 v3 v4 v5 v6 v7 v8 v9).below (fun _ h => h) (Nat.le_refl _)
theorem own4_below {w w' : World} {b : Nat} {e : TypeId} {v : Value} {n : Nat} {xs : List Value} (h : w.ownsRow b e 4 v n xs) (hb : Below w.heap.size w w') : w'.ownsRow b e 4 v n xs :=
  own4_kept h (kept_of_below hb) (fun k e hge => by have := (h.lt k e).2; omega)
set_option maxHeartbeats 12800000 in
theorem get_no (w : World) (v : Value) (bs : List Int) (ea : Addr) (h : Rd w v bs) (hl : (bs.length : Int) ≤ 140737488355328) (he : w.cell? ⟨1, 0, none⟩ = some (vErr ea)) (hno : ∀ e s, okN e → bs ≠ encL (nums e) ++ s) :
    Calls Tryd.prog 15 #[v] w fun r w' => r = .returned (.tuple #[zE, vErr ea]) ∧ Below w.heap.size w w' := by
  have HV := mkHid h
  have HE := mkHid he
  have HGB : Hid (1 < (w.alloc oZ).heap.size) := mkHid (by have := World.block_lt_of_cell? w _ he; simp only at this; simp; omega)
  have hn1 : ¬ 1 = w.heap.size := by have := World.block_lt_of_cell? w _ he; simp only at this; omega
  have hn2 : ¬ w.heap.size = 1 := fun e => hn1 e.symm
  have HNO := mkHid hno
  clear h he hno
  go_enter Tryd.func15, Tryd.ntmps15
  go_wp2_with (first
    | (go_at_call 44; refine (newReader_any _ v bs (HV.out.alloc _) hl).mono ?_; rintro r w1 ⟨p, F, rfl, hr1, hF1, b1⟩; have HR1 := mkHid hr1; have HF1 : Hid (∀ k, F k → (w.alloc oZ).heap.size ≤ k) := mkHid hF1; have HB1 : Hid (Below (w.alloc oZ).heap.size (w.alloc oZ) w1) := mkHid b1; clear hr1 hF1 b1)
    | (go_at_call 45; refine (getEntry_no F (w.alloc oZ).heap.size w1 p bs ea HR1.out hl (kc HE.out (bt (ba (Below.refl _ w) _) HB1.out)) HGB.out HF1.out HB1.out.size HNO.out).mono ?_; rintro r w2 ⟨rfl, k2⟩; have HK2 := mkHid k2; have HB2 : Hid (Below (w.alloc oZ).heap.size (w.alloc oZ) w2) := mkHid (HB1.out.trans (HK2.out.below HF1.out HB1.out.size)); have hres2 : w2.heap[w.heap.size]? = some (.cells #[.int .i64 0, .int .i64 0, .int .i64 0, .int .i64 0, .int .i64 0, .int .i64 0, .int .i64 0, .int .i64 0, .slice none 0 0, .int .i64 0] 28 (0, 0)) := (HB2.out.block _ (by simp)).trans (heap_alloc_new w oZ); obtain ⟨r0, r1, r2, r3, r4, r5, r6, r7, r8, r9⟩ := ent_cells hres2; obtain ⟨f0, f1, f2, f3, f4, f5, f6, f7, f8, f9⟩ := ent_frozen hres2; have ce := kc HE.out (bt (ba (Below.refl _ w) _) HB2.out); have HRS := mkHid hres2; clear k2 hres2))
  go_region
  all_goals go_wp2
  all_goals exact bodyPost_ret (ent_leaves rfl (dh (set10_heap ((heap_alloc_old _ _ (lt_of_heap HRS.out)).trans HRS.out) _ _ _ _ _ _ _ _ _ _)) _ rfl) rfl ⟨rfl, (set10_below (ba (bt (ba (Below.refl _ w) _) HB2.out) _) (Nat.le_refl _) (.int .i64 0) (.int .i64 0) (.int .i64 0) (.int .i64 0) (.int .i64 0) (.int .i64 0) (.int .i64 0) (.int .i64 0) (.slice none 0 0) (.int .i64 0)).drew⟩
set_option maxHeartbeats 12800000 in
theorem get_end (w : World) (v : Value) (bs : List Int) (ea : Addr) (e : En) (s : List Int) (h : Rd w v bs) (hl : (bs.length : Int) ≤ 140737488355328) (he : w.cell? ⟨1, 0, none⟩ = some (vErr ea)) (hok : okN e) (hd : bs = encL (nums e) ++ s) (hs : s ≠ []) :
    Calls Tryd.prog 15 #[v] w fun r w' => r = .returned (.tuple #[zE, vErr ea]) ∧ Below w.heap.size w w' := by
  have HV := mkHid h
  have HE := mkHid he
  have HGB : Hid (1 < (w.alloc oZ).heap.size) := mkHid (by have := World.block_lt_of_cell? w _ he; simp only at this; simp; omega)
  have hn1 : ¬ 1 = w.heap.size := by have := World.block_lt_of_cell? w _ he; simp only at this; omega
  have hn2 : ¬ w.heap.size = 1 := fun e => hn1 e.symm
  have HOK := mkHid hok
  have HD := mkHid hd
  have HI : Hid ((encL (nums e)).length < bs.length) := mkHid (by
    rw [hd, List.length_append]
    have := List.length_pos_iff.mpr hs
    omega)
  clear h he hok hd hs
  go_enter Tryd.func15, Tryd.ntmps15
  go_wp2_with (first
    | (go_at_call 44; refine (newReader_any _ v bs (HV.out.alloc _) hl).mono ?_; rintro r w1 ⟨p, F, rfl, hr1, hF1, b1⟩; have HR1 := mkHid hr1; have HF1 : Hid (∀ k, F k → (w.alloc oZ).heap.size ≤ k) := mkHid hF1; have HB1 : Hid (Below (w.alloc oZ).heap.size (w.alloc oZ) w1) := mkHid b1; clear hr1 hF1 b1)
    | (go_at_call 45; refine (getEntry_yes F (w.alloc oZ).heap.size w1 p bs ea e s HR1.out hl (kc HE.out (bt (ba (Below.refl _ w) _) HB1.out)) HGB.out HF1.out HB1.out.size HOK.out HD.out).mono ?_; rintro r w2 ⟨ta, tc, rfl, ho2, hr2, k2⟩; simp only [vN]; have HO2 := mkHid ho2; have HR2 := mkHid hr2; have HB2 : Hid (Below (w.alloc oZ).heap.size (w.alloc oZ) w2) := mkHid (HB1.out.trans (k2.below HF1.out HB1.out.size)); clear ho2 hr2 k2)
    | (go_at_call 46; refine (end_err F _ p bs _ (vErr ea) (HR2.out.below ((Below.refl _ w2).alloc (Nat.le_refl _) _)) hl (kl (kc HE.out (bt (ba (Below.refl _ w) _) HB2.out)) _) HI.out).mono ?_; rintro r w3 ⟨rfl, nq, hw3⟩; have b3 : Below (w2.alloc (oE e (.slice ta e.ts.length tc))).heap.size (w2.alloc (oE e (.slice ta e.ts.length tc))) w3 := by { rw [hw3]; exact drb (Below.refl _ _) nq }; have HB3 : Hid (Below (w.alloc oZ).heap.size (w.alloc oZ) w3) := mkHid (bt (ba HB2.out (oE e (.slice ta e.ts.length tc))) b3); have hres3 : w3.heap[w.heap.size]? = some (.cells #[.int .i64 0, .int .i64 0, .int .i64 0, .int .i64 0, .int .i64 0, .int .i64 0, .int .i64 0, .int .i64 0, .slice none 0 0, .int .i64 0] 28 (0, 0)) := (HB3.out.block _ (by simp)).trans (heap_alloc_new w oZ); obtain ⟨r0, r1, r2, r3, r4, r5, r6, r7, r8, r9⟩ := ent_cells hres3; obtain ⟨f0, f1, f2, f3, f4, f5, f6, f7, f8, f9⟩ := ent_frozen hres3; have ce := kc HE.out (bt (ba (Below.refl _ w) _) HB3.out); have HRS := mkHid hres3; clear hres3; clear b3 hw3))
  go_region
  all_goals go_wp2
  all_goals exact bodyPost_ret (ent_leaves rfl (dh (set10_heap HRS.out _ _ _ _ _ _ _ _ _ _)) _ rfl) rfl ⟨rfl, (set10_below (bt (ba (Below.refl _ w) _) HB3.out) (Nat.le_refl _) (.int .i64 0) (.int .i64 0) (.int .i64 0) (.int .i64 0) (.int .i64 0) (.int .i64 0) (.int .i64 0) (.int .i64 0) (.slice none 0 0) (.int .i64 0)).drew⟩
set_option maxHeartbeats 12800000 in
theorem get_check (w : World) (v : Value) (bs : List Int) (ea es : Addr) (e : En) (h : Rd w v bs) (hl : (bs.length : Int) ≤ 140737488355328) (he : w.cell? ⟨1, 0, none⟩ = some (vErr ea)) (hes : w.cell? ⟨0, 0, none⟩ = some (vErr es)) (hok : okN e) (hd : bs = encL (nums e)) (hf : ¬ inF e) :
    Calls Tryd.prog 15 #[v] w fun r w' => r = .returned (.tuple #[zE, vErr ea]) ∧ Below w.heap.size w w' := by
  have HV := mkHid h
  have HE := mkHid he
  have HGB : Hid (1 < (w.alloc oZ).heap.size) := mkHid (by have := World.block_lt_of_cell? w _ he; simp only at this; simp; omega)
  have hn1 : ¬ 1 = w.heap.size := by have := World.block_lt_of_cell? w _ he; simp only at this; omega
  have hn2 : ¬ w.heap.size = 1 := fun e => hn1 e.symm
  obtain ⟨s, hs⟩ : ∃ s : List Int, s = [] := ⟨_, rfl⟩
  have HES := mkHid hes
  have HIF := mkHid hf
  have HI : Hid ((encL (nums e)).length = bs.length) := mkHid (by rw [hd])
  have HD : Hid (bs = encL (nums e) ++ s) := mkHid (by rw [hs, List.append_nil]; exact hd)
  have HOK := mkHid hok
  clear h he hok hd hs hes hf
  go_enter Tryd.func15, Tryd.ntmps15
  go_wp2_with (first
    | (go_at_call 44; refine (newReader_any _ v bs (HV.out.alloc _) hl).mono ?_; rintro r w1 ⟨p, F, rfl, hr1, hF1, b1⟩; have HR1 := mkHid hr1; have HF1 : Hid (∀ k, F k → (w.alloc oZ).heap.size ≤ k) := mkHid hF1; have HB1 : Hid (Below (w.alloc oZ).heap.size (w.alloc oZ) w1) := mkHid b1; clear hr1 hF1 b1)
    | (go_at_call 45; refine (getEntry_yes F (w.alloc oZ).heap.size w1 p bs ea e s HR1.out hl (kc HE.out (bt (ba (Below.refl _ w) _) HB1.out)) HGB.out HF1.out HB1.out.size HOK.out HD.out).mono ?_; rintro r w2 ⟨ta, tc, rfl, ho2, hr2, k2⟩; simp only [vN]; have HO2 := mkHid ho2; have HR2 := mkHid hr2; have HB2 : Hid (Below (w.alloc oZ).heap.size (w.alloc oZ) w2) := mkHid (HB1.out.trans (k2.below HF1.out HB1.out.size)); clear ho2 hr2 k2)
    | (go_at_call 46; refine (end_nil F _ p bs _ (HR2.out.below ((Below.refl _ w2).alloc (Nat.le_refl _) _)) hl HI.out).mono ?_; rintro r w9 ⟨rfl, nq, hw9⟩; have b9 : Below (w2.alloc (oE e (.slice ta e.ts.length tc))).heap.size (w2.alloc (oE e (.slice ta e.ts.length tc))) w9 := by { rw [hw9]; exact drb (Below.refl _ _) nq }; obtain ⟨q0, q1, q2, q3, q4, q5, q6, q7, q8, q9⟩ := ent_cells ((b9.block w2.heap.size (by simp)).trans (entO w2 e (.slice ta e.ts.length tc))); have HB9 := mkHid b9; clear b9 hw9)
    | (go_at_call 11; obtain ⟨_, _, e9, HW9⟩ := tks_of_owns (xs := e.ts) (by have := HOK.out.1; omega) (own4_below (own4_below HO2.out ((Below.refl _ w2).alloc (Nat.le_refl _) _)) HB9.out); simp only [Value.slice.injEq] at e9; obtain ⟨rfl, _, rfl⟩ := e9; refine (check_no w9 (e, ta, tc) es HW9 HIF.out (kc HES.out (bt (bt (bt (ba (Below.refl _ w) _) HB2.out) (ba (Below.refl _ w2) _)) HB9.out))).mono ?_; rintro r w3 ⟨rfl, b3'⟩; have b3 := bt HB9.out b3'; have HB3 : Hid (Below (w.alloc oZ).heap.size (w.alloc oZ) w3) := mkHid (bt (ba HB2.out (oE e (.slice ta e.ts.length tc))) b3); clear q0 q1 q2 q3 q4 q5 q6 q7 q8 q9; have hres3 : w3.heap[w.heap.size]? = some (.cells #[.int .i64 0, .int .i64 0, .int .i64 0, .int .i64 0, .int .i64 0, .int .i64 0, .int .i64 0, .int .i64 0, .slice none 0 0, .int .i64 0] 28 (0, 0)) := (HB3.out.block _ (by simp)).trans (heap_alloc_new w oZ); obtain ⟨r0, r1, r2, r3, r4, r5, r6, r7, r8, r9⟩ := ent_cells hres3; obtain ⟨f0, f1, f2, f3, f4, f5, f6, f7, f8, f9⟩ := ent_frozen hres3; have ce := kc HE.out (bt (ba (Below.refl _ w) _) HB3.out); have HRS := mkHid hres3; clear hres3; clear b3 b3'))
  go_region
  all_goals go_wp2
  all_goals exact bodyPost_ret (ent_leaves rfl (dh (set10_heap HRS.out _ _ _ _ _ _ _ _ _ _)) _ rfl) rfl ⟨rfl, (set10_below (bt (ba (Below.refl _ w) _) HB3.out) (Nat.le_refl _) (.int .i64 0) (.int .i64 0) (.int .i64 0) (.int .i64 0) (.int .i64 0) (.int .i64 0) (.int .i64 0) (.int .i64 0) (.slice none 0 0) (.int .i64 0)).drew⟩
set_option maxHeartbeats 12800000 in
theorem get_yes (w : World) (v : Value) (bs : List Int) (ea : Addr) (e : En) (h : Rd w v bs) (hl : (bs.length : Int) ≤ 140737488355328) (he : w.cell? ⟨1, 0, none⟩ = some (vErr ea)) (hd : bs = encL (nums e)) (hf : inF e) :
    Calls Tryd.prog 15 #[v] w fun r w' => ∃ ta tc, r = .returned (.tuple #[vP (e, ta, tc), .nilIface]) ∧ w'.ownsRow w.heap.size 68 4 (.slice ta e.ts.length tc) e.ts.length (e.ts.flatMap c4) ∧ Below w.heap.size w w' := by
  have HV := mkHid h
  have HE := mkHid he
  have HGB : Hid (1 < (w.alloc oZ).heap.size) := mkHid (by have := World.block_lt_of_cell? w _ he; simp only at this; simp; omega)
  have hn1 : ¬ 1 = w.heap.size := by have := World.block_lt_of_cell? w _ he; simp only at this; omega
  have hn2 : ¬ w.heap.size = 1 := fun e => hn1 e.symm
  obtain ⟨s, hs⟩ : ∃ s : List Int, s = [] := ⟨_, rfl⟩
  have HIF := mkHid hf
  have HI : Hid ((encL (nums e)).length = bs.length) := mkHid (by rw [hd])
  have HD : Hid (bs = encL (nums e) ++ s) := mkHid (by rw [hs, List.append_nil]; exact hd)
  have HOK := mkHid hf.okN
  clear h he hd hs hf
  go_enter Tryd.func15, Tryd.ntmps15
  go_wp2_with (first
    | (go_at_call 44; refine (newReader_any _ v bs (HV.out.alloc _) hl).mono ?_; rintro r w1 ⟨p, F, rfl, hr1, hF1, b1⟩; have HR1 := mkHid hr1; have HF1 : Hid (∀ k, F k → (w.alloc oZ).heap.size ≤ k) := mkHid hF1; have HB1 : Hid (Below (w.alloc oZ).heap.size (w.alloc oZ) w1) := mkHid b1; clear hr1 hF1 b1)
    | (go_at_call 45; refine (getEntry_yes F (w.alloc oZ).heap.size w1 p bs ea e s HR1.out hl (kc HE.out (bt (ba (Below.refl _ w) _) HB1.out)) HGB.out HF1.out HB1.out.size HOK.out HD.out).mono ?_; rintro r w2 ⟨ta, tc, rfl, ho2, hr2, k2⟩; simp only [vN]; have HO2 := mkHid ho2; have HR2 := mkHid hr2; have HB2 : Hid (Below (w.alloc oZ).heap.size (w.alloc oZ) w2) := mkHid (HB1.out.trans (k2.below HF1.out HB1.out.size)); clear ho2 hr2 k2)
    | (go_at_call 46; refine (end_nil F _ p bs _ (HR2.out.below ((Below.refl _ w2).alloc (Nat.le_refl _) _)) hl HI.out).mono ?_; rintro r w9 ⟨rfl, nq, hw9⟩; have b9 : Below (w2.alloc (oE e (.slice ta e.ts.length tc))).heap.size (w2.alloc (oE e (.slice ta e.ts.length tc))) w9 := by { rw [hw9]; exact drb (Below.refl _ _) nq }; obtain ⟨q0, q1, q2, q3, q4, q5, q6, q7, q8, q9⟩ := ent_cells ((b9.block w2.heap.size (by simp)).trans (entO w2 e (.slice ta e.ts.length tc))); have HB9 := mkHid b9; clear b9 hw9)
    | (go_at_call 11; obtain ⟨_, _, e9, HW9⟩ := tks_of_owns (xs := e.ts) (by have := HOK.out.1; omega) (own4_below (own4_below HO2.out ((Below.refl _ w2).alloc (Nat.le_refl _) _)) HB9.out); simp only [Value.slice.injEq] at e9; obtain ⟨rfl, _, rfl⟩ := e9; refine (check_yes w9 (e, ta, tc) HW9 HIF.out).mono ?_; rintro r w3 ⟨rfl, b3'⟩; have b3 := bt HB9.out b3'; have HB3 : Hid (Below (w.alloc oZ).heap.size (w.alloc oZ) w3) := mkHid (bt (ba HB2.out (oE e (.slice ta e.ts.length tc))) b3); clear q0 q1 q2 q3 q4 q5 q6 q7 q8 q9; have hres3 : w3.heap[w.heap.size]? = some (.cells #[.int .i64 0, .int .i64 0, .int .i64 0, .int .i64 0, .int .i64 0, .int .i64 0, .int .i64 0, .int .i64 0, .slice none 0 0, .int .i64 0] 28 (0, 0)) := (HB3.out.block _ (by simp)).trans (heap_alloc_new w oZ); obtain ⟨r0, r1, r2, r3, r4, r5, r6, r7, r8, r9⟩ := ent_cells hres3; obtain ⟨f0, f1, f2, f3, f4, f5, f6, f7, f8, f9⟩ := ent_frozen hres3; have ce := kc HE.out (bt (ba (Below.refl _ w) _) HB3.out); have HRS := mkHid hres3; clear hres3; obtain ⟨q0, q1, q2, q3, q4, q5, q6, q7, q8, q9⟩ := ent_cells ((b3.block w2.heap.size (by simp)).trans (entO w2 e (.slice ta e.ts.length tc))); have HO3 := mkHid (own4_below (own4_below HO2.out ((Below.refl _ w2).alloc (Nat.le_refl _) _)) b3); clear b3 b3'))
  have k10 := set10_kept (F := fun k => k = w.heap.size) (Kept.refl _ w3) (b := w.heap.size) (.inl rfl) (.int .i64 e.cl) (.int .i64 e.nu) (.int .i64 e.ki) (.int .i64 e.id) (.int .i64 e.sk) (.int .i64 e.sq) (.int .i64 e.st) (.int .i64 e.po) (.slice ta e.ts.length tc) (.int .i64 e.tm)
  have hsz : w.heap.size < w1.heap.size + 1 := by have := HB1.out.size; simp at this; omega
  exact bodyPost_ret (ent_leaves rfl (set10_heap HRS.out _ _ _ _ _ _ _ _ _ _) _ rfl) rfl ⟨ta, tc, rfl, own_up4 (own4_kept HO3.out k10 (fun k e1 e2 => by have := (HO3.out.lt k e1).1; omega)) (by omega), set10_below (bt (ba (Below.refl _ w) _) HB3.out) (Nat.le_refl _) (.int .i64 e.cl) (.int .i64 e.nu) (.int .i64 e.ki) (.int .i64 e.id) (.int .i64 e.sk) (.int .i64 e.sq) (.int .i64 e.st) (.int .i64 e.po) (.slice ta e.ts.length tc) (.int .i64 e.tm)⟩
theorem get_any (w : World) (v : Value) (bs : List Int) (ea es : Addr) (h : Rd w v bs) (hl : (bs.length : Int) ≤ 140737488355328) (he : w.cell? ⟨1, 0, none⟩ = some (vErr ea)) (hes : w.cell? ⟨0, 0, none⟩ = some (vErr es)) :
    Calls Tryd.prog 15 #[v] w (GetPost w bs ea) := by
  by_cases hp : ∃ e s, okN e ∧ bs = encL (nums e) ++ s
  · obtain ⟨e, s, hok, hd⟩ := hp
    by_cases hs : s = []
    · subst hs
      rw [List.append_nil] at hd
      by_cases hf : inF e
      · refine (get_yes w v bs ea e h hl he hd hf).mono ?_
        rintro r w' ⟨ta, tc, rfl, ho, hb⟩
        exact .inl ⟨(e, ta, tc), hf, hd, rfl, ho, hb⟩
      · refine (get_check w v bs ea es e h hl he hes hok hd hf).mono ?_
        rintro r w' ⟨rfl, hb⟩
        refine .inr ⟨fun f hf2 e2 => hf ?_, rfl, hb⟩
        rw [(nums_pre hok hf2.okN (s := []) (by rw [List.append_nil, ← hd]; exact e2)).1]
        exact hf2
    · refine (get_end w v bs ea e s h hl he hok hd hs).mono ?_
      rintro r w' ⟨rfl, hb⟩
      refine .inr ⟨fun f hf2 e2 => hs ?_, rfl, hb⟩
      have := nums_pre hf2.okN hok (s := s) (by rw [← hd]; exact e2.symm)
      exact this.2
  · refine (get_no w v bs ea h hl he (fun e s ho hd => hp ⟨e, s, ho, hd⟩)).mono ?_
    rintro r w' ⟨rfl, hb⟩
    exact .inr ⟨fun f hf2 e2 => hp ⟨f, [], hf2.okN, by rw [List.append_nil]; exact e2⟩, rfl, hb⟩
end Go.Proofs.YtehnimafjgodeaaDoor
