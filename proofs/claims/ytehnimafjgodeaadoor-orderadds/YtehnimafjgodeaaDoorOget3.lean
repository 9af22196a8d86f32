/- getEntry of bytes that don't begin with an entry's numbers. -/
import Derived.Test.YtehnimafjgodeaaDoorOget2
namespace Go.Proofs.YtehnimafjgodeaaDoor
open Go.ChangeShapes Go.WideShapes Go.ChangeAt Go.RowKit
set_option maxRecDepth 100000
attribute [local go_sem] World.cell?_alloc_some frozen_alloc_some

set_option maxHeartbeats 25600000 in
theorem getEntry_no1 (F : Nat → Prop) (B : Nat) (w : World) (p : Nat) (bs : List Int) (ea : Addr) (L r : List Int) (h : Rr F w p bs 0) (hl : (bs.length : Int) ≤ 140737488355328) (he : w.cell? ⟨1, 0, none⟩ = some (vErr ea)) (hg : 1 < B) (hB : ∀ k, F k → B ≤ k) (hBw : B ≤ w.heap.size) (hL : L.length < 9) (hLa : ∀ x ∈ L, amt x) (hrn : ∀ (M : Nat) (q : List Int), (M : Int) ≤ 1099511627776 → r ≠ enc M ++ q) (hd : bs = encL L ++ r) :
    Calls Tryd.prog 45 #[.pointer (some ⟨p, 0, none⟩)] w fun r w' => r = .returned (.tuple #[.agg #[.int .i64 0, .int .i64 0, .int .i64 0, .int .i64 0, .int .i64 0, .int .i64 0, .int .i64 0, .int .i64 0, .slice none 0 0, .int .i64 0], vErr ea]) ∧ Kept F w w' := by
  have HLT := mkHid h.1
  obtain ⟨W2, hW2⟩ : ∃ W2, W2 = (w.alloc (.cells #[.int .i64 0, .int .i64 0, .int .i64 0, .int .i64 0, .int .i64 0, .int .i64 0, .int .i64 0, .int .i64 0, .slice none 0 0, .int .i64 0] 28)).alloc (.cells #[.int .i64 0, .int .i64 0, .int .i64 0, .int .i64 0, .int .i64 0, .int .i64 0, .int .i64 0, .int .i64 0, .int .i64 0] 76) := ⟨_, rfl⟩
  have hb2 : Below w.heap.size w W2 := by rw [hW2]; exact ba (ba (Below.refl _ w) _) _
  have hr2 : W2.heap[w.heap.size]? = some (.cells #[.int .i64 0, .int .i64 0, .int .i64 0, .int .i64 0, .int .i64 0, .int .i64 0, .int .i64 0, .int .i64 0, .slice none 0 0, .int .i64 0] 28 (0, 0)) := by rw [hW2]; exact (two_facts (Below.refl _ _)).1
  have hh2 : W2.heap[w.heap.size + 1]? = some (.cells (arrOf [] 9) 76 (0, 0)) := by rw [hW2]; exact (two_facts (Below.refl _ _)).2
  have hs2 : W2.heap.size = w.heap.size + 2 := by rw [hW2]; simp
  have HA := mkHid (getAll_no F B W2 p (w.heap.size + 1) 9 9 76 bs 0 ea L r (h.below hb2) hl (kc he hb2) hg hB (by omega) (by omega) (fun f => by have := h.1 _ f; omega) hh2 (by omega) hL hLa (by rw [List.drop_zero, hd]) hrn)
  have H2 := mkHid (And.intro hb2 (And.intro hr2 hs2))
  clear hL hLa hrn hd hg hB hBw hb2 hr2 hh2 hs2 he h
  go_enter Tryd.func45, Tryd.ntmps45
  go_wp2_with (go_at_call 63; rw [← hW2]; clear hW2; refine HA.out.mono ?_; rintro e w7 ⟨rfl, q3⟩; have hres7 : w7.heap[w.heap.size]? = some (.cells #[.int .i64 0, .int .i64 0, .int .i64 0, .int .i64 0, .int .i64 0, .int .i64 0, .int .i64 0, .int .i64 0, .slice none 0 0, .int .i64 0] 28 (0, 0)) := by { rw [q3.block _ (by have := H2.out.2.2; omega) (fun e => by rcases e with e | e; have := HLT.out _ e; omega; omega)]; exact H2.out.2.1 }; obtain ⟨r0, r1, r2, r3, r4, r5, r6, r7, r8, r9⟩ := ent_cells hres7; obtain ⟨f0, f1, f2, f3, f4, f5, f6, f7, f8, f9⟩ := ent_frozen hres7; have HR7 : Hid (w7.heap[w.heap.size]? = some (.cells #[.int .i64 0, .int .i64 0, .int .i64 0, .int .i64 0, .int .i64 0, .int .i64 0, .int .i64 0, .int .i64 0, .slice none 0 0, .int .i64 0] 28 (0, 0)) ∧ Kept F w w7) := mkHid (And.intro hres7 (((kept_of_below H2.out.1).mono (G := fun k => F k ∨ w.heap.size ≤ k) (fun k hk => .inr hk) |>.trans q3 (fun k hk => by rcases hk with a | a; exact .inl (.inl a); exact .inl (.inr (by omega)))) |> keptF)); clear q3 hres7)
  refine bodyPost_ret (ent_leaves rfl (set10_heap HR7.out.1 _ _ _ _ _ _ _ _ _ _) _ rfl) rfl ⟨rfl, ?_⟩
  exact set10_kept HR7.out.2 (.inr (Nat.le_refl _)) (.int .i64 0) (.int .i64 0) (.int .i64 0) (.int .i64 0) (.int .i64 0) (.int .i64 0) (.int .i64 0) (.int .i64 0) (.slice none 0 0) (.int .i64 0)
set_option maxHeartbeats 25600000 in
theorem getEntry_no2 (F : Nat → Prop) (B : Nat) (w : World) (p : Nat) (bs : List Int) (ea : Addr) (e : En) (s : List Int) (h : Rr F w p bs 0) (hl : (bs.length : Int) ≤ 140737488355328) (he : w.cell? ⟨1, 0, none⟩ = some (vErr ea)) (hg : 1 < B) (hB : ∀ k, F k → B ≤ k) (hBw : B ≤ w.heap.size) (ho : ∀ n ∈ hnum e, amt n) (hno : ∀ (N : Nat) (q : List Int), (N : Int) ≤ 8 → s ≠ enc N ++ q) (hd : bs = encL (hnum e) ++ s) :
    Calls Tryd.prog 45 #[.pointer (some ⟨p, 0, none⟩)] w fun r w' => r = .returned (.tuple #[.agg #[.int .i64 0, .int .i64 0, .int .i64 0, .int .i64 0, .int .i64 0, .int .i64 0, .int .i64 0, .int .i64 0, .slice none 0 0, .int .i64 0], vErr ea]) ∧ Kept F w w' := by
  have HNO := mkHid hno
  have HD := mkHid hd
  have HF := mkHid (And.intro hg (And.intro hB hBw))
  have HLT := mkHid h.1
  have HEV := mkHid he
  obtain ⟨cl, nu, ki, id, sk, sq, st, po, ts, tm⟩ := e
  obtain ⟨W2, hW2⟩ : ∃ W2, W2 = (w.alloc (.cells #[.int .i64 0, .int .i64 0, .int .i64 0, .int .i64 0, .int .i64 0, .int .i64 0, .int .i64 0, .int .i64 0, .slice none 0 0, .int .i64 0] 28)).alloc (.cells #[.int .i64 0, .int .i64 0, .int .i64 0, .int .i64 0, .int .i64 0, .int .i64 0, .int .i64 0, .int .i64 0, .int .i64 0] 76) := ⟨_, rfl⟩
  have hb2 : Below w.heap.size w W2 := by rw [hW2]; exact ba (ba (Below.refl _ w) _) _
  have hr2 : W2.heap[w.heap.size]? = some (.cells #[.int .i64 0, .int .i64 0, .int .i64 0, .int .i64 0, .int .i64 0, .int .i64 0, .int .i64 0, .int .i64 0, .slice none 0 0, .int .i64 0] 28 (0, 0)) := by rw [hW2]; exact (two_facts (Below.refl _ _)).1
  have hh2 : W2.heap[w.heap.size + 1]? = some (.cells (arrOf [] 9) 76 (0, 0)) := by rw [hW2]; exact (two_facts (Below.refl _ _)).2
  have hs2 : W2.heap.size = w.heap.size + 2 := by rw [hW2]; simp
  have HA := mkHid (getAll_yes F B W2 p (w.heap.size + 1) 9 9 76 bs 0 (vErr ea) [cl, nu, ki, tm, id, sk, sq, st, po] s (h.below hb2) hl (kc he hb2) hg hB (by omega) (by omega) (fun f => by have := h.1 _ f; omega) hh2 (by omega) rfl (fun x hx => ho x hx) (by
    rw [List.drop_zero, hd]; rfl))
  have H2 := mkHid (And.intro hb2 (And.intro hr2 hs2))
  clear hno ho hd hg hB hBw hb2 hr2 hh2 hs2 he h
  go_enter Tryd.func45, Tryd.ntmps45
  go_wp2_with (first
    | (go_at_call 63; rw [← hW2]; clear hW2; refine HA.out.mono ?_; rintro r w3 ⟨rfl, q1, q2, q3⟩; obtain ⟨h0, h1, h2, h3, h4, h5, h6, h7, h8⟩ := nine_cells (w := w3) (by simpa using q1); have H3 := mkHid (And.intro q2 q3); clear q1 q2 q3))
  have HRES : Hid (w3.heap[w.heap.size]? = some (.cells #[.int .i64 0, .int .i64 0, .int .i64 0, .int .i64 0, .int .i64 0, .int .i64 0, .int .i64 0, .int .i64 0, .slice none 0 0, .int .i64 0] 28 (0, 0))) := mkHid (by
    rw [H3.out.2.block _ (by have := H2.out.2.2; omega) (fun e => by rcases e with e | e; have := HLT.out _ e; omega; omega)]; exact H2.out.2.1)
  have HK3 : Hid (Kept F w w3) := mkHid (((kept_of_below H2.out.1).mono (G := fun k => F k ∨ w.heap.size ≤ k) (fun k hk => .inr hk) |>.trans H3.out.2 (fun k hk => by rcases hk with a | a; exact .inl (.inl a); exact .inl (.inr (by omega)))) |> keptF)
  have HS3 : Hid (w.heap.size + 2 ≤ w3.heap.size) := mkHid (by have := H3.out.2.size; have := H2.out.2.2; omega)
  have HDI : Hid (bs.drop (0 + (encL [cl, nu, ki, tm, id, sk, sq, st, po]).length) = s) := mkHid (by
    rw [Nat.zero_add, HD.out]
    exact List.drop_left)
  go_wp2_with (first
    | (go_at_call 64; refine (entryOf_any w3 cl nu ki tm id sk sq st po).mono ?_; rintro r w4 ⟨rfl, b4⟩; have HG5 : Hid (GE F w (w4.alloc (.cells #[.int .i64 cl, .int .i64 nu, .int .i64 ki, .int .i64 id, .int .i64 sk, .int .i64 sq, .int .i64 st, .int .i64 po, .slice none 0 0, .int .i64 tm] 28)) p w4.heap.size bs (0 + (encL [cl, nu, ki, tm, id, sk, sq, st, po]).length) cl nu ki id sk sq st po tm ts 0 none 0) := mkHid (ge_start HLT.out H3.out.1 HRES.out HK3.out HS3.out b4 cl nu ki id sk sq st po tm ts); clear b4)
    | (go_at_call 50; refine (rnum_no F _ p bs _ 8 (vErr ea) HG5.out.rr hl (HG5.out.kept.cell HEV.out (fun f => Nat.lt_irrefl _ (Nat.lt_of_lt_of_le HF.out.1 (HF.out.2.1 _ f)))) (by rw [HDI.out]; exact HNO.out)).mono ?_; rintro e w6 ⟨rfl, q1, q2⟩; have HG6 := mkHid (HG5.out.kept' q2 (fun k hk => .inl hk) q1); obtain ⟨r0, r1, r2, r3, r4, r5, r6, r7, r8, r9⟩ := ent_cells HG6.out.res; obtain ⟨f0, f1, f2, f3, f4, f5, f6, f7, f8, f9⟩ := ent_frozen HG6.out.res; clear q1 q2 HG5))
  refine bodyPost_ret (ent_leaves rfl (set10_heap HG6.out.res _ _ _ _ _ _ _ _ _ _) _ rfl) rfl ⟨rfl, ?_⟩
  exact set10_kept HG6.out.kept (.inr (Nat.le_refl _)) (.int .i64 0) (.int .i64 0) (.int .i64 0) (.int .i64 0) (.int .i64 0) (.int .i64 0) (.int .i64 0) (.int .i64 0) (.slice none 0 0) (.int .i64 0)
set_option maxHeartbeats 25600000 in
theorem getEntry_no3 (F : Nat → Prop) (B : Nat) (w : World) (p : Nat) (bs : List Int) (ea : Addr) (e : En) (h : Rr F w p bs 0) (hl : (bs.length : Int) ≤ 140737488355328) (he : w.cell? ⟨1, 0, none⟩ = some (vErr ea)) (hg : 1 < B) (hB : ∀ k, F k → B ≤ k) (hBw : B ≤ w.heap.size) (ho : okN e) (N : Nat) (L r : List Int) (hN : e.ts.length < N) (hN8 : (N : Int) ≤ 8) (hL : L.length < 4) (hLa : ∀ x ∈ L, amt x) (hrn : ∀ (M : Nat) (q : List Int), (M : Int) ≤ 1099511627776 → r ≠ enc M ++ q) (hd : bs = encL (hnum e) ++ (enc N ++ (encL (e.ts.flatMap tnum) ++ (encL L ++ r)))) :
    Calls Tryd.prog 45 #[.pointer (some ⟨p, 0, none⟩)] w fun r w' => r = .returned (.tuple #[.agg #[.int .i64 0, .int .i64 0, .int .i64 0, .int .i64 0, .int .i64 0, .int .i64 0, .int .i64 0, .int .i64 0, .slice none 0 0, .int .i64 0], vErr ea]) ∧ Kept F w w' := by
  obtain ⟨ie, hi, hz0, hz1, hz2⟩ := info_parts info_task
  obtain ⟨zth, hzth⟩ : ∃ z : Value, z = .agg #[.int .i64 0, .int .i64 0, .int .i64 0, .int .i64 0] := ⟨_, rfl⟩
  rw [← hzth] at hz0
  have HZ : Hid (zth.cells.size = 4) := mkHid (by rw [hzth]; rfl)
  have hie := mkHid (And.intro hi (And.intro hz0 (And.intro hz1 hz2)))
  have HO := mkHid ho
  have HD := mkHid hd
  have HF := mkHid (And.intro hg (And.intro hB hBw))
  have HLT := mkHid h.1
  have HEV := mkHid he
  obtain ⟨cl, nu, ki, id, sk, sq, st, po, ts, tm⟩ := e
  obtain ⟨W2, hW2⟩ : ∃ W2, W2 = (w.alloc (.cells #[.int .i64 0, .int .i64 0, .int .i64 0, .int .i64 0, .int .i64 0, .int .i64 0, .int .i64 0, .int .i64 0, .slice none 0 0, .int .i64 0] 28)).alloc (.cells #[.int .i64 0, .int .i64 0, .int .i64 0, .int .i64 0, .int .i64 0, .int .i64 0, .int .i64 0, .int .i64 0, .int .i64 0] 76) := ⟨_, rfl⟩
  have hb2 : Below w.heap.size w W2 := by rw [hW2]; exact ba (ba (Below.refl _ w) _) _
  have hr2 : W2.heap[w.heap.size]? = some (.cells #[.int .i64 0, .int .i64 0, .int .i64 0, .int .i64 0, .int .i64 0, .int .i64 0, .int .i64 0, .int .i64 0, .slice none 0 0, .int .i64 0] 28 (0, 0)) := by rw [hW2]; exact (two_facts (Below.refl _ _)).1
  have hh2 : W2.heap[w.heap.size + 1]? = some (.cells (arrOf [] 9) 76 (0, 0)) := by rw [hW2]; exact (two_facts (Below.refl _ _)).2
  have hs2 : W2.heap.size = w.heap.size + 2 := by rw [hW2]; simp
  have HA := mkHid (getAll_yes F B W2 p (w.heap.size + 1) 9 9 76 bs 0 (vErr ea) [cl, nu, ki, tm, id, sk, sq, st, po] (enc N ++ (encL (ts.flatMap tnum) ++ (encL L ++ r))) (h.below hb2) hl (kc he hb2) hg hB (by omega) (by omega) (fun f => by have := h.1 _ f; omega) hh2 (by omega) rfl (fun x hx => ho.head x hx) (by
    rw [List.drop_zero, hd]; rfl))
  have H2 := mkHid (And.intro hb2 (And.intro hr2 hs2))
  have HNO := mkHid (And.intro hL (And.intro hLa hrn))
  have hNi : (ts.length : Int) < N := by simp only at hN; omega
  clear hL hLa hrn hN ho hd hg hB hBw hi hz0 hz1 hz2 hzth hb2 hr2 hh2 hs2 he h
  go_enter Tryd.func45, Tryd.ntmps45
  go_wp2_with (first
    | (go_at_call 63; rw [← hW2]; clear hW2; refine HA.out.mono ?_; rintro r w3 ⟨rfl, q1, q2, q3⟩; obtain ⟨h0, h1, h2, h3, h4, h5, h6, h7, h8⟩ := nine_cells (w := w3) (by simpa using q1); have H3 := mkHid (And.intro q2 q3); clear q1 q2 q3))
  have HRES : Hid (w3.heap[w.heap.size]? = some (.cells #[.int .i64 0, .int .i64 0, .int .i64 0, .int .i64 0, .int .i64 0, .int .i64 0, .int .i64 0, .int .i64 0, .slice none 0 0, .int .i64 0] 28 (0, 0))) := mkHid (by
    rw [H3.out.2.block _ (by have := H2.out.2.2; omega) (fun e => by rcases e with e | e; have := HLT.out _ e; omega; omega)]; exact H2.out.2.1)
  have HK3 : Hid (Kept F w w3) := mkHid (((kept_of_below H2.out.1).mono (G := fun k => F k ∨ w.heap.size ≤ k) (fun k hk => .inr hk) |>.trans H3.out.2 (fun k hk => by rcases hk with a | a; exact .inl (.inl a); exact .inl (.inr (by omega)))) |> keptF)
  have HS3 : Hid (w.heap.size + 2 ≤ w3.heap.size) := mkHid (by have := H3.out.2.size; have := H2.out.2.2; omega)
  have HDI : Hid (bs.drop (0 + (encL [cl, nu, ki, tm, id, sk, sq, st, po]).length) = enc N ++ (encL (ts.flatMap tnum) ++ (encL L ++ r))) := mkHid (by
    rw [Nat.zero_add, HD.out]
    exact List.drop_left)
  have hts8 : (ts.length : Int) ≤ 8 := by have := HO.out.1; simp only at this; omega
  go_wp2_with (first
    | (go_at_call 64; refine (entryOf_any w3 cl nu ki tm id sk sq st po).mono ?_; rintro r w4 ⟨rfl, b4⟩; have HG5 : Hid (GE F w (w4.alloc (.cells #[.int .i64 cl, .int .i64 nu, .int .i64 ki, .int .i64 id, .int .i64 sk, .int .i64 sq, .int .i64 st, .int .i64 po, .slice none 0 0, .int .i64 tm] 28)) p w4.heap.size bs (0 + (encL [cl, nu, ki, tm, id, sk, sq, st, po]).length) cl nu ki id sk sq st po tm ts 0 none 0) := mkHid (ge_start HLT.out H3.out.1 HRES.out HK3.out HS3.out b4 cl nu ki id sk sq st po tm ts); clear b4)
    | (go_at_call 50; refine (rnum_yes F _ p bs _ 8 (vErr ea) N (encL (ts.flatMap tnum) ++ (encL L ++ r)) HG5.out.rr hl (HG5.out.kept.cell HEV.out (fun f => Nat.lt_irrefl _ (Nat.lt_of_lt_of_le HF.out.1 (HF.out.2.1 _ f)))) HDI.out hN8 (by omega)).mono ?_; rintro r w6 ⟨rfl, q1, q2⟩; have HG6 := mkHid (HG5.out.kept' q2 (fun k hk => .inl hk) q1); clear q1 q2 HG5))
  have HI0 : Hid (bs.drop (0 + (encL [cl, nu, ki, tm, id, sk, sq, st, po]).length + (enc N).length) = encL (ts.flatMap tnum) ++ (encL L ++ r)) := mkHid (by rw [← List.drop_drop, HDI.out, List.drop_left])
  generalize 0 + (encL [cl, nu, ki, tm, id, sk, sq, st, po]).length + (enc N).length = I0 at *
  generalize hE : w4.heap.size = E at *
  clear hE h0 h1 h2 h3 h4 h5 h6 h7 h8 HA H2 H3 HRES HK3 HS3 HDI
  go_loopw [30] (fun iv wr => ∃ (j : Nat) (ta : Option Addr) (tc : Nat), iv = .int .i64 (j : Int) ∧ j ≤ ts.length ∧ Hid (GE F w wr p E bs (I0 + (encL ((ts.take j).flatMap tnum)).length) cl nu ki id sk sq st po tm ts j ta tc)) (fun iv _ => N - (intOf iv).toNat)
  case atStart => exact ⟨0, none, 0, rfl, Nat.zero_le _, by simpa [encL_nil] using HG6⟩
  case round =>
    obtain ⟨j, ta, tc, rfl, hj, HGW⟩ := hrel
    clear HG6
    by_cases hlt : j < ts.length
    · have hji : (j : Int) < N := by omega
      obtain ⟨⟨x0, x1, x2, x3⟩, hxj⟩ : ∃ x, ts[j]? = some x := ⟨_, List.getElem?_eq_getElem hlt⟩
      have HXJ := mkHid hxj
      have HSTEP : Hid (bs.drop (I0 + (encL ((ts.take j).flatMap tnum)).length) = encL [x0, x1, x2, x3] ++ (encL ((ts.drop (j + 1)).flatMap tnum) ++ (encL L ++ r)) ∧ I0 + (encL ((ts.take j).flatMap tnum)).length + (encL [x0, x1, x2, x3]).length = I0 + (encL ((ts.take (j + 1)).flatMap tnum)).length) := mkHid (by
        have e1 : ts = ts.take j ++ ((x0, x1, x2, x3) :: ts.drop (j + 1)) := by
          conv => lhs; rw [← List.take_append_drop j ts]
          congr 1
          rw [List.drop_eq_getElem_cons hlt]
          congr 1
          exact (List.getElem?_eq_some_iff.mp hxj).2
        have e2 : encL (ts.flatMap tnum) = encL ((ts.take j).flatMap tnum) ++ (encL [x0, x1, x2, x3] ++ encL ((ts.drop (j + 1)).flatMap tnum)) := by
          conv => lhs; rw [e1]
          rw [List.flatMap_append, List.flatMap_cons, encL_append, encL_append]
          rfl
        refine ⟨by rw [← List.drop_drop, HI0.out, e2, List.append_assoc, List.drop_left, List.append_assoc], ?_⟩
        rw [List.take_add_one, hxj, List.flatMap_append, encL_append, List.length_append]
        simp [tnum]
        omega)
      have HA7 := mkHid (getAll_yes F B (wr.alloc (.cells #[.int .i64 0, .int .i64 0, .int .i64 0, .int .i64 0] 81)) p wr.heap.size 4 4 81 bs _ (vErr ea) [x0, x1, x2, x3] _ (HGW.out.rr.below ((Below.refl _ wr).alloc (Nat.le_refl _) _)) hl (kl (HGW.out.kept.cell HEV.out (fun f => Nat.lt_irrefl _ (Nat.lt_of_lt_of_le HF.out.1 (HF.out.2.1 _ f)))) _) HF.out.1 HF.out.2.1 (by have := HF.out.2.2; have := HGW.out.kept.size; omega) (by have := HF.out.2.2; have := HGW.out.kept.size; simp; omega) (fun f => by have := HGW.out.lt _ f; have := HGW.out.kept.size; omega) (heap_alloc_new wr _) (by omega) rfl (fun x hx => HO.out.task (List.mem_of_getElem? hxj) x hx) HSTEP.out.1)
      have HNW : Hid (¬ (Value.slice ta j tc).ownBlock = some wr.heap.size) := mkHid (fun e => by have := (HGW.out.own.lt _ e).2; omega)
      have HNE : Hid (¬ wr.heap.size = E) := mkHid (fun e => by have := (Array.getElem?_eq_some_iff.mp HGW.out.blk).1; omega)
      clear hxj
      go_wp2_with (go_at_call 63; refine HA7.out.mono ?_; rintro r w7 ⟨rfl, q1, q2, q3⟩; have HQ7 : Hid (S4 w7.drew wr.heap.size x0 x1 x2 x3) := mkHid ⟨cell_of_block q1 rfl, cell_of_block q1 rfl, cell_of_block q1 rfl, cell_of_block q1 rfl⟩; rw [HSTEP.out.2] at q2; have HG := mkHid (HGW.out.kept' (G := fun k => F k ∨ k = wr.heap.size) ((Kept.alloc _ _ _).trans q3 (fun k hk => .inl hk)) (fun k hk => by rcases hk with a | a; exact .inl a; exact .inr (by omega)) q2); clear q1 q2 q3)
      refine wp_region_held_drew (S := fun w' => S4 w' wr.heap.size x0 x1 x2 x3) (by kernel_rfl) HQ7.out (fun hHeld => ?_)
      simp only [S4] at hHeld ⊢
      refine takeD 0 39 (.pointer (some ⟨E, 2, none⟩)) rfl rfl (by kernel_rfl) (by kernel_rfl) (by kernel_rfl) (fun _ _ _ h => h) (Or.inl ⟨by kernel_rfl, by intro w hSw; (try dsimp only at hSw); go_simp⟩) hHeld ?_
      simp only [List.set_cons_zero, List.set_cons_succ]
      refine takeD 1 40 (.pointer (some ⟨E, 8, none⟩)) rfl rfl (by kernel_rfl) (by kernel_rfl) (by kernel_rfl) (fun _ _ _ h => h) (Or.inl ⟨by kernel_rfl, by intro w hSw; (try dsimp only at hSw); go_simp⟩) hHeld ?_
      simp only [List.set_cons_zero, List.set_cons_succ]
      refine takeD 3 42 (.agg #[.int .i64 x0, .int .i64 x1, .int .i64 x2, .int .i64 x3]) rfl rfl (by kernel_rfl) (by kernel_rfl) (by kernel_rfl) (fun _ _ _ h => h) (Or.inl ⟨by kernel_rfl, by intro w hSw; (try dsimp only at hSw); go_simp⟩) hHeld ?_
      simp only [List.set_cons_zero, List.set_cons_succ]
      have HG7 := mkHid (HG.out.below (Below.refl _ w7).drew)
      refine wpAnyH_ready (rs := [2, 4]) (by kernel_rfl) (by simp) (AllReadyH.cons rfl (fun K hK => ?_) (AllReadyH.cons rfl (fun K hK => ?_) AllReadyH.nil))
      · have e8 : w7.drew.cell? ⟨E, 8, none⟩ = some (.slice ta j tc) := cell_of_block HG7.out.blk rfl
        go_simp
        refine hK.out _ _ hHeld (fun hHeld => ?_)
        clear hK K e8
        refine wpAnyH_ready (rs := [4]) (by kernel_rfl) (by simp) (AllReadyH.cons rfl (fun K hK => ?_) AllReadyH.nil)
        go_simp
        refine (taskOf_any _ (x0, x1, x2, x3)).mono ?_
        rintro r w8 ⟨rfl, hb8⟩
        have HG8 := mkHid (HG7.out.below hb8)
        have HQ8 := mkHid (And.intro (kc hHeld.1 hb8) (And.intro (kc hHeld.2.1 hb8) (And.intro (kc hHeld.2.2.1 hb8) (kc hHeld.2.2.2 hb8))))
        clear hb8
        refine hK.out _ _ HQ8.out (fun hHeld => ?_)
        clear hK K
        
        have HQ9 : Hid (S4 (w8.alloc (.cells #[.int .i64 x0, .int .i64 x1, .int .i64 x2, .int .i64 x3] 68)) wr.heap.size x0 x1 x2 x3) := mkHid ⟨kl hHeld.1 _, kl hHeld.2.1 _, kl hHeld.2.2.1 _, kl hHeld.2.2.2 _⟩
        have HG9 := mkHid (HG8.out.below ((Below.refl _ w8).alloc (Nat.le_refl _) (.cells #[.int .i64 x0, .int .i64 x1, .int .i64 x2, .int .i64 x3] 68)))
        have HS9 := mkHid (src_task w8 (x0, x1, x2, x3))
        have HH8 := mkHid hHeld
        refine wpAnyH_ready (rs := [5]) (by kernel_rfl) (by simp) (AllReadyH.cons rfl (fun K hK => ?_) AllReadyH.nil)
        go_simp
        refine hK.out _ _ HQ9.out (fun hHeld => ?_)
        clear hK K
        (try simp only [Act.put])
        refine wpAnyH_ready (rs := [6]) (by kernel_rfl) (by simp) (AllReadyH.cons rfl (fun K hK => ?_) AllReadyH.nil)
        refine step_append_src4 (w := w8.alloc (.cells #[.int .i64 x0, .int .i64 x1, .int .i64 x2, .int .i64 x3] 68)) rfl (.tmp 41) (.tmp 44) 24 24 rfl (w.heap.size + 1) 68 ie Tryd.underlying24 hie.out.1 zth 32 hie.out.2.1 HZ.out hie.out.2.2.1 hie.out.2.2.2 (.slice ta j tc) j ((ts.take j).flatMap c4) (by simp [Act.eval]) HG9.out.own (.slice (some ⟨w8.heap.size, 0, none⟩) 1 1) 1 (c4 (x0, x1, x2, x3)) (by simp [Act.eval]) HS9.out (by unfold maxLen; omega) (by omega) HG9.out.base ?_
        intro v10 w10 ho10 hg10 hv10
        obtain ⟨ta2, tc2, rfl⟩ := own_shape ho10
        have HG10 := mkHid (HG9.out.grown HXJ.out ho10 hg10 hv10)
        have HQ10 : Hid (S4 w10 wr.heap.size x0 x1 x2 x3) := mkHid (by
          have hk := Kept.grown hg10 (F := fun k => (Value.slice ta j tc).ownBlock = some k) (fun k hk => hk)
          have hn : ¬ (Value.slice ta j tc).ownBlock = some wr.heap.size := HNW.out
          exact ⟨hk.cell HQ9.out.1 hn, hk.cell HQ9.out.2.1 hn, hk.cell HQ9.out.2.2.1 hn, hk.cell HQ9.out.2.2.2 hn⟩)
        clear ho10 hg10 hv10
        refine hK.out _ _ HQ10.out (fun hHeld => ?_)
        clear hK K
        (try simp only [Act.put])
        have e8 : w10.cell? ⟨E, 8, none⟩ = some (.slice ta j tc) := cell_of_block HG10.out.1 rfl
        have g8 : w10.frozen? ⟨E, 8, none⟩ = false := frozen_of_block HG10.out.1
        have HQ11 : Hid (S4 (w10.setCell ⟨E, 8, none⟩ (.slice ta2 (j + 1) tc2)) wr.heap.size x0 x1 x2 x3) := mkHid (by
          have hk := Kept.setCell (F := fun k => k = E) w10 (p := ⟨E, 8, none⟩) rfl (.slice ta2 (j + 1) tc2)
          exact ⟨hk.cell HQ10.out.1 HNE.out, hk.cell HQ10.out.2.1 HNE.out, hk.cell HQ10.out.2.2.1 HNE.out, hk.cell HQ10.out.2.2.2 HNE.out⟩)
        refine takeD 7 46 (.pointer (some ⟨E, 2, none⟩)) rfl rfl (by kernel_rfl) (by kernel_rfl) (by kernel_rfl) (fun _ _ _ h => h) (Or.inl ⟨by kernel_rfl, by intro w hSw; (try dsimp only at hSw); go_simp⟩) hHeld ?_
        simp only [List.set_cons_zero, List.set_cons_succ]
        refine takeD 8 47 (.pointer (some ⟨E, 8, none⟩)) rfl rfl (by kernel_rfl) (by kernel_rfl) (by kernel_rfl) (fun _ _ _ h => h) (Or.inl ⟨by kernel_rfl, by intro w hSw; (try dsimp only at hSw); go_simp⟩) hHeld ?_
        simp only [List.set_cons_zero, List.set_cons_succ]
        refine wpAnyH_ready (rs := [9]) (by kernel_rfl) (by simp) (AllReadyH.cons rfl (fun K hK => ?_) AllReadyH.nil)
        go_simp
        refine hK.out _ _ HQ11.out (fun hHeld => ?_)
        clear hK K hHeld e8 g8
        refine wpAnyH_done (by kernel_rfl) ?_ _
        go_wp2
        go_roundw
        case rel => exact ⟨j + 1, ta2, tc2, by go_num, by omega, mkHid HG10.out.2⟩
        case measure => simp [intOf]; omega
      · go_simp
        refine (taskOf_any _ (x0, x1, x2, x3)).mono ?_
        rintro r w8 ⟨rfl, hb8⟩
        have HG8 := mkHid (HG7.out.below hb8)
        have HQ8 := mkHid (And.intro (kc hHeld.1 hb8) (And.intro (kc hHeld.2.1 hb8) (And.intro (kc hHeld.2.2.1 hb8) (kc hHeld.2.2.2 hb8))))
        clear hb8
        refine hK.out _ _ HQ8.out (fun hHeld => ?_)
        clear hK K
        
        have HQ9 : Hid (S4 (w8.alloc (.cells #[.int .i64 x0, .int .i64 x1, .int .i64 x2, .int .i64 x3] 68)) wr.heap.size x0 x1 x2 x3) := mkHid ⟨kl hHeld.1 _, kl hHeld.2.1 _, kl hHeld.2.2.1 _, kl hHeld.2.2.2 _⟩
        have HG9 := mkHid (HG8.out.below ((Below.refl _ w8).alloc (Nat.le_refl _) (.cells #[.int .i64 x0, .int .i64 x1, .int .i64 x2, .int .i64 x3] 68)))
        have HS9 := mkHid (src_task w8 (x0, x1, x2, x3))
        have HH8 := mkHid hHeld
        refine wpAnyH_ready (rs := [2, 5]) (by kernel_rfl) (by simp) (AllReadyH.cons rfl (fun K hK => ?_) (AllReadyH.cons rfl (fun K hK => ?_) AllReadyH.nil))
        · have e8 : w8.cell? ⟨E, 8, none⟩ = some (.slice ta j tc) := cell_of_block HG8.out.blk rfl
          go_simp
          refine hK.out _ _ hHeld (fun hHeld => ?_)
          clear hK K e8
          refine wpAnyH_ready (rs := [5]) (by kernel_rfl) (by simp) (AllReadyH.cons rfl (fun K hK => ?_) AllReadyH.nil)
          go_simp
          refine hK.out _ _ HQ9.out (fun hHeld => ?_)
          clear hK K
          (try simp only [Act.put])
          refine wpAnyH_ready (rs := [6]) (by kernel_rfl) (by simp) (AllReadyH.cons rfl (fun K hK => ?_) AllReadyH.nil)
          refine step_append_src4 (w := w8.alloc (.cells #[.int .i64 x0, .int .i64 x1, .int .i64 x2, .int .i64 x3] 68)) rfl (.tmp 41) (.tmp 44) 24 24 rfl (w.heap.size + 1) 68 ie Tryd.underlying24 hie.out.1 zth 32 hie.out.2.1 HZ.out hie.out.2.2.1 hie.out.2.2.2 (.slice ta j tc) j ((ts.take j).flatMap c4) (by simp [Act.eval]) HG9.out.own (.slice (some ⟨w8.heap.size, 0, none⟩) 1 1) 1 (c4 (x0, x1, x2, x3)) (by simp [Act.eval]) HS9.out (by unfold maxLen; omega) (by omega) HG9.out.base ?_
          intro v10 w10 ho10 hg10 hv10
          obtain ⟨ta2, tc2, rfl⟩ := own_shape ho10
          have HG10 := mkHid (HG9.out.grown HXJ.out ho10 hg10 hv10)
          have HQ10 : Hid (S4 w10 wr.heap.size x0 x1 x2 x3) := mkHid (by
            have hk := Kept.grown hg10 (F := fun k => (Value.slice ta j tc).ownBlock = some k) (fun k hk => hk)
            have hn : ¬ (Value.slice ta j tc).ownBlock = some wr.heap.size := HNW.out
            exact ⟨hk.cell HQ9.out.1 hn, hk.cell HQ9.out.2.1 hn, hk.cell HQ9.out.2.2.1 hn, hk.cell HQ9.out.2.2.2 hn⟩)
          clear ho10 hg10 hv10
          refine hK.out _ _ HQ10.out (fun hHeld => ?_)
          clear hK K
          (try simp only [Act.put])
          have e8 : w10.cell? ⟨E, 8, none⟩ = some (.slice ta j tc) := cell_of_block HG10.out.1 rfl
          have g8 : w10.frozen? ⟨E, 8, none⟩ = false := frozen_of_block HG10.out.1
          have HQ11 : Hid (S4 (w10.setCell ⟨E, 8, none⟩ (.slice ta2 (j + 1) tc2)) wr.heap.size x0 x1 x2 x3) := mkHid (by
            have hk := Kept.setCell (F := fun k => k = E) w10 (p := ⟨E, 8, none⟩) rfl (.slice ta2 (j + 1) tc2)
            exact ⟨hk.cell HQ10.out.1 HNE.out, hk.cell HQ10.out.2.1 HNE.out, hk.cell HQ10.out.2.2.1 HNE.out, hk.cell HQ10.out.2.2.2 HNE.out⟩)
          refine takeD 7 46 (.pointer (some ⟨E, 2, none⟩)) rfl rfl (by kernel_rfl) (by kernel_rfl) (by kernel_rfl) (fun _ _ _ h => h) (Or.inl ⟨by kernel_rfl, by intro w hSw; (try dsimp only at hSw); go_simp⟩) hHeld ?_
          simp only [List.set_cons_zero, List.set_cons_succ]
          refine takeD 8 47 (.pointer (some ⟨E, 8, none⟩)) rfl rfl (by kernel_rfl) (by kernel_rfl) (by kernel_rfl) (fun _ _ _ h => h) (Or.inl ⟨by kernel_rfl, by intro w hSw; (try dsimp only at hSw); go_simp⟩) hHeld ?_
          simp only [List.set_cons_zero, List.set_cons_succ]
          refine wpAnyH_ready (rs := [9]) (by kernel_rfl) (by simp) (AllReadyH.cons rfl (fun K hK => ?_) AllReadyH.nil)
          go_simp
          refine hK.out _ _ HQ11.out (fun hHeld => ?_)
          clear hK K hHeld e8 g8
          refine wpAnyH_done (by kernel_rfl) ?_ _
          go_wp2
          go_roundw
          case rel => exact ⟨j + 1, ta2, tc2, by go_num, by omega, mkHid HG10.out.2⟩
          case measure => simp [intOf]; omega
        · go_simp
          refine hK.out _ _ HQ9.out (fun hHeld => ?_)
          clear hK K
          (try simp only [Act.put])
          refine wpAnyH_ready (rs := [2]) (by kernel_rfl) (by simp) (AllReadyH.cons rfl (fun K hK => ?_) AllReadyH.nil)
          have e8 : (w8.alloc (.cells #[.int .i64 x0, .int .i64 x1, .int .i64 x2, .int .i64 x3] 68)).cell? ⟨E, 8, none⟩ = some (.slice ta j tc) := cell_of_block HG9.out.blk rfl
          go_simp
          refine hK.out _ _ hHeld (fun hHeld => ?_)
          clear hK K e8
          refine wpAnyH_ready (rs := [6]) (by kernel_rfl) (by simp) (AllReadyH.cons rfl (fun K hK => ?_) AllReadyH.nil)
          refine step_append_src4 (w := w8.alloc (.cells #[.int .i64 x0, .int .i64 x1, .int .i64 x2, .int .i64 x3] 68)) rfl (.tmp 41) (.tmp 44) 24 24 rfl (w.heap.size + 1) 68 ie Tryd.underlying24 hie.out.1 zth 32 hie.out.2.1 HZ.out hie.out.2.2.1 hie.out.2.2.2 (.slice ta j tc) j ((ts.take j).flatMap c4) (by simp [Act.eval]) HG9.out.own (.slice (some ⟨w8.heap.size, 0, none⟩) 1 1) 1 (c4 (x0, x1, x2, x3)) (by simp [Act.eval]) HS9.out (by unfold maxLen; omega) (by omega) HG9.out.base ?_
          intro v10 w10 ho10 hg10 hv10
          obtain ⟨ta2, tc2, rfl⟩ := own_shape ho10
          have HG10 := mkHid (HG9.out.grown HXJ.out ho10 hg10 hv10)
          have HQ10 : Hid (S4 w10 wr.heap.size x0 x1 x2 x3) := mkHid (by
            have hk := Kept.grown hg10 (F := fun k => (Value.slice ta j tc).ownBlock = some k) (fun k hk => hk)
            have hn : ¬ (Value.slice ta j tc).ownBlock = some wr.heap.size := HNW.out
            exact ⟨hk.cell HQ9.out.1 hn, hk.cell HQ9.out.2.1 hn, hk.cell HQ9.out.2.2.1 hn, hk.cell HQ9.out.2.2.2 hn⟩)
          clear ho10 hg10 hv10
          refine hK.out _ _ HQ10.out (fun hHeld => ?_)
          clear hK K
          (try simp only [Act.put])
          have e8 : w10.cell? ⟨E, 8, none⟩ = some (.slice ta j tc) := cell_of_block HG10.out.1 rfl
          have g8 : w10.frozen? ⟨E, 8, none⟩ = false := frozen_of_block HG10.out.1
          have HQ11 : Hid (S4 (w10.setCell ⟨E, 8, none⟩ (.slice ta2 (j + 1) tc2)) wr.heap.size x0 x1 x2 x3) := mkHid (by
            have hk := Kept.setCell (F := fun k => k = E) w10 (p := ⟨E, 8, none⟩) rfl (.slice ta2 (j + 1) tc2)
            exact ⟨hk.cell HQ10.out.1 HNE.out, hk.cell HQ10.out.2.1 HNE.out, hk.cell HQ10.out.2.2.1 HNE.out, hk.cell HQ10.out.2.2.2 HNE.out⟩)
          refine takeD 7 46 (.pointer (some ⟨E, 2, none⟩)) rfl rfl (by kernel_rfl) (by kernel_rfl) (by kernel_rfl) (fun _ _ _ h => h) (Or.inl ⟨by kernel_rfl, by intro w hSw; (try dsimp only at hSw); go_simp⟩) hHeld ?_
          simp only [List.set_cons_zero, List.set_cons_succ]
          refine takeD 8 47 (.pointer (some ⟨E, 8, none⟩)) rfl rfl (by kernel_rfl) (by kernel_rfl) (by kernel_rfl) (fun _ _ _ h => h) (Or.inl ⟨by kernel_rfl, by intro w hSw; (try dsimp only at hSw); go_simp⟩) hHeld ?_
          simp only [List.set_cons_zero, List.set_cons_succ]
          refine wpAnyH_ready (rs := [9]) (by kernel_rfl) (by simp) (AllReadyH.cons rfl (fun K hK => ?_) AllReadyH.nil)
          go_simp
          refine hK.out _ _ HQ11.out (fun hHeld => ?_)
          clear hK K hHeld e8 g8
          refine wpAnyH_done (by kernel_rfl) ?_ _
          go_wp2
          go_roundw
          case rel => exact ⟨j + 1, ta2, tc2, by go_num, by omega, mkHid HG10.out.2⟩
          case measure => simp [intOf]; omega
    · obtain rfl : j = ts.length := by omega
      have hq := HGW.out
      rw [List.take_of_length_le (Nat.le_refl _)] at hq
      have HQ := mkHid hq
      have HA7 := mkHid (getAll_no F B (wr.alloc (.cells #[.int .i64 0, .int .i64 0, .int .i64 0, .int .i64 0] 81)) p wr.heap.size 4 4 81 bs _ ea L r (hq.rr.below ((Below.refl _ wr).alloc (Nat.le_refl _) _)) hl (kl (hq.kept.cell HEV.out (fun f => Nat.lt_irrefl _ (Nat.lt_of_lt_of_le HF.out.1 (HF.out.2.1 _ f)))) _) HF.out.1 HF.out.2.1 (by have := HF.out.2.2; have := hq.kept.size; omega) (by have := HF.out.2.2; have := hq.kept.size; simp; omega) (fun f => by have := hq.lt _ f; have := hq.kept.size; omega) (heap_alloc_new wr _) (by omega) HNO.out.1 HNO.out.2.1 (by rw [← List.drop_drop, HI0.out, List.drop_left]) HNO.out.2.2)
      clear hq
      go_wp2_with (go_at_call 63; refine HA7.out.mono ?_; rintro e w7 ⟨rfl, q3⟩; have hkk : Kept (fun k => F k ∨ k = wr.heap.size) wr w7 := (Kept.alloc _ _ _).trans q3 (fun k hk => .inl hk); have hres7 : w7.heap[w.heap.size]? = some (.cells #[.int .i64 0, .int .i64 0, .int .i64 0, .int .i64 0, .int .i64 0, .int .i64 0, .int .i64 0, .int .i64 0, .slice none 0 0, .int .i64 0] 28 (0, 0)) := by { rw [hkk.block _ (by have := HQ.out.base; omega) (fun e => by rcases e with e | e; have := HQ.out.lt _ e; omega; have := HQ.out.base; omega)]; exact HQ.out.res }; obtain ⟨r0, r1, r2, r3, r4, r5, r6, r7, r8, r9⟩ := ent_cells hres7; obtain ⟨f0, f1, f2, f3, f4, f5, f6, f7, f8, f9⟩ := ent_frozen hres7; have HR7 := mkHid (And.intro hres7 (HQ.out.kept.trans hkk (fun k hk => by rcases hk with a | a; exact .inl a; have := HQ.out.kept.size; exact .inr (by omega)))); clear hkk q3 hres7)
      refine bodyPost_ret (ent_leaves rfl (set10_heap HR7.out.1 _ _ _ _ _ _ _ _ _ _) _ rfl) rfl ⟨rfl, ?_⟩
      exact set10_kept HR7.out.2 (.inr (Nat.le_refl _)) (.int .i64 0) (.int .i64 0) (.int .i64 0) (.int .i64 0) (.int .i64 0) (.int .i64 0) (.int .i64 0) (.int .i64 0) (.slice none 0 0) (.int .i64 0)
end Go.Proofs.YtehnimafjgodeaaDoor
