/- PlanOrders: in any order servers have one share; with one more it is greater. -/
import Derived.Test.YtgmkhhaieolndaaDoorTasks1
import Derived.Test.YtgmkhhaieolndaaDoorPlParts
import Derived.Test.YtgmkhhaieolndaaDoorTill
import Derived.Deep.QuietTactic
import Derived.BigQuiet
namespace Go.Proofs.YtgmkhhaieolndaaDoor
open Go.ChangeShapes Go.WideShapes Go.ChangeAt Go.RowKit
attribute [local go_sem] World.cell?_alloc_some frozen_alloc_some

theorem all_or (xs : List Sv) : (∀ x ∈ xs, okS x) ∨ ∃ x ∈ xs, ¬ okS x := by
  by_cases h : ∃ x ∈ xs, ¬ okS x
  · exact .inr h
  · refine .inl fun x hx => ?_
    by_cases hk : okS x
    · exact hk
    · exact absurd ⟨x, hx, hk⟩ h
theorem orders_len (W : World) (v : Value) (xs : List Sv) (a b : Int) (e0 : Addr) (E : Err W 0 text0 e0) (h : Svs W v xs) (hn : xs.length = 0 ∨ 8 < xs.length) :
    Calls Tryd.prog 6 #[v, .int .i64 a, .int .i64 b] W fun e w' => e = .returned (.bool true) ∧ Below W.heap.size W w' := by
  obtain ⟨av, cap, rfl, hl, h9⟩ := id h
  have HE := mkHid E
  have hc : ((xs.length : Int) == 0) = true ∨ (((xs.length : Int) == 0) = false ∧ (8 : Int) < xs.length) := by
    by_cases e : (xs.length : Int) = 0
    · exact .inl (by simpa using e)
    · exact .inr ⟨by simpa using e, by omega⟩
  clear E h h9 hn
  rcases hc with h1 | ⟨h1, h2⟩
  all_goals
    go_enter Tryd.func6, Tryd.ntmps6
    go_wp2_with (go_at_call 8; refine (alive_is _ e0 HE.out).mono ?_; rintro e w1 ⟨rfl, b1⟩; have HB1 := mkHid b1; clear b1)
    go_ret
    exact ⟨rfl, HB1.out⟩
theorem orders_bad (W : World) (v : Value) (xs : List Sv) (a b : Int) (e0 : Addr) (E : Err W 0 text0 e0) (h : Svs W v xs) (h0 : 0 < xs.length) (h8 : xs.length ≤ 8) (hx : ∃ x ∈ xs, ¬ okS x) :
    Calls Tryd.prog 6 #[v, .int .i64 a, .int .i64 b] W fun e w' => e = .returned (.bool true) ∧ Below W.heap.size W w' := by
  have HS := mkHid h
  obtain ⟨av, cap, rfl, hl, h9⟩ := id h
  have HE := mkHid E
  have HX := mkHid hx
  have h1 : ((xs.length : Int) == 0) = false := by
    have : ¬ (xs.length : Int) = 0 := by omega
    simpa using this
  have h2 : (xs.length : Int) ≤ 8 := by omega
  clear E h h9 h0 h8 hx
  go_enter Tryd.func6, Tryd.ntmps6
  go_wp2_with (first
    | (go_at_call 8; refine (alive_is _ e0 HE.out).mono ?_; rintro e w1 ⟨rfl, b1⟩; have HB1 := mkHid b1; clear b1)
    | (go_at_call 13; refine (servers_no _ _ xs e0 (HS.out.below HB1.out) HX.out (HE.out.late HB1.out).1).mono ?_; rintro e w2 ⟨rfl, b2⟩; have HB2 := mkHid (bt HB1.out b2); clear b2))
  go_ret
  exact ⟨rfl, ba HB2.out _⟩
/-- Servers in a block of the call's own. -/
def Tr (w : World) (g : Nat) (xs : List Sv) : Prop := (∀ i x, xs[i]? = some x → SvAt w g (i * 3) x) ∧ ∀ i, i < xs.length * 3 → w.frozen? ⟨g, i, none⟩ = false
theorem own3 {w : World} {base : Nat} {v : Value} {xs : List Sv} (hp : 0 < xs.length) (h : w.ownsRow base 23 3 v xs.length (xs.flatMap c3)) : ∃ g cap, v = .slice (some ⟨g, 0, none⟩) xs.length cap ∧ base ≤ g ∧ Tr w g xs := by
  obtain ⟨_, ⟨rfl, hn⟩ | ⟨g, cap, cur, rfl, hbg, hg, hnc, hcm, hcs, htake⟩⟩ := id h
  · omega
  · refine ⟨g, cap, rfl, hbg, fun i x hx => ?_, fun i hi => ?_⟩
    · have hc := h.cells (g := g) rfl
      have e : ∀ r u, r < 3 → (c3 x)[r]? = some u → w.cell? ⟨g, i * 3 + r, none⟩ = some u := by
        intro r u hr hu
        have := hc (i * 3 + r) u (by rw [fl_get c3 3 (fun _ => rfl) xs i r x hx hr]; exact hu)
        rw [add_none] at this
        simpa using this
      exact ⟨by simpa using e 0 _ (by omega) rfl, e 1 _ (by omega) rfl, e 2 _ (by omega) rfl⟩
    · simp [World.frozen?, hg]
theorem Tr.below {w w' : World} {g : Nat} {xs : List Sv} (h : Tr w g xs) (hb : Below w.heap.size w w') : Tr w' g xs := by
  refine ⟨fun i x hx => (h.1 i x hx).below hb, fun i hi => ?_⟩
  obtain ⟨x, hx⟩ : ∃ x, xs[i / 3]? = some x := ⟨_, List.getElem?_eq_getElem (by omega)⟩
  obtain ⟨c, _, _⟩ := h.1 _ x hx
  have := cell_lt c
  rw [hb.frozen (p := ⟨g, i, none⟩) this]
  exact h.2 i hi
theorem Tr.svs {w : World} {g : Nat} {xs : List Sv} (h : Tr w g xs) (hl : xs.length ≤ 8) (cap : Nat) : Svs w (.slice (some ⟨g, 0, none⟩) xs.length cap) xs :=
  ⟨_, _, rfl, by omega, fun _ => ⟨g, 0, rfl, fun i x hx => by rw [Nat.zero_add]; exact h.1 i x hx⟩⟩
/-- One of them is written over. -/
theorem Tr.set {w : World} {g : Nat} {xs : List Sv} (h : Tr w g xs) (i : Nat) (x : Sv) : Tr (((w.setCell ⟨g, i * 3, none⟩ (.int .i64 x.1)).setCell ⟨g, i * 3 + 1, none⟩ (.int .i64 x.2.1)).setCell ⟨g, i * 3 + 2, none⟩ (.int .i64 x.2.2)) g (xs.set i x) := by
  refine ⟨fun j y hy => ?_, fun j hj => ?_⟩
  · have hjl : j < xs.length := by have := (List.getElem?_eq_some_iff.mp hy).1; simpa using this
    obtain ⟨z, hz⟩ : ∃ z, xs[j]? = some z := ⟨_, List.getElem?_eq_getElem hjl⟩
    obtain ⟨c0, c1, c2⟩ := h.1 j z hz
    by_cases e : i = j
    · subst e
      rw [List.getElem?_set_self hjl] at hy
      simp at hy
      subst hy
      refine ⟨?_, ?_, ?_⟩ <;> simp [go_sem, c0, c1, c2]
    · rw [List.getElem?_set_ne e, hz] at hy
      simp at hy
      subst hy
      refine ⟨?_, ?_, ?_⟩
      · rw [World.cell?_setCell_other _ _ _ _ (by intro e; simp at e <;> omega), World.cell?_setCell_other _ _ _ _ (by intro e; simp at e <;> omega), World.cell?_setCell_other _ _ _ _ (by intro e; simp at e <;> omega)]
        exact c0
      · rw [World.cell?_setCell_other _ _ _ _ (by intro e; simp at e <;> omega), World.cell?_setCell_other _ _ _ _ (by intro e; simp at e <;> omega), World.cell?_setCell_other _ _ _ _ (by intro e; simp at e <;> omega)]
        exact c1
      · rw [World.cell?_setCell_other _ _ _ _ (by intro e; simp at e <;> omega), World.cell?_setCell_other _ _ _ _ (by intro e; simp at e <;> omega), World.cell?_setCell_other _ _ _ _ (by intro e; simp at e <;> omega)]
        exact c2
  · have := h.2 j (by simpa using hj)
    simp [go_sem, this]
theorem drewN_below (w : World) (n : Nat) : Below w.heap.size w (w.drewN n) := ⟨rfl, rfl, rfl, Nat.le_refl _, fun _ _ => rfl⟩
theorem idx_of (a : Int) (n : Nat) (hn : 0 < n) (h8 : n ≤ 8) : ∃ i : Nat, i < n ∧ (wrap64 (a.tmod n + n)).tmod n = (i : Int) := by
  have h1 := Int.tmod_lt_of_pos a (show (0 : Int) < n by omega)
  have h2 : -(n : Int) < a.tmod n := Int.lt_tmod_of_pos a (show (0 : Int) < n by omega)
  have e : wrap64 (a.tmod n + n) = a.tmod n + n := by unfold wrap64; omega
  rw [e, Int.tmod_eq_emod_of_nonneg (by omega)]
  have h3 := Int.emod_nonneg (a.tmod n + n) (show (n : Int) ≠ 0 by omega)
  have h4 := Int.emod_lt_of_pos (a.tmod n + n) (show (0 : Int) < n by omega)
  exact ⟨((a.tmod n + n) % n).toNat, by omega, by omega⟩
theorem P4.far {w : World} {r : Nat} {A B C E : Int} (h : P4 w r A B C E) {p : Addr} (hn : r ≠ p.block) (x : Value) : P4 (w.setCell p x) r A B C E := by
  obtain ⟨⟨h0, h1, h2, h3⟩, g0, g1, g2, g3⟩ := h
  have e : ∀ o, (w.setCell p x).cell? ⟨r, o, none⟩ = w.cell? ⟨r, o, none⟩ := fun o => World.cell?_setCell_far w p _ x (fun e => hn e.symm)
  refine ⟨⟨(e 0).trans h0, (e 1).trans h1, (e 2).trans h2, (e 3).trans h3⟩, ?_, ?_, ?_, ?_⟩ <;> simp [go_sem, *]
theorem Svs.row {w : World} {a : Option Addr} {n cap : Nat} {xs : List Sv} (h : Svs w (.slice a n cap) xs) (hp : 0 < xs.length) : ∃ b off, a = some ⟨b, off, none⟩ ∧ ∀ i x, xs[i]? = some x → SvAt w b (off + i * 3) x := by
  obtain ⟨a', c', e, _, hr⟩ := h
  simp at e
  obtain ⟨rfl, rfl, rfl⟩ := e
  exact hr hp
theorem Svs.cut {w : World} {a : Option Addr} {cap : Nat} {xs : List Sv} (h : Svs w (.slice a xs.length cap) xs) : Svs w (.slice a (xs.length - 1) cap) (xs.take (xs.length - 1)) := by
  obtain ⟨a', c', e, hl, hr⟩ := h
  simp at e
  obtain ⟨rfl, rfl⟩ := e
  have hlen : (xs.take (xs.length - 1)).length = xs.length - 1 := by rw [List.length_take]; omega
  refine ⟨a, cap, by rw [hlen], by rw [hlen]; omega, fun hp => ?_⟩
  obtain ⟨b, off, rfl, hc⟩ := hr (by omega)
  refine ⟨b, off, rfl, fun i x hx => hc i x ?_⟩
  have hi : i < xs.length - 1 := by have := (List.getElem?_eq_some_iff.mp hx).1; omega
  rw [List.getElem?_take_of_lt hi] at hx
  exact hx
/-- What is known of all servers but the last, and of the last. -/
structure LastM (R1 R2 R3 R4 q t A B C D : Int) : Prop where
  plus : PlIs (wv R1 R2) (wv R3 R4) q t A B C D true
  mul : ∃ MH ML, Is (wv R1 R2 * t) MH ML true
  lt : wv R1 R2 * t < wv A B
theorem last_math {xs : List Sv} {k q t R1 R2 R3 R4 A B C D : Int} (h0 : 0 < xs.length) (h8 : xs.length ≤ 8) (hx : ∀ x ∈ xs, okS x) (hl : xs[xs.length - 1]? = some (k, q, t)) (hr : Pt (sh ((xs.take (xs.length - 1)).map qt)) R1 R2 R3 R4) (hp : Pt (sh (xs.map qt)) A B C D) : LastM R1 R2 R3 R4 q t A B C D := by
  have hk := ok_at hx hl
  obtain ⟨_, _, k1, k2, k3⟩ := id hk
  simp only at k1 k2 k3
  have f := sh_fit ((xs.take (xs.length - 1)).map qt) (fun y hy => by obtain ⟨x, hm, rfl⟩ := List.mem_map.mp hy; exact (hx x (List.mem_of_mem_take hm)).q) (by simp; omega)
  have e : sh (xs.map qt) = addp (sh ((xs.take (xs.length - 1)).map qt)) (q, t) := by
    have := take_qt hl
    rw [Nat.sub_add_cancel h0, List.take_of_length_le (by simp)] at this
    rw [this, sh_snoc, List.map_take]
    rfl
  rw [e] at hp
  refine ⟨pt_pl hr hp hk.q f.1, ?_, ?_⟩
  · have hb : wv R1 R2 * t < 340282366920938463463374607431768211456 := by
      rw [hr.n]
      have := Int.mul_le_mul f.2.2.2 k3 (by omega) (by decide)
      omega
    have hn : 0 ≤ wv R1 R2 * t := Int.mul_nonneg (wv_lo hr.a hr.b) (by omega)
    obtain ⟨H, L, a, b, e⟩ := halves _ hn hb
    exact ⟨H, L, is_of a b (by unfold wv at *; omega)⟩
  · have h1 : wv A B = wv R1 R2 * t + wv R3 R4 * q := by rw [hp.n, hr.n, hr.d]; rfl
    have h2 : 1 ≤ wv R3 R4 * q := by rw [hr.d]; have := Int.mul_le_mul f.1 k1 (by omega) (by omega); omega
    omega
theorem swap_perm {xs : List Sv} {i k : Nat} {a b : Sv} (ha : xs[i]? = some a) (hb : xs[k]? = some b) : ((xs.set i b).set k a).Perm xs := by
  obtain ⟨h1, rfl⟩ := List.getElem?_eq_some_iff.mp ha
  obtain ⟨h2, rfl⟩ := List.getElem?_eq_some_iff.mp hb
  exact List.set_set_perm h1 h2
theorem freeD {P : Program} {md : Region.Mode} {ops : Array Oper} {Q : Exit → Act → World → Prop} {T : World → Prop} {s n : Nat} {l : Array Bool} {t : List Value} {df : List Deferred} {w : World} {oi : Oper} (i d : Nat) (v : Value) (hi : ops[i]? = some oi) (hd : oi.dst = some d) (hs : Region.noSelect ops = true) (hf : Region.free md ops l i = true) (hr : (Region.ready md ops l).contains i = true)
    (his : i ≠ s) (hQ : ∀ c a w, Q (.panic c) (a.put oi.dst v) w → Q (.panic c) a w) (hT : l.getD s true = false → T w) (hy : YieldsIf P ops (fun _ => True) oi v ⟨t.toArray, df⟩) (h : wpT P md ops Q T s n (l.setIfInBounds i true) ⟨(t.set d v).toArray, df⟩ w) : wpT P md ops Q T s (n + 1) l ⟨t.toArray, df⟩ w := by
  refine wpT_free i v hi hs hf hr his hQ hT hy ?_
  rw [hd]
  simpa [Act.put] using h
theorem firstD {P : Program} {md : Region.Mode} {ops : Array Oper} {Q : Exit → Act → World → Prop} {T : World → Prop} {s n : Nat} {l : Array Bool} {t : List Value} {df : List Deferred} {w : World} {oi : Oper} (i d : Nat) (v : Value) (hi : ops[i]? = some oi) (hd : oi.dst = some d) (hs : Region.noSelect ops = true) (hf : Region.free md ops l i = true) (hr : (Region.ready md ops l).contains i = true) (hsf : l.getD s true = false)
    (his : i ≠ s) (hw : waits md ops s i = true) (hQ : ∀ c a w, Q (.panic c) (a.put oi.dst v) w → Q (.panic c) a w) (hy : YieldsIf P ops T oi v ⟨t.toArray, df⟩) (hT : T w) (h : wpT P md ops Q T s n (l.setIfInBounds i true) ⟨(t.set d v).toArray, df⟩ w) : wpT P md ops Q T s (n + 1) l ⟨t.toArray, df⟩ w := by
  refine wpT_first i v hi hs hf hr hsf his hw hQ hy hT ?_
  rw [hd]
  simpa [Act.put] using h
set_option maxHeartbeats 1600000 in
theorem orders_ok (W : World) (av : Option Addr) (cap : Nat) (xs : List Sv) (a b : Int) (e0 : Addr) (E : Err W 0 text0 e0) (h : Svs W (.slice av xs.length cap) xs) (hcap : xs.length ≤ cap) (h0 : 0 < xs.length) (h8 : xs.length ≤ 8) (hx : ∀ x ∈ xs, okS x) :
    Calls Tryd.prog 6 #[.slice av xs.length cap, .int .i64 a, .int .i64 b] W fun e w' => e = .returned (.bool true) ∧ Below W.heap.size W w' := by
  have HS := mkHid h
  obtain ⟨A, B, C, D, hp⟩ := sh_pt (xs.map qt) (fun y hy => by obtain ⟨x, hm, rfl⟩ := List.mem_map.mp hy; exact (hx x hm).q) (by simpa using h8)
  have HP := mkHid hp
  have HE := mkHid E
  have HX := mkHid hx
  have h1 : ((xs.length : Int) == 0) = false := by
    have : ¬ (xs.length : Int) = 0 := by omega
    simpa using this
  have h2 : (xs.length : Int) ≤ 8 := by omega
  have h3 : ¬ (xs.length : Int) = 0 := by omega
  have h4 : 1 ≤ (xs.length : Int) := by omega
  have h5 : ¬ xs = [] := by intro e; rw [e] at h0; simp at h0
  have H0 := mkHid h0
  have H8 := mkHid h8
  have HC := mkHid hcap
  obtain ⟨ie, hie⟩ : ∃ ie, Hid (Tryd.prog.info? 23 = some ie ∧ ie.zero = some (.agg #[.int .i64 0, .int .i64 0, .int .i64 0]) ∧ ie.size = 3 ∧ ie.bytes = 24) := by
    obtain ⟨ie, h1, h2, h3, h4⟩ := info_parts info_server
    exact ⟨ie, mkHid ⟨h1, h2, h3, h4⟩⟩
  have M1 : Hid True := mkHid trivial
  clear E h h0 h8 hx hp hcap
  go_enter Tryd.func6, Tryd.ntmps6
  go_wp2_with (first
    | (go_at_call 8; refine (alive_is _ e0 HE.out).mono ?_; rintro e w1 ⟨rfl, b1⟩; have HB1 := mkHid b1; clear b1)
    | (go_at_call 13; clear M1; refine (servers_ok _ _ xs A B C D (HS.out.below HB1.out) HX.out H8.out HP.out).mono ?_; rintro e w2 ⟨rfl, b2⟩; have HB2 := mkHid (ba (bt HB1.out b2) (oP A B C D)); clear b2)
    | (at_builtin; have hm := World.ownsRow_made (base := (w2.alloc (oP A B C D)).heap.size) (e := 23) (size := 3) (w2.alloc (oP A B C D)) #[] 0 (Nat.le_refl _) (by unfold maxLen; omega) rfl; have hm2 : ((w2.alloc (oP A B C D)).alloc (Obj.cells #[] 23)).ownsRow (w2.heap.size + 1) 23 3 (.slice (some ⟨w2.heap.size + 1, 0, none⟩) 0 0) 0 [] := (by simpa using hm); refine wpList_append_src3 _ rfl (.tmp 36) (.tmp 37) 33 33 rfl (w2.heap.size + 1) 23 ie Tryd.underlying33 hie.out.1 (.agg #[.int .i64 0, .int .i64 0, .int .i64 0]) 24 hie.out.2.1 rfl hie.out.2.2.1 hie.out.2.2.2 (.slice (some ⟨w2.heap.size + 1, 0, none⟩) 0 0) 0 [] rfl hm2 (.slice av xs.length cap) xs.length (xs.flatMap c3) rfl (HS.out.below (ba HB2.out _)).src (by have := H8.out; unfold maxLen; omega) (by have := H8.out; omega) (by simp) ?_; intro v4 w4 ho4 hg4 hat4; rw [Nat.zero_add, List.nil_append] at ho4; have b4 : Below (w2.alloc (oP A B C D)).heap.size (w2.alloc (oP A B C D)) w4 := ((Below.refl _ (w2.alloc (oP A B C D))).alloc (Nat.le_refl _) (.cells #[] 23)).grown hg4 (by simp) (fun k hk => by simp [Value.ownBlock] at hk; simp; omega); have HB4 := mkHid (bt HB2.out b4); have HP4 := mkHid ((P4.new w2 A B C D).below b4); obtain ⟨g, cg, rfl, hbg, htr⟩ := own3 H0.out ho4; have HG := mkHid hbg; have HT := mkHid htr; clear hm hm2 ho4 hg4 hat4 b4 htr hbg))
  go_quiet (fail)
  obtain ⟨i, hi, ei⟩ := idx_of a xs.length H0.out H8.out
  obtain ⟨k, hk, ek⟩ := idx_of b xs.length H0.out H8.out
  rw [ei, ek]
  have hb5 := drewN_below w4 nq
  have HB5 := mkHid (bt HB4.out hb5)
  have HP5 := mkHid (HP4.out.below hb5)
  have HT5 := mkHid (HT.out.below hb5)
  have HN5 : Hid (w2.heap.size < (w4.drewN nq).heap.size) := mkHid HP5.out.lt
  clear hb5 HB4 HP4 HT ei ek
  generalize w4.drewN nq = w5 at *
  obtain ⟨⟨ka, qa, ta⟩, hxa⟩ : ∃ x, xs[i]? = some x := ⟨_, List.getElem?_eq_getElem hi⟩
  obtain ⟨⟨kb, qb, tb⟩, hxb⟩ : ∃ x, xs[k]? = some x := ⟨_, List.getElem?_eq_getElem hk⟩
  obtain ⟨ca, cb, cc⟩ := HT5.out.1 i _ hxa
  obtain ⟨da, db, dc⟩ := HT5.out.1 k _ hxb
  have hii : (i : Int) < xs.length := by omega
  have hki : (k : Int) < xs.length := by omega
  have fa := HT5.out.2 (i * 3) (by omega)
  have fb := HT5.out.2 (i * 3 + 1) (by omega)
  have fc := HT5.out.2 (i * 3 + 2) (by omega)
  go_wp2
  have hT : (fun w' : World => (w'.cell? ⟨g, i * 3, none⟩ = some (.int .i64 ka) ∧ w'.cell? ⟨g, i * 3 + 1, none⟩ = some (.int .i64 qa) ∧ w'.cell? ⟨g, i * 3 + 2, none⟩ = some (.int .i64 ta)) ∧ (w'.cell? ⟨g, k * 3, none⟩ = some (.int .i64 kb) ∧ w'.cell? ⟨g, k * 3 + 1, none⟩ = some (.int .i64 qb) ∧ w'.cell? ⟨g, k * 3 + 2, none⟩ = some (.int .i64 tb))) w5.drew := ⟨⟨ca, cb, cc⟩, da, db, dc⟩
  refine wp_region_till (fun w' => (w'.cell? ⟨g, i * 3, none⟩ = some (.int .i64 ka) ∧ w'.cell? ⟨g, i * 3 + 1, none⟩ = some (.int .i64 qa) ∧ w'.cell? ⟨g, i * 3 + 2, none⟩ = some (.int .i64 ta)) ∧ (w'.cell? ⟨g, k * 3, none⟩ = some (.int .i64 kb) ∧ w'.cell? ⟨g, k * 3 + 1, none⟩ = some (.int .i64 qb) ∧ w'.cell? ⟨g, k * 3 + 2, none⟩ = some (.int .i64 tb))) 13 (by kernel_rfl) ?_
  refine freeD 0 59 (.slice (some ⟨g, 0, none⟩) xs.length cg) rfl rfl (by kernel_rfl) (by kernel_rfl) (by kernel_rfl) (by decide) (fun _ _ _ h => h) (fun _ => hT) (Or.inl ⟨by kernel_rfl, by intro w _; go_simp⟩) ?_
  simp only [List.set_cons_zero, List.set_cons_succ]
  refine freeD 1 60 (.int .i64 (i : Int)) rfl rfl (by kernel_rfl) (by kernel_rfl) (by kernel_rfl) (by decide) (fun _ _ _ h => h) (fun _ => hT) (Or.inl ⟨by kernel_rfl, by intro w _; go_simp⟩) ?_
  simp only [List.set_cons_zero, List.set_cons_succ]
  refine freeD 2 61 (.slice (some ⟨g, 0, none⟩) xs.length cg) rfl rfl (by kernel_rfl) (by kernel_rfl) (by kernel_rfl) (by decide) (fun _ _ _ h => h) (fun _ => hT) (Or.inl ⟨by kernel_rfl, by intro w _; go_simp⟩) ?_
  simp only [List.set_cons_zero, List.set_cons_succ]
  refine freeD 3 62 (.int .i64 (k : Int)) rfl rfl (by kernel_rfl) (by kernel_rfl) (by kernel_rfl) (by decide) (fun _ _ _ h => h) (fun _ => hT) (Or.inl ⟨by kernel_rfl, by intro w _; go_simp⟩) ?_
  simp only [List.set_cons_zero, List.set_cons_succ]
  refine freeD 4 63 (.slice (some ⟨g, 0, none⟩) xs.length cg) rfl rfl (by kernel_rfl) (by kernel_rfl) (by kernel_rfl) (by decide) (fun _ _ _ h => h) (fun _ => hT) (Or.inl ⟨by kernel_rfl, by intro w _; go_simp⟩) ?_
  simp only [List.set_cons_zero, List.set_cons_succ]
  refine freeD 5 64 (.int .i64 (k : Int)) rfl rfl (by kernel_rfl) (by kernel_rfl) (by kernel_rfl) (by decide) (fun _ _ _ h => h) (fun _ => hT) (Or.inl ⟨by kernel_rfl, by intro w _; go_simp⟩) ?_
  simp only [List.set_cons_zero, List.set_cons_succ]
  refine freeD 6 65 (.pointer (some ⟨g, k * 3, none⟩)) rfl rfl (by kernel_rfl) (by kernel_rfl) (by kernel_rfl) (by decide) (fun _ _ _ h => h) (fun _ => hT) (Or.inl ⟨by kernel_rfl, by intro w _; go_simp⟩) ?_
  simp only [List.set_cons_zero, List.set_cons_succ]
  refine firstD 7 66 (.agg #[.int .i64 kb, .int .i64 qb, .int .i64 tb]) rfl rfl (by kernel_rfl) (by kernel_rfl) (by kernel_rfl) (by kernel_rfl) (by decide) (by kernel_rfl) (fun _ _ _ h => h) (Or.inl ⟨by kernel_rfl, by intro w hSw; (try dsimp only at hSw); go_simp⟩) hT ?_
  simp only [List.set_cons_zero, List.set_cons_succ]
  refine freeD 8 67 (.slice (some ⟨g, 0, none⟩) xs.length cg) rfl rfl (by kernel_rfl) (by kernel_rfl) (by kernel_rfl) (by decide) (fun _ _ _ h => h) (fun _ => hT) (Or.inl ⟨by kernel_rfl, by intro w _; go_simp⟩) ?_
  simp only [List.set_cons_zero, List.set_cons_succ]
  refine freeD 9 68 (.int .i64 (i : Int)) rfl rfl (by kernel_rfl) (by kernel_rfl) (by kernel_rfl) (by decide) (fun _ _ _ h => h) (fun _ => hT) (Or.inl ⟨by kernel_rfl, by intro w _; go_simp⟩) ?_
  simp only [List.set_cons_zero, List.set_cons_succ]
  refine freeD 10 69 (.pointer (some ⟨g, i * 3, none⟩)) rfl rfl (by kernel_rfl) (by kernel_rfl) (by kernel_rfl) (by decide) (fun _ _ _ h => h) (fun _ => hT) (Or.inl ⟨by kernel_rfl, by intro w _; go_simp⟩) ?_
  simp only [List.set_cons_zero, List.set_cons_succ]
  refine firstD 11 70 (.agg #[.int .i64 ka, .int .i64 qa, .int .i64 ta]) rfl rfl (by kernel_rfl) (by kernel_rfl) (by kernel_rfl) (by kernel_rfl) (by decide) (by kernel_rfl) (fun _ _ _ h => h) (Or.inl ⟨by kernel_rfl, by intro w hSw; (try dsimp only at hSw); go_simp⟩) hT ?_
  simp only [List.set_cons_zero, List.set_cons_succ]
  refine freeD 12 71 (.pointer (some ⟨g, i * 3, none⟩)) rfl rfl (by kernel_rfl) (by kernel_rfl) (by kernel_rfl) (by decide) (fun _ _ _ h => h) (fun _ => hT) (Or.inl ⟨by kernel_rfl, by intro w _; go_simp⟩) ?_
  simp only [List.set_cons_zero, List.set_cons_succ]
  refine wpT_ready (rs := [13]) (by kernel_rfl) (by simp) (AllT.cons rfl (fun K hK => ?_) AllT.nil)
  go_simp
  have hwg : W.heap.size ≤ g := by have h1 := HB2.out.size; have h2 := HG.out; simp at h1; omega
  have hng : w2.heap.size ≠ g := by have h2 := HG.out; omega
  obtain ⟨w6, h6⟩ : ∃ w6, w6 = (((w5.setCell ⟨g, i * 3, none⟩ (.int .i64 kb)).setCell ⟨g, i * 3 + 1, none⟩ (.int .i64 qb)).setCell ⟨g, i * 3 + 2, none⟩ (.int .i64 tb)).drew := ⟨_, rfl⟩
  have HT6 : Hid (Tr w6 g (xs.set i (kb, qb, tb))) := mkHid (by rw [h6]; exact (HT5.out.set i (kb, qb, tb)).below (Below.refl _ _).drew)
  have HB6 : Hid (Below W.heap.size W w6) := mkHid (by rw [h6]; exact (((HB5.out.setCell hwg _).setCell hwg _).setCell hwg _).drew)
  have HP6 : Hid (P4 w6 w2.heap.size A B C D) := mkHid (by rw [h6]; exact (((HP5.out.far hng _).far hng _).far hng _).below (Below.refl _ _).drew)
  rw [← h6]
  clear h6 hT HB5 HP5 HT5 ca cb cc da db dc fa fb fc
  refine hK.out _ _ (bool_no (by kernel_rfl)) ?_
  clear hK K
  refine freeD 14 72 (.pointer (some ⟨g, k * 3, none⟩)) rfl rfl (by kernel_rfl) (by kernel_rfl) (by kernel_rfl) (by decide) (fun _ _ _ h => h) (bool_no (by kernel_rfl)) (Or.inl ⟨by kernel_rfl, by intro w _; go_simp⟩) ?_
  simp only [List.set_cons_zero, List.set_cons_succ]
  obtain ⟨⟨kz, qz, tz⟩, hxz⟩ : ∃ x, (xs.set i (kb, qb, tb))[k]? = some x := ⟨_, List.getElem?_eq_getElem (by simpa using hk)⟩
  obtain ⟨da, db, dc⟩ := HT6.out.1 k _ hxz
  have fa := HT6.out.2 (k * 3) (by simp; omega)
  have fb := HT6.out.2 (k * 3 + 1) (by simp; omega)
  have fc := HT6.out.2 (k * 3 + 2) (by simp; omega)
  refine wpT_ready (rs := [15]) (by kernel_rfl) (by simp) (AllT.cons rfl (fun K hK => ?_) AllT.nil)
  go_simp
  obtain ⟨w7, h7⟩ : ∃ w7, w7 = ((w6.setCell ⟨g, k * 3, none⟩ (.int .i64 ka)).setCell ⟨g, k * 3 + 1, none⟩ (.int .i64 qa)).setCell ⟨g, k * 3 + 2, none⟩ (.int .i64 ta) := ⟨_, rfl⟩
  have HT7 : Hid (Tr w7 g ((xs.set i (kb, qb, tb)).set k (ka, qa, ta))) := mkHid (by rw [h7]; exact HT6.out.set k (ka, qa, ta))
  have HB7 : Hid (Below W.heap.size W w7) := mkHid (by rw [h7]; exact ((HB6.out.setCell hwg _).setCell hwg _).setCell hwg _)
  have HP7 : Hid (P4 w7 w2.heap.size A B C D) := mkHid (by rw [h7]; exact ((HP6.out.far hng _).far hng _).far hng _)
  rw [← h7]
  clear h7 HB6 HP6 HT6 da db dc fa fb fc
  refine hK.out _ _ (bool_no (by kernel_rfl)) ?_
  clear hK K
  refine wpT_done (by kernel_rfl) ?_ _
  have hpm := swap_perm hxa hxb
  have hlen := hpm.length_eq
  obtain ⟨ys, hys⟩ : ∃ ys, ys = (xs.set i (kb, qb, tb)).set k (ka, qa, ta) := ⟨_, rfl⟩
  rw [← hys] at HT7 hpm hlen
  have HS7 : Hid (Svs w7 (.slice (some ⟨g, 0, none⟩) xs.length cg) ys) := mkHid (by have h := HT7.out.svs (by rw [hlen]; exact H8.out) cg; rw [hlen] at h; exact h)
  have HY : Hid ((∀ x ∈ ys, okS x) ∧ ys.length ≤ 8 ∧ Pt (sh (ys.map qt)) A B C D) := mkHid ⟨fun x hm => HX.out x (hpm.mem_iff.mp hm), by rw [hlen]; exact H8.out, by rw [sh_perm (hpm.map qt)]; exact HP.out⟩
  clear hys hpm hlen hxz hxa hxb
  obtain ⟨sb, so, hav, hat⟩ := HS.out.row H0.out
  subst hav
  obtain ⟨⟨kl, ql, tl⟩, hla⟩ : ∃ x, xs[xs.length - 1]? = some x := ⟨_, List.getElem?_eq_getElem (by have := H0.out; omega)⟩
  obtain ⟨l0, l1, l2⟩ := hat _ _ hla
  have hlk := ok_at HX.out hla
  obtain ⟨t1, t2⟩ : 1 ≤ tl ∧ tl ≤ 256 := by obtain ⟨_, _, h1, h2, h3⟩ := hlk; simp only at h1 h2 h3; exact ⟨by omega, h3⟩
  have hcl : (xs.length : Int) - 1 ≤ cap := by have := HC.out; omega
  obtain ⟨R1, R2, R3, R4, hr⟩ := sh_pt ((xs.take (xs.length - 1)).map qt) (fun y hy => by obtain ⟨x, hm, rfl⟩ := List.mem_map.mp hy; exact (HX.out x (List.mem_of_mem_take hm)).q) (by have := H8.out; simp; omega)
  have HL := mkHid (last_math H0.out H8.out HX.out hla hr HP.out)
  obtain ⟨MH, ML, hmi⟩ := HL.out.mul
  have HMI := mkHid hmi
  have HR := mkHid hr
  have HLK := mkHid hlk
  have HLL := mkHid (And.intro l0 (And.intro l1 l2))
  have HTW : Hid (Word tl) := mkHid ⟨by omega, by omega⟩
  have HCM : Hid ((-1 : Int) = cmpI (MH * 18446744073709551616 + ML) (A * 18446744073709551616 + B)) := mkHid (by have h1 := hmi.yes rfl; unfold wv at h1; rw [h1]; exact cmp_lt (by have h2 := HL.out.lt; unfold wv at h2; exact h2))
  have M1 : Hid True := mkHid trivial
  clear hat hla l0 l1 l2 hlk hr hmi
  go_wp2_with (first
    | (go_at_call 13; clear M1; refine (servers_ok _ _ ys A B C D HS7.out HY.out.1 HY.out.2.1 HY.out.2.2).mono ?_; rintro e w8 ⟨rfl, b8⟩; have HB8 := mkHid (bt HB7.out b8); have HP8 := mkHid (HP7.out.below b8); clear b8)
    | (go_at_call 13; refine (servers_ok _ _ (xs.take (xs.length - 1)) R1 R2 R3 R4 ((HS.out.below (ba HB8.out _)).cut) (fun x hx => HX.out x (List.mem_of_mem_take hx)) (by have := H8.out; simp; omega) HR.out).mono ?_; rintro e w9 ⟨rfl, b9⟩; have HB9 := mkHid (bt (ba HB8.out _) b9); have HP9 := mkHid ((HP8.out.alloc _).below b9); have HQ9 := mkHid ((P4.new w8 A B C D).below b9); have l0 := kc HLL.out.1 HB9.out; have l1 := kc HLL.out.2.1 HB9.out; have l2 := kc HLL.out.2.2 HB9.out; clear b9)
    | (go_at_call 21; refine (plus_is HR.out.a HR.out.b HR.out.c HR.out.e HLK.out.i64.1 HLK.out.i64.2 HL.out.plus).mono ?_; rintro e w10 ⟨rfl, b10⟩; have HB10 := mkHid (bt (ba (ba HB9.out _) _) b10); have HP10 := mkHid (((HP9.out.alloc _).alloc _).below b10); have HQ10 := mkHid (((HQ9.out.alloc _).alloc _).below b10); obtain ⟨r0, r1, r2, r3⟩ := (((P4.new w9 R1 R2 R3 R4).alloc _).below b10).cells; have hs3 : S3 w10 (w9.heap.size + 1) (kl, ql, tl) := (by have h := (S3.new (w9.alloc (oP R1 R2 R3 R4)) (kl, ql, tl)).below b10; simpa using h); obtain ⟨s0, s1, s2⟩ := hs3; clear b10 l0 l1 l2)
    | (go_at_call 22; refine (wmul_is HR.out.a HR.out.b HTW.out HMI.out).mono ?_; rintro e w11 ⟨rfl, b11⟩; have HB11 := mkHid (bt (ba HB10.out _) b11); obtain ⟨p0, p1, p2, p3⟩ := ((HP10.out.alloc _).below b11).cells; obtain ⟨q0, q1, q2, q3⟩ := ((HQ10.out.alloc _).below b11).cells; obtain ⟨a0, a1, a2, a3⟩ := ((P4.new w10 A B C D).below b11).cells; clear b11 r0 r1 r2 r3 s0 s1 s2)
    | (go_at_call 23; refine (wcmp HMI.out.h HMI.out.l HP.out.a HP.out.b HCM.out).mono ?_; rintro e w12 ⟨rfl, b12⟩; have HB12 := mkHid (bt (ba HB11.out _) b12); clear b12))
  go_ret
  exact ⟨rfl, HB12.out⟩
theorem orders_walk (W : World) (v : Value) (xs : List Sv) (a b : Int) (e0 : Addr) (E : Err W 0 text0 e0) (h : Svs W v xs) (hc : ∀ a n c, v = .slice a n c → n ≤ c) :
    Calls Tryd.prog 6 #[v, .int .i64 a, .int .i64 b] W fun e w' => e = .returned (.bool true) ∧ Below W.heap.size W w' := by
  by_cases hn : xs.length = 0 ∨ 8 < xs.length
  · exact orders_len W v xs a b e0 E h hn
  · rcases all_or xs with hx | hx
    · obtain ⟨av, cap, rfl, _⟩ := id h
      exact orders_ok W av cap xs a b e0 E h (hc _ _ _ rfl) (by omega) (by omega) hx
    · exact orders_bad W v xs a b e0 E h (by omega) (by omega) hx
end Go.Proofs.YtgmkhhaieolndaaDoor
