import Derived.Test.YtcbimclgodkflaaDoorWop1
import Derived.Test.YtcbimclgodkflaaDoorLists
import Derived.Test.YtcbimclgodkflaaDoorBaseA
/- Open. -/
namespace Go.Proofs.YtcbimclgodkflaaDoor
open Go.ChangeShapes Go.WideShapes Go.ChangeAt Go.RowKit
set_option maxRecDepth 100000

theorem lst_put {G : Nat → Prop} {base : Nat} {wr w1 w2 : World} {lv lv' v1 : Value} {vs : List Value} {ps : List (List Int)} {p : List Int} (hr : RdAll G w1 vs ps) (hG : ∀ j, G j → j < wr.heap.size) (hd : ∀ k, lv.ownBlock = some k → ¬ G k ∧ k < wr.heap.size)
    (r1 : Rd w1 v1 p) (hb1 : ∀ k, v1.ownBlock = some k → wr.heap.size ≤ k ∧ k < w1.heap.size) (hsz : wr.heap.size ≤ w1.heap.size) (o : Obj) (ho2 : w2.ownsRow base 32 1 lv' (ps.length + 1) (vs ++ [v1])) (hg : (w1.alloc o).grownBy w2 lv.ownBlock) (hat : lv'.ownBlock = lv.ownBlock ∨ lv'.ownBlock = some (w1.alloc o).heap.size) :
    Lst (fun j => G j ∨ (wr.heap.size ≤ j ∧ j < w1.heap.size)) base w2 lv' (ps ++ [p]) := by
  have hk : Kept (fun k => lv.ownBlock = some k) w1 w2 := (Kept.alloc _ w1 o).trans (Kept.grown hg (fun k hk => hk)) (fun i hi => .inl hi)
  have hn : ∀ k, (G k ∨ (wr.heap.size ≤ k ∧ k < w1.heap.size)) → ¬ lv.ownBlock = some k := by
    intro k h1 h2
    have := hd k h2
    rcases h1 with h1 | h1
    · exact this.1 h1
    · omega
  refine ⟨vs ++ [v1], by rw [List.length_append]; exact ho2, ?_, ?_⟩
  · refine RdAll.kept ((hr.mono (fun k hk => .inl hk)).append ⟨⟨r1, fun _ k hk => .inr (hb1 k hk)⟩, trivial⟩) hk hn
  · intro k hk' h1
    rcases hat with e | e
    · exact hn k h1 (e ▸ hk')
    · rw [e] at hk'
      simp at hk'
      rcases h1 with h1 | h1
      · have := hG k h1
        omega
      · omega
def SplitPost (w : World) (out : Except Nat (List (List Int) × Nat)) (evL evS : Value) (e : Ending) (w' : World) : Prop :=
  Below w.heap.size w w' ∧ match out with
    | .ok (ps, k) => ∃ v' G, e = .returned (.tuple #[v', .int .i64 (k : Int), .nilIface]) ∧ Lst G w.heap.size w' v' ps ∧ (∀ j, G j → w.heap.size ≤ j ∧ j < w'.heap.size)
    | .error n => e = .returned (.tuple #[.slice none 0 0, .int .i64 0, if n = 8 then evL else evS])
set_option maxHeartbeats 6400000 in
theorem bt3 {W w w1 : World} (h : Below W.heap.size W w) (hb : Below w.heap.size w w1) : Below W.heap.size W w1 := h.trans (hb.mono h.size)
theorem ret4 {fn : Func} {a b c d : Tmp} (h : fn.results = #[.tmp a, .tmp b, .tmp c, .tmp d]) (tmps : Array Value) (P : Program) (w : World) : (results fn tmps).run P w = .ok (.tuple #[tmps.getD a undef, tmps.getD b undef, tmps.getD c undef, tmps.getD d undef]) w := by
  simp only [results, h]
  simp
/-- What Open leaves. -/
def OpPost (F : Nat → Prop) (w : World) (p n : Nat) (f : Int → List Int) (c : List (Int × List Int)) (nw : Int) (fr en nx ep : Nat) (M : List Rp → Prop) (e : Ending) (w' : World) : Prop :=
  ∃ (l base : Nat) (F' F1 G : Nat → Prop) (v lv : Value) (sa : Option Addr) (ts : List Rp) (t0 : Rp) (rest : List Rp), e = .returned (.tuple #[.pointer (some ⟨l, 0, none⟩), .slice sa t0.1.data.length t0.1.data.length, lv, .nilIface]) ∧ ts = t0 :: rest ∧ M ts ∧ Dk F' w' p n (flushed f (c ++ [(((n - 2 + ep % 2 : Nat) : Int), cellS ep)])) [] (nw + 1) false ∧ Lg w' l p fr en v nx ep ∧ Recs F1 w' v ts ∧ Rd w' (.slice sa t0.1.data.length t0.1.data.length) t0.1.data ∧ Lst G base w' lv (rest.map (·.1.data)) ∧ (∀ k, F' k → F k ∨ w.heap.size ≤ k) ∧ (∀ k, F1 k → w.heap.size ≤ k ∧ ¬ F' k ∧ k ≠ l) ∧ w.heap.size ≤ l ∧ ¬ F' l ∧ Kept F w w'
set_option maxRecDepth 100000 in
set_option maxHeartbeats 51200000 in
theorem op_ok (F : Nat → Prop) (w : World) (p n fr en nx ep : Nat) (f : Int → List Int) (c : List (Int × List Int)) (nw : Int) (M : List Rp → Prop) (hD : Dk F w p n f c nw false) (hn4 : 4 ≤ n)
    (hnew : Calls Tryd.prog 27 #[.pointer (some ⟨p, 0, none⟩)] w fun e w' => ∃ va vc ts FA, e = .returned (.agg #[.int .i64 (fr : Int), .int .i64 (en : Int), .slice va ts.length vc, .int .i64 (nx : Int)]) ∧ Recs FA w' (.slice va ts.length vc) ts ∧ Below w.heap.size w w' ∧ (∀ k, FA k → w.heap.size ≤ k) ∧ M ts)
    (hnep : ∀ W va vc ts FA, Below w.heap.size w W → Recs FA W (.slice va ts.length vc) ts → M ts → Calls Tryd.prog 28 #[.pointer (some ⟨p, 0, none⟩), .agg #[.int .i64 (fr : Int), .int .i64 (en : Int), .slice va ts.length vc, .int .i64 (nx : Int)]] W fun e w' => e = .returned (.tuple #[.int .i64 (ep : Int), .nilIface]) ∧ Below W.heap.size W w')
    (hM : ∀ ts, M ts → ts ≠ [] ∧ ts.length ≤ 1024) (hep : ep ≤ 1099511627776) (hn2 : (n : Int) ≤ 1024) (hcl : c.length ≤ 10000000) (hnw : 0 ≤ nw ∧ nw ≤ 10000000) :
    Calls Tryd.prog 21 #[.pointer (some ⟨p, 0, none⟩)] w (OpPost F w p n f c nw fr en nx ep M) := by
  obtain ⟨i0, hi, hz0, hz1, hz2⟩ := info_parts Tryd.info32
  have HI := mkHid (And.intro hi (And.intro hz0 (And.intro hz1 hz2)))
  have HSM := mkHid (small_is F w p n f c nw false hD)
  rw [show decide ((n : Int) < 4) = false by simp; omega] at HSM
  have HLO := mkHid (lost_is F w p n f c nw false hD)
  have HNE := mkHid hnew
  have HNP := mkHid hnep
  have HD := mkHid hD
  have HMM := mkHid hM
  have HM := mkHid (And.intro hn4 (And.intro hep (And.intro hn2 (And.intro hcl hnw))))
  clear hD hn4 hnew hnep hM hep hn2 hcl hnw hi hz0 hz1 hz2
  go_enter Tryd.func21, Tryd.ntmps21
  go_wp2_with (first
    | (go_at_call 25; refine HSM.out.mono ?_; rintro e w2 ⟨rfl, hw2⟩; rw [hw2]; clear hw2)
    | (go_at_call 46; refine HLO.out.mono ?_; rintro e w2 ⟨rfl, hw2⟩; rw [hw2]; clear hw2)
    | (go_at_call 27; refine HNE.out.mono ?_; rintro e w3 ⟨va, vc, ts, FA, rfl, hR3, hb3, hf3, hM3⟩; obtain ⟨t0, rest, rfl⟩ := List.exists_cons_of_ne_nil (HMM.out ts hM3).1; obtain ⟨g, cap, he, hcap, hat⟩ := hR3.at (by simp); obtain ⟨rfl, -, rfl⟩ := (by simpa using he : va = some ⟨g, 0, none⟩ ∧ True ∧ vc = cap); rw [List.length_cons] at hcap; obtain ⟨ta, tc, hsl, hta⟩ := recs_tail g rest.length vc hcap; have HR3 := mkHid (And.intro hR3 hf3); have HB3 := mkHid hb3; have HMT := mkHid hM3; have HTA := mkHid hta; have HAT := mkHid hat; have hlen : (rest.length : Int) ≤ 1024 := (by have := (HMM.out _ hM3).2; simp at this; omega); clear hR3 hf3 hb3 hM3 hta hat he hcap; simp only [List.length_cons])
    | (go_at_call 28; refine (HNP.out _ (some ⟨g, 0, none⟩) vc (t0 :: rest) FA (HB3.out.alloc HB3.out.size _) (HR3.out.1.below ((Below.refl _ w3).alloc (Nat.le_refl _) _)) HMT.out).mono ?_; rintro e w4 ⟨rfl, hb4⟩; have HB4 := mkHid hb4; clear hb4)
    | (go_at_call 31; have hm := HM.out; have hbw : Below w.heap.size w w4 := (HB3.out.alloc HB3.out.size _).trans (HB4.out.mono (by have := HB3.out.size; simp; omega)); refine (claim_ok F w4 p n ep f c nw (HD.out.below hbw) hm.1 hm.2.2.1 hm.2.1 (by have := hm.2.2.2.1; omega) ⟨hm.2.2.2.2.1, by have := hm.2.2.2.2.2; omega⟩).mono ?_; rintro e w5 ⟨rfl, F5, hD5, hF5, hk5⟩; have HE5 := mkHid (And.intro hD5 (And.intro hF5 hk5)); have HBW := mkHid hbw; have hb6 : ¬ F w3.heap.size := (fun e => by have := HD.out.1 _ e; have := HB3.out.size; omega); have HX5 : Hid (w5.heap[w3.heap.size]? = some (oA (.int .i64 (fr : Int)) (.int .i64 (en : Int)) (.slice (some ⟨g, 0, none⟩) (rest.length + 1) vc) (.int .i64 (nx : Int)))) := mkHid ((hk5.block _ (by have := HB4.out.size; simp at this; omega) hb6).trans ((HB4.out.block _ (by simp)).trans (heap_alloc_new w3 _))); obtain ⟨x0, x1, x2, x3, _, _, _, _⟩ := four_facts HX5.out; clear hD5 hF5 hk5 hm hbw hb6))
  have HRW : Hid (Recs FA w5 (.slice (some ⟨g, 0, none⟩) (rest.length + 1) vc) (t0 :: rest)) := mkHid (((HR3.out.1.below ((Below.refl _ w3).alloc (Nat.le_refl _) _)).below HB4.out).kept HE5.out.2.2 (fun k hk hf => by have := HD.out.1 k hf; have := HR3.out.2 k hk; omega))
  have hgA : g < w5.heap.size := HRW.out.lt g (HRW.out.row g rfl)
  have HA5 : Hid (∀ i t, (t0 :: rest)[i]? = some t → w5.cell? ⟨g, i * 4, none⟩ = some (.int .i64 (t.1.gen : Int)) ∧ w5.cell? ⟨g, i * 4 + 1, none⟩ = some (.int .i64 (t.1.epoch : Int)) ∧ w5.cell? ⟨g, i * 4 + 2, none⟩ = some (.int .i64 (t.1.index : Int)) ∧ w5.cell? ⟨g, i * 4 + 3, none⟩ = some (dv t)) := mkHid (by
    obtain ⟨g', cap', he, _, hat⟩ := HRW.out.at (by simp)
    obtain ⟨rfl, -, -⟩ := (by simpa using he : g = g' ∧ True ∧ vc = cap')
    exact hat)
  clear HAT
  go_loopw [10, 45] (fun ov iv wr => ∃ (j : Nat) (G : Nat → Prop), iv = .int .i64 (j : Int) ∧ j ≤ rest.length ∧ Lst G w5.heap.size wr ov ((rest.take j).map (·.1.data)) ∧ Hid (∀ k, G k → w5.heap.size ≤ k ∧ k < wr.heap.size) ∧ Hid (Below w5.heap.size w5 wr)) (fun _ iv _ => rest.length - (intOf iv).toNat)
  case atStart => exact ⟨0, fun _ => False, rfl, Nat.zero_le _, Lst.nil _ _ _, mkHid (fun _ h => h.elim), mkHid (Below.refl _ _)⟩
  case round =>
    obtain ⟨j, G, rfl, hj, hL, HG, HB⟩ := hrel
    by_cases hlt : j < rest.length
    · obtain rfl := HTA.out (by omega)
      obtain ⟨t, ht⟩ : ∃ t, rest[j]? = some t := ⟨rest[j], List.getElem?_eq_getElem hlt⟩
      obtain ⟨c0, c1, c2, c3⟩ := HA5.out (j + 1) t (by simpa using ht)
      rw [show (j + 1) * 4 = 4 + j * 4 by omega] at c0 c1 c2 c3
      have d0 := cell_lat HB.out c0
      have d1 := cell_lat HB.out c1
      have d2 := cell_lat HB.out c2
      have d3 := cell_lat HB.out c3
      have HRD : Hid (Rd wr (dv t) t.1.data) := mkHid ((HRW.out.rd t (List.mem_cons_of_mem _ (List.mem_of_getElem? ht))).later HB.out)
      have HOK : Hid (t.1.ok) := mkHid (HRW.out.ok t (List.mem_cons_of_mem _ (List.mem_of_getElem? ht)))
      have hji : (j : Int) < rest.length := by omega
      have HTK : Hid ((rest.take (j + 1)).map (·.1.data) = (rest.take j).map (·.1.data) ++ [t.1.data]) := mkHid (by rw [List.take_add_one, ht]; simp)
      obtain ⟨vs, ho, hra, hd⟩ := hL
      obtain ⟨la, lc, rfl⟩ := own_shape ho
      rw [List.length_map, List.length_take, Nat.min_eq_left hj] at ho hd ⊢
      obtain ⟨q, da, dc⟩ := t
      unfold dv at d3 HRD
      simp only at d0 d1 d2 d3 HRD HOK HTK
      clear c0 c1 c2 c3 ht
      have HV := mkHid (And.intro ho (And.intro hra hd))
      clear ho hra hd
      obtain ⟨hi, hz0, hz1, hz2⟩ := HI.out
      go_wp2_with (first
        | (go_at_call 47; refine (handed_any _ _ q.data (HRD.out.later ((Below.refl _ wr).alloc (Nat.le_refl _) _)) (by have := HOK.out.d; omega)).mono ?_; rintro e w7 ⟨ha, rfl, hr7, ho7, hb7⟩; have HR7 := mkHid hr7; have hbA : Below wr.heap.size wr w7 := (((Below.refl _ wr).alloc (Nat.le_refl _) _).trans (hb7.mono (by simp))); have HBA := mkHid hbA; have HO7 : Hid (∀ k, (Value.slice ha q.data.length q.data.length).ownBlock = some k → wr.heap.size ≤ k ∧ k < w7.heap.size) := mkHid (fun k e => by have := ho7 k e; simp at this; omega); have ho' := own_late HV.out.1 hbA; have HRA := mkHid (HV.out.2.1.kept (kept_of_below hbA) (fun k hk hge => by have := HG.out k hk; omega)); have HDD : Hid (∀ k, (Value.slice la j lc).ownBlock = some k → ¬ G k ∧ k < wr.heap.size) := mkHid (fun k hk => ⟨HV.out.2.2 k hk, (HV.out.1.lt k hk).2⟩); clear hr7 ho7 hb7 hbA)
        | (at_builtin; refine wpList_append_srcV _ rfl (.tmp 49) (.tmp 53) 48 48 rfl w5.heap.size 32 i0 Tryd.underlying48 hi (.slice none 0 0) 24 hz0 rfl hz1 hz2 _ _ _ rfl (ho'.alloc _) _ _ _ rfl (src_oneV w7 _ HR7.out.one) (by unfold maxLen; omega) (by omega) (by have := HBA.out.size; have := HB.out.size; simp; omega) ?_; intro v8 w8 ho8 hg8 hat8; have HL8 := mkHid (lst_put HRA.out (fun k hk => (HG.out k hk).2) HDD.out HR7.out HO7.out HBA.out.size _ (by simpa [Nat.min_eq_left hj] using ho8) hg8 hat8); have HB8 := mkHid (((HB.out.trans (HBA.out.mono HB.out.size)).alloc (by have := HBA.out.size; have := HB.out.size; omega) _).grown hg8 (by have := HBA.out.size; have := HB.out.size; simp; omega) (fun k hk => (ho'.lt k hk).1)); have HS8 := mkHid hg8.size; clear hg8 hat8 ho8 ho'))
      go_roundw
      case rel => exact ⟨j + 1, _, by go_num, by omega, by rw [HTK.out]; exact HL8.out, mkHid (fun k hk => by
        have h1 := HBA.out.size
        have h2 := HS8.out
        have h3 := HB.out.size
        simp at h2
        rcases hk with a | a
        · have := HG.out k a; omega
        · omega), HB8⟩
      case measure => simp [intOf]; omega
    · obtain rfl : j = rest.length := by omega
      rw [List.take_length] at hL
      obtain ⟨la, lc, rfl⟩ : ∃ la lc, u10 = .slice la rest.length lc := by
        obtain ⟨vs, ho, _⟩ := hL
        have := own_shape ho
        rwa [List.length_map] at this
      have HLS := mkHid hL
      clear hL
      obtain ⟨b6, hb6⟩ : ∃ b6, b6 = w3.heap.size := ⟨_, rfl⟩
      rw [← hb6] at HX5 ⊢
      clear hb6
      clear x0 x1 x2 x3
      have HRQ0 : Hid (Rd w5 (dv t0) t0.1.data) := mkHid (HRW.out.rd t0 (by simp))
      have HOK : Hid (t0.1.ok) := mkHid (HRW.out.ok t0 (by simp))
      obtain ⟨z0, z1, z2, z3⟩ := HA5.out 0 t0 (by simp)
      obtain ⟨q, da, dc⟩ := t0
      unfold dv at z3 HRQ0
      simp only [Nat.zero_mul, Nat.zero_add] at z3 HRQ0 HOK
      have HB1 : Hid (Below w5.heap.size w5 wr.drew) := mkHid HB.out.drew
      have HRQ : Hid (Rd wr.drew (.slice da q.data.length dc) q.data) := mkHid (HRQ0.out.later HB1.out)
      have HW1 : Hid (Below wr.heap.size wr wr.drew) := mkHid (Below.refl _ wr).drew
      obtain ⟨x0, x1, x2, x3, _, _, _, _⟩ := four_facts HX5.out
      have y0 := cell_lat HB1.out x0
      have y1 := cell_lat HB1.out x1
      have y2 := cell_lat HB1.out x2
      have y3 := cell_lat HB1.out x3
      have y4 := cell_lat HB1.out z3
      clear x0 x1 x2 x3 z0 z1 z2 z3 HA5
      go_wp2
      refine wp_region_held_drew (S := fun w' => w'.cell? ⟨b6, 0, none⟩ = some (.int .i64 (fr : Int)) ∧ w'.cell? ⟨b6, 1, none⟩ = some (.int .i64 (en : Int)) ∧ w'.cell? ⟨b6, 2, none⟩ = some (.slice (some ⟨g, 0, none⟩) (rest.length + 1) vc) ∧ w'.cell? ⟨b6, 3, none⟩ = some (.int .i64 (nx : Int)) ∧ w'.cell? ⟨g, 3, none⟩ = some (.slice da q.data.length dc)) (by kernel_rfl) ⟨y0, y1, y2, y3, y4⟩ (fun hHeld => ?_)
      clear y0 y1 y2 y3 y4
      generalize wr.drew = wr1 at *
      refine takeD 0 56 (.pointer (some ⟨p, 0, none⟩)) rfl rfl (by kernel_rfl) (by kernel_rfl) (by kernel_rfl) (fun _ _ _ h => h) (Or.inl ⟨by kernel_rfl, by intro w hSw; (try dsimp only at hSw); go_simp⟩) hHeld ?_
      simp only [List.set_cons_zero, List.set_cons_succ]
      refine takeD 1 57 (.agg #[.int .i64 (fr : Int), .int .i64 (en : Int), .slice (some ⟨g, 0, none⟩) (rest.length + 1) vc, .int .i64 (nx : Int)]) rfl rfl (by kernel_rfl) (by kernel_rfl) (by kernel_rfl) (fun _ _ _ h => h) (Or.inl ⟨by kernel_rfl, by intro w hSw; (try dsimp only at hSw); go_simp⟩) hHeld ?_
      simp only [List.set_cons_zero, List.set_cons_succ]
      refine takeD 2 58 (.int .i64 (ep : Int)) rfl rfl (by kernel_rfl) (by kernel_rfl) (by kernel_rfl) (fun _ _ _ h => h) (Or.inl ⟨by kernel_rfl, by intro w hSw; (try dsimp only at hSw); go_simp⟩) hHeld ?_
      simp only [List.set_cons_zero, List.set_cons_succ]
      refine takeD 3 59 (.agg #[.pointer (some ⟨p, 0, none⟩), .int .i64 (fr : Int), .int .i64 (en : Int), .slice (some ⟨g, 0, none⟩) (rest.length + 1) vc, .int .i64 (nx : Int), .int .i64 (ep : Int)]) rfl rfl (by kernel_rfl) (by kernel_rfl) (by kernel_rfl) (fun _ _ _ h => h) (Or.inl ⟨by kernel_rfl, by intro w hSw; (try dsimp only at hSw); go_simp⟩) hHeld ?_
      simp only [List.set_cons_zero, List.set_cons_succ]
      refine takeD 5 61 (.pointer (some ⟨b6, 2, none⟩)) rfl rfl (by kernel_rfl) (by kernel_rfl) (by kernel_rfl) (fun _ _ _ h => h) (Or.inl ⟨by kernel_rfl, by intro w hSw; (try dsimp only at hSw); go_simp⟩) hHeld ?_
      simp only [List.set_cons_zero, List.set_cons_succ]
      refine takeD 6 62 (.slice (some ⟨g, 0, none⟩) (rest.length + 1) vc) rfl rfl (by kernel_rfl) (by kernel_rfl) (by kernel_rfl) (fun _ _ _ h => h) (Or.inl ⟨by kernel_rfl, by intro w hSw; (try dsimp only at hSw); go_simp⟩) hHeld ?_
      simp only [List.set_cons_zero, List.set_cons_succ]
      refine takeD 7 63 (.pointer (some ⟨g, 0, none⟩)) rfl rfl (by kernel_rfl) (by kernel_rfl) (by kernel_rfl) (fun _ _ _ h => h) (Or.inl ⟨by kernel_rfl, by intro w hSw; (try dsimp only at hSw); go_simp⟩) hHeld ?_
      simp only [List.set_cons_zero, List.set_cons_succ]
      refine takeD 8 64 (.pointer (some ⟨g, 3, none⟩)) rfl rfl (by kernel_rfl) (by kernel_rfl) (by kernel_rfl) (fun _ _ _ h => h) (Or.inl ⟨by kernel_rfl, by intro w hSw; (try dsimp only at hSw); go_simp⟩) hHeld ?_
      simp only [List.set_cons_zero, List.set_cons_succ]
      refine takeD 9 65 (.slice da q.data.length dc) rfl rfl (by kernel_rfl) (by kernel_rfl) (by kernel_rfl) (fun _ _ _ h => h) (Or.inl ⟨by kernel_rfl, by intro w hSw; (try dsimp only at hSw); go_simp⟩) hHeld ?_
      simp only [List.set_cons_zero, List.set_cons_succ]
      refine takeD 11 67 (.slice la rest.length lc) rfl rfl (by kernel_rfl) (by kernel_rfl) (by kernel_rfl) (fun _ _ _ h => h) (Or.inl ⟨by kernel_rfl, by intro w hSw; (try dsimp only at hSw); go_simp⟩) hHeld ?_
      simp only [List.set_cons_zero, List.set_cons_succ]
      refine wpAnyH_ready (rs := [4, 10]) (by kernel_rfl) (by simp) (AllReadyH.cons rfl (fun K hK => ?_) (AllReadyH.cons rfl (fun K hK => ?_) AllReadyH.nil))
      · obtain ⟨w8, hw8⟩ : ∃ w8, w8 = wr1.alloc (.cells #[.pointer (some ⟨p, 0, none⟩), .int .i64 (fr : Int), .int .i64 (en : Int), .slice (some ⟨g, 0, none⟩) (rest.length + 1) vc, .int .i64 (nx : Int), .int .i64 (ep : Int)] 78) := ⟨_, rfl⟩
        have hb8 : Below wr1.heap.size wr1 w8 := by rw [hw8]; exact (Below.refl _ _).alloc (Nat.le_refl _) _
        have HX8 : Hid (w8.heap[wr1.heap.size]? = some (.cells #[.pointer (some ⟨p, 0, none⟩), .int .i64 (fr : Int), .int .i64 (en : Int), .slice (some ⟨g, 0, none⟩) (rest.length + 1) vc, .int .i64 (nx : Int), .int .i64 (ep : Int)] 78)) := mkHid (by rw [hw8]; exact heap_alloc_new wr1 _)
        have HB8 := mkHid (HB1.out.trans (hb8.mono HB1.out.size))
        have HC8 := mkHid hb8
        obtain ⟨l, hl⟩ : ∃ l, l = wr1.heap.size := ⟨_, rfl⟩
        have HAB := mkHid hl
        rw [← hl] at HX8
        go_simp
        rw [← hw8, ← hl]
        refine hK.out _ _ ⟨cell_lat hb8 hHeld.1, cell_lat hb8 hHeld.2.1, cell_lat hb8 hHeld.2.2.1, cell_lat hb8 hHeld.2.2.2.1, cell_lat hb8 hHeld.2.2.2.2⟩ (fun hHeld => ?_)
        clear hK K hb8 hw8 hl
        (try simp only [Act.put])
        refine wpAnyH_ready (rs := [10]) (by kernel_rfl) (by simp) (AllReadyH.cons rfl (fun K hK => ?_) AllReadyH.nil)
        go_simp
        refine (handed_any w8 _ q.data (HRQ.out.later HC8.out) (by have := HOK.out.d; omega)).mono ?_
        rintro e w9 ⟨sa, rfl, hr9, ho9, hb9⟩
        have HR9 := mkHid (And.intro hr9 ho9)
        have HC9 := mkHid hb9
        have HB9 := mkHid (HB8.out.trans (hb9.mono HB8.out.size))
        refine hK.out _ _ ⟨cell_lat hb9 hHeld.1, cell_lat hb9 hHeld.2.1, cell_lat hb9 hHeld.2.2.1, cell_lat hb9 hHeld.2.2.2.1, cell_lat hb9 hHeld.2.2.2.2⟩ (fun hHeld => ?_)
        clear hK K hr9 ho9 hb9
        (try simp only [Act.put])
        refine takeD 12 2 (.pointer (some ⟨l, 0, none⟩)) rfl rfl (by kernel_rfl) (by kernel_rfl) (by kernel_rfl) (fun _ _ _ h => h) (Or.inl ⟨by kernel_rfl, by intro w hSw; (try dsimp only at hSw); go_simp⟩) hHeld ?_
        simp only [List.set_cons_zero, List.set_cons_succ]
        refine takeD 13 3 (.slice sa q.data.length q.data.length) rfl rfl (by kernel_rfl) (by kernel_rfl) (by kernel_rfl) (fun _ _ _ h => h) (Or.inl ⟨by kernel_rfl, by intro w hSw; (try dsimp only at hSw); go_simp⟩) hHeld ?_
        simp only [List.set_cons_zero, List.set_cons_succ]
        refine takeD 14 4 (.slice la rest.length lc) rfl rfl (by kernel_rfl) (by kernel_rfl) (by kernel_rfl) (fun _ _ _ h => h) (Or.inl ⟨by kernel_rfl, by intro w hSw; (try dsimp only at hSw); go_simp⟩) hHeld ?_
        simp only [List.set_cons_zero, List.set_cons_succ]
        refine takeD 15 5 (.nilIface) rfl rfl (by kernel_rfl) (by kernel_rfl) (by kernel_rfl) (fun _ _ _ h => h) (Or.inl ⟨by kernel_rfl, by intro w hSw; (try dsimp only at hSw); go_simp⟩) hHeld ?_
        simp only [List.set_cons_zero, List.set_cons_succ]
        refine wpAnyH_done (by kernel_rfl) ?_ _
        clear hHeld
        go_wp2
        have hF5 : ∀ k, F5 k → F k ∨ w.heap.size ≤ k := fun k hk => by
          rcases HE5.out.2.1 k hk with a | a
          · exact .inl a
          · have := HBW.out.size; exact .inr (by omega)
        have h5w : w.heap.size ≤ w5.heap.size := Nat.le_trans HBW.out.size HE5.out.2.2.size
        have hwl : w5.heap.size ≤ l := by have := HAB.out; have := HB1.out.size; omega
        have hk5 : Kept F w w5 := (⟨HBW.out.os, HBW.out.tape, HBW.out.output, HBW.out.size, fun k hk _ => HBW.out.block k hk⟩ : Kept F w w4).trans HE5.out.2.2 (fun k e => .inl e)
        have hkf : Kept F w w9 := hk5.trans (kept_below F HB9.out) (fun k e => .inl e)
        have hrf := HRW.out.below HB9.out
        have hlst : Lst G w5.heap.size w9 (.slice la rest.length lc) (rest.map (·.1.data)) := HLS.out.kept (kept_of_below (bt3 (bt3 HW1.out HC8.out) HC9.out)) (fun k hk hge => by have := HG.out k hk; omega) (fun k hk hge => by obtain ⟨vs, ho, _⟩ := HLS.out; have := ho.lt k hk; omega)
        refine bodyPost_ret (ret4 Tryd.results21 _ _ _) rfl ⟨l, w5.heap.size, F5, FA, G, _, _, sa, _, (q, da, dc), rest, rfl, rfl, HMT.out, HE5.out.1.below HB9.out, (HC9.out.block l (lt_of_heap HX8.out)).trans HX8.out, hrf, HR9.out.1, hlst, hF5, fun k hk => ⟨HR3.out.2 k hk, fun hf => ?_, ?_⟩, by omega, fun hf => by have := HE5.out.1.1 l hf; omega, hkf⟩
        · rcases HE5.out.2.1 k hf with a | a
          · have := HD.out.1 k a; have := HR3.out.2 k hk; omega
          · have h1 := HR3.out.1.lt k hk
            have h2 := HB4.out.size
            simp at h2
            omega
        · have h1 := HRW.out.lt k hk
          omega
      · go_simp
        refine (handed_any wr1 _ q.data HRQ.out (by have := HOK.out.d; omega)).mono ?_
        rintro e w8 ⟨sa, rfl, hr8, ho8, hb8⟩
        have HR8 := mkHid (And.intro hr8 ho8)
        have HC8 := mkHid hb8
        have HB8 := mkHid (HB1.out.trans (hb8.mono HB1.out.size))
        refine hK.out _ _ ⟨cell_lat hb8 hHeld.1, cell_lat hb8 hHeld.2.1, cell_lat hb8 hHeld.2.2.1, cell_lat hb8 hHeld.2.2.2.1, cell_lat hb8 hHeld.2.2.2.2⟩ (fun hHeld => ?_)
        clear hK K hr8 ho8 hb8
        (try simp only [Act.put])
        refine wpAnyH_ready (rs := [4]) (by kernel_rfl) (by simp) (AllReadyH.cons rfl (fun K hK => ?_) AllReadyH.nil)
        obtain ⟨w9, hw9⟩ : ∃ w9, w9 = w8.alloc (.cells #[.pointer (some ⟨p, 0, none⟩), .int .i64 (fr : Int), .int .i64 (en : Int), .slice (some ⟨g, 0, none⟩) (rest.length + 1) vc, .int .i64 (nx : Int), .int .i64 (ep : Int)] 78) := ⟨_, rfl⟩
        have hb9 : Below w8.heap.size w8 w9 := by rw [hw9]; exact (Below.refl _ _).alloc (Nat.le_refl _) _
        have HX9 : Hid (w9.heap[w8.heap.size]? = some (.cells #[.pointer (some ⟨p, 0, none⟩), .int .i64 (fr : Int), .int .i64 (en : Int), .slice (some ⟨g, 0, none⟩) (rest.length + 1) vc, .int .i64 (nx : Int), .int .i64 (ep : Int)] 78)) := mkHid (by rw [hw9]; exact heap_alloc_new w8 _)
        have HB9 := mkHid (HB8.out.trans (hb9.mono HB8.out.size))
        have HC9 := mkHid hb9
        obtain ⟨l, hl⟩ : ∃ l, l = w8.heap.size := ⟨_, rfl⟩
        have HAB := mkHid hl
        rw [← hl] at HX9
        go_simp
        rw [← hw9, ← hl]
        refine hK.out _ _ ⟨cell_lat hb9 hHeld.1, cell_lat hb9 hHeld.2.1, cell_lat hb9 hHeld.2.2.1, cell_lat hb9 hHeld.2.2.2.1, cell_lat hb9 hHeld.2.2.2.2⟩ (fun hHeld => ?_)
        clear hK K hb9 hw9 hl
        (try simp only [Act.put])
        refine takeD 12 2 (.pointer (some ⟨l, 0, none⟩)) rfl rfl (by kernel_rfl) (by kernel_rfl) (by kernel_rfl) (fun _ _ _ h => h) (Or.inl ⟨by kernel_rfl, by intro w hSw; (try dsimp only at hSw); go_simp⟩) hHeld ?_
        simp only [List.set_cons_zero, List.set_cons_succ]
        refine takeD 13 3 (.slice sa q.data.length q.data.length) rfl rfl (by kernel_rfl) (by kernel_rfl) (by kernel_rfl) (fun _ _ _ h => h) (Or.inl ⟨by kernel_rfl, by intro w hSw; (try dsimp only at hSw); go_simp⟩) hHeld ?_
        simp only [List.set_cons_zero, List.set_cons_succ]
        refine takeD 14 4 (.slice la rest.length lc) rfl rfl (by kernel_rfl) (by kernel_rfl) (by kernel_rfl) (fun _ _ _ h => h) (Or.inl ⟨by kernel_rfl, by intro w hSw; (try dsimp only at hSw); go_simp⟩) hHeld ?_
        simp only [List.set_cons_zero, List.set_cons_succ]
        refine takeD 15 5 (.nilIface) rfl rfl (by kernel_rfl) (by kernel_rfl) (by kernel_rfl) (fun _ _ _ h => h) (Or.inl ⟨by kernel_rfl, by intro w hSw; (try dsimp only at hSw); go_simp⟩) hHeld ?_
        simp only [List.set_cons_zero, List.set_cons_succ]
        refine wpAnyH_done (by kernel_rfl) ?_ _
        clear hHeld
        go_wp2
        have hF5 : ∀ k, F5 k → F k ∨ w.heap.size ≤ k := fun k hk => by
          rcases HE5.out.2.1 k hk with a | a
          · exact .inl a
          · have := HBW.out.size; exact .inr (by omega)
        have h5w : w.heap.size ≤ w5.heap.size := Nat.le_trans HBW.out.size HE5.out.2.2.size
        have hwl : w5.heap.size ≤ l := by have := HAB.out; have := HB8.out.size; omega
        have hk5 : Kept F w w5 := (⟨HBW.out.os, HBW.out.tape, HBW.out.output, HBW.out.size, fun k hk _ => HBW.out.block k hk⟩ : Kept F w w4).trans HE5.out.2.2 (fun k e => .inl e)
        have hkf : Kept F w w9 := hk5.trans (kept_below F HB9.out) (fun k e => .inl e)
        have hrf := HRW.out.below HB9.out
        have hlst : Lst G w5.heap.size w9 (.slice la rest.length lc) (rest.map (·.1.data)) := HLS.out.kept (kept_of_below (bt3 (bt3 HW1.out HC8.out) HC9.out)) (fun k hk hge => by have := HG.out k hk; omega) (fun k hk hge => by obtain ⟨vs, ho, _⟩ := HLS.out; have := ho.lt k hk; omega)
        refine bodyPost_ret (ret4 Tryd.results21 _ _ _) rfl ⟨l, w5.heap.size, F5, FA, G, _, _, sa, _, (q, da, dc), rest, rfl, rfl, HMT.out, HE5.out.1.below HB9.out, HX9.out, hrf, HR8.out.1.later HC9.out, hlst, hF5, fun k hk => ⟨HR3.out.2 k hk, fun hf => ?_, ?_⟩, by omega, fun hf => by have := HE5.out.1.1 l hf; omega, hkf⟩
        · rcases HE5.out.2.1 k hf with a | a
          · have := HD.out.1 k a; have := HR3.out.2 k hk; omega
          · have h1 := HR3.out.1.lt k hk
            have h2 := HB4.out.size
            simp at h2
            omega
        · have h1 := HRW.out.lt k hk
          omega
end Go.Proofs.YtcbimclgodkflaaDoor
