/- The law NetOrders. -/
import Derived.Test.YtaiklaipdocdmaaDoorNtS
import Derived.Test.YtaiklaipdocdmaaDoorOpenO17
namespace Go.Proofs.YtaiklaipdocdmaaDoor
open Go.ChangeShapes Go.WideShapes Go.ChangeAt Go.RowKit
set_option maxRecDepth 100000
attribute [local go_sem] World.cell?_alloc_some frozen_alloc_some

theorem one_ci (x : Int) : ∀ u ∈ ci x, u.oneCell' = true := by
  intro u hu
  simp only [ci, List.mem_cons, List.not_mem_nil, or_false] at hu
  subst hu
  rfl
theorem own_sh' {w : World} {base n0 : Nat} {e : TypeId} {v : Value} {n : Nat} {xs : List Value} (h : w.ownsRow base e n0 v n xs) : ∃ a c, v = .slice a n c := own_shape h
theorem ints_in' {w : World} {base : Nat} {v : Value} {ls : List Lt} (hl : ls.length ≤ 4096) (h : w.ownsRow base 3 1 v ls.length ((ls.map (·.nu)).map iv)) : RowIn 1 ci w v (ls.map (·.nu)) :=
  ints_in (by rw [List.length_map]; omega) (by rw [List.length_map]; exact h)
/-- The net and what waits, as the law keeps them; W: what was there before. -/
structure NSt (W wr : World) (own : Nat → Int × Int) (p : Nat) (n m : Nt) (v : Value) (ps : List Lp) (wv : Value) : Prop where
  nb : NB own 1 wr p v ps n
  lo : ∀ k, (own k).1 = 1 → W.heap.size ≤ k
  ws : wr.ownsRow W.heap.size 3 1 wv m.ls.length ((m.ls.map (·.nu)).map iv)
  wt : ∀ k, wv.ownBlock = some k → (own k).1 ≠ 1
  bel : Below W.heap.size W wr
theorem NSt.below {W wr w' : World} {own : Nat → Int × Int} {p : Nat} {n m : Nt} {v : Value} {ps : List Lp} {wv : Value} (h : NSt W wr own p n m v ps wv) (hb : Below wr.heap.size wr w') : NSt W w' own p n m v ps wv :=
  ⟨h.nb.below hb, h.lo, ownN_kept h.ws (kept_of_below hb) (fun k e hge => by have := (h.ws.lt k e).2; omega), h.wt, bt h.bel hb⟩
theorem NSt.pg {W wr : World} {own : Nat → Int × Int} {p : Nat} {n m : Nt} {v : Value} {ps : List Lp} {wv : Value} (h : NSt W wr own p n m v ps wv) : W.heap.size ≤ p := h.lo p (by rw [h.nb.op])
theorem NSt.net {W wr w' : World} {own own' : Nat → Int × Int} {p : Nat} {n m n' : Nt} {v v' : Value} {ps ps' : List Lp} {wv : Value} (h : NSt W wr own p n m v ps wv) (hr : NR own 1 wr p w' own' v' ps' n') : NSt W w' own' p n' m v' ps' wv :=
  ⟨hr.nb, hr.own h.lo h.bel.size, ownN_kept h.ws hr.kp (fun k e e2 => h.wt k e (by rcases e2 with e2 | e2 <;> rw [e2])), fun k e => by rw [hr.old k (h.ws.lt k e).2]; exact h.wt k e, h.bel.trans (hr.low h.lo h.bel.size)⟩
theorem put_nus {n : Nt} {l : Lt} {L1 : Int} (h : L1 = (n.last : Int) + 1) : ((n.put l).ls.map (·.nu)).map iv = (n.ls.map (·.nu)).map iv ++ ci L1 ∧ (n.put l).ls.length = n.ls.length + 1 := by
  constructor
  · simp [Nt.put, ci, h]
  · simp [Nt.put]
theorem NSt.pushed {W wr w4 : World} {own : Nat → Int × Int} {p : Nat} {n n' : Nt} {v : Value} {ps : List Lp} {wv v4 : Value} {L1 : Int} {o : Obj} (h : NSt W wr own p n' n v ps wv) (hp : (n'.ls.map (·.nu)).map iv = (n.ls.map (·.nu)).map iv ++ ci L1 ∧ n'.ls.length = n.ls.length + 1) (ho : w4.ownsRow W.heap.size 3 1 v4 (n.ls.length + 1) ((n.ls.map (·.nu)).map iv ++ ci L1)) (hg : (wr.alloc o).grownBy w4 wv.ownBlock) (hat : v4.ownBlock = wv.ownBlock ∨ v4.ownBlock = some (wr.alloc o).heap.size) : NSt W w4 own p n' n' v ps v4 := by
  have kg := Kept.grown hg (F := fun k => wv.ownBlock = some k) (fun k e => e)
  have ka : Kept (fun k => wv.ownBlock = some k) wr w4 := (kept_new (ba (Below.refl _ wr) o)).trans kg (fun k e => .inl e)
  refine ⟨h.nb.kept ka (fun k e => ⟨fun e2 => h.wt k e (by rw [e2]), fun e2 => h.wt k e (by rw [e2]), fun l _ e2 => h.wt k e (by rw [e2])⟩), h.lo, by rw [hp.1, hp.2]; exact ho, fun k e => ?_, h.bel.trans (ka.below (fun k e => (h.ws.lt k e).1) h.bel.size)⟩
  rcases hat with q | q
  · exact h.wt k (q ▸ e)
  · rw [q] at e
    simp at e
    have := h.nb.sz k (by omega)
    rw [this]
    simp
theorem sizeI (W : World) : (Go.sizeOf 3).run Tryd.prog W = .ok 1 W := by
  obtain ⟨i, hi, _, hs, _⟩ := info_parts info_int1
  simp [Go.sizeOf, typeInfo, hi, hs]
theorem elemI : Tryd.prog.underlying 53 = some (.slice (Tryd.prog.elem 53)) ∧ Tryd.prog.elem 53 = 3 := by
  constructor <;> kernel_rfl
/-- What the search knows behind q numbers. -/
def SrchP (n : Nt) (t : Int) (q : Nat) (A : Int) : Prop :=
  (A = -1 ∧ ∀ (k : Nat) (l : Lt), k < q → n.ls[k]? = some l → l.nu ≠ t) ∨ (∃ (K : Nat) (l : Lt), A = (K : Int) ∧ K < q ∧ n.ls[K]? = some l ∧ l.nu = t)
theorem SrchP.end {n : Nt} (h : n.Ok) {t A : Int} (hs : SrchP n t n.ls.length A) : (A = -1 ∧ n.find t = none) ∨ (∃ K : Nat, A = (K : Int) ∧ n.find t = some K ∧ K < n.ls.length) := by
  rcases hs with ⟨rfl, hno⟩ | ⟨K, l, rfl, hK, hl, e⟩
  · refine .inl ⟨rfl, ?_⟩
    cases hf : n.find t with
    | none => rfl
    | some k =>
      obtain ⟨l, hl, e, hk, _⟩ := find_some hf
      exact absurd e (hno k l hk hl)
  · refine .inr ⟨K, rfl, ?_, hK⟩
    cases hf : n.find t with
    | none => exact absurd e (find_none hf l (List.mem_of_getElem? hl))
    | some k =>
      obtain ⟨l2, hl2, e2, hk, _⟩ := find_some hf
      congr 1
      rcases Nat.lt_trichotomy k K with q | q | q
      · have := up_lt h.up hl2 hl q; omega
      · exact q
      · have := up_lt h.up hl hl2 q; omega
theorem SrchP.yes {n : Nt} {t : Int} {q : Nat} {l : Lt} (hl : n.ls[q]? = some l) (e : l.nu = t) : SrchP n t (q + 1) (q : Int) := .inr ⟨q, l, rfl, by omega, hl, e⟩
theorem SrchP.no {n : Nt} {t A : Int} {q : Nat} {l : Lt} (h : SrchP n t q A) (hl : n.ls[q]? = some l) (e : l.nu ≠ t) : SrchP n t (q + 1) A := by
  rcases h with ⟨rfl, hno⟩ | ⟨K, l2, rfl, hK, hl2, e2⟩
  · refine .inl ⟨rfl, fun k l3 hk hl3 => ?_⟩
    by_cases hq : k = q
    · subst hq
      rw [hl] at hl3
      rw [← Option.some.inj hl3]
      exact e
    · exact hno k l3 (by omega) hl3
  · exact .inr ⟨K, l2, rfl, by omega, hl2, e2⟩
/-- Numbers in two parts of a row. -/
theorem part_in {w : World} {base g cap : Nat} {xs : List Int} (hl : xs.length ≤ 1000000) (h : w.ownsRow base 3 1 (.slice (some ⟨g, 0, none⟩) xs.length cap) xs.length (xs.map iv)) (K : Nat) (hK : K < xs.length) :
    RowIn 1 ci w (.slice (some ⟨g, 0, none⟩) K cap) (xs.take K) ∧ RowIn 1 ci w (Go.sliced (some ⟨g, 0, none⟩) (K + 1) xs.length cap 1) (xs.drop (K + 1)) := by
  have hcap : xs.length ≤ cap := by obtain ⟨_, _, e, h⟩ := own_sh h; simp only [Value.slice.injEq] at e; rw [e.2.2]; exact h
  constructor
  · have h1 := own_shorter (m := K) h (by omega)
    rw [Nat.mul_one, ← List.map_take] at h1
    have hlt : (xs.take K).length = K := by rw [List.length_take]; omega
    have h2 := ints_in (w := w) (base := base) (v := .slice (some ⟨g, 0, none⟩) K cap) (xs := xs.take K) (by omega) (by rw [hlt]; exact h1)
    exact h2
  · unfold Go.sliced
    by_cases hc : cap = K + 1
    · have : xs.drop (K + 1) = [] := by rw [List.drop_eq_nil_iff]; omega
      rw [if_pos hc, this]
      exact ⟨_, _, by rw [show xs.length - (K + 1) = 0 by omega]; rfl, Nat.zero_le _, by simp, fun hp => by simp at hp⟩
    · rw [if_neg hc]
      refine ⟨_, _, by rw [List.length_drop], by rw [List.length_drop]; omega, by rw [List.length_drop]; omega, fun hp => ⟨g, K + 1, by simp [add_none], fun i x hx r u hr hu => ?_⟩⟩
      rw [List.getElem?_drop] at hx
      obtain rfl : r = 0 := by omega
      simp only [ci, List.getElem?_cons_zero, Option.some.injEq] at hu
      subst hu
      have h3 := (own_cell h (k := K + 1 + i) (u := iv x) (by rw [List.getElem?_map, hx]; rfl)).1
      rw [show K + 1 + i * 1 + 0 = K + 1 + i by omega]
      exact h3
theorem own_some {w : World} {base n c : Nat} {e : TypeId} {a : Option Addr} {xs : List Value} (h : w.ownsRow base e 1 (.slice a n c) n xs) (hp : 0 < n) : ∃ g, a = some ⟨g, 0, none⟩ := by
  rcases h.2 with ⟨e1, e2⟩ | ⟨g, cap, cur, e1, _⟩
  · omega
  · simp only [Value.slice.injEq] at e1
    exact ⟨g, e1.1⟩
theorem own_low2 {w : World} {base b2 n s : Nat} {e : TypeId} {v : Value} {xs : List Value} (h : w.ownsRow base e s v n xs) (hb : b2 ≤ base) : w.ownsRow b2 e s v n xs := by
  refine ⟨h.1, ?_⟩
  rcases h.2 with q | ⟨g, cap, cur, e1, hbg, r⟩
  · exact .inl q
  · exact .inr ⟨g, cap, cur, e1, Nat.le_trans hb hbg, r⟩
theorem step_append_srcI {P : Program} {ops : Array Oper} {o : Oper} {a : Act} {w : World} {K : Act → World → Prop} {Q : Exit → Act → World → Prop} {E : Prop} (hgd : o.guard = none) (sl x : Operand) (t tx : TypeId)
    (hop : o.op = .call { callee := .builtin .append, args := #[sl, x], argTypes := #[t, tx] })
    (base : Nat) (e : TypeId) (i : TypeInfo) (ht : P.underlying t = some (.slice e)) (hi : P.info? e = some i) (z : Value) (B : Nat) (hz : i.zero = some z) (hzs : z.cells.size = 1) (hsize : i.size = 1) (hby : i.bytes = B)
    (v : Value) (n : Nat) (xs : List Value) (hs : a.eval sl = v) (hown : w.ownsRow base e 1 v n xs) (xv : Value) (m : Nat) (news : List Value) (hx : a.eval x = xv) (hsrc : Src P 1 tx xv m news w)
    (h63 : n + m ≤ maxLen) (hbytes : (n + m) * B ≤ 140737488355328) (hbase : base ≤ w.heap.size)
    (h : ∀ v' w', w'.ownsRow base e 1 v' (n + m) (xs ++ news) → w.grownBy w' v.ownBlock → (v'.ownBlock = v.ownBlock ∨ v'.ownBlock = some w.heap.size) → K (a.put o.dst v') w') :
    if Region.wanted o (yielded ops a.tmps) = true then Oper.wp P o a w K Q else E := by
  have hw : Region.wanted o (yielded ops a.tmps) = true := by simp [Region.wanted, hgd]
  rw [if_pos hw]
  obtain ⟨v', w', hr, h2, h3, h4⟩ := run_append_own_srcV (P := P) w base t tx o.type e i ht hi z B hz hzs hsize hby v n xs hown xv m news hsrc h63 hbytes hbase
  unfold Oper.wp execOp
  simp only [hop, resolve, invoke, builtin, Sem.run_bind, Sem.run_pure, Result.andThen_ok, List.map_toArray, List.map_cons, List.map_nil, hs, hx, hr]
  exact h v' w' h2 h3 h4
theorem NSt.made {W wr w' : World} {own : Nat → Int × Int} {p : Nat} {n m : Nt} {v : Value} {ps : List Lp} {wv v' : Value} (h : NSt W wr own p n m v ps wv) (hb : Below wr.heap.size wr w') (ho : w'.ownsRow wr.heap.size 3 1 v' n.ls.length ((n.ls.map (·.nu)).map iv)) : NSt W w' own p n n v ps v' :=
  ⟨h.nb.below hb, h.lo, own_low2 ho h.bel.size, fun k e => by rw [h.nb.sz k (ho.lt k e).1]; simp, bt h.bel hb⟩
theorem out_nus {n : Nt} {K : Nat} (hK : K < n.ls.length) : (n.out K).ls.map (·.nu) = (n.ls.map (·.nu)).take K ++ (n.ls.map (·.nu)).drop (K + 1) ∧ (n.out K).ls.length = K + (n.ls.length - (K + 1)) := by
  constructor
  · show (n.ls.eraseIdx K).map (·.nu) = _
    rw [erase_map, List.eraseIdx_eq_take_drop_succ]
  · show (n.ls.eraseIdx K).length = _
    rw [List.length_eraseIdx, if_pos hK]
    omega
set_option maxHeartbeats 51200000 in
theorem orders_walk (W : World) (sa : Option Addr) (sc : Nat) (os : List O17) (eg en ef : Addr) (sg : List UInt8) (hS : Scr W (.slice sa os.length sc) os) (E : En3 W eg en ef) (hEG : Err W 2 sg eg) (h9 : 8 ≤ W.heap.size) :
    Calls Tryd.prog 5 #[.slice sa os.length sc] W fun e w' => e = .returned (.bool true) ∧ Below W.heap.size W w' := by
  obtain ⟨ie, hi, hz0, hz1, hz2⟩ := info_parts info_int1
  have hie := mkHid (And.intro hi (And.intro hz0 (And.intro hz1 hz2)))
  clear hi hz0 hz1 hz2
  have HS := mkHid hS
  have HE := mkHid E
  have HEG := mkHid hEG
  have H9 := mkHid h9
  have HLS : Hid ((os.length : Int) ≤ 10000000000000) := mkHid (by have := hS.sz; omega)
  have hlo := HLS.out
  clear hS E hEG h9
  go_enter Tryd.func5, Tryd.ntmps5
  go_wp2_with (first
    | (go_at_call 9; refine (nalive W eg en ef sg HE.out HEG.out H9.out).mono ?_; rintro r w1 ⟨rfl, b1⟩; have HB1 := mkHid b1; clear b1)
    | (go_at_call 10; refine (nnew_is w1).mono ?_; rintro r w2 ⟨rfl, hw2⟩; have hb2 : Below w1.heap.size w1 w2 := (by rw [hw2]; exact ba (Below.refl _ _) _); have hnb := NB.new (fun _ => (0, 0)) 1 w1 (by decide) (fun _ _ => rfl); rw [← hw2] at hnb; obtain ⟨own1, ho1⟩ : ∃ o, o = (fun k => if k = w1.heap.size then ((1 : Int), (1 : Int)) else (0, 0)) := ⟨_, rfl⟩; rw [← ho1] at hnb; have HST0 : Hid (NSt W (w2.alloc (.cells #[] 3)) own1 w1.heap.size Nt.zero Nt.zero (.slice none 0 0) [] (.slice (some ⟨w2.heap.size, 0, none⟩) 0 0)) := mkHid ⟨hnb.below (ba (Below.refl _ _) _), fun k e => by rw [ho1] at e; simp only at e; have := HB1.out.size; split at e; omega; simp at e, World.ownsRow_made (base := W.heap.size) (e := 3) (size := 1) w2 #[] 0 (by have := HB1.out.size; have := hb2.size; omega) (by unfold maxLen; omega) rfl, fun k e => by simp [Value.ownBlock] at e; rw [ho1]; subst e; have hlt := hnb.lt; simp only; rw [if_neg (by omega)]; simp, bt HB1.out (ba hb2 _)⟩; have hp1 : ∃ p, p = w1.heap.size := ⟨_, rfl⟩; clear hw2 hb2 hnb ho1))
  obtain ⟨p, hp⟩ := hp1
  rw [← hp] at HST0 ⊢
  clear hp
  go_loopw [4, 5, 22] (fun wv lv iv' wr => ∃ (j : Nat) (own : Nat → Int × Int) (n : Nt) (v : Value) (ps : List Lp), lv = .int .i64 (n.last : Int) ∧ iv' = .int .i64 (j : Int) ∧ j ≤ os.length ∧ Hid (NSt W wr own p n n v ps wv ∧ n.last ≤ j)) (fun _ _ iv' _ => os.length - (intOf iv').toNat)
  case atStart => exact ⟨0, own1, Nt.zero, _, _, rfl, rfl, Nat.zero_le _, mkHid ⟨HST0.out, Nat.le_refl _⟩⟩
  case round =>
    obtain ⟨j, own, n, v, ps, rfl, rfl, hj, HN⟩ := hrel
    obtain ⟨za, zc, rfl⟩ := own_sh' HN.out.1.ws
    by_cases hlt : j < os.length
    · obtain ⟨g, off, y, rfl, hy, hat⟩ := HS.out.row.at HN.out.1.bel j hlt
      have HIN := mkHid (HS.out.ins y (List.mem_of_getElem? hy))
      obtain ⟨kd, wh, fr, to, nn, yv, bs⟩ := y
      obtain ⟨xa, xc, rfl⟩ : ∃ a c, yv = .slice a bs.length c := HIN.out.rd.2.imp fun a h => h.imp fun c h => h.1
      have y0 := hat 0 _ (by omega) rfl
      have y1 := hat 1 _ (by omega) rfl
      have y2 := hat 2 _ (by omega) rfl
      have y3 := hat 3 _ (by omega) rfl
      have y4 := hat 4 _ (by omega) rfl
      have y5 := hat 5 _ (by omega) rfl
      simp only [Nat.add_zero] at y0
      have hji : (j : Int) < (os.length : Int) := by omega
      have HJ : Hid ((j : Int) ≤ 10000000000000) := mkHid (by omega)
      have hlast : (n.last : Int) ≤ 10000000000000 := by have := HN.out.2; omega
      have HST2 : Hid (NSt W (wr.alloc (.cells #[.int .i64 kd, .int .i64 wh, .int .i64 fr, .int .i64 to, .int .i64 nn, .slice xa bs.length xc] 34)) own p n n v ps (.slice za n.ls.length zc)) := mkHid (HN.out.1.below (ba (Below.refl _ _) _))
      clear hat hy
      have hk : kd = 1 ∨ kd = 4 ∨ kd = 2 ∨ kd = 3 ∨ ((kd == 1) = false ∧ (kd == 4) = false ∧ (kd == 2) = false ∧ (kd == 3) = false) := by simp; omega
      rcases hk with rfl | rfl | rfl | rfl | ⟨h1, h2, h3, h4⟩
      · go_wp2_with (first
          | (go_at_call 13; refine (send_is own 1 (wr.alloc (.cells #[.int .i64 1, .int .i64 wh, .int .i64 fr, .int .i64 to, .int .i64 nn, .slice xa bs.length xc] 34)) p v ps n HST2.out.nb fr to 0 _ bs (HIN.out.rd.later HST2.out.bel) (Nat.le_trans HIN.out.sm (by omega)) (fun w' hk => HIN.out.rd.later (HST2.out.bel.trans (hk.below (fun k e => by subst e; exact HST2.out.pg) HST2.out.bel.size))) (by have := HN.out.2; have := HJ.out; omega) en ef (HE.out.kept H9.out HST2.out.bel).n (HE.out.kept H9.out HST2.out.bel).f).mono ?_; rintro r w3 (⟨_, rfl, b3⟩ | ⟨_, ⟨_, rfl, b3⟩ | ⟨_, rfl, own', v', ps', hr⟩⟩) <;> first | (have HST3 := mkHid (HST2.out.below b3); clear b3) | (have HST3 := mkHid (HST2.out.net hr); have HPL := mkHid (put_nus (n := n) (l := ⟨0, fr, to, bs⟩) (L1 := (n.last : Int) + 1) rfl); clear hr))
          | (at_builtin; refine wpList_append_srcV _ rfl (.tmp 59) (.tmp 61) 53 53 rfl W.heap.size 3 ie Tryd.underlying53 hie.out.1 (.int .i64 0) 8 hie.out.2.1 rfl hie.out.2.2.1 hie.out.2.2.2 _ _ _ rfl (HST3.out.ws.alloc _) _ 1 (ci ((n.last : Int) + 1)) rfl (srcOne Tryd.underlying53 (by omega) ci_len one_ci (rowOne ((n.last : Int) + 1) _ 3)) (by have := HN.out.1.nb.ok.len; unfold maxLen; omega) (by have := HN.out.1.nb.ok.len; omega) (by have := HST3.out.bel.size; simp; omega) ?_; intro v4 w4 ho4 hg4 hat4; have HST4 := mkHid (HST3.out.pushed (L1 := (n.last : Int) + 1) HPL.out ho4 hg4 hat4); obtain ⟨z4, cz4, rfl⟩ := own_sh' HST4.out.ws; clear ho4 hg4 hat4)
          | (go_at_call 18; (first | refine (waiting_is _ 1 _ _ _ _ _ HST4.out.nb).mono ?_ | refine (waiting_is _ 1 _ _ _ _ _ HST3.out.nb).mono ?_ | refine (waiting_is _ 1 _ _ _ _ _ HST2.out.nb).mono ?_); rintro r w5 ⟨v5, rfl, ho5, b5⟩; obtain ⟨z5, cz5, rfl⟩ := own_sh' ho5; have HWT := mkHid (And.intro ho5 b5); clear ho5 b5)
          | (go_at_call 19; first | (have HF := mkHid (HST4.out.below HWT.out.2); refine (sameInts_yes _ _ _ _ (ints_in' HST4.out.nb.ok.len HWT.out.1) (ints_in' HST4.out.nb.ok.len HF.out.ws) (by rw [List.length_map]; have := HST4.out.nb.ok.len; omega)).mono ?_; rintro r w6 ⟨rfl, b6⟩; have HST6 := mkHid (HF.out.below b6); clear b6) | (have HF := mkHid (HST3.out.below HWT.out.2); refine (sameInts_yes _ _ _ _ (ints_in' HST3.out.nb.ok.len HWT.out.1) (ints_in' HST3.out.nb.ok.len HF.out.ws) (by rw [List.length_map]; have := HST3.out.nb.ok.len; omega)).mono ?_; rintro r w6 ⟨rfl, b6⟩; have HST6 := mkHid (HF.out.below b6); clear b6) | (have HF := mkHid (HST2.out.below HWT.out.2); refine (sameInts_yes _ _ _ _ (ints_in' HST2.out.nb.ok.len HWT.out.1) (ints_in' HST2.out.nb.ok.len HF.out.ws) (by rw [List.length_map]; have := HST2.out.nb.ok.len; omega)).mono ?_; rintro r w6 ⟨rfl, b6⟩; have HST6 := mkHid (HF.out.below b6); clear b6)))
        all_goals go_roundw
        all_goals first
          | (refine ⟨j + 1, _, _, _, _, ?_, by go_num, by omega, mkHid ⟨HST6.out, ?_⟩⟩ <;> first | rfl | (have := HN.out.2; (try simp only [Nt.put]); omega) | (simp [Nt.put]; done) | (simp [Nt.out]; done) | (have := HN.out.2; simp only [Nt.out]; omega))
          | (simp [intOf]; omega)
      · go_wp2_with (first
          | (go_at_call 15; refine (copy_is own 1 (wr.alloc (.cells #[.int .i64 4, .int .i64 wh, .int .i64 fr, .int .i64 to, .int .i64 nn, .slice xa bs.length xc] 34)) p v ps n HST2.out.nb nn (by have := HN.out.2; have := HJ.out; omega) eg ef (HE.out.kept H9.out HST2.out.bel).g (HE.out.kept H9.out HST2.out.bel).f).mono ?_; rintro r w3 (⟨_, rfl, b3⟩ | ⟨K, l, wz, _, _, bz, ⟨_, rfl, b3⟩ | ⟨_, rfl, own', v', ps', hr'⟩⟩) <;> first | (have HST3 := mkHid (HST2.out.below b3); clear b3) | (have HST3 := mkHid (HST2.out.below (bt bz b3)); clear b3 bz) | (have hr := (HST2.out.nb.below' bz).trans hr'; clear hr' bz; (have HST3 := mkHid (HST2.out.net hr); have HPL := mkHid (put_nus (n := n) (l := l) (L1 := (n.last : Int) + 1) rfl); clear hr)))
          | (at_builtin; refine wpList_append_srcV _ rfl (.tmp 59) (.tmp 61) 53 53 rfl W.heap.size 3 ie Tryd.underlying53 hie.out.1 (.int .i64 0) 8 hie.out.2.1 rfl hie.out.2.2.1 hie.out.2.2.2 _ _ _ rfl (HST3.out.ws.alloc _) _ 1 (ci ((n.last : Int) + 1)) rfl (srcOne Tryd.underlying53 (by omega) ci_len one_ci (rowOne ((n.last : Int) + 1) _ 3)) (by have := HN.out.1.nb.ok.len; unfold maxLen; omega) (by have := HN.out.1.nb.ok.len; omega) (by have := HST3.out.bel.size; simp; omega) ?_; intro v4 w4 ho4 hg4 hat4; have HST4 := mkHid (HST3.out.pushed (L1 := (n.last : Int) + 1) HPL.out ho4 hg4 hat4); obtain ⟨z4, cz4, rfl⟩ := own_sh' HST4.out.ws; clear ho4 hg4 hat4)
          | (go_at_call 18; (first | refine (waiting_is _ 1 _ _ _ _ _ HST4.out.nb).mono ?_ | refine (waiting_is _ 1 _ _ _ _ _ HST3.out.nb).mono ?_ | refine (waiting_is _ 1 _ _ _ _ _ HST2.out.nb).mono ?_); rintro r w5 ⟨v5, rfl, ho5, b5⟩; obtain ⟨z5, cz5, rfl⟩ := own_sh' ho5; have HWT := mkHid (And.intro ho5 b5); clear ho5 b5)
          | (go_at_call 19; first | (have HF := mkHid (HST4.out.below HWT.out.2); refine (sameInts_yes _ _ _ _ (ints_in' HST4.out.nb.ok.len HWT.out.1) (ints_in' HST4.out.nb.ok.len HF.out.ws) (by rw [List.length_map]; have := HST4.out.nb.ok.len; omega)).mono ?_; rintro r w6 ⟨rfl, b6⟩; have HST6 := mkHid (HF.out.below b6); clear b6) | (have HF := mkHid (HST3.out.below HWT.out.2); refine (sameInts_yes _ _ _ _ (ints_in' HST3.out.nb.ok.len HWT.out.1) (ints_in' HST3.out.nb.ok.len HF.out.ws) (by rw [List.length_map]; have := HST3.out.nb.ok.len; omega)).mono ?_; rintro r w6 ⟨rfl, b6⟩; have HST6 := mkHid (HF.out.below b6); clear b6) | (have HF := mkHid (HST2.out.below HWT.out.2); refine (sameInts_yes _ _ _ _ (ints_in' HST2.out.nb.ok.len HWT.out.1) (ints_in' HST2.out.nb.ok.len HF.out.ws) (by rw [List.length_map]; have := HST2.out.nb.ok.len; omega)).mono ?_; rintro r w6 ⟨rfl, b6⟩; have HST6 := mkHid (HF.out.below b6); clear b6)))
        all_goals go_roundw
        all_goals first
          | (refine ⟨j + 1, _, _, _, _, ?_, by go_num, by omega, mkHid ⟨HST6.out, ?_⟩⟩ <;> first | rfl | (have := HN.out.2; (try simp only [Nt.put]); omega) | (simp [Nt.put]; done) | (simp [Nt.out]; done) | (have := HN.out.2; simp only [Nt.out]; omega))
          | (simp [intOf]; omega)
      · obtain ⟨w2, hw2⟩ : ∃ w2, w2 = (wr.alloc (.cells #[.int .i64 2, .int .i64 wh, .int .i64 fr, .int .i64 to, .int .i64 nn, .slice xa bs.length xc] 34)) := ⟨_, rfl⟩
        have c0 : w2.cell? ⟨wr.heap.size, 0, none⟩ = some (.int .i64 2) := by rw [hw2]; go_simp
        have c4 : w2.cell? ⟨wr.heap.size, 4, none⟩ = some (.int .i64 nn) := by rw [hw2]; go_simp
        go_wp2
        rw [← hw2] at HST2 ⊢
        clear hw2
        go_loopw [10, 68] (fun av qv wq => ∃ (A : Int) (q : Nat), av = .int .i64 A ∧ qv = .int .i64 (q : Int) ∧ q ≤ n.ls.length ∧ w2 = wq ∧ Hid (SrchP n nn q A)) (fun _ qv _ => n.ls.length - (intOf qv).toNat)
        case atStart => exact ⟨-1, 0, rfl, rfl, Nat.zero_le _, rfl, mkHid (.inl ⟨rfl, fun k l hk => by omega⟩)⟩
        case round =>
          obtain ⟨A, q, rfl, rfl, hq, rfl, HSR⟩ := hrel
          by_cases hql : q < n.ls.length
          · obtain ⟨g, rfl⟩ := own_some HST2.out.ws (by omega)
            obtain ⟨l, hl⟩ : ∃ l, n.ls[q]? = some l := ⟨_, List.getElem?_eq_getElem hql⟩
            have hcell := (own_cell HST2.out.ws (k := q) (u := iv l.nu) (by rw [List.getElem?_map, List.getElem?_map, hl]; rfl)).1
            have hqi : (q : Int) < (n.ls.length : Int) := by omega
            have hN40 := HST2.out.nb.ok.len
            by_cases e : l.nu = nn
            · have e2 : (l.nu == nn) = true := by simp [e]
              go_wp2
              go_roundw
              · exact ⟨(q : Int), q + 1, by first | rfl | go_num, by go_num, by omega, trivial, mkHid (SrchP.yes hl e)⟩
              · simp [intOf]; omega
            · have e2 : (l.nu == nn) = false := by simp [e]
              go_wp2
              go_roundw
              · exact ⟨A, q + 1, by first | rfl | go_num, by go_num, by omega, trivial, mkHid (HSR.out.no hl e)⟩
              · simp [intOf]; omega
          · obtain rfl : q = n.ls.length := by omega
            rcases HSR.out.end HST2.out.nb.ok with ⟨rfl, hf⟩ | ⟨K, rfl, hf, hKl⟩
            · go_wp2_with (first
            | (go_at_call 17; refine (deliver_is own 1 w2 p v ps n HST2.out.nb nn eg (HE.out.kept H9.out HST2.out.bel).g).mono ?_; rintro r w3 (⟨hf2, rfl, b3⟩ | ⟨K2, l2, v2, hf2, hl2, rfl, hrd2, hr⟩) <;> first | (have HST3 := mkHid (HST2.out.below b3); clear b3) | (rw [hf] at hf2; cases hf2))
            | (go_at_call 18; (first | refine (waiting_is _ 1 _ _ _ _ _ HST4.out.nb).mono ?_ | refine (waiting_is _ 1 _ _ _ _ _ HST3.out.nb).mono ?_ | refine (waiting_is _ 1 _ _ _ _ _ HST2.out.nb).mono ?_); rintro r w5 ⟨v5, rfl, ho5, b5⟩; obtain ⟨z5, cz5, rfl⟩ := own_sh' ho5; have HWT := mkHid (And.intro ho5 b5); clear ho5 b5)
            | (go_at_call 19; first | (have HF := mkHid (HST4.out.below HWT.out.2); refine (sameInts_yes _ _ _ _ (ints_in' HST4.out.nb.ok.len HWT.out.1) (ints_in' HST4.out.nb.ok.len HF.out.ws) (by rw [List.length_map]; have := HST4.out.nb.ok.len; omega)).mono ?_; rintro r w6 ⟨rfl, b6⟩; have HST6 := mkHid (HF.out.below b6); clear b6) | (have HF := mkHid (HST3.out.below HWT.out.2); refine (sameInts_yes _ _ _ _ (ints_in' HST3.out.nb.ok.len HWT.out.1) (ints_in' HST3.out.nb.ok.len HF.out.ws) (by rw [List.length_map]; have := HST3.out.nb.ok.len; omega)).mono ?_; rintro r w6 ⟨rfl, b6⟩; have HST6 := mkHid (HF.out.below b6); clear b6) | (have HF := mkHid (HST2.out.below HWT.out.2); refine (sameInts_yes _ _ _ _ (ints_in' HST2.out.nb.ok.len HWT.out.1) (ints_in' HST2.out.nb.ok.len HF.out.ws) (by rw [List.length_map]; have := HST2.out.nb.ok.len; omega)).mono ?_; rintro r w6 ⟨rfl, b6⟩; have HST6 := mkHid (HF.out.below b6); clear b6)))
              all_goals go_roundw
              all_goals first
                | (refine ⟨j + 1, _, _, _, _, ?_, by go_num, by omega, mkHid ⟨HST6.out, ?_⟩⟩ <;> first | rfl | (have := HN.out.2; (try simp only [Nt.put]); omega) | (simp [Nt.put]; done) | (simp [Nt.out]; done) | (have := HN.out.2; simp only [Nt.out]; omega))
                | (simp [intOf]; omega)
            · have hK0 : (0 : Int) ≤ (K : Int) := by omega
              have hcell := hK0
              go_wp2_with (first
            | (go_at_call 17; refine (deliver_is own 1 w2 p v ps n HST2.out.nb nn eg (HE.out.kept H9.out HST2.out.bel).g).mono ?_; rintro r w3 (⟨hf2, rfl, b3⟩ | ⟨K2, l2, v2, hf2, hl2, rfl, hrd2, hr⟩) <;> first | (rw [hf] at hf2; cases hf2; done) | (obtain rfl : K = K2 := (by rw [hf] at hf2; exact Option.some.inj hf2); have HST3 := mkHid (HST2.out.net hr); clear hr hf2)))
              obtain ⟨g, rfl⟩ := own_some HST2.out.ws (by omega)
              have HXL : Hid ((n.ls.map (·.nu)).length = n.ls.length) := mkHid (by rw [List.length_map])
              have HP := mkHid (part_in (xs := n.ls.map (·.nu)) (by rw [HXL.out]; have := HST2.out.nb.ok.len; omega) (by rw [HXL.out]; exact HST3.out.ws) K (by rw [HXL.out]; exact hKl))
              have hcap : n.ls.length ≤ zc := by obtain ⟨_, _, e, h⟩ := own_sh HST2.out.ws; simp only [Value.slice.injEq] at e; rw [e.2.2]; exact h
              have hsl1 : ∀ W, (Instr.slice 53 (.slice (some ⟨g, 0, none⟩) n.ls.length zc) none (some (.int .i64 (K : Int))) none).run Tryd.prog W = .ok (.slice (some ⟨g, 0, none⟩) K zc) W := fun W => by
                rw [run_slice_h W 53 _ _ _ elemI.1 .i64 _ (by omega) (by omega), elemI.2, sizeI]
                simp only [Result.andThen, Go.sliced]
                simp [add_none]
              obtain ⟨SV, hSV⟩ : ∃ SV, SV = Go.sliced (some ⟨g, 0, none⟩) (K + 1) n.ls.length zc 1 := ⟨_, rfl⟩
              have hsl2 : ∀ W, (Instr.slice 53 (.slice (some ⟨g, 0, none⟩) n.ls.length zc) (some (.int .i64 ((K : Int) + 1))) none none).run Tryd.prog W = .ok SV W := fun W => by
                rw [run_slice_l W 53 _ _ _ elemI.1 .i64 _ (by omega) (by omega), elemI.2, sizeI, hSV]
                simp only [Result.andThen]
                rfl
              have HP2 : Hid (RowIn 1 ci w3 SV ((n.ls.map (·.nu)).drop (K + 1))) := mkHid (by have := HP.out.2; rw [HXL.out] at this; rw [hSV]; exact this)
              have HTL : Hid (((n.ls.map (·.nu)).take K).length = K) := mkHid (by rw [List.length_take, HXL.out]; omega)
              have HDL : Hid (((n.ls.map (·.nu)).drop (K + 1)).length = n.ls.length - (K + 1)) := mkHid (by rw [List.length_drop, HXL.out])
              have hN40 := HST2.out.nb.ok.len
              clear hSV hcell
              refine wp_region_held_drew (S := fun _ => True) (by kernel_rfl) trivial (fun hHeld => ?_)
              refine takeD 1 101 (.slice (some ⟨g, 0, none⟩) n.ls.length zc) rfl rfl (by kernel_rfl) (by kernel_rfl) (by kernel_rfl) (fun _ _ _ h => h) (Or.inl ⟨by kernel_rfl, by intro w hSw; (try dsimp only at hSw); go_simp⟩) hHeld ?_
              (try simp only [List.set_cons_zero, List.set_cons_succ])
              refine takeD 2 102 (.int .i64 (K : Int)) rfl rfl (by kernel_rfl) (by kernel_rfl) (by kernel_rfl) (fun _ _ _ h => h) (Or.inl ⟨by kernel_rfl, by intro w hSw; (try dsimp only at hSw); go_simp⟩) hHeld ?_
              (try simp only [List.set_cons_zero, List.set_cons_succ])
              refine takeD 3 103 (.slice (some ⟨g, 0, none⟩) K zc) rfl rfl (by kernel_rfl) (by kernel_rfl) (by kernel_rfl) (fun _ _ _ h => h) (Or.inl ⟨by kernel_rfl, by intro w _; exact yields_slice (t := 53) rfl elemI.1 (by simpa [Act.eval] using hsl1) w⟩) hHeld ?_
              (try simp only [List.set_cons_zero, List.set_cons_succ])
              refine takeD 5 105 (.slice (some ⟨g, 0, none⟩) n.ls.length zc) rfl rfl (by kernel_rfl) (by kernel_rfl) (by kernel_rfl) (fun _ _ _ h => h) (Or.inl ⟨by kernel_rfl, by intro w hSw; (try dsimp only at hSw); go_simp⟩) hHeld ?_
              (try simp only [List.set_cons_zero, List.set_cons_succ])
              refine takeD 6 106 (.int .i64 (K : Int)) rfl rfl (by kernel_rfl) (by kernel_rfl) (by kernel_rfl) (fun _ _ _ h => h) (Or.inl ⟨by kernel_rfl, by intro w hSw; (try dsimp only at hSw); go_simp⟩) hHeld ?_
              (try simp only [List.set_cons_zero, List.set_cons_succ])
              refine takeD 7 107 (.int .i64 ((K : Int) + 1)) rfl rfl (by kernel_rfl) (by kernel_rfl) (by kernel_rfl) (fun _ _ _ h => h) (Or.inl ⟨by kernel_rfl, by intro w hSw; (try dsimp only at hSw); go_simp; exact wfit (by omega) (by omega)⟩) hHeld ?_
              (try simp only [List.set_cons_zero, List.set_cons_succ])
              refine takeD 8 108 (SV) rfl rfl (by kernel_rfl) (by kernel_rfl) (by kernel_rfl) (fun _ _ _ h => h) (Or.inl ⟨by kernel_rfl, by intro w _; exact yields_slice (t := 53) rfl elemI.1 (by simpa [Act.eval] using hsl2) w⟩) hHeld ?_
              (try simp only [List.set_cons_zero, List.set_cons_succ])
              refine wpAnyH_ready (rs := [0]) (by kernel_rfl) (by simp) (AllReadyH.cons rfl (fun KK hK => ?_) AllReadyH.nil)
              go_simp
              have ba5 : Below w3.drew.heap.size w3.drew (w3.drew.alloc (.cells #[] 3)) := (Below.refl _ _).alloc (Nat.le_refl _) _
              refine hK.out _ _ trivial (fun hHeld => ?_)
              clear hK KK
              (try simp only [Act.put])
              refine wpAnyH_ready (rs := [4]) (by kernel_rfl) (by simp) (AllReadyH.cons rfl (fun KK hK => ?_) AllReadyH.nil)
              have HM : Hid ((w3.drew.alloc (.cells #[] 3)).ownsRow w3.drew.heap.size 3 1 (.slice (some ⟨w3.drew.heap.size, 0, none⟩) 0 0) 0 []) := mkHid (World.ownsRow_made (base := w3.drew.heap.size) (e := 3) (size := 1) w3.drew #[] 0 (Nat.le_refl _) (by unfold maxLen; omega) rfl)
              have HB5 := mkHid (bt (Below.refl _ w3).drew ba5)
              refine step_append_srcI (w := (w3.drew.alloc (.cells #[] 3))) rfl (.tmp 100) (.tmp 103) 53 53 rfl w3.drew.heap.size 3 ie Tryd.underlying53 hie.out.1 (.int .i64 0) 8 hie.out.2.1 rfl hie.out.2.2.1 hie.out.2.2.2 (.slice (some ⟨w3.drew.heap.size, 0, none⟩) 0 0) 0 [] (by simp [Act.eval]) HM.out (.slice (some ⟨g, 0, none⟩) K zc) ((n.ls.map (·.nu)).take K).length (((n.ls.map (·.nu)).take K).flatMap ci) (by simp [Act.eval]) ((HP.out.1.below HB5.out).src Tryd.underlying53 (by omega) ci_len one_ci) (by rw [HTL.out]; unfold maxLen; omega) (by rw [HTL.out]; omega) (by simp) ?_
              intro v5 w5 ho5 hg5 hat5
              rw [List.nil_append, Nat.zero_add] at ho5
              have b5 : Below w3.drew.heap.size w3.drew w5 := ba5.grown hg5 ba5.size (fun k hk => (HM.out.lt k hk).1)
              refine hK.out _ _ trivial (fun hHeld => ?_)
              have HO5 := mkHid ho5
              have HB6 := mkHid (bt (Below.refl _ w3).drew b5)
              have HS5 := mkHid b5.size
              clear hK KK ho5 hg5 hat5
              (try simp only [Act.put])
              refine wpAnyH_ready (rs := [9]) (by kernel_rfl) (by simp) (AllReadyH.cons rfl (fun KK hK => ?_) AllReadyH.nil)
              refine step_append_srcI (w := w5) rfl (.tmp 104) (.tmp 108) 53 53 rfl w3.drew.heap.size 3 ie Tryd.underlying53 hie.out.1 (.int .i64 0) 8 hie.out.2.1 rfl hie.out.2.2.1 hie.out.2.2.2 v5 ((n.ls.map (·.nu)).take K).length (((n.ls.map (·.nu)).take K).flatMap ci) (by simp [Act.eval]) HO5.out SV ((n.ls.map (·.nu)).drop (K + 1)).length (((n.ls.map (·.nu)).drop (K + 1)).flatMap ci) (by simp [Act.eval]) ((HP2.out.below HB6.out).src Tryd.underlying53 (by omega) ci_len one_ci) (by rw [HTL.out, HDL.out]; unfold maxLen; omega) (by rw [HTL.out, HDL.out]; omega) HS5.out ?_
              intro v6 w6 ho6 hg6 hat6
              have HB7 := mkHid (bt (Below.refl _ w3).drew (b5.grown hg6 b5.size (fun k hk => (HO5.out.lt k hk).1)))
              rw [HTL.out, HDL.out, ci_map, ci_map, ← List.map_append] at ho6
              have HST4 : Hid (NSt W w6 own p (n.out K) (n.out K) v2 (ps.eraseIdx K) v6) := mkHid (HST3.out.made HB7.out (by rw [(out_nus hKl).1, (out_nus hKl).2]; exact ho6))
              obtain ⟨z4, cz4, rfl⟩ := own_sh' HST4.out.ws
              refine hK.out _ _ trivial (fun hHeld => ?_)
              clear hK KK ho6 hg6 hat6 b5 ba5
              (try simp only [Act.put])
              refine takeD 10 4 (.slice z4 (n.out K).ls.length cz4) rfl rfl (by kernel_rfl) (by kernel_rfl) (by kernel_rfl) (fun _ _ _ h => h) (Or.inl ⟨by kernel_rfl, by intro w hSw; (try dsimp only at hSw); go_simp⟩) hHeld ?_
              (try simp only [List.set_cons_zero, List.set_cons_succ])
              refine wpAnyH_done (by kernel_rfl) ?_ _
              clear hHeld
              go_wp2_with (first
                | (go_at_call 18; (first | refine (waiting_is _ 1 _ _ _ _ _ HST4.out.nb).mono ?_ | refine (waiting_is _ 1 _ _ _ _ _ HST3.out.nb).mono ?_ | refine (waiting_is _ 1 _ _ _ _ _ HST2.out.nb).mono ?_); rintro r w5 ⟨v5, rfl, ho5, b5⟩; obtain ⟨z5, cz5, rfl⟩ := own_sh' ho5; have HWT := mkHid (And.intro ho5 b5); clear ho5 b5)
                | (go_at_call 19; first | (have HF := mkHid (HST4.out.below HWT.out.2); refine (sameInts_yes _ _ _ _ (ints_in' HST4.out.nb.ok.len HWT.out.1) (ints_in' HST4.out.nb.ok.len HF.out.ws) (by rw [List.length_map]; have := HST4.out.nb.ok.len; omega)).mono ?_; rintro r w6 ⟨rfl, b6⟩; have HST6 := mkHid (HF.out.below b6); clear b6) | (have HF := mkHid (HST3.out.below HWT.out.2); refine (sameInts_yes _ _ _ _ (ints_in' HST3.out.nb.ok.len HWT.out.1) (ints_in' HST3.out.nb.ok.len HF.out.ws) (by rw [List.length_map]; have := HST3.out.nb.ok.len; omega)).mono ?_; rintro r w6 ⟨rfl, b6⟩; have HST6 := mkHid (HF.out.below b6); clear b6) | (have HF := mkHid (HST2.out.below HWT.out.2); refine (sameInts_yes _ _ _ _ (ints_in' HST2.out.nb.ok.len HWT.out.1) (ints_in' HST2.out.nb.ok.len HF.out.ws) (by rw [List.length_map]; have := HST2.out.nb.ok.len; omega)).mono ?_; rintro r w6 ⟨rfl, b6⟩; have HST6 := mkHid (HF.out.below b6); clear b6)))
              all_goals go_roundw
              all_goals first
                | (refine ⟨j + 1, _, _, _, _, ?_, by go_num, by omega, mkHid ⟨HST6.out, ?_⟩⟩ <;> first | rfl | (have := HN.out.2; (try simp only [Nt.put]); omega) | (simp [Nt.put]; done) | (simp [Nt.out]; done) | (have := HN.out.2; simp only [Nt.out]; omega))
                | (simp [intOf]; omega)
      · obtain ⟨w2, hw2⟩ : ∃ w2, w2 = (wr.alloc (.cells #[.int .i64 3, .int .i64 wh, .int .i64 fr, .int .i64 to, .int .i64 nn, .slice xa bs.length xc] 34)) := ⟨_, rfl⟩
        have c0 : w2.cell? ⟨wr.heap.size, 0, none⟩ = some (.int .i64 3) := by rw [hw2]; go_simp
        have c4 : w2.cell? ⟨wr.heap.size, 4, none⟩ = some (.int .i64 nn) := by rw [hw2]; go_simp
        go_wp2
        rw [← hw2] at HST2 ⊢
        clear hw2
        go_loopw [10, 68] (fun av qv wq => ∃ (A : Int) (q : Nat), av = .int .i64 A ∧ qv = .int .i64 (q : Int) ∧ q ≤ n.ls.length ∧ w2 = wq ∧ Hid (SrchP n nn q A)) (fun _ qv _ => n.ls.length - (intOf qv).toNat)
        case atStart => exact ⟨-1, 0, rfl, rfl, Nat.zero_le _, rfl, mkHid (.inl ⟨rfl, fun k l hk => by omega⟩)⟩
        case round =>
          obtain ⟨A, q, rfl, rfl, hq, rfl, HSR⟩ := hrel
          by_cases hql : q < n.ls.length
          · obtain ⟨g, rfl⟩ := own_some HST2.out.ws (by omega)
            obtain ⟨l, hl⟩ : ∃ l, n.ls[q]? = some l := ⟨_, List.getElem?_eq_getElem hql⟩
            have hcell := (own_cell HST2.out.ws (k := q) (u := iv l.nu) (by rw [List.getElem?_map, List.getElem?_map, hl]; rfl)).1
            have hqi : (q : Int) < (n.ls.length : Int) := by omega
            have hN40 := HST2.out.nb.ok.len
            by_cases e : l.nu = nn
            · have e2 : (l.nu == nn) = true := by simp [e]
              go_wp2
              go_roundw
              · exact ⟨(q : Int), q + 1, by first | rfl | go_num, by go_num, by omega, trivial, mkHid (SrchP.yes hl e)⟩
              · simp [intOf]; omega
            · have e2 : (l.nu == nn) = false := by simp [e]
              go_wp2
              go_roundw
              · exact ⟨A, q + 1, by first | rfl | go_num, by go_num, by omega, trivial, mkHid (HSR.out.no hl e)⟩
              · simp [intOf]; omega
          · obtain rfl : q = n.ls.length := by omega
            rcases HSR.out.end HST2.out.nb.ok with ⟨rfl, hf⟩ | ⟨K, rfl, hf, hKl⟩
            · go_wp2_with (first
            | (go_at_call 16; refine (drop_is own 1 w2 p v ps n HST2.out.nb nn eg (HE.out.kept H9.out HST2.out.bel).g).mono ?_; rintro r w3 (⟨hf2, rfl, b3⟩ | ⟨K2, v2, hf2, rfl, hr⟩) <;> first | (have HST3 := mkHid (HST2.out.below b3); clear b3) | (rw [hf] at hf2; cases hf2))
            | (go_at_call 18; (first | refine (waiting_is _ 1 _ _ _ _ _ HST4.out.nb).mono ?_ | refine (waiting_is _ 1 _ _ _ _ _ HST3.out.nb).mono ?_ | refine (waiting_is _ 1 _ _ _ _ _ HST2.out.nb).mono ?_); rintro r w5 ⟨v5, rfl, ho5, b5⟩; obtain ⟨z5, cz5, rfl⟩ := own_sh' ho5; have HWT := mkHid (And.intro ho5 b5); clear ho5 b5)
            | (go_at_call 19; first | (have HF := mkHid (HST4.out.below HWT.out.2); refine (sameInts_yes _ _ _ _ (ints_in' HST4.out.nb.ok.len HWT.out.1) (ints_in' HST4.out.nb.ok.len HF.out.ws) (by rw [List.length_map]; have := HST4.out.nb.ok.len; omega)).mono ?_; rintro r w6 ⟨rfl, b6⟩; have HST6 := mkHid (HF.out.below b6); clear b6) | (have HF := mkHid (HST3.out.below HWT.out.2); refine (sameInts_yes _ _ _ _ (ints_in' HST3.out.nb.ok.len HWT.out.1) (ints_in' HST3.out.nb.ok.len HF.out.ws) (by rw [List.length_map]; have := HST3.out.nb.ok.len; omega)).mono ?_; rintro r w6 ⟨rfl, b6⟩; have HST6 := mkHid (HF.out.below b6); clear b6) | (have HF := mkHid (HST2.out.below HWT.out.2); refine (sameInts_yes _ _ _ _ (ints_in' HST2.out.nb.ok.len HWT.out.1) (ints_in' HST2.out.nb.ok.len HF.out.ws) (by rw [List.length_map]; have := HST2.out.nb.ok.len; omega)).mono ?_; rintro r w6 ⟨rfl, b6⟩; have HST6 := mkHid (HF.out.below b6); clear b6)))
              all_goals go_roundw
              all_goals first
                | (refine ⟨j + 1, _, _, _, _, ?_, by go_num, by omega, mkHid ⟨HST6.out, ?_⟩⟩ <;> first | rfl | (have := HN.out.2; (try simp only [Nt.put]); omega) | (simp [Nt.put]; done) | (simp [Nt.out]; done) | (have := HN.out.2; simp only [Nt.out]; omega))
                | (simp [intOf]; omega)
            · have hK0 : (0 : Int) ≤ (K : Int) := by omega
              have hcell := hK0
              go_wp2_with (first
            | (go_at_call 16; refine (drop_is own 1 w2 p v ps n HST2.out.nb nn eg (HE.out.kept H9.out HST2.out.bel).g).mono ?_; rintro r w3 (⟨hf2, rfl, b3⟩ | ⟨K2, v2, hf2, rfl, hr⟩) <;> first | (rw [hf] at hf2; cases hf2; done) | (obtain rfl : K = K2 := (by rw [hf] at hf2; exact Option.some.inj hf2); have HST3 := mkHid (HST2.out.net hr); clear hr hf2)))
              obtain ⟨g, rfl⟩ := own_some HST2.out.ws (by omega)
              have HXL : Hid ((n.ls.map (·.nu)).length = n.ls.length) := mkHid (by rw [List.length_map])
              have HP := mkHid (part_in (xs := n.ls.map (·.nu)) (by rw [HXL.out]; have := HST2.out.nb.ok.len; omega) (by rw [HXL.out]; exact HST3.out.ws) K (by rw [HXL.out]; exact hKl))
              have hcap : n.ls.length ≤ zc := by obtain ⟨_, _, e, h⟩ := own_sh HST2.out.ws; simp only [Value.slice.injEq] at e; rw [e.2.2]; exact h
              have hsl1 : ∀ W, (Instr.slice 53 (.slice (some ⟨g, 0, none⟩) n.ls.length zc) none (some (.int .i64 (K : Int))) none).run Tryd.prog W = .ok (.slice (some ⟨g, 0, none⟩) K zc) W := fun W => by
                rw [run_slice_h W 53 _ _ _ elemI.1 .i64 _ (by omega) (by omega), elemI.2, sizeI]
                simp only [Result.andThen, Go.sliced]
                simp [add_none]
              obtain ⟨SV, hSV⟩ : ∃ SV, SV = Go.sliced (some ⟨g, 0, none⟩) (K + 1) n.ls.length zc 1 := ⟨_, rfl⟩
              have hsl2 : ∀ W, (Instr.slice 53 (.slice (some ⟨g, 0, none⟩) n.ls.length zc) (some (.int .i64 ((K : Int) + 1))) none none).run Tryd.prog W = .ok SV W := fun W => by
                rw [run_slice_l W 53 _ _ _ elemI.1 .i64 _ (by omega) (by omega), elemI.2, sizeI, hSV]
                simp only [Result.andThen]
                rfl
              have HP2 : Hid (RowIn 1 ci w3 SV ((n.ls.map (·.nu)).drop (K + 1))) := mkHid (by have := HP.out.2; rw [HXL.out] at this; rw [hSV]; exact this)
              have HTL : Hid (((n.ls.map (·.nu)).take K).length = K) := mkHid (by rw [List.length_take, HXL.out]; omega)
              have HDL : Hid (((n.ls.map (·.nu)).drop (K + 1)).length = n.ls.length - (K + 1)) := mkHid (by rw [List.length_drop, HXL.out])
              have hN40 := HST2.out.nb.ok.len
              clear hSV hcell
              refine wp_region_held_drew (S := fun _ => True) (by kernel_rfl) trivial (fun hHeld => ?_)
              refine takeD 1 101 (.slice (some ⟨g, 0, none⟩) n.ls.length zc) rfl rfl (by kernel_rfl) (by kernel_rfl) (by kernel_rfl) (fun _ _ _ h => h) (Or.inl ⟨by kernel_rfl, by intro w hSw; (try dsimp only at hSw); go_simp⟩) hHeld ?_
              (try simp only [List.set_cons_zero, List.set_cons_succ])
              refine takeD 2 102 (.int .i64 (K : Int)) rfl rfl (by kernel_rfl) (by kernel_rfl) (by kernel_rfl) (fun _ _ _ h => h) (Or.inl ⟨by kernel_rfl, by intro w hSw; (try dsimp only at hSw); go_simp⟩) hHeld ?_
              (try simp only [List.set_cons_zero, List.set_cons_succ])
              refine takeD 3 103 (.slice (some ⟨g, 0, none⟩) K zc) rfl rfl (by kernel_rfl) (by kernel_rfl) (by kernel_rfl) (fun _ _ _ h => h) (Or.inl ⟨by kernel_rfl, by intro w _; exact yields_slice (t := 53) rfl elemI.1 (by simpa [Act.eval] using hsl1) w⟩) hHeld ?_
              (try simp only [List.set_cons_zero, List.set_cons_succ])
              refine takeD 5 105 (.slice (some ⟨g, 0, none⟩) n.ls.length zc) rfl rfl (by kernel_rfl) (by kernel_rfl) (by kernel_rfl) (fun _ _ _ h => h) (Or.inl ⟨by kernel_rfl, by intro w hSw; (try dsimp only at hSw); go_simp⟩) hHeld ?_
              (try simp only [List.set_cons_zero, List.set_cons_succ])
              refine takeD 6 106 (.int .i64 (K : Int)) rfl rfl (by kernel_rfl) (by kernel_rfl) (by kernel_rfl) (fun _ _ _ h => h) (Or.inl ⟨by kernel_rfl, by intro w hSw; (try dsimp only at hSw); go_simp⟩) hHeld ?_
              (try simp only [List.set_cons_zero, List.set_cons_succ])
              refine takeD 7 107 (.int .i64 ((K : Int) + 1)) rfl rfl (by kernel_rfl) (by kernel_rfl) (by kernel_rfl) (fun _ _ _ h => h) (Or.inl ⟨by kernel_rfl, by intro w hSw; (try dsimp only at hSw); go_simp; exact wfit (by omega) (by omega)⟩) hHeld ?_
              (try simp only [List.set_cons_zero, List.set_cons_succ])
              refine takeD 8 108 (SV) rfl rfl (by kernel_rfl) (by kernel_rfl) (by kernel_rfl) (fun _ _ _ h => h) (Or.inl ⟨by kernel_rfl, by intro w _; exact yields_slice (t := 53) rfl elemI.1 (by simpa [Act.eval] using hsl2) w⟩) hHeld ?_
              (try simp only [List.set_cons_zero, List.set_cons_succ])
              refine wpAnyH_ready (rs := [0]) (by kernel_rfl) (by simp) (AllReadyH.cons rfl (fun KK hK => ?_) AllReadyH.nil)
              go_simp
              have ba5 : Below w3.drew.heap.size w3.drew (w3.drew.alloc (.cells #[] 3)) := (Below.refl _ _).alloc (Nat.le_refl _) _
              refine hK.out _ _ trivial (fun hHeld => ?_)
              clear hK KK
              (try simp only [Act.put])
              refine wpAnyH_ready (rs := [4]) (by kernel_rfl) (by simp) (AllReadyH.cons rfl (fun KK hK => ?_) AllReadyH.nil)
              have HM : Hid ((w3.drew.alloc (.cells #[] 3)).ownsRow w3.drew.heap.size 3 1 (.slice (some ⟨w3.drew.heap.size, 0, none⟩) 0 0) 0 []) := mkHid (World.ownsRow_made (base := w3.drew.heap.size) (e := 3) (size := 1) w3.drew #[] 0 (Nat.le_refl _) (by unfold maxLen; omega) rfl)
              have HB5 := mkHid (bt (Below.refl _ w3).drew ba5)
              refine step_append_srcI (w := (w3.drew.alloc (.cells #[] 3))) rfl (.tmp 100) (.tmp 103) 53 53 rfl w3.drew.heap.size 3 ie Tryd.underlying53 hie.out.1 (.int .i64 0) 8 hie.out.2.1 rfl hie.out.2.2.1 hie.out.2.2.2 (.slice (some ⟨w3.drew.heap.size, 0, none⟩) 0 0) 0 [] (by simp [Act.eval]) HM.out (.slice (some ⟨g, 0, none⟩) K zc) ((n.ls.map (·.nu)).take K).length (((n.ls.map (·.nu)).take K).flatMap ci) (by simp [Act.eval]) ((HP.out.1.below HB5.out).src Tryd.underlying53 (by omega) ci_len one_ci) (by rw [HTL.out]; unfold maxLen; omega) (by rw [HTL.out]; omega) (by simp) ?_
              intro v5 w5 ho5 hg5 hat5
              rw [List.nil_append, Nat.zero_add] at ho5
              have b5 : Below w3.drew.heap.size w3.drew w5 := ba5.grown hg5 ba5.size (fun k hk => (HM.out.lt k hk).1)
              refine hK.out _ _ trivial (fun hHeld => ?_)
              have HO5 := mkHid ho5
              have HB6 := mkHid (bt (Below.refl _ w3).drew b5)
              have HS5 := mkHid b5.size
              clear hK KK ho5 hg5 hat5
              (try simp only [Act.put])
              refine wpAnyH_ready (rs := [9]) (by kernel_rfl) (by simp) (AllReadyH.cons rfl (fun KK hK => ?_) AllReadyH.nil)
              refine step_append_srcI (w := w5) rfl (.tmp 104) (.tmp 108) 53 53 rfl w3.drew.heap.size 3 ie Tryd.underlying53 hie.out.1 (.int .i64 0) 8 hie.out.2.1 rfl hie.out.2.2.1 hie.out.2.2.2 v5 ((n.ls.map (·.nu)).take K).length (((n.ls.map (·.nu)).take K).flatMap ci) (by simp [Act.eval]) HO5.out SV ((n.ls.map (·.nu)).drop (K + 1)).length (((n.ls.map (·.nu)).drop (K + 1)).flatMap ci) (by simp [Act.eval]) ((HP2.out.below HB6.out).src Tryd.underlying53 (by omega) ci_len one_ci) (by rw [HTL.out, HDL.out]; unfold maxLen; omega) (by rw [HTL.out, HDL.out]; omega) HS5.out ?_
              intro v6 w6 ho6 hg6 hat6
              have HB7 := mkHid (bt (Below.refl _ w3).drew (b5.grown hg6 b5.size (fun k hk => (HO5.out.lt k hk).1)))
              rw [HTL.out, HDL.out, ci_map, ci_map, ← List.map_append] at ho6
              have HST4 : Hid (NSt W w6 own p (n.out K) (n.out K) v2 (ps.eraseIdx K) v6) := mkHid (HST3.out.made HB7.out (by rw [(out_nus hKl).1, (out_nus hKl).2]; exact ho6))
              obtain ⟨z4, cz4, rfl⟩ := own_sh' HST4.out.ws
              refine hK.out _ _ trivial (fun hHeld => ?_)
              clear hK KK ho6 hg6 hat6 b5 ba5
              (try simp only [Act.put])
              refine takeD 10 4 (.slice z4 (n.out K).ls.length cz4) rfl rfl (by kernel_rfl) (by kernel_rfl) (by kernel_rfl) (fun _ _ _ h => h) (Or.inl ⟨by kernel_rfl, by intro w hSw; (try dsimp only at hSw); go_simp⟩) hHeld ?_
              (try simp only [List.set_cons_zero, List.set_cons_succ])
              refine wpAnyH_done (by kernel_rfl) ?_ _
              clear hHeld
              go_wp2_with (first
                | (go_at_call 18; (first | refine (waiting_is _ 1 _ _ _ _ _ HST4.out.nb).mono ?_ | refine (waiting_is _ 1 _ _ _ _ _ HST3.out.nb).mono ?_ | refine (waiting_is _ 1 _ _ _ _ _ HST2.out.nb).mono ?_); rintro r w5 ⟨v5, rfl, ho5, b5⟩; obtain ⟨z5, cz5, rfl⟩ := own_sh' ho5; have HWT := mkHid (And.intro ho5 b5); clear ho5 b5)
                | (go_at_call 19; first | (have HF := mkHid (HST4.out.below HWT.out.2); refine (sameInts_yes _ _ _ _ (ints_in' HST4.out.nb.ok.len HWT.out.1) (ints_in' HST4.out.nb.ok.len HF.out.ws) (by rw [List.length_map]; have := HST4.out.nb.ok.len; omega)).mono ?_; rintro r w6 ⟨rfl, b6⟩; have HST6 := mkHid (HF.out.below b6); clear b6) | (have HF := mkHid (HST3.out.below HWT.out.2); refine (sameInts_yes _ _ _ _ (ints_in' HST3.out.nb.ok.len HWT.out.1) (ints_in' HST3.out.nb.ok.len HF.out.ws) (by rw [List.length_map]; have := HST3.out.nb.ok.len; omega)).mono ?_; rintro r w6 ⟨rfl, b6⟩; have HST6 := mkHid (HF.out.below b6); clear b6) | (have HF := mkHid (HST2.out.below HWT.out.2); refine (sameInts_yes _ _ _ _ (ints_in' HST2.out.nb.ok.len HWT.out.1) (ints_in' HST2.out.nb.ok.len HF.out.ws) (by rw [List.length_map]; have := HST2.out.nb.ok.len; omega)).mono ?_; rintro r w6 ⟨rfl, b6⟩; have HST6 := mkHid (HF.out.below b6); clear b6)))
              all_goals go_roundw
              all_goals first
                | (refine ⟨j + 1, _, _, _, _, ?_, by go_num, by omega, mkHid ⟨HST6.out, ?_⟩⟩ <;> first | rfl | (have := HN.out.2; (try simp only [Nt.put]); omega) | (simp [Nt.put]; done) | (simp [Nt.out]; done) | (have := HN.out.2; simp only [Nt.out]; omega))
                | (simp [intOf]; omega)
      · go_wp2_with (first
          | (go_at_call 18; (first | refine (waiting_is _ 1 _ _ _ _ _ HST4.out.nb).mono ?_ | refine (waiting_is _ 1 _ _ _ _ _ HST3.out.nb).mono ?_ | refine (waiting_is _ 1 _ _ _ _ _ HST2.out.nb).mono ?_); rintro r w5 ⟨v5, rfl, ho5, b5⟩; obtain ⟨z5, cz5, rfl⟩ := own_sh' ho5; have HWT := mkHid (And.intro ho5 b5); clear ho5 b5)
          | (go_at_call 19; first | (have HF := mkHid (HST4.out.below HWT.out.2); refine (sameInts_yes _ _ _ _ (ints_in' HST4.out.nb.ok.len HWT.out.1) (ints_in' HST4.out.nb.ok.len HF.out.ws) (by rw [List.length_map]; have := HST4.out.nb.ok.len; omega)).mono ?_; rintro r w6 ⟨rfl, b6⟩; have HST6 := mkHid (HF.out.below b6); clear b6) | (have HF := mkHid (HST3.out.below HWT.out.2); refine (sameInts_yes _ _ _ _ (ints_in' HST3.out.nb.ok.len HWT.out.1) (ints_in' HST3.out.nb.ok.len HF.out.ws) (by rw [List.length_map]; have := HST3.out.nb.ok.len; omega)).mono ?_; rintro r w6 ⟨rfl, b6⟩; have HST6 := mkHid (HF.out.below b6); clear b6) | (have HF := mkHid (HST2.out.below HWT.out.2); refine (sameInts_yes _ _ _ _ (ints_in' HST2.out.nb.ok.len HWT.out.1) (ints_in' HST2.out.nb.ok.len HF.out.ws) (by rw [List.length_map]; have := HST2.out.nb.ok.len; omega)).mono ?_; rintro r w6 ⟨rfl, b6⟩; have HST6 := mkHid (HF.out.below b6); clear b6)))
        all_goals go_roundw
        all_goals first
          | (refine ⟨j + 1, _, _, _, _, ?_, by go_num, by omega, mkHid ⟨HST6.out, ?_⟩⟩ <;> first | rfl | (have := HN.out.2; (try simp only [Nt.put]); omega) | (simp [Nt.put]; done) | (simp [Nt.out]; done) | (have := HN.out.2; simp only [Nt.out]; omega))
          | (simp [intOf]; omega)
    · obtain rfl : j = os.length := by omega
      go_wp2
      go_ret
      exact ⟨rfl, HN.out.1.bel⟩
end Go.Proofs.YtaiklaipdocdmaaDoor
