import Derived.Test.YtcbimclgodkflaaDoorWms
import Derived.Sort.QuietIn
import Derived.Test.YtcbimclgodkflaaDoorWalive
import Derived.Test.YtcbimclgodkflaaDoorWeps
/- A drawn region inside a round of a range over a function: where nothing is deferred it goes as outside. -/
namespace Go.Proofs.YtcbimclgodkflaaDoor
open Go.ChangeShapes Go.WideShapes Go.ChangeAt Go.RowKit Go.Shelf
set_option maxRecDepth 100000

theorem uponIn_round {F : Fence} {n l : Nat} {P : Program} {o : Oper} {a : Act} {K : Act → World → Prop} {Q : Exit → Act → World → Prop} (r : Result Next) (h : o.uponIn F n P a K Q r) : o.uponIn (F.inRound l) n P a K Q r := by
  cases r with
  | ok x w' => cases x <;> exact h
  | halt x w' => cases x <;> exact h
theorem wpOpIn_round {F : Fence} {n l : Nat} {P : Program} {ops : Array Oper} {Q : Exit → Act → World → Prop} (hnd : ∀ (i : Nat) (o : Oper), ops[i]? = some o → ∀ c, o.op ≠ .defer c) {i : Nat} {K : Act → World → Prop} {a : Act} {w : World} (h : wpOpIn F n P ops Q i K a w) : wpOpIn (F.inRound l) n P ops Q i K a w := by
  unfold wpOpIn at *
  cases ho : ops[i]? with
  | none => simpa [ho] using h
  | some o =>
    simp only [ho] at h ⊢
    split
    · rename_i hw
      simp only [hw, if_true] at h
      refine ⟨h.1, ?_⟩
      have h2 := h.2
      rw [Oper.semAt_plain F _ _ (hnd i o ho)] at h2
      rw [Oper.semAt_plain (F.inRound l) _ _ (hnd i o ho)]
      exact uponIn_round _ h2
    · rename_i hw
      simp only [hw] at h
      exact h
theorem wpAnyIn_round {F : Fence} {n l : Nat} {P : Program} {md : Region.Mode} {ops : Array Oper} {Q : Exit → Act → World → Prop} (hnd : ∀ (i : Nat) (o : Oper), ops[i]? = some o → ∀ c, o.op ≠ .defer c) (_hro : F.round = none) : ∀ (fuel : Nat) (listed : Array Bool) (a : Act) (w : World), wpAnyIn F n P md ops Q fuel listed a w → wpAnyIn (F.inRound l) n P md ops Q fuel listed a w := by
  intro fuel
  induction fuel with
  | zero => intro listed a w h; exact h
  | succ fuel ih => intro listed a w h; exact ⟨h.1, fun i hi => wpOpIn_mono (fun a w h => ih _ a w h) (wpOpIn_round hnd (h.2 i hi))⟩
/-- Does no operation defer? -/
def noDefer (ops : Array Oper) : Bool := ops.toList.all (fun o => match o.op with | .defer _ => false | _ => true)
theorem noDefer_is {ops : Array Oper} (h : noDefer ops = true) : ∀ (i : Nat) (o : Oper), ops[i]? = some o → ∀ c, o.op ≠ .defer c := fun i o ho c e => by
  have := List.all_eq_true.mp h o (by simpa using Array.mem_of_getElem? ho)
  rw [e] at this
  simp at this
/-- One walk of the lexical order serves every order, inside a round too. -/
theorem wpIn_region_quiet_round {F : Fence} {n l : Nat} {P : Program} {id : Nat} {Q : Exit → Act → World → Prop} {a : Act} {w : World} {ls : List Oper} (hro : F.round = none) (hm : P.follows .mixedOrders = true) (hB : Region.lexB .any ls.toArray = true) (hnd : noDefer ls.toArray = true)
    (h : wpQuietIn F n P ls.toArray (fun w' => ∃ n, w' = w.drewN n) (fun a' => ∀ w', (∃ n, w' = w.drewN n) → Q .normal a' w') ls a) : (Code.region id ls.toArray true).wpIn (F.inRound l) n P Q a w := by
  simp only [Region.lexB, Bool.and_eq_true] at hB
  refine wpIn_region_any hm (wpAnyIn_round (noDefer_is hnd) hro _ _ _ _ (wpAnyIn_of_quiet (C := fun w' => ∃ n, w' = w.drewN n) (Q := fun a' => ∀ w', (∃ n, w' = w.drewN n) → Q .normal a' w') hro (fun _ w' hw' h => h w' hw') _ _ _ _ ⟨1, rfl⟩ ?_))
  have := wpAnyQIn_lex (F := F) (n := n) (C := fun w' => ∃ n, w' = w.drewN n) (md := .any) hB.1 ls 0 (Array.replicate ls.toArray.size false) a (by simp) (by simpa using hB.2) h
  simpa using this
end Go.Proofs.YtcbimclgodkflaaDoor

/- The state of the law WalRows, and what its calls make of it. -/
namespace Go.Proofs.YtcbimclgodkflaaDoor
open Go.ChangeShapes Go.WideShapes Go.ChangeAt Go.RowKit Go.Shelf
set_option maxRecDepth 100000

/-- All that is older than the call, or the log's. -/
def Zs (w : World) (F FR : Nat → Prop) (l : Nat) : Nat → Prop := fun i => i < w.heap.size ∨ F i ∨ FR i ∨ i = l
structure ST (w wr : World) (l p B6 E G I k : Nat) (F FR : Nat → Prop) (fr nx : Nat) (f : Int → List Int) (c : List (Int × List Int)) (nw : Int) (v : Value) (ts : List Rp) (rv : Value) (ds : List Deferred) : Prop where
  rs : RS w wr l p 200 99 E G I k F FR fr nx f c nw v ts
  om : OM wr (Zs w F FR l) w.heap.size B6 rv (ts.map (·.1.data)) ds
theorem RS.zlt {w wr : World} {l p n s E G I k : Nat} {F FR : Nat → Prop} {fr nx : Nat} {f : Int → List Int} {c : List (Int × List Int)} {nw : Int} {v : Value} {ts : List Rp} (h : RS w wr l p n s E G I k F FR fr nx f c nw v ts) (i : Nat) (hi : Zs w F FR l i) : i < wr.heap.size := by
  have hs := h.ls.bl.size
  rcases hi with a | a | a | a
  · omega
  · exact h.ls.dk.1 i a
  · exact h.ls.rc.lt i a
  · subst a; exact lt_of_heap h.ls.lg
theorem ST.below {w wr w' : World} {l p B6 E G I k : Nat} {F FR : Nat → Prop} {fr nx : Nat} {f : Int → List Int} {c : List (Int × List Int)} {nw : Int} {v : Value} {ts : List Rp} {rv : Value} {ds : List Deferred} (h : ST w wr l p B6 E G I k F FR fr nx f c nw v ts rv ds) (hb : Below wr.heap.size wr w') : ST w w' l p B6 E G I k F FR fr nx f c nw v ts rv ds :=
  ⟨h.rs.below hb, h.om.kept (kept_below _ hb) (fun _ h => .inl h)⟩
theorem left_st {w wr : World} {l p B6 E G I k : Nat} {F FR : Nat → Prop} {fr nx : Nat} {f : Int → List Int} {c : List (Int × List Int)} {nw : Int} {v : Value} {ts : List Rp} {rv : Value} {ds : List Deferred} (h : ST w wr l p B6 E G I k F FR fr nx f c nw v ts rv ds) (L : Int) (hL : Hid (L = 63 * (((fr + 99 : Nat) : Int) - (nx : Int)))) :
    Calls Tryd.prog 22 #[.pointer (some ⟨l, 0, none⟩)] wr fun e w' => e = .returned (.int .i64 L) ∧ Below wr.heap.size wr w' := by
  refine (left_is wr l p fr (fr + 99) nx E v h.rs.ls.lg h.rs.ls.di.nxl (by rcases h.rs.ls.di.frs with e | e <;> omega)).mono ?_
  rintro e w' ⟨rfl, k, rfl⟩
  exact ⟨by rw [hL.out], ⟨rfl, rfl, rfl, Nat.le_refl _, fun _ _ => rfl⟩⟩
theorem om_frm {w wr w' : World} {l l' B6 : Nat} {F FR F' FR' : Nat → Prop} {rv : Value} {rows : List (List Int)} {ds : List Deferred} (h : OM wr (Zs w F FR l) w.heap.size B6 rv rows ds) (hf : Frm6 wr w' F FR F' FR' l l') : OM w' (Zs w F' FR' l') w.heap.size B6 rv rows ds := by
  obtain ⟨h1, h2, h3, h4⟩ := hf
  refine h.kept (h1.mono (fun i hi => ?_)) (fun i hi => ?_)
  · rcases hi with a | a | a
    · exact .inr (.inl a)
    · exact .inr (.inr (.inr a))
    · exact .inr (.inr (.inl a))
  · rcases hi with a | a | a | a
    · exact .inl (.inl a)
    · rcases h2 i a with b | b
      · exact .inl (.inr (.inl b))
      · exact .inr b
    · rcases h3 i a with b | b
      · exact .inl (.inr (.inr (.inl b)))
      · exact .inr b
    · subst a
      rcases h4 with b | b
      · exact .inl (.inr (.inr (.inr b)))
      · exact .inr b
theorem frm_kept {w wr w' : World} {l l' : Nat} {F FR F' FR' : Nat → Prop} (hf : Frm6 wr w' F FR F' FR' l l') : Kept (Zs w F FR l) wr w' := hf.1.mono (fun i hi => by
  rcases hi with a | a | a
  · exact .inr (.inl a)
  · exact .inr (.inr (.inr a))
  · exact .inr (.inr (.inl a)))
/-- Append. -/
def ApSt (w wr : World) (l p B6 E G I k : Nat) (F FR : Nat → Prop) (fr nx : Nat) (f : Int → List Int) (c : List (Int × List Int)) (nw : Int) (v : Value) (ts : List Rp) (rv : Value) (ds : List Deferred) (data : List Int) (e : Ending) (w' : World) : Prop :=
  (e = .returned .nilIface ∧ ∃ F' FR' nx' c' nw' v' t, RS w w' l p 200 99 E G (I + 1) (k + 1) F' FR' fr nx' f c' nw' v' (ts ++ [t]) ∧ OM w' (Zs w F' FR' l) w.heap.size B6 rv (ts.map (·.1.data)) ds ∧ t.1.data = data ∧ nx < nx' ∧ Kept (Zs w F FR l) wr w') ∨
    ((∃ a, e = .returned (vEr a)) ∧ ST w w' l p B6 E G (I + 1) (k + 1) F FR fr nx f c nw v ts rv ds ∧ Kept (Zs w F FR l) wr w')
theorem append_st {w wr : World} {l p B6 E G I k : Nat} {F FR : Nat → Prop} {fr nx : Nat} {f : Int → List Int} {c : List (Int × List Int)} {nw : Int} {v : Value} {ts : List Rp} {rv : Value} {ds : List Deferred} (h : ST w wr l p B6 E G I k F FR fr nx f c nw v ts rv ds) (hk : k ≤ 2000) (hI : I ≤ 1000000) (ba : Option Addr) (bc : Nat) (data : List Int) (hrd : Rd w (.slice ba data.length bc) data) (eL eF : Addr) (heL : w.cell? ⟨3, 0, none⟩ = some (vEr eL)) (heF : w.cell? ⟨4, 0, none⟩ = some (vEr eF)) :
    Calls Tryd.prog 12 #[.pointer (some ⟨l, 0, none⟩), .slice ba data.length bc] wr (ApSt w wr l p B6 E G I k F FR fr nx f c nw v ts rv ds data) := by
  refine (append_row h.rs (by decide) hk hI ba bc data (hrd.later h.rs.ls.bl) eL eF heL heF).mono ?_
  rintro e w' (⟨rfl, F', FR', nx', c', nw', v', t, hr, hd, hx, hf⟩ | ⟨he, hr, hf⟩)
  · exact .inl ⟨rfl, F', FR', nx', c', nw', v', t, hr, om_frm h.om hf, hd, hx, frm_kept hf⟩
  · exact .inr ⟨he, ⟨hr, om_frm h.om hf⟩, frm_kept hf⟩
/-- Checkpoint. -/
def CkSt (w wr : World) (l p B6 E G I k : Nat) (F FR : Nat → Prop) (fr nx : Nat) (f : Int → List Int) (c : List (Int × List Int)) (nw : Int) (v : Value) (ts : List Rp) (rv : Value) (ds : List Deferred) (data : List Int) (e : Ending) (w' : World) : Prop :=
  (e = .returned .nilIface ∧ ∃ F' FR' fr' nx' f' nw' v' t, RS w w' l p 200 99 E (G + 1) I (k + 1) F' FR' fr' nx' f' [] nw' v' [t] ∧ OM w' (Zs w F' FR' l) w.heap.size B6 rv (ts.map (·.1.data)) ds ∧ t.1.data = data ∧ Kept (Zs w F FR l) wr w') ∨
    ((∃ a, e = .returned (vEr a)) ∧ ST w w' l p B6 E G I (k + 1) F FR fr nx f c nw v ts rv ds ∧ Kept (Zs w F FR l) wr w')
theorem check_st {w wr : World} {l p B6 E G I k : Nat} {F FR : Nat → Prop} {fr nx : Nat} {f : Int → List Int} {c : List (Int × List Int)} {nw : Int} {v : Value} {ts : List Rp} {rv : Value} {ds : List Deferred} (h : ST w wr l p B6 E G I k F FR fr nx f c nw v ts rv ds) (hk : k ≤ 2000) (hG : G ≤ 1000000) (ba : Option Addr) (bc : Nat) (data : List Int) (hrd : Rd w (.slice ba data.length bc) data) (eL eF : Addr) (heL : w.cell? ⟨3, 0, none⟩ = some (vEr eL)) (heF : w.cell? ⟨4, 0, none⟩ = some (vEr eF)) :
    Calls Tryd.prog 16 #[.pointer (some ⟨l, 0, none⟩), .slice ba data.length bc] wr (CkSt w wr l p B6 E G I k F FR fr nx f c nw v ts rv ds data) := by
  refine (check_row h.rs (by decide) hk hG ba bc data (hrd.later h.rs.ls.bl) eL eF heL heF).mono ?_
  rintro e w' (⟨rfl, F', FR', fr', nx', f', nw', v', t, hr, hd, hf⟩ | ⟨he, hr, hf⟩)
  · exact .inl ⟨rfl, F', FR', fr', nx', f', nw', v', t, hr, om_frm h.om hf, hd, frm_kept hf⟩
  · exact .inr ⟨he, ⟨hr, om_frm h.om hf⟩, frm_kept hf⟩
/-- Open. -/
theorem open_st {w wr : World} {l p B6 E G I k : Nat} {F FR : Nat → Prop} {fr nx : Nat} {f : Int → List Int} {c : List (Int × List Int)} {nw : Int} {v : Value} {ts : List Rp} {rv : Value} {ds : List Deferred} (h : ST w wr l p B6 E G I k F FR fr nx f c nw v ts rv ds) (hk : k ≤ 2000) (hE : E + 1 ≤ 1000000) (eS eL eB eF : Addr) (heS : w.cell? ⟨5, 0, none⟩ = some (vEr eS)) (heL : w.cell? ⟨3, 0, none⟩ = some (vEr eL)) (heB : w.cell? ⟨6, 0, none⟩ = some (vEr eB)) (heF : w.cell? ⟨4, 0, none⟩ = some (vEr eF)) :
    Calls Tryd.prog 21 #[.pointer (some ⟨p, 0, none⟩)] wr fun e w' => ∃ (l' : Nat) (sa la : Option Addr) (lc : Nat) (F' FR' : Nat → Prop) (f' : Int → List Int) (nw' : Int) (v' : Value) (ts' : List Rp) (data : List Int) (rest : List (List Int)), e = .returned (.tuple #[.pointer (some ⟨l', 0, none⟩), .slice sa data.length data.length, .slice la rest.length lc, .nilIface]) ∧ ST w w' l' p B6 (E + 1) G I (k + 1) F' FR' fr nx f' [] nw' v' ts' rv ds ∧ ts'.map (·.1.data) = data :: rest ∧ Rd w' (.slice sa data.length data.length) data ∧ Kept (Zs w F FR l) wr w' := by
  refine (open_row h.rs (by decide) hk hE eS eL eB eF heS heL heB heF).mono ?_
  rintro e w' ⟨l', base, sa, lv, F', FR', GO, f', nw', v', ts', t0, rest, rfl, hr, hts, hm, hrd, hl, hf⟩
  obtain ⟨vs, ho, _, _⟩ := hl
  obtain ⟨la, lc, rfl⟩ := own_shape ho
  have e1 : ts'.map (·.1.data) = ts.map (·.1.data) := by
    have : (ts'.map (·.1)).map (·.data) = (ts.map (·.1)).map (·.data) := by rw [hm]
    rw [List.map_map, List.map_map] at this
    exact this
  refine ⟨l', sa, la, lc, F', FR', f', nw', v', ts', t0.1.data, rest.map (·.1.data), rfl, ⟨hr, by rw [e1]; exact om_frm h.om hf⟩, by rw [hts]; rfl, hrd, frm_kept hf⟩
/-- Another list of rows. -/
theorem push_st {w w5 w6 : World} {l p B6 E G I k : Nat} {F FR : Nat → Prop} {fr nx : Nat} {f : Int → List Int} {c : List (Int × List Int)} {nw : Int} {v rv v' : Value} {ts : List Rp} {rows rows' : List (List Int)} {ds : List Deferred} (hr : RS w w5 l p 200 99 E G I k F FR fr nx f c nw v ts) (ho : OM w5 (Zs w F FR l) w.heap.size B6 rv rows ds) (hown : w6.ownsRow 0 9 1 v' rows'.length (rows'.map sv)) (hk : Kept (fun k => rv.ownBlock = some k) w5 w6) (hat : v'.ownBlock = rv.ownBlock ∨ ∃ k, v'.ownBlock = some k ∧ w5.heap.size ≤ k) (hrows : rows' = ts.map (·.1.data)) :
    ST w (w6.setCell ⟨B6, 0, none⟩ v') l p B6 E G I k F FR fr nx f c nw v ts v' ds := by
  obtain ⟨h1, h2⟩ := ho.push (fun j hj => hr.zlt j hj) hown hk hat
  subst hrows
  refine ⟨⟨hr.ls.kept h2 (fun j hj hz => ?_), hr.ri⟩, h1⟩
  rcases hj with a | a
  · exact ho.zr j a hz
  · subst a; exact ho.z6 hz
/-- Ahead of the range: two blocks more. -/
structure Mid6 (w W9 : World) (B6 nb gv n : Nat) (Z FR : Nat → Prop) (rv : Value) : Prop where
  sz : W9.heap.size = nb + 2
  kn : W9.heap[nb]? = some (.cells #[.int .i64 0] 3 (0, 0))
  ks : W9.heap[nb + 1]? = some (.cells #[.slice (some ⟨gv, 0, none⟩) n n] 67 (0, 0))
  z : ∀ q, Z q → q < nb
  fr : ∀ q, FR q → q < nb
  b6 : B6 < nb
  b2 : w.heap.size < nb
  rv : ∀ q, rv.ownBlock = some q → q < nb
theorem rows_mid {w wS W9 : World} {l p B6 E G I k : Nat} {F FR : Nat → Prop} {fr nx : Nat} {f : Int → List Int} {c : List (Int × List Int)} {nw : Int} {v : Value} {ts : List Rp} {rv : Value} {ds : List Deferred} (h : ST w wS l p B6 E G I k F FR fr nx f c nw v ts rv ds) (gv n nb : Nat) (hW : W9 = (wS.alloc (.cells #[.int .i64 0] 3)).alloc (.cells #[.slice (some ⟨gv, 0, none⟩) n n] 67)) (hnb : nb = wS.heap.size) :
    ST w W9 l p B6 E G I k F FR fr nx f c nw v ts rv ds ∧ Mid6 w W9 B6 nb gv n (Zs w F FR l) FR rv := by
  subst hnb
  have hb : Below wS.heap.size wS W9 := by rw [hW]; exact ((Below.refl _ wS).alloc (Nat.le_refl _) _).alloc (by simp) _
  refine ⟨h.below hb, ⟨by rw [hW]; simp, ?_, ?_, fun q hq => h.rs.zlt q hq, fun q hq => h.rs.ls.rc.lt q hq, lt_of_heap h.om.b6, lt_of_heap h.om.b2, fun q hq => (own_block h.om.own q hq).1⟩⟩
  · rw [hW, heap_alloc_old _ _ (by simp)]
    exact heap_alloc_new wS _
  · rw [hW]
    have := heap_alloc_new (wS.alloc (.cells #[.int .i64 0] 3)) (.cells #[.slice (some ⟨gv, 0, none⟩) n n] 67)
    simpa using this
/-- The law's state ahead of a round. -/
def LR (w : World) (p B6 N : Nat) (lv iv : Value) (ds : List Deferred) (wr : World) : Prop :=
  ∃ (j l E G I : Nat) (F FR : Nat → Prop) (fr nx : Nat) (f : Int → List Int) (c : List (Int × List Int)) (nw : Int) (vv : Value) (ts : List Rp) (rv : Value), iv = .int .i64 (j : Int) ∧ j ≤ N ∧ j ≤ 101 ∧ lv = .pointer (some ⟨l, 0, none⟩) ∧ E ≤ 1 + j ∧ G ≤ 1 + j ∧ I ≤ j ∧ Hid (ST w wr l p B6 E G I (1 + j) F FR fr nx f c nw vv ts rv ds)
theorem rows_end {w W9 W : World} {l p B6 E G I k N j D nb gv n : Nat} {F FR : Nat → Prop} {fr nx : Nat} {f : Int → List Int} {c : List (Int × List Int)} {nw : Int} {v : Value} {ts : List Rp} {rv : Value} {ds : List Deferred} (h : ST w W9 l p B6 E G I k F FR fr nx f c nw v ts rv ds) (hm : Mid6 w W9 B6 nb gv n (Zs w F FR l) FR rv) (hk : k ≤ 1 + (j + 1)) (hE : E ≤ 1 + (j + 1)) (hG : G ≤ 1 + (j + 1)) (hI : I ≤ j + 1) (hN : j + 1 ≤ N) (hj : j + 1 ≤ 101) (hkW : Kept (fun q => q = nb ∨ W9.heap.size ≤ q) W9 W) (hD : W9.heap.size ≤ D) (hDd : W.heap[D]? = some (.deferred (some []))) :
    LR w p B6 N (.pointer (some ⟨l, 0, none⟩)) (.int .i64 ((j : Int) + 1)) ({ target := .collected D, args := #[] } :: ds) W := by
  have hz : ∀ q, (q = nb ∨ W9.heap.size ≤ q) → ¬ Zs w F FR l q := fun q hq hz => by
    have := hm.z q hz
    have := hm.sz
    omega
  have hs := hm.sz
  refine ⟨j + 1, l, E, G, I, F, FR, fr, nx, f, c, nw, v, ts, rv, by simp, hN, hj, rfl, hE, hG, hI, mkHid ⟨?_, ?_⟩⟩
  · exact RS.more ⟨h.rs.ls.kept hkW hz, h.rs.ri⟩ I (1 + (j + 1)) (Nat.le_refl _) hk
  · have o1 := h.om.apart hkW (by have := hm.b2; omega) (by have := hm.b6; omega) (fun q hq => by have := hm.rv q hq; omega) (fun D' hD' hd => by
      rintro (a | a)
      · subst a; rw [hm.kn] at hd; cases hd
      · omega)
    refine o1.mark ((h.om.ms.late (fun D' hD' hn hd => ⟨(hkW.block D' hD' (fun e => ?_)).trans hd, hn⟩)).wide hD) hDd (hz D (.inr hD))
    rcases e with a | a
    · subst a; rw [hm.kn] at hd; cases hd
    · omega
theorem own_one (w : World) (u : Value) : (w.alloc (.cells #[u] 9)).ownsRow 0 9 1 (.slice (some ⟨w.heap.size, 0, none⟩) 1 1) 1 [u] :=
  ⟨rfl, .inr ⟨w.heap.size, 1, #[u], rfl, Nat.zero_le _, heap_alloc_new w _, Nat.le_refl _, by unfold maxLen; omega, rfl, rfl⟩⟩
theorem sv48 : sv [48] = .string ⟨#[48]⟩ := by
  unfold sv
  congr 1
theorem rows_start {w w3 : World} {l p nx N : Nat} {F FR : Nat → Prop} {f : Int → List Int} {nw : Int} {v : Value} {t : Rp} (hr : RS w w3 l p 200 99 1 1 0 1 F FR 0 nx f [] nw v [t]) (hd : t.1.data = [48]) (h2 : w3.heap[w.heap.size]? = some (.cells #[.bool false] 4 (0, 0))) (hz : ¬ Zs w F FR l w.heap.size) :
    LR w p (w3.heap.size + 1) N (.pointer (some ⟨l, 0, none⟩)) (.int .i64 0) [] ((w3.alloc (.cells #[.string ⟨#[48]⟩] 9)).alloc (.cells #[.slice (some ⟨w3.heap.size, 0, none⟩) 1 1] 38)) := by
  have hb : Below w3.heap.size w3 ((w3.alloc (.cells #[.string ⟨#[48]⟩] 9)).alloc (.cells #[.slice (some ⟨w3.heap.size, 0, none⟩) 1 1] 38)) := ((Below.refl _ w3).alloc (Nat.le_refl _) _).alloc (by simp) _
  have l2 := lt_of_heap h2
  refine ⟨0, l, 1, 1, 0, F, FR, 0, nx, f, [], nw, v, [t], .slice (some ⟨w3.heap.size, 0, none⟩) 1 1, rfl, Nat.zero_le _, by omega, rfl, by omega, by omega, by omega, mkHid ⟨hr.below hb, ⟨(hb.block _ l2).trans h2, ?_, ?_, by omega, by simp [Value.ownBlock]; omega, by simp [Value.ownBlock], hz, fun h => ?_, fun q hq h => ?_, .nil _⟩⟩⟩
  · have := heap_alloc_new (w3.alloc (.cells #[.string ⟨#[48]⟩] 9)) (.cells #[.slice (some ⟨w3.heap.size, 0, none⟩) 1 1] 38)
    simpa using this
  · have h9 := own_one w3 (.string ⟨#[48]⟩)
    rw [List.map_singleton, hd]
    show World.ownsRow _ 0 9 1 _ 1 [sv [48]]
    rw [sv48]
    exact own_keptV h9 (kept_below (fun _ => False) ((Below.refl _ _).alloc (Nat.le_refl _) _)) (fun _ _ => id)
  · have := hr.zlt _ h; omega
  · simp [Value.ownBlock] at hq; subst hq; have := hr.zlt _ h; omega
end Go.Proofs.YtcbimclgodkflaaDoor

