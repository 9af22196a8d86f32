/- A log on a disk, in memory: what every call leaves of it. -/
import Derived.Test.YtcbimclgodkflaaDoorWdi
import Derived.Test.YtcbimclgodkflaaDoorWap
import Derived.Test.YtcbimclgodkflaaDoorWfull
import Derived.Test.YtcbimclgodkflaaDoorWfm
namespace Go.Proofs.YtcbimclgodkflaaDoor
open Go.ChangeShapes Go.WideShapes Go.ChangeAt Go.RowKit
set_option maxRecDepth 100000

abbrev vEr (a : Addr) : Value := .iface 162 (.pointer (some a))
theorem DI.mono {n s E G I G' I' fr nx : Nat} {f : Int → List Int} {c : List (Int × List Int)} (h : DI n s E G I fr nx f c) (hG : G ≤ G') (hI : I ≤ I') : DI n s E G' I' fr nx f c :=
  ⟨h.two, h.one, h.hd, h.sc, fun i a b => (h.head i a b).mono (Nat.le_refl _) hG hI, fun x hx => ⟨(h.hc x hx).1, (h.hc x hx).2.1, (h.hc x hx).2.2.mono (Nat.le_refl _) hG hI⟩, h.eb, h.cell, h.cel2, h.frs, h.st, h.nxl⟩
/-- A log's state; k bounds what has grown. -/
structure LS (w wr : World) (l p n s E G I k : Nat) (F FR : Nat → Prop) (fr nx : Nat) (f : Int → List Int) (c : List (Int × List Int)) (nw : Int) (v : Value) (ts : List Rp) : Prop where
  dk : Dk F wr p n f c nw false
  lg : Lg wr l p fr (fr + s) v nx E
  rc : Recs FR wr v ts
  bd : ∀ t ∈ ts, t.1.gen ≤ G ∧ t.1.index ≤ I
  tl : ts.length ≤ 1024 + k
  tp : 0 < ts.length
  lF : ¬ F l
  lR : ¬ FR l
  RF : ∀ j, FR j → ¬ F j
  di : DI n s E G I fr nx f c
  cl : c.length ≤ 1024 * k
  nw0 : 0 ≤ nw
  nw1 : nw ≤ 2000 * (k : Int) + 2000
  bl : Below w.heap.size w wr
  ge : ∀ j, F j ∨ FR j ∨ j = l → w.heap.size ≤ j
theorem LS.below {w wr w' : World} {l p n s E G I k : Nat} {F FR : Nat → Prop} {fr nx : Nat} {f : Int → List Int} {c : List (Int × List Int)} {nw : Int} {v : Value} {ts : List Rp} (h : LS w wr l p n s E G I k F FR fr nx f c nw v ts) (hb : Below wr.heap.size wr w') : LS w w' l p n s E G I k F FR fr nx f c nw v ts :=
  ⟨h.dk.below hb, (hb.block l (lt_of_heap h.lg)).trans h.lg, h.rc.below hb, h.bd, h.tl, h.tp, h.lF, h.lR, h.RF, h.di, h.cl, h.nw0, h.nw1, h.bl.trans (hb.mono h.bl.size), h.ge⟩
theorem LS.more {w wr : World} {l p n s E G I k : Nat} {F FR : Nat → Prop} {fr nx : Nat} {f : Int → List Int} {c : List (Int × List Int)} {nw : Int} {v : Value} {ts : List Rp} (h : LS w wr l p n s E G I k F FR fr nx f c nw v ts) (G' I' k' : Nat) (hG : G ≤ G') (hI : I ≤ I') (hk : k ≤ k') : LS w wr l p n s E G' I' k' F FR fr nx f c nw v ts :=
  ⟨h.dk, h.lg, h.rc, fun t ht => ⟨Nat.le_trans (h.bd t ht).1 hG, Nat.le_trans (h.bd t ht).2 hI⟩, by have := h.tl; omega, h.tp, h.lF, h.lR, h.RF, h.di.mono hG hI, by have := h.cl; omega, h.nw0, by have := h.nw1; omega, h.bl, h.ge⟩
theorem kept_low {F FR : Nat → Prop} {w wr w' : World} {l : Nat} (hb : Below w.heap.size w wr) (hk : Kept (fun j => F j ∨ j = l ∨ FR j) wr w') (hge : ∀ j, F j ∨ FR j ∨ j = l → w.heap.size ≤ j) : Below w.heap.size w w' :=
  ⟨hk.os.trans hb.os, hk.tape.trans hb.tape, hk.output.trans hb.output, Nat.le_trans hb.size hk.size, fun j hj => (hk.block j (Nat.lt_of_lt_of_le hj hb.size) (fun e => by
    have := hge j (by rcases e with a | a | a; exact .inl a; exact .inr (.inr a); exact .inr (.inl a))
    omega)).trans (hb.block j hj)⟩
theorem last_in {rs : List Rc} {T : Rc → Prop} (h : ∀ r ∈ rs, T r) (hp : rs ≠ []) : ∃ r ∈ rs, lgen rs = r.gen ∧ lix rs = r.index ∧ lep rs = r.epoch ∧ T r := by
  refine ⟨rs.getLast hp, List.getLast_mem hp, ?_, ?_, ?_, h _ (List.getLast_mem hp)⟩
  · unfold lgen; rw [List.getLast?_eq_some_getLast hp]; rfl
  · unfold lix; rw [List.getLast?_eq_some_getLast hp]; rfl
  · unfold lep; rw [List.getLast?_eq_some_getLast hp]; rfl
theorem frm_len {r : Rc} (hr : r.ok) (hd : r.data.length ≤ 32000) : (frm r).length ≤ 32029 := by
  have := wpay_len hr hd
  unfold frm; rw [frame_len]; omega
theorem frm_byts {r : Rc} (hr : r.ok) : Byts (frm r) := by
  unfold frm frame
  exact ((four_byts _).append (wpay_byts hr.b)).append (four_byts _)
theorem sec_frm {r : Rc} (hr : r.ok) (j : Nat) : Sec (sect (markOf j) (frm r) j) := sect_sec (by unfold markOf; split <;> omega) (frm_byts hr) j
/-- Append: whatever it answers, the log's state goes on. -/
theorem append_ls {w wr : World} {l p n s E G I k : Nat} {F FR : Nat → Prop} {fr nx : Nat} {f : Int → List Int} {c : List (Int × List Int)} {nw : Int} {v : Value} {ts : List Rp} (h : LS w wr l p n s E G I k F FR fr nx f c nw v ts) (hn : (n : Int) ≤ 1024) (hk : k ≤ 2000) (_hG : G ≤ 1000000) (hI : I ≤ 1000000) (ba : Option Addr) (bc : Nat) (data : List Int) (hrd : Rd wr (.slice ba data.length bc) data) (eL eF : Addr) (heL : w.cell? ⟨3, 0, none⟩ = some (vEr eL)) (heF : w.cell? ⟨4, 0, none⟩ = some (vEr eF)) :
    Calls Tryd.prog 12 #[.pointer (some ⟨l, 0, none⟩), .slice ba data.length bc] wr fun e w' => (∃ ev, e = .returned ev) ∧ ∃ F' FR' nx' c' nw' v' ts', LS w w' l p n s E G (I + 1) (k + 1) F' FR' fr nx' f c' nw' v' ts' := by
  have hcl := h.cl
  have hnw1 := h.nw1
  have htw := h.di.two
  have hfr := h.di.frs
  by_cases hd : data.length ≤ 32000
  · obtain ⟨va, vc, rfl⟩ := h.rc.shape
    obtain ⟨r1, hr1, e1, e2, _, hb1⟩ := last_in (rs := ts.map (·.1)) (T := fun r => r.gen ≤ G ∧ r.index ≤ I) (fun r hr => by
      obtain ⟨t, ht, rfl⟩ := List.mem_map.mp hr
      exact h.bd t ht) (fun e => by have := h.tp; simp at e; subst e; simp at this)
    obtain ⟨t1, ht1, hte⟩ := List.mem_map.mp hr1
    have hok1 := h.rc.ok t1 ht1
    rw [hte] at hok1
    have hlast := last_any wr (.int .i64 (fr : Int)) (.int .i64 ((fr + s : Nat) : Int)) (.int .i64 (nx : Int)) (.slice va ts.length vc) ts h.rc (by have := h.tl; omega)
    rw [e1, e2] at hlast
    have hok : (⟨r1.gen, E, r1.index + 1, data⟩ : Rc).ok := ⟨hok1.g, h.di.eb, by show r1.index + 1 ≤ _; have := hb1.2; omega, by show data.length ≤ _; omega, hrd.1⟩
    have hfl := frm_len hok hd
    have hnx := h.di.nxl
    have hnpc : npc (frm (⟨r1.gen, E, r1.index + 1, data⟩ : Rc)).length ≤ 600 := by unfold npc; omega
    by_cases hfit : nx + npc (frm (⟨r1.gen, E, r1.index + 1, data⟩ : Rc)).length ≤ fr + s
    · refine (ap_ok F FR wr l p n fr (fr + s) nx r1.gen r1.index (r1.index + 1) E va vc ts f c nw ba bc data h.lg h.dk h.rc hrd hd (hlast.mono fun e w' hq => ⟨by obtain ⟨⟨da, dn, dc, he⟩, _⟩ := hq; exact ⟨_, da, dn, dc, he⟩, hq.2⟩) (fun W da dc hb hr ho => ?_) rfl (by have := hok1.i; omega) (lt_of_heap h.lg) h.lF h.lR h.RF (by omega) (by omega) hn (by omega) ⟨h.nw0, by omega⟩ _ rfl).mono ?_
      · exact with_ok (F := FR) W fr (fr + s) nx _ ts ((⟨r1.gen, E, r1.index + 1, data⟩ : Rc), da, dc) (h.rc.below hb) hok hd hr (fun j hj => ⟨(ho j hj).2, fun e => by have := h.rc.lt j (h.rc.row j e); have := (ho j hj).1; omega⟩) (by have := h.tl; omega) hfit (by rcases hfr with e | e <;> omega)
      · rintro e w' ⟨rfl, F', F1, v', da, dc, q1, q2, q3, q4, q5, q6⟩
        refine ⟨⟨_, rfl⟩, F', F1, _, _, _, v', _, q1, q2, q3, ?_, ?_, ?_, ?_, ?_, ?_, h.di.append _ hok hd (Nat.le_refl _) hb1.1 (by show r1.index + 1 ≤ _; omega) (sec_frm hok) hfit, ?_, ?_, ?_, kept_low h.bl q6 (fun j hj => h.ge j (by rcases hj with a | a | a; exact .inl a; exact .inr (.inl a); exact .inr (.inr a))), ?_⟩
        · intro t ht
          rcases List.mem_append.mp ht with a | a
          · exact ⟨(h.bd t a).1, by have := (h.bd t a).2; omega⟩
          · simp at a; subst a; exact ⟨hb1.1, by show r1.index + 1 ≤ _; omega⟩
        · rw [List.length_append, List.length_singleton]; have := h.tl; omega
        · rw [List.length_append, List.length_singleton]; omega
        · exact fun e => by
            rcases q4 l e with a | a
            · exact h.lF a
            · have := lt_of_heap h.lg; omega
        · exact fun e => by
            rcases (q5 l e).1 with a | a
            · exact h.lR a
            · have := lt_of_heap h.lg; omega
        · exact fun j hj => (q5 j hj).2
        · rw [List.length_append, writesOf_len]; omega
        · have := h.nw0; omega
        · omega
        · intro j hj
          have hs := h.bl.size
          rcases hj with a | a | a
          · rcases q4 j a with b | b
            · exact h.ge j (.inl b)
            · omega
          · rcases (q5 j a).1 with b | b
            · exact h.ge j (.inr (.inl b))
            · omega
          · exact h.ge j (.inr (.inr a))
    · refine (ap_full F wr l p n fr (fr + s) nx r1.gen r1.index (r1.index + 1) E va vc ts f c nw ba bc data eF h.lg h.dk hrd hd (hlast.mono fun e w' hq => ⟨by obtain ⟨⟨da, dn, dc, he⟩, _⟩ := hq; exact ⟨_, da, dn, dc, he⟩, hq.2⟩) rfl (by have := hok1.i; omega) (fun W da dc hb hr ho => ?_)).mono ?_
      · exact with_full W fr (fr + s) nx va ts.length vc ((⟨r1.gen, E, r1.index + 1, data⟩ : Rc), da, dc) (vEr eF) hok hd hr (by show fr + s < nx + npc (frm (⟨r1.gen, E, r1.index + 1, data⟩ : Rc)).length; omega) (by rcases hfr with e | e <;> omega) (cell_lat hb (cell_lat h.bl heF))
      · rintro e w' ⟨rfl, hb⟩
        exact ⟨⟨_, rfl⟩, F, FR, nx, c, nw, _, ts, (h.below hb).more _ _ _ (Nat.le_refl _) (by omega) (by omega)⟩
  · refine (ap_large F wr l p n fr (fr + s) nx E v f c nw ba data.length bc eL h.lg h.dk (by omega) (cell_lat h.bl heL)).mono ?_
    rintro e w' ⟨rfl, hb⟩
    exact ⟨⟨_, rfl⟩, F, FR, nx, c, nw, _, ts, (h.below hb).more _ _ _ (Nat.le_refl _) (by omega) (by omega)⟩
theorem other_is {s fr : Nat} (hs : s ≤ 1000000) (h1 : 1 ≤ s) (hfr : fr = 0 ∨ fr = s) : ∃ fr2, (fr2 = 0 ∨ fr2 = s) ∧ ∀ (W : World) (v x : Value), Calls Tryd.prog 53 #[.agg #[.int .i64 (fr : Int), .int .i64 ((fr + s : Nat) : Int), v, x]] W fun e w' => e = .returned (.agg #[.int .i64 (fr2 : Int), .int .i64 ((fr2 + s : Nat) : Int), .slice none 0 0, .int .i64 (fr2 : Int)]) ∧ Below W.heap.size W w' := by
  rcases hfr with rfl | rfl
  · refine ⟨s, .inr rfl, fun W v x => ?_⟩
    have := other_first W s v x (by omega)
    rw [Nat.zero_add]
    exact this
  · refine ⟨0, .inl rfl, fun W v x => ?_⟩
    have := other_second W fr v x (by omega) (by omega)
    rw [Nat.zero_add]
    exact this
/-- Checkpoint: whatever it answers, the log's state goes on. -/
theorem check_ls {w wr : World} {l p n s E G I k : Nat} {F FR : Nat → Prop} {fr nx : Nat} {f : Int → List Int} {c : List (Int × List Int)} {nw : Int} {v : Value} {ts : List Rp} (h : LS w wr l p n s E G I k F FR fr nx f c nw v ts) (hn : (n : Int) ≤ 1024) (hk : k ≤ 2000) (hG : G ≤ 1000000) (_hI : I ≤ 1000000) (ba : Option Addr) (bc : Nat) (data : List Int) (hrd : Rd wr (.slice ba data.length bc) data) (eL eF : Addr) (heL : w.cell? ⟨3, 0, none⟩ = some (vEr eL)) (heF : w.cell? ⟨4, 0, none⟩ = some (vEr eF)) :
    Calls Tryd.prog 16 #[.pointer (some ⟨l, 0, none⟩), .slice ba data.length bc] wr fun e w' => (∃ ev, e = .returned ev) ∧ ∃ F' FR' fr' nx' f' c' nw' v' ts', LS w w' l p n s E (G + 1) I (k + 1) F' FR' fr' nx' f' c' nw' v' ts' := by
  have hcl := h.cl
  have hnw1 := h.nw1
  have htw := h.di.two
  have hfr := h.di.frs
  have hs1 := h.di.one
  by_cases hd : data.length ≤ 32000
  · obtain ⟨va, vc, rfl⟩ := h.rc.shape
    obtain ⟨r1, hr1, e1, e2, _, hb1⟩ := last_in (rs := ts.map (·.1)) (T := fun r => r.gen ≤ G ∧ r.index ≤ I) (fun r hr => by
      obtain ⟨t, ht, rfl⟩ := List.mem_map.mp hr
      exact h.bd t ht) (fun e => by have := h.tp; simp at e; subst e; simp at this)
    obtain ⟨fr2, hf2, hoth⟩ := other_is (s := s) (fr := fr) (by omega) hs1 hfr
    have hla : ∀ W, Below wr.heap.size wr W → Calls Tryd.prog 41 #[.agg #[.int .i64 (fr : Int), .int .i64 ((fr + s : Nat) : Int), .slice va ts.length vc, .int .i64 (nx : Int)]] W fun e w' => ∃ (ge gi : Int) (gd : Option Addr) (gl gc : Nat), e = .returned (.agg #[.int .i64 (r1.gen : Int), .int .i64 ge, .int .i64 gi, .slice gd gl gc]) ∧ Below W.heap.size W w' := fun W hb => by
      have := last_any W (.int .i64 (fr : Int)) (.int .i64 ((fr + s : Nat) : Int)) (.int .i64 (nx : Int)) (.slice va ts.length vc) ts (h.rc.below hb) (by have := h.tl; omega)
      rw [e1] at this
      exact this.mono fun e w' ⟨⟨da, dn, dc, he⟩, hb⟩ => ⟨_, _, da, dn, dc, he, hb⟩
    have hok : (⟨r1.gen + 1, E, 0, data⟩ : Rc).ok := ⟨by show r1.gen + 1 ≤ _; have := hb1.1; omega, h.di.eb, by show 0 ≤ _; omega, by show data.length ≤ _; omega, hrd.1⟩
    have hfl := frm_len hok hd
    have hnpc : npc (frm (⟨r1.gen + 1, E, 0, data⟩ : Rc)).length ≤ 600 := by unfold npc; omega
    by_cases hfit : npc (frm (⟨r1.gen + 1, E, 0, data⟩ : Rc)).length ≤ s
    · refine (ck_ok F wr l p n fr (fr + s) nx fr2 (fr2 + s) (r1.gen + 1) E va vc ts f c nw ba bc data h.lg h.dk hrd hd (fun W da dc hb hr ho => ?_) (lt_of_heap h.lg) h.lF (by rcases hf2 with e | e <;> omega) (by omega) hn (by omega) ⟨h.nw0, by omega⟩ _ rfl).mono ?_
      · exact anew_ok (F := FR) W fr (fr + s) nx fr2 (fr2 + s) r1.gen (r1.gen + 1) E va da vc dc ts data (h.rc.below hb) (by have := hb1.1; omega) rfl h.di.eb hd hr ho (by omega) (by rcases hf2 with e | e <;> omega) (fun W' => hoth W' _ _) (fun W' hb' => hla W' (hb.trans (hb'.mono hb.size)))
      · rintro e w' ⟨rfl, F', F1, v', da, dc, q1, q2, q3, q4, q5, q6⟩
        refine ⟨⟨_, rfl⟩, F', F1, fr2, _, _, [], _, v', _, q1, q2, q3, ?_, by simp; omega, by simp, ?_, ?_, ?_, h.di.begin _ hok hd (Nat.le_refl _) (by show r1.gen + 1 ≤ _; have := hb1.1; omega) (by show 1 ≤ r1.gen + 1; omega) rfl (sec_frm hok) fr2 hf2 hfit, by simp, ?_, ?_, kept_low (FR := FR) h.bl ⟨q6.os, q6.tape, q6.output, q6.size, fun j hj hn => q6.block j hj (fun e => hn (by rcases e with a | a; exact .inl a; exact .inr (.inl a)))⟩ h.ge, ?_⟩
        · intro t ht
          simp at ht; subst ht
          exact ⟨by show r1.gen + 1 ≤ _; have := hb1.1; omega, by show 0 ≤ _; omega⟩
        · exact fun e => by
            rcases q4 l e with a | a
            · exact h.lF a
            · have := lt_of_heap h.lg; omega
        · exact fun e => by
            have := (q5 l e).1
            have := lt_of_heap h.lg; omega
        · exact fun j hj => (q5 j hj).2
        · have := h.nw0; omega
        · omega
        · intro j hj
          have hs := h.bl.size
          rcases hj with a | a | a
          · rcases q4 j a with b | b
            · exact h.ge j (.inl b)
            · omega
          · have := (q5 j a).1; omega
          · exact h.ge j (.inr (.inr a))
    · refine (ck_full F wr l p n fr (fr + s) nx E va vc ts f c nw ba bc data eF h.lg h.dk hrd hd (fun W da dc hb hr ho => ?_)).mono ?_
      · exact anew_full (F := FR) W fr (fr + s) nx fr2 (fr2 + s) r1.gen (r1.gen + 1) E va da vc dc ts data eF (h.rc.below hb) (by have := hb1.1; omega) rfl h.di.eb hd hr (by omega) (by rcases hf2 with e | e <;> omega) (cell_lat hb (cell_lat h.bl heF)) (fun W' => hoth W' _ _) (fun W' hb' => hla W' (hb.trans (hb'.mono hb.size)))
      · rintro e w' ⟨rfl, hb⟩
        exact ⟨⟨_, rfl⟩, F, FR, fr, nx, f, c, nw, _, ts, (h.below hb).more _ _ _ (by omega) (Nat.le_refl _) (by omega)⟩
  · refine (ck_large F wr l p n fr (fr + s) nx E v f c nw ba data.length bc eL h.lg h.dk (by omega) (cell_lat h.bl heL)).mono ?_
    rintro e w' ⟨rfl, hb⟩
    exact ⟨⟨_, rfl⟩, F, FR, fr, nx, f, c, nw, _, ts, (h.below hb).more _ _ _ (by omega) (Nat.le_refl _) (by omega)⟩
/-- A disk's state, with or without a log in memory. -/
structure DS6 (w wr : World) (p n s E G I k : Nat) (F : Nat → Prop) (fr nx : Nat) (f : Int → List Int) (c : List (Int × List Int)) (nw : Int) : Prop where
  dk : Dk F wr p n f c nw false
  di : DI n s E G I fr nx f c
  cl : c.length ≤ 1024 * k
  nw0 : 0 ≤ nw
  nw1 : nw ≤ 2000 * (k : Int) + 2000
  bl : Below w.heap.size w wr
  ge : ∀ j, F j → w.heap.size ≤ j
theorem LS.disk {w wr : World} {l p n s E G I k : Nat} {F FR : Nat → Prop} {fr nx : Nat} {f : Int → List Int} {c : List (Int × List Int)} {nw : Int} {v : Value} {ts : List Rp} (h : LS w wr l p n s E G I k F FR fr nx f c nw v ts) : DS6 w wr p n s E G I k F fr nx f c nw := ⟨h.dk, h.di, h.cl, h.nw0, h.nw1, h.bl, fun j hj => h.ge j (.inl hj)⟩
theorem crash_ls {w wr : World} {p n s E G I k : Nat} {F : Nat → Prop} {fr nx : Nat} {f : Int → List Int} {c : List (Int × List Int)} {nw : Int} (h : DS6 w wr p n s E G I k F fr nx f c nw) (hk : k ≤ 2000) (keep torn : Int) :
    Calls Tryd.prog 20 #[.pointer (some ⟨p, 0, none⟩), .int .u64 keep, .int .i64 torn] wr fun e w' => e = .returned (.tuple #[]) ∧ DS6 w w' p n s E G I k F fr nx (crashedTo (kbit keep) torn f c c.length) [] nw := by
  refine (crash_any F wr p n f c nw false keep torn h.dk (by have := h.cl; omega)).mono ?_
  rintro e w' ⟨rfl, hd, hk'⟩
  refine ⟨rfl, hd, h.di.crash _ _ _, by simp, h.nw0, h.nw1, ⟨hk'.os.trans h.bl.os, hk'.tape.trans h.bl.tape, hk'.output.trans h.bl.output, Nat.le_trans h.bl.size hk'.size, fun j hj => (hk'.block j (Nat.lt_of_lt_of_le hj h.bl.size) (fun e => by have := h.ge j e; omega)).trans (h.bl.block j hj)⟩, h.ge⟩
/-- Open. -/
theorem open_ls {w wr : World} {p n s E G I k : Nat} {F : Nat → Prop} {fr nx : Nat} {f : Int → List Int} {c : List (Int × List Int)} {nw : Int} (h : DS6 w wr p n s E G I k F fr nx f c nw) (hn : (n : Int) ≤ 1024) (hk : k ≤ 2000) (hE : E + 1 ≤ 1000000) (eS eL eB eF : Addr) (heS : w.cell? ⟨5, 0, none⟩ = some (vEr eS)) (heL : w.cell? ⟨3, 0, none⟩ = some (vEr eL)) (heB : w.cell? ⟨6, 0, none⟩ = some (vEr eB)) (heF : w.cell? ⟨4, 0, none⟩ = some (vEr eF)) :
    Calls Tryd.prog 21 #[.pointer (some ⟨p, 0, none⟩)] wr fun e w' => ∃ l sv lv F' FR' fr' nx' f' nw' v' ts', e = .returned (.tuple #[.pointer (some ⟨l, 0, none⟩), sv, lv, .nilIface]) ∧ LS w w' l p n s (E + 1) G I (k + 1) F' FR' fr' nx' f' [] nw' v' ts' := by
  have hcl := h.cl
  have hnw1 := h.nw1
  have htw := h.di.two
  have hs1 := h.di.one
  obtain ⟨hne, hall, htop⟩ := h.di.newest
  obtain ⟨o, ho⟩ : ∃ o, o = newA (seenOf f c) s := ⟨_, rfl⟩
  obtain ⟨fr2, hfr2⟩ : ∃ fr2 : Nat, fr2 = (if o.1 = true then s else 0) := ⟨_, rfl⟩
  have hnew := newest_any F wr p n s f c nw _ _ _ _ _ _ h.dk (by omega) hn (by omega) (by omega) (cell_lat h.bl heS) (cell_lat h.bl heL) (cell_lat h.bl heB)
  rw [← ho] at hne hall htop hnew
  obtain ⟨nx2, hnx2⟩ : ∃ nx2 : Nat, nx2 = o.2.2.toNat := ⟨_, rfl⟩
  refine (op_ok F wr p n fr2 (fr2 + s) nx2 (E + 1) f c nw (fun ts => ts.map (·.1) = o.2.1 ∧ o.2.2 = (nx2 : Int) ∧ nx2 ≤ fr2 + s ∧ ts.length ≤ s) h.dk (by omega) (hnew.mono ?_) (fun W va vc ts FA hb hr hM => ?_) (fun ts hM => ?_) (by omega) hn (by omega) ⟨h.nw0, by omega⟩).mono ?_
  · rintro e w' ⟨fr', rfl, v, ts, nx', FA, rfl, hO, hR, hF, hb, h1, h2, h3⟩
    obtain ⟨va, vc, rfl⟩ := hR.shape
    have hx : o.2.2 = (nx' : Int) := by rw [hO]
    obtain rfl : nx2 = nx' := by rw [hnx2, hx]; simp
    exact ⟨va, vc, ts, FA, by rw [hfr2]; rfl, hR, hb, hF, by rw [hO], hx, by rw [hfr2]; omega, h3⟩
  · have := nextEpoch_any F FA W p n f c nw (.int .i64 (fr2 : Int)) (.int .i64 ((fr2 + s : Nat) : Int)) (.int .i64 (nx2 : Int)) (.slice va ts.length vc) (vEr eF) ts _ _ _ _ _ _ (h.dk.below hb) (by omega) hn (by omega) hr (by have := hM.2.2.2; omega) (cell_lat hb (cell_lat h.bl heS)) (cell_lat hb (cell_lat h.bl heL)) (cell_lat hb (cell_lat h.bl heB)) (cell_lat hb (cell_lat h.bl heF))
    rw [hM.1, htop, if_pos (by omega)] at this
    refine this.mono ?_
    rintro e w' ⟨rfl, hb2⟩
    exact ⟨by rw [show (1 : Int) + (E : Int) = ((E + 1 : Nat) : Int) by omega], hb2⟩
  · exact ⟨fun e => hne (by rw [← hM.1, e]; rfl), by have := hM.2.2.2; omega⟩
  · rintro e w' ⟨l, base, F', F1, GG, v, lv, sa, ts, t0, rest, rfl, hts, hM, q1, q2, q3, _, _, q4, q5, q6, q7, q8⟩
    refine ⟨l, _, lv, F', F1, fr2, nx2, _, _, v, ts, rfl, q1, q2, q3, ?_, by have := hM.2.2.2; omega, by rw [hts]; simp, q7, fun e => (q5 l e).2.2 rfl, fun j hj => (q5 j hj).2.1, h.di.opens (by omega) fr2 nx2 (by rw [hfr2, ho]) (by rw [← ho]; exact hM.2.1) hM.2.2.1, by simp, by have := h.nw0; omega, by omega, ?_, ?_⟩
    · intro t ht
      have := hall t.1 (by rw [← hM.1]; exact List.mem_map.mpr ⟨t, ht, rfl⟩)
      exact ⟨this.2.1, this.2.2⟩
    · exact ⟨q8.os.trans h.bl.os, q8.tape.trans h.bl.tape, q8.output.trans h.bl.output, Nat.le_trans h.bl.size q8.size, fun j hj => (q8.block j (Nat.lt_of_lt_of_le hj h.bl.size) (fun e => by have := h.ge j e; omega)).trans (h.bl.block j hj)⟩
    · intro j hj
      have hs := h.bl.size
      rcases hj with a | a | a
      · rcases q4 j a with b | b
        · exact h.ge j b
        · omega
      · have := (q5 j a).1; omega
      · omega
end Go.Proofs.YtcbimclgodkflaaDoor
