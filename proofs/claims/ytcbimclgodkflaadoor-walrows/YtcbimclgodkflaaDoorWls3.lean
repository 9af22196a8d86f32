/- A log's state under calls, told in full. -/
import Derived.Test.YtcbimclgodkflaaDoorWls2
namespace Go.Proofs.YtcbimclgodkflaaDoor
open Go.ChangeShapes Go.WideShapes Go.ChangeAt Go.RowKit
set_option maxRecDepth 100000

theorem append_fit {w wr : World} {l p n s E G I k : Nat} {F FR : Nat → Prop} {fr nx : Nat} {f : Int → List Int} {c : List (Int × List Int)} {nw : Int} {v : Value} {ts : List Rp} (h : LS w wr l p n s E G I k F FR fr nx f c nw v ts) (hn : (n : Int) ≤ 1024) (hk : k ≤ 2000) (hI : I ≤ 1000000) (ba : Option Addr) (bc : Nat) (data : List Int) (hrd : Rd wr (.slice ba data.length bc) data) (hd : data.length ≤ 32000) (gn gx : Nat) (e1 : lgen (ts.map (·.1)) = gn) (e2 : lix (ts.map (·.1)) = gx) (hfit : nx + npc (frm (⟨gn, E, gx + 1, data⟩ : Rc)).length ≤ fr + s) :
    Calls Tryd.prog 12 #[.pointer (some ⟨l, 0, none⟩), .slice ba data.length bc] wr fun e w' => e = .returned .nilIface ∧ ∃ F' FR' v' da dc, LS w w' l p n s E G (I + 1) (k + 1) F' FR' fr (nx + npc (frm (⟨gn, E, gx + 1, data⟩ : Rc)).length) f (c ++ writesOf (frm (⟨gn, E, gx + 1, data⟩ : Rc)) (nx : Int) (npc (frm (⟨gn, E, gx + 1, data⟩ : Rc)).length)) (nw + (npc (frm (⟨gn, E, gx + 1, data⟩ : Rc)).length : Int)) v' (ts ++ [((⟨gn, E, gx + 1, data⟩ : Rc), da, dc)]) := by
  have hcl := h.cl
  have hnw1 := h.nw1
  have htw := h.di.two
  have hfr := h.di.frs
  obtain ⟨va, vc, rfl⟩ := h.rc.shape
  obtain ⟨r1, hr1, f1, f2, _, hb1⟩ := last_in (rs := ts.map (·.1)) (T := fun r => r.gen ≤ G ∧ r.index ≤ I) (fun r hr => by
    obtain ⟨t, ht, rfl⟩ := List.mem_map.mp hr
    exact h.bd t ht) (fun e => by have := h.tp; simp at e; subst e; simp at this)
  obtain ⟨t1, ht1, hte⟩ := List.mem_map.mp hr1
  have hok1 := h.rc.ok t1 ht1
  rw [hte] at hok1
  rw [← f1, e1] at hb1
  rw [← f2, e2] at hb1
  have hg1 := hok1.g
  rw [← f1, e1] at hg1
  have hlast := last_any wr (.int .i64 (fr : Int)) (.int .i64 ((fr + s : Nat) : Int)) (.int .i64 (nx : Int)) (.slice va ts.length vc) ts h.rc (by have := h.tl; omega)
  rw [e1, e2] at hlast
  have hok : (⟨gn, E, gx + 1, data⟩ : Rc).ok := ⟨hg1, h.di.eb, by show gx + 1 ≤ _; have := hb1.2; omega, by show data.length ≤ _; omega, hrd.1⟩
  have hfl := frm_len hok hd
  have hnx := h.di.nxl
  have hnpc : npc (frm (⟨gn, E, gx + 1, data⟩ : Rc)).length ≤ 600 := by unfold npc; omega
  refine (ap_ok F FR wr l p n fr (fr + s) nx gn gx (gx + 1) E va vc ts f c nw ba bc data h.lg h.dk h.rc hrd hd (hlast.mono fun e w' hq => ⟨by obtain ⟨⟨da, dn, dc, he⟩, _⟩ := hq; exact ⟨_, da, dn, dc, he⟩, hq.2⟩) (fun W da dc hb hr ho => ?_) rfl (by omega) (lt_of_heap h.lg) h.lF h.lR h.RF (by omega) (by omega) hn (by omega) ⟨h.nw0, by omega⟩ _ rfl).mono ?_
  · exact with_ok (F := FR) W fr (fr + s) nx _ ts ((⟨gn, E, gx + 1, data⟩ : Rc), da, dc) (h.rc.below hb) hok hd hr (fun j hj => ⟨(ho j hj).2, fun e => by have := h.rc.lt j (h.rc.row j e); have := (ho j hj).1; omega⟩) (by have := h.tl; omega) hfit (by rcases hfr with e | e <;> omega)
  · rintro e w' ⟨rfl, F', F1, v', da, dc, q1, q2, q3, q4, q5, q6⟩
    refine ⟨rfl, F', F1, v', da, dc, q1, q2, q3, ?_, ?_, ?_, ?_, ?_, ?_, h.di.append _ hok hd (Nat.le_refl _) hb1.1 (by show gx + 1 ≤ _; omega) (sec_frm hok) hfit, ?_, ?_, ?_, kept_low h.bl q6 (fun j hj => h.ge j (by rcases hj with a | a | a; exact .inl a; exact .inr (.inl a); exact .inr (.inr a))), ?_⟩
    · intro t ht
      rcases List.mem_append.mp ht with a | a
      · exact ⟨(h.bd t a).1, by have := (h.bd t a).2; omega⟩
      · simp at a; subst a; exact ⟨hb1.1, by show gx + 1 ≤ _; omega⟩
    · rw [List.length_append, List.length_singleton]; have := h.tl; omega
    · rw [List.length_append, List.length_singleton]; omega
    · exact fun e => by
        rcases q4 l e with a | a
        · exact h.lF a
        · have := lt_of_heap h.lg; omega
    · exact fun e => by
        rcases (q5 l e).1 with a | a
        · exact h.lR a
        · have := lt_of_heap h.lg; omega
    · exact fun j hj => (q5 j hj).2
    · rw [List.length_append, writesOf_len]; omega
    · have := h.nw0; omega
    · omega
    · intro j hj
      have hs := h.bl.size
      rcases hj with a | a | a
      · rcases q4 j a with b | b
        · exact h.ge j (.inl b)
        · omega
      · rcases (q5 j a).1 with b | b
        · exact h.ge j (.inr (.inl b))
        · omega
      · exact h.ge j (.inr (.inr a))
theorem DI.flush {n s E G I fr nx : Nat} {f : Int → List Int} {c : List (Int × List Int)} (h : DI n s E G I fr nx f c) : DI n s E G I fr nx (flushed f c) [] := by
  have hn2 := h.two
  obtain ⟨hs, hh, hcl⟩ := h.seen
  obtain ⟨q1, q2⟩ := flushed_is f h.hd c h.sc
  obtain ⟨r, m, h1, h2, h3, h4⟩ := h.st
  refine ⟨h.two, h.one, q1, fun _ hx => by simp at hx, fun i h0 hi => by rw [q2]; exact hh i h0 hi, fun _ hx => by simp at hx, h.eb, by rw [q2, hcl _ (by omega)]; exact h.cell, by rw [q2, hcl _ (by omega)]; exact h.cel2, h.frs, ⟨r, m, stand_same (fun i => (h.hd i).len) h1 (fun i hi => by rw [q2]; exact seen_other _ _ _ (fun x hx e => h4 x hx (by omega))), h2, h3, fun _ hx => by simp at hx⟩, h.nxl⟩
theorem sync_ls {w wr : World} {l p n s E G I k : Nat} {F FR : Nat → Prop} {fr nx : Nat} {f : Int → List Int} {c : List (Int × List Int)} {nw : Int} {v : Value} {ts : List Rp} (h : LS w wr l p n s E G I k F FR fr nx f c nw v ts) (hk : k ≤ 2000) :
    Calls Tryd.prog 14 #[.pointer (some ⟨l, 0, none⟩)] wr fun e w' => e = .returned .nilIface ∧ LS w w' l p n s E G I k F FR fr nx (flushed f c) [] nw v ts := by
  refine (sync_ok F wr l p n fr (fr + s) nx E v f c nw h.lg h.dk (by have := h.cl; omega)).mono ?_
  rintro e w' ⟨rfl, hd, hk'⟩
  exact ⟨rfl, hd, (hk'.block l (lt_of_heap h.lg) h.lF).trans h.lg, h.rc.kept hk' (fun j hj hf => h.RF j hj hf), h.bd, h.tl, h.tp, h.lF, h.lR, h.RF, h.di.flush, by simp, h.nw0, h.nw1, kept_low (FR := FR) (l := l) h.bl ⟨hk'.os, hk'.tape, hk'.output, hk'.size, fun j hj hn => hk'.block j hj (fun e => hn (.inl e))⟩ h.ge, h.ge⟩
theorem format_fit {w wr : World} {p n s : Nat} {F : Nat → Prop} (hD : Dk F wr p n (fun _ => zeros) [] 0 false) (hbl : Below w.heap.size w wr) (hge : ∀ j, F j → w.heap.size ≤ j) (hn2 : 2 * s + 2 = n) (hs1 : 1 ≤ s) (hn : (n : Int) ≤ 1024) (ba : Option Addr) (bc : Nat) (data : List Int) (hrd : Rd wr (.slice ba data.length bc) data) (hd : data.length ≤ 32000) (hfit : npc (frm (⟨1, 1, 0, data⟩ : Rc)).length ≤ s) (eS eL eB eF : Addr) (heS : w.cell? ⟨5, 0, none⟩ = some (vEr eS)) (heL : w.cell? ⟨3, 0, none⟩ = some (vEr eL)) (heB : w.cell? ⟨6, 0, none⟩ = some (vEr eB)) (heF : w.cell? ⟨4, 0, none⟩ = some (vEr eF)) :
    Calls Tryd.prog 8 #[.pointer (some ⟨p, 0, none⟩), .slice ba data.length bc] wr fun e w' => ∃ l F' FR' v' da dc, e = .returned (.tuple #[.pointer (some ⟨l, 0, none⟩), .nilIface]) ∧ LS w w' l p n s 1 1 0 1 F' FR' 0 (0 + npc (frm (⟨1, 1, 0, data⟩ : Rc)).length) (flushed (flushed (fun _ => zeros) ([] ++ [(((n - 2 + 1 % 2 : Nat) : Int), cellS 1)])) ([] ++ writesOf (frm (⟨1, 1, 0, data⟩ : Rc)) ((0 : Nat) : Int) (npc (frm (⟨1, 1, 0, data⟩ : Rc)).length))) [] (0 + 1 + (npc (frm (⟨1, 1, 0, data⟩ : Rc)).length : Int)) v' [((⟨1, 1, 0, data⟩ : Rc), da, dc)] := by
  have hok : (⟨1, 1, 0, data⟩ : Rc).ok := ⟨by show 1 ≤ _; omega, by show 1 ≤ _; omega, by show 0 ≤ _; omega, by show data.length ≤ _; omega, hrd.1⟩
  have hfl := frm_len hok hd
  have hnpc : npc (frm (⟨1, 1, 0, data⟩ : Rc)).length ≤ 600 := by unfold npc; omega
  refine (format_is hD hn2 hs1 hn ba bc data hrd hd hfit eS eL eB eF (cell_lat hbl heS) (cell_lat hbl heL) (cell_lat hbl heB) (cell_lat hbl heF)).mono ?_
  rintro e w' ⟨l, F', F1, v', da, dc, rfl, q1, q2, q3, q4, q5, q6, q7, q8⟩
  refine ⟨l, F', F1, v', da, dc, rfl, q1, by rw [Nat.zero_add]; exact q2, q3, ?_, by simp, by simp, q7, fun e => (q5 l e).2.2 rfl, fun j hj => (q5 j hj).2.1, DI.fresh hn2 hs1 ⟨1, 1, 0, data⟩ hok hd rfl rfl rfl (sec_frm hok) hfit, by simp, by omega, by omega, ?_, ?_⟩
  · intro t ht
    simp at ht; subst ht
    exact ⟨Nat.le_refl _, Nat.le_refl _⟩
  · exact ⟨q8.os.trans hbl.os, q8.tape.trans hbl.tape, q8.output.trans hbl.output, Nat.le_trans hbl.size q8.size, fun j hj => (q8.block j (Nat.lt_of_lt_of_le hj hbl.size) (fun e => by have := hge j e; omega)).trans (hbl.block j hj)⟩
  · intro j hj
    have hs := hbl.size
    rcases hj with a | a | a
    · rcases q4 j a with b | b
      · exact hge j b
      · omega
    · have := (q5 j a).1; omega
    · omega
/-- Open. -/
theorem open_fit {w wr : World} {p n s E G I k : Nat} {F : Nat → Prop} {fr nx : Nat} {f : Int → List Int} {c : List (Int × List Int)} {nw : Int} (h : DS6 w wr p n s E G I k F fr nx f c nw) (hn : (n : Int) ≤ 1024) (hk : k ≤ 2000) (hE : E + 1 ≤ 1000000) (eS eL eB eF : Addr) (heS : w.cell? ⟨5, 0, none⟩ = some (vEr eS)) (heL : w.cell? ⟨3, 0, none⟩ = some (vEr eL)) (heB : w.cell? ⟨6, 0, none⟩ = some (vEr eB)) (heF : w.cell? ⟨4, 0, none⟩ = some (vEr eF)) :
    Calls Tryd.prog 21 #[.pointer (some ⟨p, 0, none⟩)] wr fun e w' => ∃ l base sa lv F' FR' GO fr' nx' v' ts' t0 rest, e = .returned (.tuple #[.pointer (some ⟨l, 0, none⟩), .slice sa t0.1.data.length t0.1.data.length, lv, .nilIface]) ∧ LS w w' l p n s (E + 1) G I (k + 1) F' FR' fr' nx' (flushed f (c ++ [(((n - 2 + (E + 1) % 2 : Nat) : Int), cellS (E + 1))])) [] (nw + 1) v' ts' ∧ ts' = t0 :: rest ∧ ts'.map (·.1) = (newA (seenOf f c) s).2.1 ∧ (newA (seenOf f c) s).2.2 = (nx' : Int) ∧ fr' = (if (newA (seenOf f c) s).1 = true then s else 0) ∧ Rd w' (.slice sa t0.1.data.length t0.1.data.length) t0.1.data ∧ Lst GO base w' lv (rest.map (·.1.data)) := by
  have hcl := h.cl
  have hnw1 := h.nw1
  have htw := h.di.two
  have hs1 := h.di.one
  obtain ⟨hne, hall, htop⟩ := h.di.newest
  obtain ⟨o, ho⟩ : ∃ o, o = newA (seenOf f c) s := ⟨_, rfl⟩
  obtain ⟨fr2, hfr2⟩ : ∃ fr2 : Nat, fr2 = (if o.1 = true then s else 0) := ⟨_, rfl⟩
  have hnew := newest_any F wr p n s f c nw _ _ _ _ _ _ h.dk (by omega) hn (by omega) (by omega) (cell_lat h.bl heS) (cell_lat h.bl heL) (cell_lat h.bl heB)
  rw [← ho] at hne hall htop hnew
  obtain ⟨nx2, hnx2⟩ : ∃ nx2 : Nat, nx2 = o.2.2.toNat := ⟨_, rfl⟩
  refine (op_ok F wr p n fr2 (fr2 + s) nx2 (E + 1) f c nw (fun ts => ts.map (·.1) = o.2.1 ∧ o.2.2 = (nx2 : Int) ∧ nx2 ≤ fr2 + s ∧ ts.length ≤ s) h.dk (by omega) (hnew.mono ?_) (fun W va vc ts FA hb hr hM => ?_) (fun ts hM => ?_) (by omega) hn (by omega) ⟨h.nw0, by omega⟩).mono ?_
  · rintro e w' ⟨fr', rfl, v, ts, nx', FA, rfl, hO, hR, hF, hb, h1, h2, h3⟩
    obtain ⟨va, vc, rfl⟩ := hR.shape
    have hx : o.2.2 = (nx' : Int) := by rw [hO]
    obtain rfl : nx2 = nx' := by rw [hnx2, hx]; simp
    exact ⟨va, vc, ts, FA, by rw [hfr2]; rfl, hR, hb, hF, by rw [hO], hx, by rw [hfr2]; omega, h3⟩
  · have := nextEpoch_any F FA W p n f c nw (.int .i64 (fr2 : Int)) (.int .i64 ((fr2 + s : Nat) : Int)) (.int .i64 (nx2 : Int)) (.slice va ts.length vc) (vEr eF) ts _ _ _ _ _ _ (h.dk.below hb) (by omega) hn (by omega) hr (by have := hM.2.2.2; omega) (cell_lat hb (cell_lat h.bl heS)) (cell_lat hb (cell_lat h.bl heL)) (cell_lat hb (cell_lat h.bl heB)) (cell_lat hb (cell_lat h.bl heF))
    rw [hM.1, htop, if_pos (by omega)] at this
    refine this.mono ?_
    rintro e w' ⟨rfl, hb2⟩
    exact ⟨by rw [show (1 : Int) + (E : Int) = ((E + 1 : Nat) : Int) by omega], hb2⟩
  · exact ⟨fun e => hne (by rw [← hM.1, e]; rfl), by have := hM.2.2.2; omega⟩
  · rintro e w' ⟨l, base, F', F1, GG, v, lv, sa, ts, t0, rest, rfl, hts, hM, q1, q2, q3, qr, ql, q4, q5, q6, q7, q8⟩
    refine ⟨l, base, sa, lv, F', F1, GG, fr2, nx2, v, ts, t0, rest, rfl, ⟨q1, q2, q3, ?_, by have := hM.2.2.2; omega, by rw [hts]; simp, q7, fun e => (q5 l e).2.2 rfl, fun j hj => (q5 j hj).2.1, h.di.opens (by omega) fr2 nx2 (by rw [hfr2, ho]) (by rw [← ho]; exact hM.2.1) hM.2.2.1, by simp, by have := h.nw0; omega, by omega, ?_, ?_⟩, hts, by rw [← ho]; exact hM.1, by rw [← ho]; exact hM.2.1, by rw [hfr2, ho], qr, ql⟩
    · intro t ht
      have := hall t.1 (by rw [← hM.1]; exact List.mem_map.mpr ⟨t, ht, rfl⟩)
      exact ⟨this.2.1, this.2.2⟩
    · exact ⟨q8.os.trans h.bl.os, q8.tape.trans h.bl.tape, q8.output.trans h.bl.output, Nat.le_trans h.bl.size q8.size, fun j hj => (q8.block j (Nat.lt_of_lt_of_le hj h.bl.size) (fun e => by have := h.ge j e; omega)).trans (h.bl.block j hj)⟩
    · intro j hj
      have hs := h.bl.size
      rcases hj with a | a | a
      · rcases q4 j a with b | b
        · exact h.ge j b
        · omega
      · have := (q5 j a).1; omega
      · omega
end Go.Proofs.YtcbimclgodkflaaDoor
