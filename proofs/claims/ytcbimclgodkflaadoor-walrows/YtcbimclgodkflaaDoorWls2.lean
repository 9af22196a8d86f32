/- A log is begun on a new disk. -/
import Derived.Test.YtcbimclgodkflaaDoorWls
namespace Go.Proofs.YtcbimclgodkflaaDoor
open Go.ChangeShapes Go.WideShapes Go.ChangeAt Go.RowKit
set_option maxRecDepth 100000

theorem topEp_zero (n : Int) : topEp (fun _ => zeros) n [] = 0 := by
  unfold topEp
  simp only [cellN_zeros]
  simp [lep]
/-- Format on a disk of zeros, told in full. -/
theorem format_is {wr : World} {p n s : Nat} {F : Nat → Prop} (hD : Dk F wr p n (fun _ => zeros) [] 0 false) (hn2 : 2 * s + 2 = n) (hs1 : 1 ≤ s) (hn : (n : Int) ≤ 1024) (ba : Option Addr) (bc : Nat) (data : List Int) (hrd : Rd wr (.slice ba data.length bc) data) (hd : data.length ≤ 32000) (hfit : npc (frm (⟨1, 1, 0, data⟩ : Rc)).length ≤ s) (eS eL eB eF : Addr) (heS : wr.cell? ⟨5, 0, none⟩ = some (vEr eS)) (heL : wr.cell? ⟨3, 0, none⟩ = some (vEr eL)) (heB : wr.cell? ⟨6, 0, none⟩ = some (vEr eB)) (heF : wr.cell? ⟨4, 0, none⟩ = some (vEr eF)) :
    Calls Tryd.prog 8 #[.pointer (some ⟨p, 0, none⟩), .slice ba data.length bc] wr (FmPost F wr p n (fun _ => zeros) [] 0 0 s (0 + npc (frm (⟨1, 1, 0, data⟩ : Rc)).length) 1 ⟨1, 1, 0, data⟩) := by
  have hok : (⟨1, 1, 0, data⟩ : Rc).ok := ⟨by show 1 ≤ _; omega, by show 1 ≤ _; omega, by show 0 ≤ _; omega, by show data.length ≤ _; omega, hrd.1⟩
  have hfl := frm_len hok hd
  have hnew := newest_any F wr p n s (fun _ => zeros) [] 0 _ _ _ _ _ _ hD (by omega) hn (by omega) (by simp) heS heL heB
  have hz : seenOf (fun _ => zeros) [] = fun _ => zeros := rfl
  rw [hz, newA_zero] at hnew
  refine fm_ok F wr p n s (s + s) s 0 s 1 1 (fun _ => zeros) [] 0 ba bc data (fun ts => ts = []) hD (by omega) hrd hd (hnew.mono ?_) (fun W va vc ts FA hb hr hM => ?_) (fun W va vc ts FA da dc hb hr hM hrW ho => ?_) (by omega) (by omega) (by omega) hn (by simp) ⟨by omega, by omega⟩ _ rfl
  · rintro e w' ⟨fr', hfr, v, ts, nx', FA, rfl, hO, hR, hF, hb, h1, h2, h3⟩
    simp at hfr
    subst hfr
    obtain ⟨va, vc, rfl⟩ := hR.shape
    simp at hO
    obtain ⟨ht, hx⟩ := hO
    subst ht
    obtain rfl : fr' = nx' := by omega
    exact ⟨va, vc, [], FA, rfl, hR, hb, rfl⟩
  · subst hM
    have := nextEpoch_any F FA W p n (fun _ => zeros) [] 0 (.int .i64 (s : Int)) (.int .i64 ((s + s : Nat) : Int)) (.int .i64 (s : Int)) (.slice va ([] : List Rp).length vc) (vEr eF) [] _ _ _ _ _ _ (hD.below hb) (by omega) hn (by simp) hr (by simp) (cell_lat hb heS) (cell_lat hb heL) (cell_lat hb heB) (cell_lat hb heF)
    rw [hz, List.map_nil, topEp_zero, if_pos (by omega)] at this
    exact this
  · subst hM
    refine anew_ok (F := FA) W s (s + s) s 0 s 0 1 1 va da vc dc [] data hr (by omega) rfl (by omega) hd hrW ho (by omega) (by omega) (fun W' => ?_) (fun W' hb' => ?_)
    · exact other_second W' s _ _ (by omega) (by omega)
    · have := last_any W' (.int .i64 (s : Int)) (.int .i64 ((s + s : Nat) : Int)) (.int .i64 (s : Int)) (.slice va ([] : List Rp).length vc) [] (hr.below hb') (by simp)
      refine this.mono ?_
      rintro e w' ⟨⟨da, dn, dc, rfl⟩, hb2⟩
      exact ⟨_, _, da, dn, dc, rfl, hb2⟩
theorem format_ls {w wr : World} {p n s : Nat} {F : Nat → Prop} (hD : Dk F wr p n (fun _ => zeros) [] 0 false) (hbl : Below w.heap.size w wr) (hge : ∀ j, F j → w.heap.size ≤ j) (hn2 : 2 * s + 2 = n) (hs1 : 1 ≤ s) (hn : (n : Int) ≤ 1024) (ba : Option Addr) (bc : Nat) (data : List Int) (hrd : Rd wr (.slice ba data.length bc) data) (hd : data.length ≤ 32000) (hfit : npc (frm (⟨1, 1, 0, data⟩ : Rc)).length ≤ s) (eS eL eB eF : Addr) (heS : w.cell? ⟨5, 0, none⟩ = some (vEr eS)) (heL : w.cell? ⟨3, 0, none⟩ = some (vEr eL)) (heB : w.cell? ⟨6, 0, none⟩ = some (vEr eB)) (heF : w.cell? ⟨4, 0, none⟩ = some (vEr eF)) :
    Calls Tryd.prog 8 #[.pointer (some ⟨p, 0, none⟩), .slice ba data.length bc] wr fun e w' => ∃ l F' FR' nx' f' nw' v' ts', e = .returned (.tuple #[.pointer (some ⟨l, 0, none⟩), .nilIface]) ∧ LS w w' l p n s 1 1 0 1 F' FR' 0 nx' f' [] nw' v' ts' := by
  have hok : (⟨1, 1, 0, data⟩ : Rc).ok := ⟨by show 1 ≤ _; omega, by show 1 ≤ _; omega, by show 0 ≤ _; omega, by show data.length ≤ _; omega, hrd.1⟩
  have hfl := frm_len hok hd
  have hnpc : npc (frm (⟨1, 1, 0, data⟩ : Rc)).length ≤ 600 := by unfold npc; omega
  refine (format_is hD hn2 hs1 hn ba bc data hrd hd hfit eS eL eB eF (cell_lat hbl heS) (cell_lat hbl heL) (cell_lat hbl heB) (cell_lat hbl heF)).mono ?_
  rintro e w' ⟨l, F', F1, v', da, dc, rfl, q1, q2, q3, q4, q5, q6, q7, q8⟩
  refine ⟨l, F', F1, _, _, _, v', _, rfl, q1, by rw [Nat.zero_add]; exact q2, q3, ?_, by simp, by simp, q7, fun e => (q5 l e).2.2 rfl, fun j hj => (q5 j hj).2.1, DI.fresh hn2 hs1 ⟨1, 1, 0, data⟩ hok hd rfl rfl rfl (sec_frm hok) hfit, by simp, by omega, by omega, ?_, ?_⟩
  · intro t ht
    simp at ht; subst ht
    exact ⟨Nat.le_refl _, Nat.le_refl _⟩
  · exact ⟨q8.os.trans hbl.os, q8.tape.trans hbl.tape, q8.output.trans hbl.output, Nat.le_trans hbl.size q8.size, fun j hj => (q8.block j (Nat.lt_of_lt_of_le hj hbl.size) (fun e => by have := hge j e; omega)).trans (hbl.block j hj)⟩
  · intro j hj
    have hs := hbl.size
    rcases hj with a | a | a
    · rcases q4 j a with b | b
      · exact hge j b
      · omega
    · have := (q5 j a).1; omega
    · omega
end Go.Proofs.YtcbimclgodkflaaDoor
