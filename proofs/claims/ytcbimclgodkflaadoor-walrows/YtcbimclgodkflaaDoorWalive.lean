/- Layer 6's example: what was synced outlives a crash, what was not doesn't. -/
import Derived.Test.YtcbimclgodkflaaDoorWls3
import Derived.Lib.SlBytesConst
namespace Go.Proofs.YtcbimclgodkflaaDoor
open Go.ChangeShapes Go.WideShapes Go.ChangeAt Go.RowKit
set_option maxRecDepth 100000

theorem rd_byte (w : World) (b : Int) (fz : Nat × Nat) (h : 0 ≤ b ∧ b ≤ 255) : Rd (w.alloc (.cells #[.int .u8 b] 5 fz)) (.slice (some ⟨w.heap.size, 0, none⟩) 1 1) [b] := by
  refine ⟨by intro x hx; simp at hx; subst hx; exact h, some ⟨w.heap.size, 0, none⟩, 1, rfl, by simp, fun e => by simp at e, fun _ => ⟨w.heap.size, 0, rfl, by simp, fun k hk => ?_⟩⟩
  have : k = 0 := by simp at hk; omega
  subst this
  have := heap_alloc_new w (.cells #[.int .u8 b] 5 fz)
  rw [cell_of_row _ _ _ _ _ _ this]
  rfl
theorem one_piece (g e i b : Nat) (hg : g < 128) (he : e < 128) (hi : i < 128) : npc (frm (⟨g, e, i, [(b : Int)]⟩ : Rc)).length = 1 := by
  unfold frm
  rw [frame_len]
  simp only [wpay, List.length_append, enc_lt hg, enc_lt he, enc_lt hi, List.length_singleton, enc_lt (show 1 < 128 by omega)]
  rfl
theorem ok_one (g e i b : Nat) (hg : g < 128) (he : e < 128) (hi : i < 128) (hb : b ≤ 255) : (⟨g, e, i, [(b : Int)]⟩ : Rc).ok :=
  ⟨by show g ≤ _; omega, by show e ≤ _; omega, by show i ≤ _; omega, by show 1 ≤ _; omega, by intro x hx; simp at hx; subst hx; omega⟩
theorem crashed_none (kb : Nat → Bool) (hk : ∀ k, kb k = false) (t : Int) (f : Int → List Int) (c : List (Int × List Int)) (j : Nat) : crashedTo kb t f c j = f := by
  induction j with
  | zero => rfl
  | succ j ih =>
    cases hx : c[j]? with
    | none => rw [crashedTo, hx]; exact ih
    | some x => rw [crashedTo_succ kb t f c j x hx]; unfold crash1; rw [hk j]; simpa using ih
theorem kbit_zero (k : Nat) : kbit 0 k = false := by
  unfold kbit
  rw [Int.zero_ediv]
  rfl
abbrev r6 (i b : Nat) : Rc := ⟨1, 1, i, [(b : Int)]⟩
/-- The disk behind the example's Sync. -/
noncomputable abbrev dsk6a : Int → List Int := flushed (flushed (fun _ => zeros) ([] ++ [(((8 - 2 + 1 % 2 : Nat) : Int), cellS 1)])) ([] ++ writesOf (frm (r6 0 115)) ((0 : Nat) : Int) 1)
noncomputable abbrev dsk6 : Int → List Int := flushed dsk6a ([] ++ writesOf (frm (r6 1 97)) ((0 + 1 : Nat) : Int) 1)
theorem dsk6_at (i : Int) : dsk6 i = if i = 1 then sect 1 (frm (r6 1 97)) 0 else if i = 0 then sect 1 (frm (r6 0 115)) 0 else if i = 7 then cellS 1 else zeros := by
  have o0 := ok_one 1 1 0 115 (by omega) (by omega) (by omega) (by omega)
  have o1 := ok_one 1 1 1 97 (by omega) (by omega) (by omega) (by omega)
  obtain ⟨p1, p2⟩ := flushed_is (fun _ => zeros) (fun _ => zeros_sec) ([] ++ [(((8 - 2 + 1 % 2 : Nat) : Int), cellS 1)]) (fun x hx => by simp at hx; subst hx; exact cellS_sec (by omega))
  obtain ⟨q1, q2⟩ := flushed_is _ p1 ([] ++ writesOf (frm (r6 0 115)) ((0 : Nat) : Int) 1) (fun x hx => sec_writes (sec_frm o0) _ _ x (by rw [List.nil_append] at hx; exact hx))
  obtain ⟨t1, t2⟩ := flushed_is _ q1 ([] ++ writesOf (frm (r6 1 97)) ((0 + 1 : Nat) : Int) 1) (fun x hx => sec_writes (sec_frm o1) _ _ x (by rw [List.nil_append] at hx; exact hx))
  have e1 : writesOf (frm (r6 1 97)) ((0 + 1 : Nat) : Int) 1 = [(1, sect 1 (frm (r6 1 97)) 0)] := rfl
  have e0 : writesOf (frm (r6 0 115)) ((0 : Nat) : Int) 1 = [(0, sect 1 (frm (r6 0 115)) 0)] := rfl
  show flushed dsk6a _ i = _
  rw [t2, e1, seen_snoc]
  show (if (1 : Int) = i then _ else dsk6a i) = _
  show (if (1 : Int) = i then sect 1 (frm (r6 1 97)) 0 else flushed _ ([] ++ writesOf (frm (r6 0 115)) ((0 : Nat) : Int) 1) i) = _
  rw [q2, e0, seen_snoc]
  show (if (1 : Int) = i then sect 1 (frm (r6 1 97)) 0 else if (0 : Int) = i then sect 1 (frm (r6 0 115)) 0 else flushed (fun _ => zeros) ([] ++ [(((8 - 2 + 1 % 2 : Nat) : Int), cellS 1)]) i) = _
  rw [p2, seen_snoc]
  show (if (1 : Int) = i then _ else if (0 : Int) = i then _ else if (7 : Int) = i then cellS 1 else zeros) = _
  by_cases h1 : i = 1
  · subst h1; rfl
  · by_cases h0 : i = 0
    · subst h0; rfl
    · by_cases h7 : i = 7
      · subst h7; rfl
      · rw [if_neg (Ne.symm h1), if_neg (Ne.symm h0), if_neg (Ne.symm h7), if_neg h1, if_neg h0, if_neg h7]
theorem stand_none {g : Int → List Int} {p : Int} (n : Nat) (h : g p = zeros) : stand g p n = none := by
  cases hs : stand g p n with
  | none => rfl
  | some x =>
    obtain ⟨_, _, hm, _⟩ := stand_mark (r := x.1) (m := x.2) hs
    rw [h] at hm
    simp [zeros] at hm
theorem newA_dsk6 : newA dsk6 3 = (false, ([r6 0 115, r6 1 97], 2)) := by
  have o0 := ok_one 1 1 0 115 (by omega) (by omega) (by omega) (by omega)
  have o1 := ok_one 1 1 1 97 (by omega) (by omega) (by omega) (by omega)
  have n0 : npc (frm (r6 0 115)).length = 1 := one_piece 1 1 0 115 (by omega) (by omega) (by omega)
  have n1 : npc (frm (r6 1 97)).length = 1 := one_piece 1 1 1 97 (by omega) (by omega) (by omega)
  have s0 : stand dsk6 0 3 = some (r6 0 115, 1) := by
    have := stand_written dsk6 (r6 0 115) 0 3 o0 (by simp) (by rw [n0]; omega) (fun i hi => by
      obtain rfl : i = 0 := by omega
      rw [dsk6_at]; rfl)
    rwa [n0] at this
  have s1 : stand dsk6 1 2 = some (r6 1 97, 1) := by
    have := stand_written dsk6 (r6 1 97) 1 2 o1 (by simp) (by rw [n1]; omega) (fun i hi => by
      obtain rfl : i = 0 := by omega
      rw [dsk6_at]; rfl)
    rwa [n1] at this
  have a0 : areaGo dsk6 (3 + 1) [] 0 3 = ([r6 0 115, r6 1 97], 2) := by
    rw [areaGo_more s0 rfl]
    show areaGo dsk6 (2 + 1) [r6 0 115] 1 2 = _
    rw [areaGo_more s1 rfl]
    show areaGo dsk6 (1 + 1) [r6 0 115, r6 1 97] 2 1 = _
    rw [areaGo_end (stand_none 1 (by rw [dsk6_at]; rfl))]
  have a1 : areaGo dsk6 (3 + 1) [] ((3 : Nat) : Int) 3 = ([], 3) := areaGo_end (stand_none 3 (by rw [dsk6_at]; rfl))
  unfold newA
  rw [a0, a1, if_pos ⟨by simp, by simp [lgen]⟩]
theorem lst_one {G : Nat → Prop} {base : Nat} {w : World} {v : Value} {d : List Int} (h : Lst G base w v [d]) : ∃ g c u, v = .slice (some ⟨g, 0, none⟩) 1 c ∧ w.cell? ⟨g, 0, none⟩ = some u ∧ Rd w u d := by
  obtain ⟨vs, ho, hr, _⟩ := h
  rcases ho.2 with ⟨_, h0⟩ | ⟨g, cap, cur, rfl, _⟩
  · simp at h0
  · match vs, hr with
    | [u], hr =>
      have := ho.cells (g := g) rfl 0 u rfl
      exact ⟨g, cap, u, rfl, by simpa [add_none] using this, hr.1.1⟩
theorem disk6_open (n0 : npc (frm (r6 0 115)).length = 1) (n1 : npc (frm (r6 1 97)).length = 1) {ts : List Rp} {c : List (Int × List Int)} {j : Nat} (h : ts.map (·.1) = (newA (seenOf (crashedTo (kbit 0) (-1) (flushed (flushed (flushed (fun _ => zeros) ([] ++ [(((8 - 2 + 1 % 2 : Nat) : Int), cellS 1)])) ([] ++ writesOf (frm (r6 0 115)) ((0 : Nat) : Int) (npc (frm (r6 0 115)).length))) ([] ++ writesOf (frm (r6 1 97)) ((0 + npc (frm (r6 0 115)).length : Nat) : Int) (npc (frm (r6 1 97)).length))) c j) []) 3).2.1) : ts.map (·.1) = [r6 0 115, r6 1 97] := by
  rw [n0, n1, crashed_none _ kbit_zero] at h
  have : newA (seenOf dsk6 []) 3 = newA dsk6 3 := rfl
  rw [this, newA_dsk6] at h
  exact h
theorem data_one {rest : List Rp} (h : rest.map (·.1) = [r6 1 97]) : rest.map (·.1.data) = [[97]] := by
  have : rest.map (·.1.data) = (rest.map (·.1)).map (·.data) := by rw [List.map_map]; rfl
  rw [this, h]; rfl
theorem str115 : strOfNums (r6 0 115).data = ⟨#[115]⟩ := by decide
theorem str97 : strOfNums [97] = ⟨#[97]⟩ := by decide
set_option maxRecDepth 100000 in
set_option maxHeartbeats 51200000 in
theorem walive (w : World) (eS eL eB eF : Addr) (heS : w.cell? ⟨5, 0, none⟩ = some (vEr eS)) (heL : w.cell? ⟨3, 0, none⟩ = some (vEr eL)) (heB : w.cell? ⟨6, 0, none⟩ = some (vEr eB)) (heF : w.cell? ⟨4, 0, none⟩ = some (vEr eF)) :
    Calls Tryd.prog 6 #[] w fun e w' => e = .returned (.bool true) ∧ Below w.heap.size w w' := by
  have HE := mkHid (And.intro heS (And.intro heL (And.intro heB heF)))
  clear heS heL heB heF
  have n0 : Hid (npc (frm (r6 0 115)).length = 1) := mkHid (one_piece 1 1 0 115 (by omega) (by omega) (by omega))
  have n1 : Hid (npc (frm (r6 1 97)).length = 1) := mkHid (one_piece 1 1 1 97 (by omega) (by omega) (by omega))
  have n2 : Hid (npc (frm (r6 2 98)).length = 1) := mkHid (one_piece 1 1 2 98 (by omega) (by omega) (by omega))
  have M1 : Hid True := mkHid trivial
  have kcv := fun (w : World) (C : Array Value) (n c : Nat) => Lib.run_convert_bytes_const (P := Tryd.prog) w 32 5 C n c Tryd.underlying32 Tryd.underlying5
  go_enter Tryd.func6, Tryd.ntmps6
  go_wp2_with (first
    | (go_at_call 7; refine (dnew_ok _ 8 (by omega) (by omega)).mono ?_; rintro e w2 ⟨p, F, rfl, hD2, hF2, hb2⟩; have HD2 := mkHid (And.intro hD2 (And.intro hF2 hb2)); clear hD2 hF2 hb2)
    | (go_at_call 8; refine (format_fit (w := w) (n := 8) (s := 3) (HD2.out.1.below ((Below.refl _ w2).alloc (Nat.le_refl _) _)) (HD2.out.2.2.trans (((Below.refl _ w2).alloc (Nat.le_refl _) _).mono HD2.out.2.2.size)) HD2.out.2.1 (by omega) (by omega) (by omega) _ 1 [115] (rd_byte w2 115 _ (by omega)) (by simp) (by show npc (frm (r6 0 115)).length ≤ 3; have := n0.out; omega) eS eL eB eF HE.out.1 HE.out.2.1 HE.out.2.2.1 HE.out.2.2.2).mono ?_; rintro e w3 ⟨l, F3, FR3, v3, da3, dc3, rfl, hL3⟩; have HL3 := mkHid hL3; clear hL3)
    | (go_at_call 12; clear M1; refine (append_fit (HL3.out.below ((Below.refl _ w3).alloc (Nat.le_refl _) _)) (by omega) (by omega) (by omega) _ 1 [97] (rd_byte w3 97 _ (by omega)) (by simp) 1 0 rfl rfl (by have h1 := n0.out; have h2 := n1.out; show 0 + npc (frm (r6 0 115)).length + npc (frm (r6 1 97)).length ≤ 0 + 3; omega)).mono ?_; rintro e w4 ⟨rfl, F4, FR4, v4, da4, dc4, hL4⟩; have HL4 := mkHid hL4; clear hL4)
    | (go_at_call 14; refine (sync_ls HL4.out (by omega)).mono ?_; rintro e w5 ⟨rfl, hL5⟩; have HL5 := mkHid hL5; clear hL5)
    | (go_at_call 12; refine (append_fit (HL5.out.below ((Below.refl _ w5).alloc (Nat.le_refl _) _)) (by omega) (by omega) (by omega) _ 1 [98] (rd_byte w5 98 _ (by omega)) (by simp) 1 1 rfl rfl (by have h1 := n0.out; have h2 := n1.out; have h3 := n2.out; show 0 + npc (frm (r6 0 115)).length + npc (frm (r6 1 97)).length + npc (frm (r6 2 98)).length ≤ 0 + 3; omega)).mono ?_; rintro e w6 ⟨rfl, F6, FR6, v6, da6, dc6, hL6⟩; have HL6 := mkHid hL6; clear hL6)
    | (go_at_call 20; refine (crash_ls HL6.out.disk (by omega) 0 (-1)).mono ?_; rintro e w7 ⟨rfl, hD7⟩; have HD7 := mkHid hD7; clear hD7)
    | (go_at_call 21; refine (open_fit HD7.out (by omega) (by omega) (by omega) eS eL eB eF HE.out.1 HE.out.2.1 HE.out.2.2.1 HE.out.2.2.2).mono ?_; rintro e w8 ⟨l8, base8, sa8, lv8, F8, FR8, G8, fr8, nx8, v8, ts8, t8, rest8, rfl, hL8, ht8, hm8, -, -, hr8, hl8⟩; have HL8 := mkHid hL8; have hq := disk6_open n0.out n1.out (ts := ts8) hm8; rw [ht8] at hq; simp only [List.map_cons, List.cons.injEq] at hq; obtain ⟨hq1, hq2⟩ := hq; obtain ⟨q8, da8, dc8⟩ := t8; simp only at hq1; subst hq1; rw [data_one hq2] at hl8; obtain ⟨g8, c8, u8, rfl, hc8, hu8⟩ := lst_one hl8; obtain ⟨ua8, uc8, rfl⟩ : ∃ a c, u8 = .slice a 1 c := hu8.2.imp (fun a h => h.imp (fun c h => h.1)); have cv1 := hr8.conv; have cv2 := hu8.conv; rw [str115] at cv1; rw [str97] at cv2; simp only [List.length_singleton] at cv1; clear hL8 ht8 hm8 hr8 hl8 hu8 hq2; simp only [List.length_singleton])
    | (go_at_call 24; refine (epoch_is w8 l8 p fr8 (fr8 + 3) nx8 (1 + 1) v8 HL8.out.lg).mono ?_; rintro e w9 ⟨rfl, hw9⟩; rw [hw9]; clear hw9))
  go_ret
  exact ⟨rfl, HL8.out.bl⟩
end Go.Proofs.YtcbimclgodkflaaDoor
