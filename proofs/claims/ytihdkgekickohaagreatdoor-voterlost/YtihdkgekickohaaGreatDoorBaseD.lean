import Derived.Test.YtihdkgekickohaaGreatDoorRd
import Derived.Lib.SliceRun
import Derived.Laws.BitsAllLaws
import Derived.Lib.SlBytesConst
import Derived.Deep.QuietTactic
import Derived.BigQuiet
import Derived.Lib.AppendZerosOnto
import Derived.Deep.RegionWith
import Derived.Test.YtihdkgekickohaaGreatDoorLaid
/- What a writer of package wire does: NewWriter, Num, Text, Bytes, Done. -/
namespace Go.Proofs.YtihdkgekickohaaGreatDoor
open Go.ChangeShapes Go.WideShapes Go.ChangeAt Go.RowKit
set_option maxRecDepth 100000

theorem new_any (w : World) : Calls Tryz.prog 59 #[] w fun e w' => e = .returned (.pointer (some ⟨w.heap.size, 0, none⟩)) ∧ Wr (fun k => k = w.heap.size) w' w.heap.size [] false ∧ Below w.heap.size w w' := by
  go_enter Tryz.func59, Tryz.ntmps59
  go_wp2
  go_ret
  refine ⟨rfl, ⟨by simp, rfl, Byts.nil, .slice none 0 0, ?_, by simp [Value.ownBlock], World.ownsRow_nil _ _ _ _⟩, (Below.refl _ _).alloc (Nat.le_refl _) _⟩
  exact heap_alloc_new w _
set_option maxHeartbeats 800000 in
theorem num_spoil (F : Nat → Prop) (w : World) (p : Nat) (bs : List Int) (sp : Bool) (n : Int) (h : Wr F w p bs sp) (hn : n < 0) :
    Calls Tryz.prog 61 #[.pointer (some ⟨p, 0, none⟩), .int .i64 n] w fun e w' => e = .returned (.tuple #[]) ∧ Wr F w' p bs true ∧ Kept F w w' := by
  obtain ⟨v, c0, c1, f0, f1, hr⟩ := h.parts
  have hs := h.spoil
  go_enter Tryz.func61, Tryz.ntmps61
  go_wp2
  first | go_end0 | refine bodyPost_ret (results_none rfl _ _ _) rfl ?_
  exact ⟨rfl, hs⟩
set_option maxHeartbeats 1600000 in
theorem num_any (F : Nat → Prop) (w : World) (p : Nat) (bs : List Int) (sp : Bool) (n : Nat) (h : Wr F w p bs sp) (hn : (n : Int) ≤ 9223372036854775807) (hl : (bs.length : Int) ≤ 140737488350000) :
    Calls Tryz.prog 61 #[.pointer (some ⟨p, 0, none⟩), .int .i64 n] w fun e w' => e = .returned (.tuple #[]) ∧ ∃ F', Wr F' w' p (bs ++ enc n) sp ∧ (∀ k, F' k → F k ∨ w.heap.size ≤ k) ∧ Kept F w w' := by
  obtain ⟨i0, hi, hz0, hz1, hz2⟩ := info_parts Tryz.info5
  have hn0 : ¬ (n : Int) < 0 := by omega
  go_enter Tryz.func61, Tryz.ntmps61
  go_wp2
  go_loopw [1] (fun nv wr => ∃ (m : Nat) (ds : List Int) (G : Nat → Prop), nv = .int .i64 m ∧ (m : Int) ≤ 9223372036854775807 ∧ Hid (enc n = ds ++ enc m) ∧ Wr G wr p (bs ++ ds) sp ∧ (∀ k, G k → F k ∨ w.heap.size ≤ k) ∧ Kept F w wr) (fun nv _ => (intOf nv).toNat)
  case atStart => exact ⟨n, [], F, rfl, hn, mkHid rfl, by simpa using h, fun k hk => .inl hk, Kept.refl _ _⟩
  case round =>
    obtain ⟨m, ds, G, rfl, hm, HE, hw, hG, hk⟩ := hrel
    have hE := enc_len9 n (by omega)
    have hdl : (ds ++ enc m).length ≤ 9 := by rw [← HE.out]; exact hE
    have hpos := enc_len_pos m
    rw [List.length_append] at hdl
    obtain ⟨hGs, hGp, hB, v, hv, hb, ho⟩ := hw
    have c0 : wr.cell? ⟨p, 0, none⟩ = some v := cell_of_block hv rfl
    have f0 : wr.frozen? ⟨p, 0, none⟩ = false := frozen_of_block hv
    have HG : Hid ((∀ k, G k → k < wr.heap.size) ∧ G p ∧ (∀ k, v.ownBlock = some k → G k ∧ k ≠ p) ∧ (∀ k, G k → F k ∨ w.heap.size ≤ k)) := ⟨hGs, hGp, hb, hG⟩
    have HV : Hid (wr.heap[p]? = some (.cells #[v, .bool sp] 187 (0, 0))) := hv
    have HL : Hid ((bs ++ ds).length ≤ 140737488350009) := mkHid (by rw [List.length_append]; omega)
    clear hGs hGp hb hG hv hdl hpos hE
    by_cases h128 : (128 : Int) ≤ m
    · go_wp2_with (at_builtin; refine wpList_append_src _ rfl (.tmp 17) (.tmp 22) 74 74 rfl 0 5 i0 Tryz.underlying74 hi hz0 hz1 hz2 _ _ _ rfl (ho.alloc _) _ 1 [.int .u8 ((m : Int) % 128 + 128)] rfl (src_one wr _) ?c3 ?c4 (Nat.zero_le _) ?_)
      case c3 => have := HL.out; simp only [List.length_append] at this ⊢; unfold maxLen; omega
      case c4 => have := HL.out; simp only [List.length_append] at this ⊢; omega
      intro v' w1 hown hgrow hat
      obtain ⟨a', c', rfl⟩ := own_shape hown
      obtain ⟨g1, g2, g3, g4⟩ := HG.out
      obtain ⟨⟨d0, d1⟩, F', q1, q2, q3⟩ := Wr.put g1 g2 hB (xs := [(m : Int) % 128 + 128]) (Byts.one (by omega) (by omega)) HV.out g3 (Kept.alloc _ _ _) (by simpa using hown) hgrow (by simpa using hat)
      have HQ : Hid (Wr F' (w1.setCell ⟨p, 0, none⟩ (.slice a' (bs.length + ds.length + 1) c')) p (bs ++ ds ++ [(m : Int) % 128 + 128]) sp ∧ (∀ k, F' k → F k ∨ w.heap.size ≤ k) ∧ Kept F w (w1.setCell ⟨p, 0, none⟩ (.slice a' (bs.length + ds.length + 1) c'))) := by
        refine ⟨q1, fun k hk' => ?_, hk.trans q3 g4⟩
        rcases q2 k hk' with h1 | h1
        · exact g4 k h1
        · have := hk.size
          exact .inr (by omega)
      clear g1 g2 g3 g4 q1 q2 q3 hown hgrow hat hk ho
      go_wp2
      go_roundw
      case rel =>
        refine ⟨m / 128, ds ++ [(m : Int) % 128 + 128], F', ?_, by omega, ?_, by simpa using HQ.out.1, HQ.out.2⟩
        · go_num
        · show enc n = _
          rw [HE.out, enc_ge (by omega)]
          simp
      case measure => simp [intOf]; omega
    · have HC : Hid (enc m = [(m : Int)]) := mkHid (enc_lt (by omega))
      have hlt : (m : Int) < 128 := by omega
      go_wp2_with (at_builtin; refine wpList_append_src _ rfl (.tmp 30) (.tmp 33) 74 74 rfl 0 5 i0 Tryz.underlying74 hi hz0 hz1 hz2 _ _ _ rfl (ho.alloc _) _ 1 [.int .u8 (m : Int)] rfl (src_one wr _) ?c3 ?c4 (Nat.zero_le _) ?_)
      case c3 => have := HL.out; simp only [List.length_append] at this ⊢; unfold maxLen; omega
      case c4 => have := HL.out; simp only [List.length_append] at this ⊢; omega
      intro v' w1 hown hgrow hat
      obtain ⟨a', c', rfl⟩ := own_shape hown
      obtain ⟨g1, g2, g3, g4⟩ := HG.out
      obtain ⟨⟨d0, d1⟩, F', q1, q2, q3⟩ := Wr.put g1 g2 hB (xs := [(m : Int)]) (Byts.one (by omega) (by omega)) HV.out g3 (Kept.alloc _ _ _) (by simpa using hown) hgrow (by simpa using hat)
      have HQ : Hid (∃ F', Wr F' (w1.setCell ⟨p, 0, none⟩ (.slice a' (bs.length + ds.length + 1) c')) p (bs ++ enc n) sp ∧ (∀ k, F' k → F k ∨ w.heap.size ≤ k) ∧ Kept F w (w1.setCell ⟨p, 0, none⟩ (.slice a' (bs.length + ds.length + 1) c'))) := by
        refine ⟨F', by rw [HE.out, HC.out, ← List.append_assoc]; exact q1, fun k hk' => ?_, hk.trans q3 g4⟩
        rcases q2 k hk' with h1 | h1
        · exact g4 k h1
        · have := hk.size
          exact .inr (by omega)
      clear g1 g2 g3 g4 q1 q2 q3 hown hgrow hat hk ho
      go_wp2
      first | go_end0 | refine bodyPost_ret (results_none rfl _ _ _) rfl ?_
      exact ⟨rfl, HQ.out⟩
theorem strCells (bs : List Int) (hB : Byts bs) : byteCells (strOfNums bs) = bs.map (Value.int .u8) := by
  unfold byteCells
  rw [strOfNums_data, List.map_map]
  apply List.map_congr_left
  intro x hx
  have := hB x hx
  simp only [Function.comp]
  congr 1
  simp only [UInt8.toNat_ofNat']
  omega
theorem src_str {xs : List Int} (hX : Byts xs) (w : World) : Src Tryz.prog 1 9 (.string (strOfNums xs)) xs.length (xs.map (Value.int .u8)) w := by
  have := Src.ofString (P := Tryz.prog) w Tryz.underlying9 (strOfNums xs)
  rwa [strCells xs hX, strOfNums_size] at this
set_option maxHeartbeats 1600000 in
theorem bytes_any (F : Nat → Prop) (w : World) (p : Nat) (bs xs : List Int) (sp : Bool) (v0 : Value) (h : Wr F w p bs sp) (hX : Byts xs) (hl : (bs.length : Int) + xs.length ≤ 140737488340000) (hr : ∀ w', Kept F w w' → Rd w' v0 xs) :
    Calls Tryz.prog 62 #[.pointer (some ⟨p, 0, none⟩), v0] w fun e w' => e = .returned (.tuple #[]) ∧ ∃ F', Wr F' w' p (bs ++ (enc xs.length ++ xs)) sp ∧ (∀ k, F' k → F k ∨ w.heap.size ≤ k) ∧ Kept F w w' := by
  obtain ⟨i0, hi, hz0, hz1, hz2⟩ := info_parts Tryz.info5
  obtain ⟨a0, cap0, rfl⟩ : ∃ a c, v0 = .slice a xs.length c := (hr w (Kept.refl _ _)).2.imp fun a h => h.imp fun c h => h.1
  have hE := enc_len9 xs.length (by omega)
  have HL : Hid ((bs ++ enc xs.length).length + xs.length ≤ 140737488355328) := mkHid (by rw [List.length_append]; omega)
  have HL3 : Hid ((bs ++ enc xs.length).length + xs.length ≤ maxLen) := mkHid (by have := HL.out; unfold maxLen; omega)
  clear hE
  go_enter Tryz.func62, Tryz.ntmps62
  go_wp2_with (first | (go_at_call 61; refine (num_any F _ p bs sp xs.length h (by omega) (by omega)).mono ?_; rintro e w1 ⟨rfl, G, hw, hG, hk⟩; obtain ⟨v, c0, ho, hmid⟩ := hw.mid hG hk; have hr1 := hr _ hk; clear hw hG hk) | (at_builtin; refine wpList_append_src _ rfl (.tmp 12) (.tmp 13) 74 74 rfl 0 5 i0 Tryz.underlying74 hi hz0 hz1 hz2 _ _ _ rfl ho _ xs.length (xs.map (Value.int .u8)) rfl hr1.src HL3.out HL.out (Nat.zero_le _) ?_; intro v' w2 hown hgrow hat; obtain ⟨⟨d0, d1⟩, ⟨a', c', hv'⟩, HQ⟩ := hmid.put hX (Kept.refl _ _) (by rw [List.length_append]) (List.append_assoc bs (enc xs.length) xs).symm hown hgrow hat; subst hv'; clear hown hgrow hat hmid))
  go_end0
  have hq := HQ.out
  rw [List.length_append] at hq
  exact ⟨rfl, hq⟩
theorem eql_nil (w : World) (a : Option Addr) (n c n' c' : Nat) : (binOp .eql 74 (.slice a n c) (.slice none n' c')).run Tryz.prog w = .ok (.bool a.isNone) w :=
  Lib.run_eql_slice_nil w _ _ a n c n' c' Tryz.underlying74
set_option maxHeartbeats 800000 in
/-- A copy in new memory. -/
theorem clone_any (w : World) (v : Value) (bs : List Int) (h : Rd w v bs) (hl : (bs.length : Int) ≤ 140737488355328) :
    Calls Tryz.prog 69 #[v] w fun e w' => ∃ v', e = .returned v' ∧ w'.ownsRow w.heap.size 5 1 v' bs.length (bs.map (Value.int .u8)) ∧ Below w.heap.size w w' := by
  obtain ⟨i0, hi, hz0, hz1, hz2⟩ := info_parts Tryz.info5
  obtain ⟨hB, a, cap, rfl, hc, h0, hr⟩ := id h
  have q := eql_nil
  cases a with
  | none =>
    have hl0 : bs = [] := by
      by_cases hp : 0 < bs.length
      · obtain ⟨b, off, e, _⟩ := hr hp
        simp at e
      · exact List.length_eq_zero_iff.mp (by omega)
    subst hl0
    clear hr
    go_enter Tryz.func69, Tryz.ntmps69
    go_wp2
    go_ret
    exact ⟨_, rfl, World.ownsRow_nil _ _ _ _, Below.refl _ _⟩
  | some ad =>
    clear hr
    have hm : w.ownsRow w.heap.size 5 1 (.slice none 0 0) 0 [] := World.ownsRow_nil _ _ _ _
    have hm2 := World.ownsRow_made (base := w.heap.size) (e := 5) (size := 1) w #[] 0 (Nat.le_refl _) (by unfold maxLen; omega) rfl
    have hs : Src Tryz.prog 1 74 (.slice (some ad) bs.length cap) bs.length (bs.map (Value.int .u8)) (w.alloc (.cells #[] 5)) := (h.alloc _).src
    have HL : Hid (0 + bs.length ≤ 140737488355328 ∧ 0 + bs.length ≤ maxLen) := mkHid ⟨by omega, by unfold maxLen; omega⟩
    clear hm
    go_enter Tryz.func69, Tryz.ntmps69
    go_wp2_with (at_builtin; refine wpList_append_src _ rfl (.tmp 5) (.tmp 6) 74 74 rfl w.heap.size 5 i0 Tryz.underlying74 hi hz0 hz1 hz2 _ _ _ rfl hm2 _ bs.length (bs.map (Value.int .u8)) rfl hs HL.out.2 HL.out.1 (by simp) ?_; intro v' w2 hown hgrow _; have HQ : Hid (w2.ownsRow w.heap.size 5 1 v' bs.length (bs.map (Value.int .u8)) ∧ Below w.heap.size w w2) := mkHid ⟨by simpa using hown, ((Below.refl _ _).alloc (Nat.le_refl _) _).grown hgrow (by simp) (fun k hk => (hm2.lt k hk).1)⟩; clear hown hgrow)
    go_ret
    exact ⟨_, rfl, HQ.out⟩
end Go.Proofs.YtihdkgekickohaaGreatDoor

/- Done, Sum of package wire; the chapter's examples. -/
namespace Go.Proofs.YtihdkgekickohaaGreatDoor
open Go.ChangeShapes Go.WideShapes Go.ChangeAt Go.RowKit
set_option maxRecDepth 100000

set_option maxHeartbeats 800000 in
theorem done_ok (F : Nat → Prop) (w : World) (p : Nat) (bs : List Int) (h : Wr F w p bs false) (hl : (bs.length : Int) ≤ 140737488355328) :
    Calls Tryz.prog 63 #[.pointer (some ⟨p, 0, none⟩)] w fun e w' => ∃ v', e = .returned (.tuple #[v', .nilIface]) ∧ w'.ownsRow w.heap.size 5 1 v' bs.length (bs.map (Value.int .u8)) ∧ Below w.heap.size w w' := by
  obtain ⟨v, c0, c1, f0, f1, hr⟩ := h.parts
  go_enter Tryz.func63, Tryz.ntmps63
  go_wp2_with (go_at_call 69; refine (clone_any _ v bs hr hl).mono ?_; rintro e w1 ⟨v', rfl, hw, hk⟩)
  go_ret2
  exact ⟨_, rfl, hw, hk⟩
set_option maxHeartbeats 800000 in
theorem done_spoilt (F : Nat → Prop) (w : World) (p : Nat) (bs : List Int) (ev : Value) (h : Wr F w p bs true) (he : w.cell? ⟨1, 0, none⟩ = some ev) :
    Calls Tryz.prog 63 #[.pointer (some ⟨p, 0, none⟩)] w fun e w' => e = .returned (.tuple #[.slice none 0 0, ev]) ∧ Below w.heap.size w w' := by
  obtain ⟨v, c0, c1, f0, f1, hr⟩ := h.parts
  go_enter Tryz.func63, Tryz.ntmps63
  go_wp2
  go_region
  all_goals go_wp2
  all_goals go_ret2
  all_goals exact ⟨rfl, (Below.refl _ _).drew⟩
def fs (s : Nat) (c : Int) : Nat := (s ^^^ c.toNat) * 16777619 % 4294967296
def fnv (bs : List Int) : Nat := bs.foldl fs 2166136261
theorem fnv_snoc (bs : List Int) (c : Int) : fnv (bs ++ [c]) = fs (fnv bs) c := by
  unfold fnv
  rw [List.foldl_append, List.foldl_cons, List.foldl_nil]
theorem fs_lt (s : Nat) (c : Int) : fs s c < 4294967296 := Nat.mod_lt _ (by omega)
theorem fold_lt (bs : List Int) (s : Nat) (h : s < 4294967296) : bs.foldl fs s < 4294967296 := by
  induction bs generalizing s with
  | nil => exact h
  | cons c bs ih => exact ih _ (fs_lt s c)
theorem fnv_lt (bs : List Int) : fnv bs < 4294967296 := by
  unfold fnv
  exact fold_lt bs _ (by omega)
theorem take_snoc (bs : List Int) (k : Nat) (h : k < bs.length) : bs.take (k + 1) = bs.take k ++ [bs.getD k 0] := by
  rw [List.take_succ_eq_append_getElem h]
  simp [List.getD, h]
theorem enc300 : enc 300 = [172, 2] := by rw [enc_ge (by omega), enc_lt (by omega)]; rfl
theorem enc2 : enc 2 = [2] := by rw [enc_lt (by omega)]; rfl
theorem fnv_a : fnv [97] = 3826002220 := by
  unfold fnv
  rw [List.foldl_cons, List.foldl_nil]
  unfold fs
  decide +kernel
theorem alive_list : (([] : List Int) ++ enc 300 ++ (enc ([97, 98] : List Int).length ++ [97, 98])) = [172, 2, 2, 97, 98] := by
  rw [enc300]
  simp [enc2]
theorem alive_byts : Byts [172, 2, 2, 97, 98] := by intro b hb; simp at hb; omega
theorem alive_str : strOfNums [172, 2, 2, 97, 98] = ⟨#[172, 2, 2, 97, 98]⟩ := by decide +kernel
theorem rd_a (w : World) : Rd (w.alloc (.cells #[.int .u8 97] 5 (1, 2))) (.slice (some ⟨w.heap.size, 0, none⟩) 1 1) [97] := by
  refine ⟨Byts.one (by omega) (by omega), some ⟨w.heap.size, 0, none⟩, 1, rfl, by simp, fun e => by simp at e, fun _ => ⟨w.heap.size, 0, rfl, by simp, fun k hk => ?_⟩⟩
  obtain rfl : k = 0 := by simp at hk; omega
  simp [World.cell?_alloc_mark]
end Go.Proofs.YtihdkgekickohaaGreatDoor

/- Seal and Open of package wire. -/
namespace Go.Proofs.YtihdkgekickohaaGreatDoor
open Go.ChangeShapes Go.WideShapes Go.ChangeAt Go.RowKit
set_option maxRecDepth 100000

set_option maxHeartbeats 1600000 in
/-- slices.Grow of nil. -/
theorem grow_any (n : Nat) (w : World) (h0 : (1 : Int) ≤ n) (h1 : (n : Int) ≤ 140737488355328) :
    Calls Tryz.prog 167 #[.slice none 0 0, .int .i64 n] w fun e w' => ∃ v', e = .returned v' ∧ w'.ownsRow w.heap.size 5 1 v' 0 [] ∧ Below w.heap.size w w' := by
  obtain ⟨i0, hi, hz0, hz1, hz2⟩ := info_parts Tryz.info5
  have hrz : ∀ ty, (Builtin.append_ #[74, 3] ty #[.slice none 0 0, .int .i64 n]).run Tryz.prog w =
      .ok (.slice (some ⟨w.heap.size, 0, none⟩) n (grownCap w n 0 5)) (w.drew.alloc (.cells (#[] ++ Builtin.zeroCells (Value.int .u8 0).cells n ++ Builtin.zeroCells (Value.int .u8 0).cells (grownCap w n 0 5 - n)) 5)) := fun ty => by
    have h := Lib.run_append_grow_zeros w 74 3 ty 5 i0 (.int .u8 0) .i64 .i64 Tryz.underlying74 Tryz.underlying3 hi hz0 none 0 0 [] (run_firstCells_none w.drew i0.size 0 0 0) n (by omega) (by omega) (by omega) (by omega) (by rw [hz2]; omega) (by rw [hz2]; exact growslice_fits (by omega) (by omega))
    simpa using h
  have hGn : n ≤ grownCap w n 0 5 := grownCap_ge w _ _ _
  have hGm : grownCap w n 0 5 ≤ maxLen := grownCap_le_maxLen w n 0 _ (by unfold maxLen; omega)
  obtain ⟨G, hG⟩ : ∃ G, G = grownCap w n 0 5 := ⟨_, rfl⟩
  rw [← hG] at hrz hGn hGm
  obtain ⟨X, hX⟩ : ∃ X, X = #[] ++ Builtin.zeroCells (Value.int .u8 0).cells n ++ Builtin.zeroCells (Value.int .u8 0).cells (G - n) := ⟨_, rfl⟩
  rw [← hX] at hrz
  have hXs : X.size = G := by
    have hz : (Value.int IntKind.u8 0).cells.size = 1 := rfl
    rw [hX]
    simp only [Array.size_append, size_zeroCells, hz]
    simp
    omega
  clear hX
  have HQ : Hid ((w.drew.alloc (.cells X 5)).ownsRow w.heap.size 5 1 (.slice (some ⟨w.heap.size, 0, none⟩) 0 G) 0 [] ∧
      Below w.heap.size w (w.drew.alloc (.cells X 5))) := by
    refine ⟨⟨rfl, .inr ⟨w.heap.size, G, _, rfl, Nat.le_refl _, heap_alloc_new w.drew _, by omega, hGm, ?_, by simp⟩⟩, (Below.refl _ _).drew.alloc (Nat.le_refl _) _⟩
    omega
  have hG63 : (G : Int) ≤ 9223372036854775807 := by unfold maxLen at hGm; omega
  clear hG hGm
  go_enter Tryz.func167, Tryz.ntmps167
  go_wp2_with (at_builtin; refine Lib.wpList_append_run _ rfl _ _ _ _ rfl _ _ rfl rfl _ _ (hrz _) ?_)
  all_goals go_ret
  all_goals exact ⟨_, rfl, HQ.out⟩
/-- The four bytes of a sum. -/
def sumb (s : Nat) : List Int := [((s / 16777216 % 256 : Nat) : Int), ((s / 65536 % 256 : Nat) : Int), ((s / 256 % 256 : Nat) : Int), ((s % 256 : Nat) : Int)]
theorem sumb_byts (s : Nat) : Byts (sumb s) := by
  intro b hb
  simp only [sumb, List.mem_cons, List.not_mem_nil, or_false] at hb
  omega
theorem sumb_len (s : Nat) : (sumb s).length = 4 := rfl
theorem sumb_inj (s t : Nat) (hs : s < 4294967296) (ht : t < 4294967296) (h : sumb s = sumb t) : s = t := by
  simp only [sumb, List.cons.injEq] at h
  omega
theorem rd_four (w : World) (a b c d : Int) (h : Byts [a, b, c, d]) : Rd (w.alloc (.cells #[.int .u8 a, .int .u8 b, .int .u8 c, .int .u8 d] 5)) (.slice (some ⟨w.heap.size, 0, none⟩) 4 4) [a, b, c, d] := by
  refine ⟨h, some ⟨w.heap.size, 0, none⟩, 4, rfl, by simp, fun e => by simp at e, fun _ => ⟨w.heap.size, 0, rfl, by simp, fun k hk => ?_⟩⟩
  have : k = 0 ∨ k = 1 ∨ k = 2 ∨ k = 3 := by simp at hk; omega
  rcases this with rfl | rfl | rfl | rfl <;> go_simp
theorem rd_sumb (w : World) (s : Nat) (a b c d : Int) (h : [a, b, c, d] = sumb s) : Rd (w.alloc (.cells #[.int .u8 a, .int .u8 b, .int .u8 c, .int .u8 d] 5)) (.slice (some ⟨w.heap.size, 0, none⟩) 4 4) (sumb s) := by
  have := rd_four w a b c d (by rw [h]; exact sumb_byts s)
  rwa [h] at this
set_option maxHeartbeats 1600000 in
/-- slices.Concat of two lists of bytes. -/
theorem concat_any (w : World) (q : Nat) (va vb : Value) (xs ys : List Int) (c0 : w.cell? ⟨q, 0, none⟩ = some va) (c1 : w.cell? ⟨q, 1, none⟩ = some vb) (ha : Rd w va xs) (hb : Rd w vb ys) (h0 : (1 : Int) ≤ xs.length + ys.length) (h1 : (xs.length : Int) + ys.length ≤ 140737488355328) :
    Calls Tryz.prog 142 #[.slice (some ⟨q, 0, none⟩) 2 2] w fun e w' => ∃ v', e = .returned v' ∧ w'.ownsRow w.heap.size 5 1 v' (xs.length + ys.length) ((xs ++ ys).map (Value.int .u8)) ∧ Below w.heap.size w w' := by
  obtain ⟨i0, hi, hz0, hz1, hz2⟩ := info_parts Tryz.info5
  obtain ⟨aa, ca, eva⟩ : ∃ a c, va = .slice a xs.length c := ha.2.imp fun a h => h.imp fun c h => h.1
  obtain ⟨ab, cb, evb⟩ : ∃ a c, vb = .slice a ys.length c := hb.2.imp fun a h => h.imp fun c h => h.1
  subst eva evb
  go_enter Tryz.func142, Tryz.ntmps142
  go_wp2
  go_loop [3, 11] (fun sv iv => (iv = .int .i64 0 ∧ sv = .int .i64 0) ∨ (iv = .int .i64 1 ∧ sv = .int .i64 xs.length) ∨ (iv = .int .i64 2 ∧ sv = .int .i64 (xs.length + ys.length))) (fun _ iv => 2 - (intOf iv).toNat)
  case atStart => exact .inl ⟨rfl, rfl⟩
  case round =>
    rcases hrel with ⟨rfl, rfl⟩ | ⟨rfl, rfl⟩ | ⟨rfl, rfl⟩
    · go_wp2
      go_round
      case rel => exact .inr (.inl ⟨rfl, by simp⟩)
      case measure => simp [intOf]
    · go_wp2
      go_round
      case rel => exact .inr (.inr ⟨rfl, rfl⟩)
      case measure => simp [intOf]
    · have hN : ((xs.length : Int) + ys.length) = ((xs.length + ys.length : Nat) : Int) := by omega
      rw [hN]
      have hn1 : (1 : Int) ≤ ((xs.length + ys.length : Nat) : Int) := by omega
      have hn2 : ((xs.length + ys.length : Nat) : Int) ≤ 140737488355328 := by omega
      clear hN
      go_wp2_with (go_at_call 167; refine (grow_any (xs.length + ys.length) _ hn1 hn2).mono ?_; rintro e w1 ⟨v1, rfl, ho1, hb1⟩)
      go_loopw [6, 27] (fun sv iv wr => ∃ zs : List Int, ((iv = .int .i64 0 ∧ zs = []) ∨ (iv = .int .i64 1 ∧ zs = xs) ∨ (iv = .int .i64 2 ∧ zs = xs ++ ys)) ∧ wr.ownsRow w.heap.size 5 1 sv zs.length (zs.map (Value.int .u8)) ∧ Below w.heap.size w wr) (fun _ iv _ => 2 - (intOf iv).toNat)
      case atStart => exact ⟨[], .inl ⟨rfl, rfl⟩, ho1, hb1⟩
      case round =>
        clear ho1 hb1
        obtain ⟨zs, hz, ho, hbel⟩ := hrel
        have hbs := hbel.size
        have ha' := (ha.later hbel).src
        have hb' := (hb.later hbel).src
        have d0 : wr.cell? ⟨q, 0, none⟩ = some (.slice aa xs.length ca) := (kept_of_below hbel).cell c0 (by have := World.block_lt_of_cell? w _ c0; simp at this ⊢; omega)
        have d1 : wr.cell? ⟨q, 1, none⟩ = some (.slice ab ys.length cb) := (kept_of_below hbel).cell c1 (by have := World.block_lt_of_cell? w _ c1; simp at this ⊢; omega)
        clear c0 c1
        rcases hz with ⟨rfl, rfl⟩ | ⟨rfl, rfl⟩ | ⟨rfl, rfl⟩
        · have HL : Hid (([] : List Int).length + xs.length ≤ 140737488355328 ∧ ([] : List Int).length + xs.length ≤ maxLen) := mkHid ⟨by simp; omega, by unfold maxLen; simp; omega⟩
          go_wp2_with (at_builtin; refine wpList_append_src _ rfl (.tmp 31) (.tmp 32) 74 74 rfl w.heap.size 5 i0 Tryz.underlying74 hi hz0 hz1 hz2 _ _ _ rfl ho _ _ _ rfl ha' HL.out.2 HL.out.1 hbs ?_; intro v' w2 hown hgrow _; have HQ : Hid (w2.ownsRow w.heap.size 5 1 v' xs.length (xs.map (Value.int .u8)) ∧ Below w.heap.size w w2) := mkHid ⟨by simpa using hown, hbel.grown hgrow hbs (fun k hk => (ho.lt k hk).1)⟩; clear hown hgrow)
          go_roundw
          case rel => exact ⟨xs, .inr (.inl ⟨rfl, rfl⟩), HQ.out.1, HQ.out.2⟩
          case measure => simp [intOf]
        · have HL : Hid (zs.length + ys.length ≤ 140737488355328 ∧ zs.length + ys.length ≤ maxLen) := mkHid ⟨by omega, by unfold maxLen; omega⟩
          go_wp2_with (at_builtin; refine wpList_append_src _ rfl (.tmp 31) (.tmp 32) 74 74 rfl w.heap.size 5 i0 Tryz.underlying74 hi hz0 hz1 hz2 _ _ _ rfl ho _ _ _ rfl hb' HL.out.2 HL.out.1 hbs ?_; intro v' w2 hown hgrow _; have HQ : Hid (w2.ownsRow w.heap.size 5 1 v' (zs ++ ys).length ((zs ++ ys).map (Value.int .u8)) ∧ Below w.heap.size w w2) := mkHid ⟨by simpa using hown, hbel.grown hgrow hbs (fun k hk => (ho.lt k hk).1)⟩; clear hown hgrow)
          go_roundw
          case rel => exact ⟨zs ++ ys, .inr (.inr ⟨rfl, rfl⟩), HQ.out.1, HQ.out.2⟩
          case measure => simp [intOf]
        · have HQ : Hid (wr.ownsRow w.heap.size 5 1 _ (xs.length + ys.length) ((xs ++ ys).map (Value.int .u8)) ∧ Below w.heap.size w wr) := mkHid ⟨by simpa using ho, hbel⟩
          clear ho
          go_wp2
          go_ret
          exact ⟨_, rfl, HQ.out⟩
theorem Rd.drop {w : World} {b off n m cap : Nat} {bs : List Int} (h : Rd w (.slice (some ⟨b, off, none⟩) bs.length cap) bs) (hn : n + m = bs.length) : Rd w (.slice (some ⟨b, off + n, none⟩) m (cap - n)) (bs.drop n) := by
  obtain ⟨hB, a', cap', e, hc, h0, hr⟩ := h
  simp at e
  obtain ⟨rfl, rfl⟩ := e
  have hl : (bs.drop n).length = m := by rw [List.length_drop]; omega
  refine ⟨hB.drop n, some ⟨b, off + n, none⟩, cap - n, by rw [hl], by omega, fun e => by simp at e, fun hp => ?_⟩
  obtain ⟨b', off', e, hlt, hcell⟩ := hr (by omega)
  simp at e
  obtain ⟨rfl, rfl⟩ := e
  refine ⟨b, off + n, rfl, hlt, fun k hk => ?_⟩
  rw [Nat.add_assoc, hcell (n + k) (by omega)]
  simp [List.getD, List.getElem?_drop]
theorem Rd.drewN {w : World} {v : Value} {bs : List Int} (h : Rd w v bs) (k : Nat) : Rd (w.drewN k) v bs := h.later ⟨rfl, rfl, rfl, Nat.le_refl _, fun _ _ => rfl⟩
theorem Rd.drew {w : World} {v : Value} {bs : List Int} (h : Rd w v bs) : Rd w.drew v bs := h.later ⟨rfl, rfl, rfl, Nat.le_refl _, fun _ _ => rfl⟩
theorem cell_later {w w' : World} {a : Addr} {v : Value} (hb : Below w.heap.size w w') (h : w.cell? a = some v) : w'.cell? a = some v :=
  (kept_of_below hb).cell h (by have := World.block_lt_of_cell? w _ h; omega)
end Go.Proofs.YtihdkgekickohaaGreatDoor

/- One byte changed changes the sum: plain mathematics. -/
namespace Go.Proofs.YtihdkgekickohaaGreatDoor

theorem times_inj (x y : Nat) (hx : x < 4294967296) (hy : y < 4294967296) (h : x * 16777619 % 4294967296 = y * 16777619 % 4294967296) : x = y := by
  have key : ∀ z : Nat, z < 4294967296 → z * 16777619 % 4294967296 * 899433627 % 4294967296 = z := by
    intro z hz
    have e : z * 16777619 * 899433627 = z + 4294967296 * (z * 3513497) := by omega
    rw [Nat.mod_mul_mod, e, Nat.add_mul_mod_self_left, Nat.mod_eq_of_lt hz]
  have := congrArg (fun z => z * 899433627 % 4294967296) h
  simp only [key x hx, key y hy] at this
  exact this
theorem xor_lt (s c : Nat) (hs : s < 4294967296) (hc : c < 4294967296) : s ^^^ c < 4294967296 := Nat.xor_lt_two_pow (n := 32) (by simpa using hs) (by simpa using hc)
theorem xor_left_inj (s a b : Nat) (h : s ^^^ a = s ^^^ b) : a = b := by
  have := congrArg (s ^^^ ·) h
  simpa [← Nat.xor_assoc] using this
theorem xor_right_inj (s t a : Nat) (h : s ^^^ a = t ^^^ a) : s = t := by
  have := congrArg (· ^^^ a) h
  simpa [Nat.xor_assoc] using this
theorem fs_state (s t : Nat) (c : Int) (hs : s < 4294967296) (ht : t < 4294967296) (hc : 0 ≤ c ∧ c ≤ 255) (h : fs s c = fs t c) : s = t := by
  unfold fs at h
  exact xor_right_inj _ _ _ (times_inj _ _ (xor_lt _ _ hs (by omega)) (xor_lt _ _ ht (by omega)) h)
theorem fs_byte (s : Nat) (c d : Int) (hs : s < 4294967296) (hc : 0 ≤ c ∧ c ≤ 255) (hd : 0 ≤ d ∧ d ≤ 255) (h : fs s c = fs s d) : c = d := by
  unfold fs at h
  have := xor_left_inj _ _ _ (times_inj _ _ (xor_lt _ _ hs (by omega)) (xor_lt _ _ hs (by omega)) h)
  omega
theorem fold_state (bs : List Int) (s t : Nat) (hB : Byts bs) (hs : s < 4294967296) (ht : t < 4294967296) (h : bs.foldl fs s = bs.foldl fs t) : s = t := by
  induction bs generalizing s t with
  | nil => exact h
  | cons c bs ih =>
    rw [List.foldl_cons, List.foldl_cons] at h
    exact fs_state s t c hs ht (hB c (by simp)) (ih _ _ (fun x hx => hB x (by simp [hx])) (fs_lt s c) (fs_lt t c) h)
theorem fnv_slip (ps cs : List Int) (x y : Int)  (hC : Byts cs) (hx : 0 ≤ x ∧ x ≤ 255) (hy : 0 ≤ y ∧ y ≤ 255) (hne : x ≠ y) : fnv (ps ++ x :: cs) ≠ fnv (ps ++ y :: cs) := by
  unfold fnv
  rw [List.foldl_append, List.foldl_append, List.foldl_cons, List.foldl_cons]
  intro h
  have hs := fold_lt ps 2166136261 (by omega)
  exact hne (fs_byte _ x y hs hx hy (fold_state cs _ _ hC (fs_lt _ _) (fs_lt _ _) h))
end Go.Proofs.YtihdkgekickohaaGreatDoor

/- WireSlips: sealed bytes with one byte changed to another one answer ErrSum. -/
namespace Go.Proofs.YtihdkgekickohaaGreatDoor
open Go.ChangeShapes Go.WideShapes Go.ChangeAt Go.RowKit
set_option maxRecDepth 100000

theorem set_split (bs : List Int) (I : Nat) (x : Int) (h : I < bs.length) : bs = bs.take I ++ bs.getD I 0 :: bs.drop (I + 1) ∧ bs.set I x = bs.take I ++ x :: bs.drop (I + 1) := by
  constructor
  · conv => lhs; rw [← List.take_append_drop I bs, List.drop_eq_getElem_cons h]
    simp [List.getD, h]
  · rw [List.set_eq_take_append_cons_drop, if_pos h]
theorem slip_parts (bs : List Int) (I : Nat) (x : Int) (hB : Byts bs) (hx : 0 ≤ x ∧ x ≤ 255) (hI : I < bs.length + 4) (hne : (bs ++ sumb (fnv bs)).getD I 0 ≠ x) :
    ∃ xs ys, (bs ++ sumb (fnv bs)).set I x = xs ++ ys ∧ xs.length = bs.length ∧ ys.length = 4 ∧ ys ≠ sumb (fnv xs) := by
  by_cases h : I < bs.length
  · obtain ⟨e1, e2⟩ := set_split bs I x h
    refine ⟨bs.set I x, sumb (fnv bs), List.set_append_left _ _ h, by simp, sumb_len _, fun e => ?_⟩
    have hb := hB.at I
    have hn : bs.getD I 0 ≠ x := by
      intro e'
      apply hne
      rw [← e']
      simp [List.getD, List.getElem?_append_left h]
    have := sumb_inj _ _ (fnv_lt _) (fnv_lt _) e
    rw [e2] at this
    conv at this => lhs; rw [e1]
    exact fnv_slip (bs.take I) (bs.drop (I + 1)) _ _ (hB.drop _) hb hx hn this
  · refine ⟨bs, (sumb (fnv bs)).set (I - bs.length) x, ?_, rfl, by simp [sumb_len], fun e => ?_⟩
    · rw [List.set_append_right _ _ (by omega)]
    · apply hne
      have hl : I - bs.length < (sumb (fnv bs)).length := by rw [sumb_len]; omega
      have : ((sumb (fnv bs)).set (I - bs.length) x).getD (I - bs.length) 0 = (sumb (fnv bs)).getD (I - bs.length) 0 := by rw [e]
      rw [List.getD, List.getElem?_append_right (by omega)]
      rw [List.getD, List.getElem?_set_self hl] at this
      simpa [List.getD] using this.symm
theorem own_set {w : World} {base g n cap I : Nat} {bs : List Int} (x : Int) (h : w.ownsRow base 5 1 (.slice (some ⟨g, 0, none⟩) n cap) n (bs.map (Value.int .u8))) (hI : I < n) :
    (w.setCell ⟨g, I, none⟩ (.int .u8 x)).ownsRow base 5 1 (.slice (some ⟨g, 0, none⟩) n cap) n ((bs.set I x).map (Value.int .u8)) ∧ w.cell? ⟨g, I, none⟩ = some (.int .u8 (bs.getD I 0)) ∧ w.frozen? ⟨g, I, none⟩ = false := by
  have hl : bs.length = n := by simpa using h.1
  have hc := h.cells (g := g) rfl I (.int .u8 (bs.getD I 0)) (by simp [List.getD, show I < bs.length by omega])
  rw [add_none, Nat.zero_add] at hc
  rcases h.2 with ⟨e, _⟩ | ⟨g', cap', cur, e, hg, hh, hcap, hm, hs, ht⟩
  · simp at e
  · simp at e
    obtain ⟨rfl, rfl⟩ := e
    refine ⟨⟨by simpa using h.1, .inr ⟨g, cap, cur.set! I (.int .u8 x), rfl, hg, heap_set hh, hcap, hm, by simpa using hs, ?_⟩⟩, hc, frozen_of_block hh⟩
    rw [List.map_set, ← ht]
    simp [List.take_set]
theorem rem_ex (a : Int) (L : Nat) (h : (1 : Int) ≤ L) : ∃ I : Nat, Int.tmod (Int.tmod a L + L) L = (I : Int) ∧ (I : Int) < L := by
  have h1 := Int.lt_tmod_of_pos a (show (0 : Int) < L by omega)
  have h3 : 0 ≤ Int.tmod a L + L := by omega
  have h4 := Int.tmod_nonneg (L : Int) h3
  have h5 := Int.tmod_lt_of_pos (Int.tmod a L + L) (show (0 : Int) < L by omega)
  exact ⟨(Int.tmod (Int.tmod a L + L) L).toNat, by omega, by omega⟩
theorem sealed_len (bs : List Int) : (bs ++ sumb (fnv bs)).length = bs.length + 4 := by rw [List.length_append, sumb_len]
theorem sealed_byts {bs : List Int} (h : Byts bs) : Byts (bs ++ sumb (fnv bs)) := h.append (sumb_byts _)
theorem own_spot {w : World} {base : Nat} {e : TypeId} {v : Value} {n : Nat} {xs : List Value} (h : w.ownsRow base e 1 v n xs) (hn : 1 ≤ n) : ∃ g cap, v = .slice (some ⟨g, 0, none⟩) n cap ∧ base ≤ g ∧ g < w.heap.size ∧ n ≤ cap := by
  rcases h.2 with ⟨_, h0⟩ | ⟨g, cap, cur, hv, hb, hg, hc, _⟩
  · omega
  · exact ⟨g, cap, hv, hb, (Array.getElem?_eq_some_iff.1 hg).1, hc⟩
theorem Byts.set {a : List Int} (h : Byts a) (I : Nat) {x : Int} (hx : 0 ≤ x ∧ x ≤ 255) : Byts (a.set I x) := fun y hy => by
  rcases List.mem_or_eq_of_mem_set hy with h1 | h1
  · exact h y h1
  · rw [h1]; exact hx
theorem slip_rd {w : World} {base g cap I n : Nat} {bs xs ys : List Int} {x : Int} (hB : Byts bs) (hx : 0 ≤ x ∧ x ≤ 255) (hn : bs.length = n) (q : w.ownsRow base 5 1 (.slice (some ⟨g, 0, none⟩) n cap) n ((bs.set I x).map (Value.int .u8))) (e : bs.set I x = xs ++ ys) :
    Rd w (.slice (some ⟨g, 0, none⟩) n cap) (xs ++ ys) := by
  have hl : (bs.set I x).length = n := by simpa using hn
  rw [← e]
  have := Rd.of_owns (w := w) (base := base) (v := .slice (some ⟨g, 0, none⟩) n cap) (hB.set I hx) (by rw [hl]; exact q)
  exact this
end Go.Proofs.YtihdkgekickohaaGreatDoor

/- Copies with marked room behind, and whether they stand as they stood. -/
namespace Go.Proofs.YtihdkgekickohaaGreatDoor
open Go.ChangeShapes Go.WideShapes Go.ChangeAt Go.RowKit
set_option maxRecDepth 100000

def marks : List Int := [201, 202, 203, 204, 205, 206]
theorem marks_byts : Byts marks := by intro b hb; simp [marks] at hb; omega
/-- A copy of bs with marked room behind. -/
def Mk (w : World) (base g cap : Nat) (bs : List Int) : Prop := w.ownsRow base 5 1 (.slice (some ⟨g, 0, none⟩) (bs.length + 6) cap) (bs.length + 6) ((bs ++ marks).map (Value.int .u8))
theorem Mk.lt {w : World} {base g cap : Nat} {bs : List Int} (h : Mk w base g cap bs) : base ≤ g ∧ g < w.heap.size := World.ownsRow.lt h g rfl
theorem Mk.whole {w : World} {base g cap : Nat} {bs : List Int} (hB : Byts bs) (h : Mk w base g cap bs) : Rd w (.slice (some ⟨g, 0, none⟩) (bs ++ marks).length cap) (bs ++ marks) :=
  Rd.of_owns (hB.append marks_byts) (by rw [List.length_append]; exact h)
theorem Mk.rd {w : World} {base g cap : Nat} {bs : List Int} (hB : Byts bs) (h : Mk w base g cap bs) : Rd w (.slice (some ⟨g, 0, none⟩) bs.length cap) bs := by
  have := Rd.take (n := bs.length) (h.whole hB) (by rw [List.length_append]; omega)
  rwa [List.take_left] at this
theorem Mk.kept {F : Nat → Prop} {w w' : World} {base g cap : Nat} {bs : List Int} (h : Mk w base g cap bs) (hk : Kept F w w') (hn : ¬ F g) : Mk w' base g cap bs := by
  refine ⟨h.1, ?_⟩
  rcases h.2 with ⟨e, _⟩ | ⟨g', cap', cur, e, hb, hg, rest⟩
  · simp at e
  · simp at e
    obtain ⟨rfl, rfl⟩ := e
    exact .inr ⟨g, cap, cur, rfl, hb, by rw [hk.block g (Array.getElem?_eq_some_iff.1 hg).1 hn]; exact hg, rest⟩
theorem rd_six (w : World) : Rd (w.alloc (.cells #[.int .u8 201, .int .u8 202, .int .u8 203, .int .u8 204, .int .u8 205, .int .u8 206] 5)) (.slice (some ⟨w.heap.size, 0, none⟩) 6 6) marks := by
  refine ⟨marks_byts, some ⟨w.heap.size, 0, none⟩, 6, rfl, by simp [marks], fun e => by simp at e, fun _ => ⟨w.heap.size, 0, rfl, by simp, fun k hk => ?_⟩⟩
  have : k = 0 ∨ k = 1 ∨ k = 2 ∨ k = 3 ∨ k = 4 ∨ k = 5 := by simp [marks] at hk; omega
  rcases this with rfl | rfl | rfl | rfl | rfl | rfl <;> (simp [marks]; try go_simp)
theorem mark_at (bs : List Int) (k : Nat) (h : k < 6) : (bs ++ marks).getD (bs.length + k) 0 = 201 + (k : Int) := by
  have : k = 0 ∨ k = 1 ∨ k = 2 ∨ k = 3 ∨ k = 4 ∨ k = 5 := by omega
  rw [List.getD, List.getElem?_append_right (by omega)]
  rcases this with rfl | rfl | rfl | rfl | rfl | rfl <;> simp [marks]
end Go.Proofs.YtihdkgekickohaaGreatDoor

