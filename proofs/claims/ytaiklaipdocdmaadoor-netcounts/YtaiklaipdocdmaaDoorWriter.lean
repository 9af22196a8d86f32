/- What a writer of package wire does: NewWriter, Num, Text, Bytes, Done. -/
import Derived.Test.YtaiklaipdocdmaaDoorRd
import Derived.Lib.SliceRun
namespace Go.Proofs.YtaiklaipdocdmaaDoor
open Go.ChangeShapes Go.WideShapes Go.ChangeAt Go.RowKit
set_option maxRecDepth 100000

theorem new_any (w : World) : Calls Tryd.prog 44 #[] w fun e w' => e = .returned (.pointer (some ⟨w.heap.size, 0, none⟩)) ∧ Wr (fun k => k = w.heap.size) w' w.heap.size [] false ∧ Below w.heap.size w w' := by
  go_enter Tryd.func44, Tryd.ntmps44
  go_wp2
  go_ret
  refine ⟨rfl, ⟨by simp, rfl, Byts.nil, .slice none 0 0, ?_, by simp [Value.ownBlock], World.ownsRow_nil _ _ _ _⟩, (Below.refl _ _).alloc (Nat.le_refl _) _⟩
  exact heap_alloc_new w _
set_option maxHeartbeats 800000 in
theorem num_spoil (F : Nat → Prop) (w : World) (p : Nat) (bs : List Int) (sp : Bool) (n : Int) (h : Wr F w p bs sp) (hn : n < 0) :
    Calls Tryd.prog 46 #[.pointer (some ⟨p, 0, none⟩), .int .i64 n] w fun e w' => e = .returned (.tuple #[]) ∧ Wr F w' p bs true ∧ Kept F w w' := by
  obtain ⟨v, c0, c1, f0, f1, hr⟩ := h.parts
  have hs := h.spoil
  go_enter Tryd.func46, Tryd.ntmps46
  go_wp2
  first | go_end0 | refine bodyPost_ret (results_none rfl _ _ _) rfl ?_
  exact ⟨rfl, hs⟩
set_option maxHeartbeats 1600000 in
theorem num_any (F : Nat → Prop) (w : World) (p : Nat) (bs : List Int) (sp : Bool) (n : Nat) (h : Wr F w p bs sp) (hn : (n : Int) ≤ 9223372036854775807) (hl : (bs.length : Int) ≤ 140737488350000) :
    Calls Tryd.prog 46 #[.pointer (some ⟨p, 0, none⟩), .int .i64 n] w fun e w' => e = .returned (.tuple #[]) ∧ ∃ F', Wr F' w' p (bs ++ enc n) sp ∧ (∀ k, F' k → F k ∨ w.heap.size ≤ k) ∧ Kept F w w' := by
  obtain ⟨i0, hi, hz0, hz1, hz2⟩ := info_parts Tryd.info5
  have hn0 : ¬ (n : Int) < 0 := by omega
  go_enter Tryd.func46, Tryd.ntmps46
  go_wp2
  go_loopw [1] (fun nv wr => ∃ (m : Nat) (ds : List Int) (G : Nat → Prop), nv = .int .i64 m ∧ (m : Int) ≤ 9223372036854775807 ∧ Hid (enc n = ds ++ enc m) ∧ Wr G wr p (bs ++ ds) sp ∧ (∀ k, G k → F k ∨ w.heap.size ≤ k) ∧ Kept F w wr) (fun nv _ => (intOf nv).toNat)
  case atStart => exact ⟨n, [], F, rfl, hn, mkHid rfl, by simpa using h, fun k hk => .inl hk, Kept.refl _ _⟩
  case round =>
    obtain ⟨m, ds, G, rfl, hm, HE, hw, hG, hk⟩ := hrel
    have hE := enc_len9 n (by omega)
    have hdl : (ds ++ enc m).length ≤ 9 := by rw [← HE.out]; exact hE
    have hpos := enc_len_pos m
    rw [List.length_append] at hdl
    obtain ⟨hGs, hGp, hB, v, hv, hb, ho⟩ := hw
    have c0 : wr.cell? ⟨p, 0, none⟩ = some v := cell_of_block hv rfl
    have f0 : wr.frozen? ⟨p, 0, none⟩ = false := frozen_of_block hv
    have HG : Hid ((∀ k, G k → k < wr.heap.size) ∧ G p ∧ (∀ k, v.ownBlock = some k → G k ∧ k ≠ p) ∧ (∀ k, G k → F k ∨ w.heap.size ≤ k)) := ⟨hGs, hGp, hb, hG⟩
    have HV : Hid (wr.heap[p]? = some (.cells #[v, .bool sp] 132 (0, 0))) := hv
    have HL : Hid ((bs ++ ds).length ≤ 140737488350009) := mkHid (by rw [List.length_append]; omega)
    clear hGs hGp hb hG hv hdl hpos hE
    by_cases h128 : (128 : Int) ≤ m
    · go_wp2_with (at_builtin; refine wpList_append_src _ rfl (.tmp 17) (.tmp 22) 32 32 rfl 0 5 i0 Tryd.underlying32 hi hz0 hz1 hz2 _ _ _ rfl (ho.alloc _) _ 1 [.int .u8 ((m : Int) % 128 + 128)] rfl (src_one wr _) ?c3 ?c4 (Nat.zero_le _) ?_)
      case c3 => have := HL.out; simp only [List.length_append] at this ⊢; unfold maxLen; omega
      case c4 => have := HL.out; simp only [List.length_append] at this ⊢; omega
      intro v' w1 hown hgrow hat
      obtain ⟨a', c', rfl⟩ := own_shape hown
      obtain ⟨g1, g2, g3, g4⟩ := HG.out
      obtain ⟨⟨d0, d1⟩, F', q1, q2, q3⟩ := Wr.put g1 g2 hB (xs := [(m : Int) % 128 + 128]) (Byts.one (by omega) (by omega)) HV.out g3 (Kept.alloc _ _ _) (by simpa using hown) hgrow (by simpa using hat)
      have HQ : Hid (Wr F' (w1.setCell ⟨p, 0, none⟩ (.slice a' (bs.length + ds.length + 1) c')) p (bs ++ ds ++ [(m : Int) % 128 + 128]) sp ∧ (∀ k, F' k → F k ∨ w.heap.size ≤ k) ∧ Kept F w (w1.setCell ⟨p, 0, none⟩ (.slice a' (bs.length + ds.length + 1) c'))) := by
        refine ⟨q1, fun k hk' => ?_, hk.trans q3 g4⟩
        rcases q2 k hk' with h1 | h1
        · exact g4 k h1
        · have := hk.size
          exact .inr (by omega)
      clear g1 g2 g3 g4 q1 q2 q3 hown hgrow hat hk ho
      go_wp2
      go_roundw
      case rel =>
        refine ⟨m / 128, ds ++ [(m : Int) % 128 + 128], F', ?_, by omega, ?_, by simpa using HQ.out.1, HQ.out.2⟩
        · go_num
        · show enc n = _
          rw [HE.out, enc_ge (by omega)]
          simp
      case measure => simp [intOf]; omega
    · have HC : Hid (enc m = [(m : Int)]) := mkHid (enc_lt (by omega))
      have hlt : (m : Int) < 128 := by omega
      go_wp2_with (at_builtin; refine wpList_append_src _ rfl (.tmp 30) (.tmp 33) 32 32 rfl 0 5 i0 Tryd.underlying32 hi hz0 hz1 hz2 _ _ _ rfl (ho.alloc _) _ 1 [.int .u8 (m : Int)] rfl (src_one wr _) ?c3 ?c4 (Nat.zero_le _) ?_)
      case c3 => have := HL.out; simp only [List.length_append] at this ⊢; unfold maxLen; omega
      case c4 => have := HL.out; simp only [List.length_append] at this ⊢; omega
      intro v' w1 hown hgrow hat
      obtain ⟨a', c', rfl⟩ := own_shape hown
      obtain ⟨g1, g2, g3, g4⟩ := HG.out
      obtain ⟨⟨d0, d1⟩, F', q1, q2, q3⟩ := Wr.put g1 g2 hB (xs := [(m : Int)]) (Byts.one (by omega) (by omega)) HV.out g3 (Kept.alloc _ _ _) (by simpa using hown) hgrow (by simpa using hat)
      have HQ : Hid (∃ F', Wr F' (w1.setCell ⟨p, 0, none⟩ (.slice a' (bs.length + ds.length + 1) c')) p (bs ++ enc n) sp ∧ (∀ k, F' k → F k ∨ w.heap.size ≤ k) ∧ Kept F w (w1.setCell ⟨p, 0, none⟩ (.slice a' (bs.length + ds.length + 1) c'))) := by
        refine ⟨F', by rw [HE.out, HC.out, ← List.append_assoc]; exact q1, fun k hk' => ?_, hk.trans q3 g4⟩
        rcases q2 k hk' with h1 | h1
        · exact g4 k h1
        · have := hk.size
          exact .inr (by omega)
      clear g1 g2 g3 g4 q1 q2 q3 hown hgrow hat hk ho
      go_wp2
      first | go_end0 | refine bodyPost_ret (results_none rfl _ _ _) rfl ?_
      exact ⟨rfl, HQ.out⟩
theorem strCells (bs : List Int) (hB : Byts bs) : byteCells (strOfNums bs) = bs.map (Value.int .u8) := by
  unfold byteCells
  rw [strOfNums_data, List.map_map]
  apply List.map_congr_left
  intro x hx
  have := hB x hx
  simp only [Function.comp]
  congr 1
  simp only [UInt8.toNat_ofNat']
  omega
theorem src_str {xs : List Int} (hX : Byts xs) (w : World) : Src Tryd.prog 1 9 (.string (strOfNums xs)) xs.length (xs.map (Value.int .u8)) w := by
  have := Src.ofString (P := Tryd.prog) w Tryd.underlying9 (strOfNums xs)
  rwa [strCells xs hX, strOfNums_size] at this
set_option maxHeartbeats 1600000 in
theorem bytes_any (F : Nat → Prop) (w : World) (p : Nat) (bs xs : List Int) (sp : Bool) (v0 : Value) (h : Wr F w p bs sp) (hX : Byts xs) (hl : (bs.length : Int) + xs.length ≤ 140737488340000) (hr : ∀ w', Kept F w w' → Rd w' v0 xs) :
    Calls Tryd.prog 47 #[.pointer (some ⟨p, 0, none⟩), v0] w fun e w' => e = .returned (.tuple #[]) ∧ ∃ F', Wr F' w' p (bs ++ (enc xs.length ++ xs)) sp ∧ (∀ k, F' k → F k ∨ w.heap.size ≤ k) ∧ Kept F w w' := by
  obtain ⟨i0, hi, hz0, hz1, hz2⟩ := info_parts Tryd.info5
  obtain ⟨a0, cap0, rfl⟩ : ∃ a c, v0 = .slice a xs.length c := (hr w (Kept.refl _ _)).2.imp fun a h => h.imp fun c h => h.1
  have hE := enc_len9 xs.length (by omega)
  have HL : Hid ((bs ++ enc xs.length).length + xs.length ≤ 140737488355328) := mkHid (by rw [List.length_append]; omega)
  have HL3 : Hid ((bs ++ enc xs.length).length + xs.length ≤ maxLen) := mkHid (by have := HL.out; unfold maxLen; omega)
  clear hE
  go_enter Tryd.func47, Tryd.ntmps47
  go_wp2_with (first | (go_at_call 46; refine (num_any F _ p bs sp xs.length h (by omega) (by omega)).mono ?_; rintro e w1 ⟨rfl, G, hw, hG, hk⟩; obtain ⟨v, c0, ho, hmid⟩ := hw.mid hG hk; have hr1 := hr _ hk; clear hw hG hk) | (at_builtin; refine wpList_append_src _ rfl (.tmp 12) (.tmp 13) 32 32 rfl 0 5 i0 Tryd.underlying32 hi hz0 hz1 hz2 _ _ _ rfl ho _ xs.length (xs.map (Value.int .u8)) rfl hr1.src HL3.out HL.out (Nat.zero_le _) ?_; intro v' w2 hown hgrow hat; obtain ⟨⟨d0, d1⟩, ⟨a', c', hv'⟩, HQ⟩ := hmid.put hX (Kept.refl _ _) (by rw [List.length_append]) (List.append_assoc bs (enc xs.length) xs).symm hown hgrow hat; subst hv'; clear hown hgrow hat hmid))
  go_end0
  have hq := HQ.out
  rw [List.length_append] at hq
  exact ⟨rfl, hq⟩
theorem eql_nil (w : World) (a : Option Addr) (n c n' c' : Nat) : (binOp .eql 32 (.slice a n c) (.slice none n' c')).run Tryd.prog w = .ok (.bool a.isNone) w :=
  Lib.run_eql_slice_nil w _ _ a n c n' c' Tryd.underlying32
set_option maxHeartbeats 800000 in
/-- A copy in new memory. -/
theorem clone_any (w : World) (v : Value) (bs : List Int) (h : Rd w v bs) (hl : (bs.length : Int) ≤ 140737488355328) :
    Calls Tryd.prog 68 #[v] w fun e w' => ∃ v', e = .returned v' ∧ w'.ownsRow w.heap.size 5 1 v' bs.length (bs.map (Value.int .u8)) ∧ Below w.heap.size w w' := by
  obtain ⟨i0, hi, hz0, hz1, hz2⟩ := info_parts Tryd.info5
  obtain ⟨hB, a, cap, rfl, hc, h0, hr⟩ := id h
  have q := eql_nil
  cases a with
  | none =>
    have hl0 : bs = [] := by
      by_cases hp : 0 < bs.length
      · obtain ⟨b, off, e, _⟩ := hr hp
        simp at e
      · exact List.length_eq_zero_iff.mp (by omega)
    subst hl0
    clear hr
    go_enter Tryd.func68, Tryd.ntmps68
    go_wp2
    go_ret
    exact ⟨_, rfl, World.ownsRow_nil _ _ _ _, Below.refl _ _⟩
  | some ad =>
    clear hr
    have hm : w.ownsRow w.heap.size 5 1 (.slice none 0 0) 0 [] := World.ownsRow_nil _ _ _ _
    have hm2 := World.ownsRow_made (base := w.heap.size) (e := 5) (size := 1) w #[] 0 (Nat.le_refl _) (by unfold maxLen; omega) rfl
    have hs : Src Tryd.prog 1 32 (.slice (some ad) bs.length cap) bs.length (bs.map (Value.int .u8)) (w.alloc (.cells #[] 5)) := (h.alloc _).src
    have HL : Hid (0 + bs.length ≤ 140737488355328 ∧ 0 + bs.length ≤ maxLen) := mkHid ⟨by omega, by unfold maxLen; omega⟩
    clear hm
    go_enter Tryd.func68, Tryd.ntmps68
    go_wp2_with (at_builtin; refine wpList_append_src _ rfl (.tmp 5) (.tmp 6) 32 32 rfl w.heap.size 5 i0 Tryd.underlying32 hi hz0 hz1 hz2 _ _ _ rfl hm2 _ bs.length (bs.map (Value.int .u8)) rfl hs HL.out.2 HL.out.1 (by simp) ?_; intro v' w2 hown hgrow _; have HQ : Hid (w2.ownsRow w.heap.size 5 1 v' bs.length (bs.map (Value.int .u8)) ∧ Below w.heap.size w w2) := mkHid ⟨by simpa using hown, ((Below.refl _ _).alloc (Nat.le_refl _) _).grown hgrow (by simp) (fun k hk => (hm2.lt k hk).1)⟩; clear hown hgrow)
    go_ret
    exact ⟨_, rfl, HQ.out⟩
end Go.Proofs.YtaiklaipdocdmaaDoor
