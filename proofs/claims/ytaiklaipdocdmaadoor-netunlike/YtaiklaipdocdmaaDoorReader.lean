/- What a reader of package wire does. -/
import Derived.Test.YtaiklaipdocdmaaDoorNumber
namespace Go.Proofs.YtaiklaipdocdmaaDoor
open Go.ChangeShapes Go.WideShapes Go.ChangeAt Go.RowKit
set_option maxRecDepth 100000

theorem size1r (W : World) : (Go.sizeOf 5).run Tryd.prog W = .ok 1 W := by
  obtain ⟨i0, hi, hz0, hz1, hz2⟩ := info_parts Tryd.info5
  simp [Go.sizeOf, typeInfo, hi, hz1]
theorem elem27 : Tryd.prog.underlying 32 = some (.slice (Tryd.prog.elem 32)) ∧ Tryd.prog.elem 32 = 5 := by
  simp [Program.elem, Tryd.underlying32]
theorem Rd.sliced {w : World} {a : Option Addr} {cap f t : Nat} {bs : List Int} (h : Rd w (.slice a bs.length cap) bs) (h1 : f ≤ t) (h2 : t ≤ bs.length) : Rd w (Go.sliced a f t cap 1) ((bs.drop f).take (t - f)) := by
  obtain ⟨hB, a', cap', e, hc, h0, hr⟩ := h
  simp at e
  obtain ⟨rfl, rfl⟩ := e
  have hl : ((bs.drop f).take (t - f)).length = t - f := by rw [List.length_take, List.length_drop]; omega
  refine ⟨(hB.drop f).take _, _, cap - f, by unfold Go.sliced; rw [hl], by omega, ?_, fun hp => ?_⟩
  · intro e
    split at e
    · have := h0 e; omega
    · have := h0 (by simpa using e); omega
  · obtain ⟨b, off, rfl, hlt, hcell⟩ := hr (by omega)
    refine ⟨b, off + f, ?_, hlt, fun k hk => ?_⟩
    · rw [if_neg (by omega)]
      simp [add_none]
    · rw [Nat.add_assoc, hcell (f + k) (by omega)]
      have : k < t - f := by omega
      simp [List.getD, List.getElem?_drop, this]
theorem Rd.tailN {w : World} {v : Value} {f : Nat} {bs : List Int} (h : Rd w v bs) (h1 : f ≤ bs.length) :
    ∃ v', (∀ W, (Instr.slice 32 v (some (.int .i64 (f : Int))) none none).run Tryd.prog W = .ok v' W) ∧ Rd w v' (bs.drop f) := by
  obtain ⟨a, cap, rfl⟩ : ∃ a c, v = .slice a bs.length c := h.2.imp fun a h => h.imp fun c h => h.1
  refine ⟨Go.sliced a f bs.length cap 1, fun W => ?_, ?_⟩
  · rw [run_slice_l W 32 _ _ _ elem27.1 .i64 _ (by omega) (by omega), elem27.2, size1r]
    simp [Result.andThen]
  · have := h.sliced h1 (Nat.le_refl _)
    rwa [List.take_of_length_le (by rw [List.length_drop]; omega)] at this
theorem Rd.midN {w : World} {v : Value} {f t : Nat} {bs : List Int} (h : Rd w v bs) (h1 : f ≤ t) (h2 : t ≤ bs.length) :
    ∃ v', (∀ W, (Instr.slice 32 v (some (.int .i64 (f : Int))) (some (.int .i64 (t : Int))) none).run Tryd.prog W = .ok v' W) ∧ Rd w v' ((bs.drop f).take (t - f)) := by
  obtain ⟨hB, a, cap, rfl, hc, _⟩ := id h
  refine ⟨Go.sliced a f t cap 1, fun W => ?_, h.sliced h1 h2⟩
  rw [run_slice_lh W 32 _ _ _ elem27.1 .i64 .i64 _ _ (by omega) (by omega) (by omega), elem27.2, size1r]
  simp [Result.andThen]
/-- A reader behind its pointer, with the blocks F that are its own. -/
def Rr (F : Nat → Prop) (w : World) (p : Nat) (bs : List Int) (i : Nat) : Prop :=
  (∀ k, F k → k < w.heap.size) ∧ F p ∧ i ≤ bs.length ∧ ∃ v, w.heap[p]? = some (.cells #[v, .int .i64 (i : Int)] 139 (0, 0)) ∧ (∀ k, v.ownBlock = some k → F k ∧ k ≠ p) ∧ Byts bs ∧ w.ownsRow 0 5 1 v bs.length (bs.map (Value.int .u8))
theorem Rr.kept {F G : Nat → Prop} {w w' : World} {p : Nat} {bs : List Int} {i : Nat} (h : Rr F w p bs i) (hk : Kept G w w') (hn : ∀ k, F k → ¬ G k) : Rr F w' p bs i := by
  obtain ⟨hF, hp, hi, v, hv, hb, hB, ho⟩ := h
  refine ⟨fun k hk' => Nat.lt_of_lt_of_le (hF k hk') hk.size, hp, hi, v, ?_, hb, hB, ho.1, ?_⟩
  · rw [hk.block p (hF p hp) (hn p hp)]; exact hv
  · rcases ho.2 with h1 | ⟨g, cap, cur, rfl, hbg, hg, rest⟩
    · exact .inl h1
    · have := (hb g rfl).1
      exact .inr ⟨g, cap, cur, rfl, hbg, by rw [hk.block g (hF g this) (hn g this)]; exact hg, rest⟩
theorem Rr.below {F : Nat → Prop} {w w' : World} {p : Nat} {bs : List Int} {i : Nat} (h : Rr F w p bs i) (hb : Below w.heap.size w w') : Rr F w' p bs i :=
  h.kept (kept_of_below hb) (fun k hk hge => by have := h.1 k hk; omega)
theorem Rr.parts {F : Nat → Prop} {w : World} {p : Nat} {bs : List Int} {i : Nat} (h : Rr F w p bs i) : ∃ v, w.cell? ⟨p, 0, none⟩ = some v ∧ w.cell? ⟨p, 1, none⟩ = some (.int .i64 (i : Int)) ∧ w.frozen? ⟨p, 1, none⟩ = false ∧ Rd w v bs ∧ i ≤ bs.length := by
  obtain ⟨hF, hp, hi, v, hv, hb, hB, ho⟩ := h
  exact ⟨v, cell_of_block hv rfl, cell_of_block hv rfl, frozen_of_block hv, Rd.of_owns hB ho, hi⟩
theorem Rr.move {F : Nat → Prop} {w : World} {p : Nat} {bs : List Int} {i : Nat} (h : Rr F w p bs i) (j : Nat) (hj : j ≤ bs.length) : Rr F (w.setCell ⟨p, 1, none⟩ (.int .i64 (j : Int))) p bs j ∧ Kept F w (w.setCell ⟨p, 1, none⟩ (.int .i64 (j : Int))) := by
  obtain ⟨hF, hp, hi, v, hv, hb, hB, ho⟩ := h
  refine ⟨⟨fun k hk => by simpa [World.setCell] using hF k hk, hp, hj, v, by rw [heap_set hv]; rfl, hb, hB, ?_⟩, Kept.setCell _ hp _⟩
  refine ho.kept (row := some p) ⟨rfl, rfl, rfl, by simp [World.setCell], fun k _ hk => Below.heap_setCell _ _ _ _ (fun e => hk (by rw [e]))⟩ (.inr ?_)
  intro e
  exact (hb p e).2 rfl
theorem Rr.drewN {F : Nat → Prop} {w : World} {p : Nat} {bs : List Int} {i : Nat} (h : Rr F w p bs i) (k : Nat) : Rr F (w.drewN k) p bs i := h.below ⟨rfl, rfl, rfl, Nat.le_refl _, fun _ _ => rfl⟩
set_option maxHeartbeats 1600000 in
theorem newReader_any (w : World) (v : Value) (bs : List Int) (h : Rd w v bs) (hl : (bs.length : Int) ≤ 140737488355328) :
    Calls Tryd.prog 54 #[v] w fun e w' => ∃ p F, e = .returned (.pointer (some ⟨p, 0, none⟩)) ∧ Rr F w' p bs 0 ∧ (∀ k, F k → w.heap.size ≤ k) ∧ Below w.heap.size w w' := by
  go_enter Tryd.func54, Tryd.ntmps54
  go_wp2_with (go_at_call 68; refine (clone_any _ v bs h hl).mono ?_; rintro e w1 ⟨v1, rfl, ho, hb⟩; obtain ⟨a1, c1, hv1⟩ := own_shape ho; subst hv1)
  go_ret
  have hs := hb.size
  refine ⟨w1.heap.size, fun k => w.heap.size ≤ k ∧ k ≤ w1.heap.size, rfl, ⟨fun k hk => by simp; omega, ⟨hs, Nat.le_refl _⟩, Nat.zero_le _, _, heap_alloc_new w1 _, ?_, h.1, ?_⟩, fun k hk => hk.1, hb.alloc hs _⟩
  · intro k hk
    have := ho.lt k hk
    omega
  · have := ho.alloc (.cells #[.slice a1 bs.length c1, .int .i64 ((0 : Nat) : Int)] 139)
    refine ⟨this.1, this.2.imp id ?_⟩
    rintro ⟨g, cap, cur, e, hg, rest⟩
    exact ⟨g, cap, cur, e, Nat.zero_le _, rest⟩
theorem cell_lat {w w' : World} {a : Addr} {v : Value} (hb : Below w.heap.size w w') (h : w.cell? a = some v) : w'.cell? a = some v :=
  (kept_of_below hb).cell h (by have := World.block_lt_of_cell? w _ h; omega)
set_option maxHeartbeats 3200000 in
theorem left_any (F : Nat → Prop) (w : World) (p : Nat) (bs : List Int) (i : Nat) (h : Rr F w p bs i) (hl : (bs.length : Int) ≤ 140737488355328) :
    Calls Tryd.prog 84 #[.pointer (some ⟨p, 0, none⟩)] w fun e w' => e = .returned (.int .i64 ((bs.length : Int) - i)) ∧ ∃ n, w' = w.drewN n := by
  obtain ⟨v, c0, c1, f1, hr, hi⟩ := h.parts
  obtain ⟨a, cap, rfl⟩ : ∃ a c, v = .slice a bs.length c := hr.2.imp fun a h => h.imp fun c h => h.1
  have hw : wrap64 ((bs.length : Int) - i) = (bs.length : Int) - i := by unfold wrap64; omega
  have hsub : (0 : Int) ≤ (bs.length : Int) - i := by omega
  clear hr h
  go_enter Tryd.func84, Tryd.ntmps84
  go_wp2
  go_quiet (fail)
  go_wp2
  go_ret
  exact ⟨rfl, _, rfl⟩
theorem Rd.dr {w : World} {v : Value} {bs : List Int} (h : Rd w v bs) : Rd w.drew v bs := h.later ⟨rfl, rfl, rfl, Nat.le_refl _, fun _ _ => rfl⟩
def RnumPost (F : Nat → Prop) (w : World) (p : Nat) (bs : List Int) (i : Nat) (most : Int) (ev : Value) (e : Ending) (w' : World) : Prop :=
  (∃ (N : Nat) (r : List Int), bs.drop i = enc N ++ r ∧ (N : Int) ≤ 9223372036854775807 ∧ (N : Int) ≤ most ∧ e = .returned (.tuple #[.int .i64 (N : Int), .nilIface]) ∧ Rr F w' p bs (i + (enc N).length) ∧ Kept F w w') ∨
  ((∀ (N : Nat) (r : List Int), (N : Int) ≤ 9223372036854775807 → (N : Int) ≤ most → bs.drop i ≠ enc N ++ r) ∧ e = .returned (.tuple #[.int .i64 0, ev]) ∧ Rr F w' p bs i ∧ Kept F w w')
theorem Rr.dr {F : Nat → Prop} {w : World} {p : Nat} {bs : List Int} {i : Nat} (h : Rr F w p bs i) : Rr F w.drew p bs i := h.below ⟨rfl, rfl, rfl, Nat.le_refl _, fun _ _ => rfl⟩
set_option maxHeartbeats 3200000 in
theorem rnum_any (F : Nat → Prop) (w : World) (p : Nat) (bs : List Int) (i : Nat) (most : Int) (ev : Value) (h : Rr F w p bs i) (hl : (bs.length : Int) ≤ 140737488355328) (he : w.cell? ⟨4, 0, none⟩ = some ev) :
    Calls Tryd.prog 81 #[.pointer (some ⟨p, 0, none⟩), .int .i64 most] w fun e w' => RnumPost F w p bs i most ev e w' := by
  obtain ⟨v, c0, c1, f1, hr, hi⟩ := h.parts
  obtain ⟨v2, hsl, hr2⟩ := hr.tailN hi
  have hl2 : ((bs.drop i).length : Int) ≤ 140737488355328 := by rw [List.length_drop]; omega
  clear hr
  go_enter Tryd.func81, Tryd.ntmps81
  go_wp2
  go_region_with (go_at_call 101; refine (number_any _ v2 (bs.drop i) hr2.dr hl2).mono ?_; rintro e wx ⟨hw, n, s, ok, rfl, hsp⟩; rw [hw]; clear hw)
  all_goals
    rcases hsp with ⟨rfl, N, r, rfl, hN, rfl, hd⟩ | ⟨rfl, hno⟩
    · have hlen := congrArg List.length hd
      rw [List.length_drop, List.length_append] at hlen
      have HD : Hid (bs.drop i = enc N ++ r) := hd
      clear hd
      by_cases hm : (N : Int) ≤ most
      · have hmv := h.dr.move (i + (enc N).length) (by omega)
        rw [Int.natCast_add] at hmv
        have HMV : Hid (Rr F (w.drew.setCell ⟨p, 1, none⟩ (.int .i64 ((i : Int) + ((enc N).length : Int)))) p bs (i + (enc N).length) ∧ Kept F w (w.drew.setCell ⟨p, 1, none⟩ (.int .i64 ((i : Int) + ((enc N).length : Int))))) := ⟨hmv.1, (Kept.drew F w).trans hmv.2 (fun k hk => .inl hk)⟩
        clear hmv
        go_wp2
        go_ret2
        exact .inl ⟨N, r, HD.out, hN, hm, rfl, HMV.out.1, HMV.out.2⟩
      · have hgt : most < (N : Int) := by omega
        go_wp2
        go_region
        all_goals go_wp2
        all_goals go_ret2
        all_goals exact .inr ⟨fun M r' hM hM' e => by obtain ⟨rfl, _⟩ := enc_free N M r r' (HD.out.symm.trans e); omega, rfl, h.below ⟨rfl, rfl, rfl, Nat.le_refl _, fun _ _ => rfl⟩, ⟨rfl, rfl, rfl, Nat.le_refl _, fun _ _ _ => rfl⟩⟩
    · have HD : Hid (∀ (N : Nat) (r : List Int), (N : Int) ≤ 9223372036854775807 → bs.drop i ≠ enc N ++ r) := hno
      clear hno
      go_wp2
      go_region
      all_goals go_wp2
      all_goals go_ret2
      all_goals exact .inr ⟨fun M r' hM _ => HD.out M r' hM, rfl, h.below ⟨rfl, rfl, rfl, Nat.le_refl _, fun _ _ => rfl⟩, ⟨rfl, rfl, rfl, Nat.le_refl _, fun _ _ _ => rfl⟩⟩
end Go.Proofs.YtaiklaipdocdmaaDoor
