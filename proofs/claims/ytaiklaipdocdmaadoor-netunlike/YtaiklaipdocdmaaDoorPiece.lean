/- The pieces that a reader of package wire hands out. -/
import Derived.Test.YtaiklaipdocdmaaDoorReader
namespace Go.Proofs.YtaiklaipdocdmaaDoor
open Go.ChangeShapes Go.WideShapes Go.ChangeAt Go.RowKit
set_option maxRecDepth 100000

def PieceYes (bs : List Int) (i : Nat) (most : Int) (N : Nat) (r : List Int) : Prop := bs.drop i = enc N ++ r ∧ (N : Int) ≤ most ∧ N ≤ r.length
def PieceNo (bs : List Int) (i : Nat) (most : Int) : Prop := ∀ (N : Nat) (r : List Int), ¬ PieceYes bs i most N r
def PiecePost (F : Nat → Prop) (w : World) (p : Nat) (bs : List Int) (i : Nat) (most : Int) (ev : Value) (e : Ending) (w' : World) : Prop :=
  (∃ (N : Nat) (r : List Int) (v : Value), PieceYes bs i most N r ∧ e = .returned (.tuple #[v, .nilIface]) ∧ Rd w' v (r.take N) ∧ Rr F w' p bs (i + (enc N).length + N) ∧ Kept F w w') ∨
  (PieceNo bs i most ∧ e = .returned (.tuple #[.slice none 0 0, ev]) ∧ Rr F w' p bs i ∧ Kept F w w')
theorem piece_parts {bs : List Int} {i N : Nat} {r : List Int} (hd : bs.drop i = enc N ++ r) (hi : i ≤ bs.length) : bs.length = i + (enc N).length + r.length ∧ bs.drop (i + (enc N).length) = r := by
  have hlen := congrArg List.length hd
  rw [List.length_drop, List.length_append] at hlen
  refine ⟨by omega, ?_⟩
  rw [← List.drop_drop, hd, List.drop_left]
theorem rd_set {F : Nat → Prop} {w : World} {p : Nat} {bs : List Int} {i : Nat} (h : Rr F w p bs i) {v v3 : Value} {x : Value} {f t : Nat} (c0 : w.cell? ⟨p, 0, none⟩ = some v) (h1 : f ≤ t) (h2 : t ≤ bs.length)
    (h3 : ∀ W, (Instr.slice 32 v (some (.int .i64 (f : Int))) (some (.int .i64 (t : Int))) none).run Tryd.prog W = .ok v3 W) : Rd (w.setCell ⟨p, 1, none⟩ x) v3 ((bs.drop f).take (t - f)) := by
  obtain ⟨hF, hp, hi, v', hv, hb, hB, ho⟩ := h
  have e : v' = v := by
    have := cell_of_block (i := 0) hv rfl
    rw [this] at c0
    simpa using c0
  subst e
  have ho' : (w.setCell ⟨p, 1, none⟩ x).ownsRow 0 5 1 v' bs.length (bs.map (Value.int .u8)) := by
    refine ho.kept (row := some p) ⟨rfl, rfl, rfl, by simp [World.setCell], fun k _ hk => Below.heap_setCell _ _ _ _ (fun e => hk (by rw [e]))⟩ (.inr ?_)
    intro e
    exact (hb p e).2 rfl
  obtain ⟨v4, h4, hr⟩ := (Rd.of_owns hB ho').midN h1 h2
  have : v4 = v3 := by
    have a := h3 w
    rw [h4 w] at a
    simpa using a
  rwa [this] at hr
set_option maxHeartbeats 6400000 in
theorem piece_any (F : Nat → Prop) (w : World) (p : Nat) (bs : List Int) (i : Nat) (most : Int) (ev : Value) (h : Rr F w p bs i) (hl : (bs.length : Int) ≤ 140737488355328) (he : w.cell? ⟨4, 0, none⟩ = some ev) :
    Calls Tryd.prog 102 #[.pointer (some ⟨p, 0, none⟩), .int .i64 most] w fun e w' => PiecePost F w p bs i most ev e w' := by
  obtain ⟨v, c0, c1, f1, hr, hi⟩ := h.parts
  obtain ⟨v2, hsl, hr2⟩ := hr.tailN hi
  have hl2 : ((bs.drop i).length : Int) ≤ 140737488355328 := by rw [List.length_drop]; omega
  have sd : ∀ (W : World) (j : Nat) (x : Addr) (u : Value), (W.drewN j).setCell x u = (W.setCell x u).drewN j := fun _ _ _ _ => rfl
  go_enter Tryd.func102, Tryd.ntmps102
  go_wp2
  go_region_with (go_at_call 101; refine (number_any _ v2 (bs.drop i) hr2.dr hl2).mono ?_; rintro e wx ⟨hw, n, s, ok, rfl, hsp⟩; rw [hw]; clear hw)
  all_goals
    rcases hsp with ⟨rfl, N, r, rfl, hN, rfl, hd⟩ | ⟨rfl, hno⟩
    · obtain ⟨hp1, hp2⟩ := piece_parts hd hi
      have HD : Hid (bs.drop i = enc N ++ r) := hd
      clear hd hr2
      by_cases hm : (N : Int) ≤ most
      · by_cases hf : N ≤ r.length
        · obtain ⟨v3, hs3, hr3⟩ := hr.midN (f := i + (enc N).length) (t := i + (enc N).length + N) (by omega) (by omega)
          have hmv := h.dr.move (i + (enc N).length + N) (by omega)
          have hrs := fun x => rd_set (x := x) h c0 (by omega) (by omega) hs3
          rw [hp2, show i + (enc N).length + N - (i + (enc N).length) = N by omega] at hrs
          rw [Int.natCast_add, Int.natCast_add] at hmv
          simp only [Int.natCast_add] at hs3
          have HMV : Hid (Rr F (w.drew.setCell ⟨p, 1, none⟩ (.int .i64 ((i : Int) + ((enc N).length : Int) + (N : Int)))) p bs (i + (enc N).length + N) ∧ Kept F w (w.drew.setCell ⟨p, 1, none⟩ (.int .i64 ((i : Int) + ((enc N).length : Int) + (N : Int)))) ∧ Rd (w.setCell ⟨p, 1, none⟩ (.int .i64 ((i : Int) + ((enc N).length : Int) + (N : Int)))) v3 (r.take N)) := ⟨hmv.1, (Kept.drew F w).trans hmv.2 (fun k hk => .inl hk), hrs _⟩
          have HP : Hid (PieceYes bs i most N r) := ⟨HD.out, hm, hf⟩
          have hfi : (N : Int) ≤ (bs.length : Int) - i - ((enc N).length : Int) := by omega
          clear hmv hrs hr3 hr HD hp1 hp2
          go_wp2_with (go_at_call 84; refine (left_any F _ p bs i h.dr hl).mono ?_; rintro e wy ⟨rfl, nq, hw⟩; rw [hw]; clear hw)
          go_quiet (fail)
          go_wp2
          go_ret2
          exact .inl ⟨N, r, v3, HP.out, rfl, HMV.out.2.2.later ⟨rfl, rfl, rfl, Nat.le_refl _, fun _ _ => rfl⟩, HMV.out.1.below ⟨rfl, rfl, rfl, Nat.le_refl _, fun _ _ => rfl⟩, HMV.out.2.1.trans (G := F) ⟨rfl, rfl, rfl, Nat.le_refl _, fun _ _ _ => rfl⟩ (fun k hk => .inl hk)⟩
        · have HQ : Hid (PieceNo bs i most) := mkHid (fun M r' hy => by obtain ⟨e, _, hf'⟩ := hy; obtain ⟨rfl, rfl⟩ := enc_free N M r r' (HD.out.symm.trans e); exact hf hf')
          have hfi : (bs.length : Int) - i - ((enc N).length : Int) < (N : Int) := by omega
          have hr0 : (0 : Int) ≤ (bs.length : Int) - i - ((enc N).length : Int) := by omega
          clear HD hp1 hp2 hr
          go_wp2_with (go_at_call 84; refine (left_any F _ p bs i h.dr hl).mono ?_; rintro e wy ⟨rfl, nq, hw⟩; rw [hw]; clear hw)
          go_region
          all_goals go_wp2
          all_goals go_ret2
          all_goals exact .inr ⟨HQ.out, rfl, h.below ⟨rfl, rfl, rfl, Nat.le_refl _, fun _ _ => rfl⟩, ⟨rfl, rfl, rfl, Nat.le_refl _, fun _ _ _ => rfl⟩⟩
      · have HQ : Hid (PieceNo bs i most) := mkHid (fun M r' hy => by obtain ⟨e, hm', _⟩ := hy; obtain ⟨rfl, _⟩ := enc_free N M r r' (HD.out.symm.trans e); omega)
        have hgt : most < (N : Int) := by omega
        clear HD hp1 hp2 hr
        go_wp2
        go_region
        all_goals go_wp2
        all_goals go_ret2
        all_goals exact .inr ⟨HQ.out, rfl, h.below ⟨rfl, rfl, rfl, Nat.le_refl _, fun _ _ => rfl⟩, ⟨rfl, rfl, rfl, Nat.le_refl _, fun _ _ _ => rfl⟩⟩
    · have HQ : Hid (PieceNo bs i most) := mkHid (fun M r' hy => by
        obtain ⟨e, _, hf'⟩ := hy
        refine hno M r' ?_ e
        have := congrArg List.length e
        rw [List.length_drop, List.length_append] at this
        omega)
      clear hno hr
      go_wp2
      go_region
      all_goals go_wp2
      all_goals go_ret2
      all_goals exact .inr ⟨HQ.out, rfl, h.below ⟨rfl, rfl, rfl, Nat.le_refl _, fun _ _ => rfl⟩, ⟨rfl, rfl, rfl, Nat.le_refl _, fun _ _ _ => rfl⟩⟩
def TextPost (F : Nat → Prop) (w : World) (p : Nat) (bs : List Int) (i : Nat) (most : Int) (ev : Value) (e : Ending) (w' : World) : Prop :=
  (∃ (N : Nat) (r : List Int), PieceYes bs i most N r ∧ e = .returned (.tuple #[.string (strOfNums (r.take N)), .nilIface]) ∧ Rr F w' p bs (i + (enc N).length + N) ∧ Kept F w w') ∨
  (PieceNo bs i most ∧ e = .returned (.tuple #[.string (strOfNums []), ev]) ∧ Rr F w' p bs i ∧ Kept F w w')
def BytesPost (F : Nat → Prop) (w : World) (p : Nat) (bs : List Int) (i : Nat) (most : Int) (ev : Value) (e : Ending) (w' : World) : Prop :=
  (∃ (N : Nat) (r : List Int) (v : Value), PieceYes bs i most N r ∧ e = .returned (.tuple #[v, .nilIface]) ∧ w'.ownsRow w.heap.size 5 1 v (r.take N).length ((r.take N).map (Value.int .u8)) ∧ Rr F w' p bs (i + (enc N).length + N) ∧ Kept F w w') ∨
  (∃ v, PieceNo bs i most ∧ e = .returned (.tuple #[v, ev]) ∧ w'.ownsRow w.heap.size 5 1 v 0 [] ∧ Rr F w' p bs i ∧ Kept F w w')
theorem PieceYes.take_len {bs : List Int} {i : Nat} {most : Int} {N : Nat} {r : List Int} (h : PieceYes bs i most N r) : (r.take N).length = N ∧ N ≤ bs.length := by
  have hl := congrArg List.length h.1
  rw [List.length_drop, List.length_append] at hl
  have := h.2.2
  rw [List.length_take]
  omega
theorem own_up {w : World} {b c : Nat} {e : TypeId} {v : Value} {n : Nat} {xs : List Value} (h : w.ownsRow c e 1 v n xs) (hb : b ≤ c) : w.ownsRow b e 1 v n xs :=
  ⟨h.1, h.2.imp id fun ⟨g, cap, cur, e1, hg, rest⟩ => ⟨g, cap, cur, e1, Nat.le_trans hb hg, rest⟩⟩
theorem rd_nil (w : World) : Rd w (.slice none 0 0) [] := ⟨Byts.nil, none, 0, rfl, by simp, fun _ => rfl, fun hp => by simp at hp⟩
end Go.Proofs.YtaiklaipdocdmaaDoor
