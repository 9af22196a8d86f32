/- Flush and Lose of the document's disk; New. -/
import Derived.Test.YtcglonefifldnaaDoorRdk
import Derived.Deep.RegionHeld3
namespace Go.Proofs.YtcglonefifldnaaDoor
open Go.ChangeShapes Go.WideShapes Go.ChangeAt Go.RowKit

/-- copy of bytes into a row. -/
theorem copy_into {w : World} (ty : TypeId) (g o dLen dCap : Nat) (cur : List Value) (t : TypeId) (hg : w.heap[g]? = some (.cells cur.toArray t (0, 0))) (sv : Value) (bs : List Int) (hs : Rd w sv bs) (hpos : 0 < bs.length) (hle : bs.length ≤ dLen) (hfit : o + bs.length ≤ cur.length) :
    ∃ W2, (Builtin.copy_ #[33, 33] ty #[.slice (some ⟨g, o, none⟩) dLen dCap, sv]).run Tryd.prog w = .ok (goInt bs.length) W2 ∧ W2.heap[g]? = some (.cells (splice cur o (bs.map (Value.int .u8))).toArray t (0, 0)) ∧ Kept (fun k => k = g) w W2 := by
  obtain ⟨sa, sc, rfl, hcap, _, hr⟩ := hs.2
  obtain ⟨sb, so, rfl, hsb, hcell⟩ := hr hpos
  have hcl : (scells bs).length = bs.length := by rw [scells, List.length_map]
  have hrun := run_copy_row (P := Tryd.prog) w 33 33 ty 5 g o dLen dCap ⟨sb, so, none⟩ bs.length sc cur.toArray t (scells bs) Tryd.underlying33 sizeByte hg (by rw [hcl]; exact (Nat.min_eq_left hle).symm) (rd_src hcell) (by rw [hcl]; simpa using hfit) (scells_one _)
  rw [hcl] at hrun
  refine ⟨_, hrun, ?_, ⟨rfl, rfl, rfl, by simp [World.setRow], fun k _ hk => setRow_other w g k _ hk⟩⟩
  rw [setRow_heap w g cur.toArray _ t (0, 0) hg]
  simp [splice, scells]
/-- The rows were laid anew, and the cache is empty. -/
theorem Rk.cleared {F : Nat → Prop} {w W2 : World} {q n : Nat} {fs fn fs' fn' : Int → List Int} {c : List (Int × List Int)} {nw : Int} {gone : Bool} {sb nb : Nat} {av dv : Value} {H : Nat → Prop} (h : Rk F w q n fs fn c nw gone sb nb av dv H) (hk : Kept (fun k => k = sb ∨ k = nb) w W2)
    (hs : W2.heap[sb]? = some (.cells ((conc n fs').map (Value.int .u8)).toArray 5 (0, 0))) (hn : W2.heap[nb]? = some (.cells ((conc n fn').map (Value.int .u8)).toArray 5 (0, 0))) (ss : ∀ i, Sec (fs' i)) (sn : ∀ i, Sec (fn' i)) :
    Rk F ((W2.setCell ⟨q, 2, none⟩ (.slice none 0 0)).setCell ⟨q, 3, none⟩ (.slice none 0 0)) q n fs' fn' [] nw gone sb nb (.slice none 0 0) (.slice none 0 0) (fun _ => False) ∧ Kept F w ((W2.setCell ⟨q, 2, none⟩ (.slice none 0 0)).setCell ⟨q, 3, none⟩ (.slice none 0 0)) := by
  have k2 : Kept (fun k => k = q) W2 (W2.setCell ⟨q, 2, none⟩ (.slice none 0 0)) := Kept.setCell (F := fun k => k = q) W2 (p := ⟨q, 2, none⟩) rfl _
  have k3 : Kept (fun k => k = q) (W2.setCell ⟨q, 2, none⟩ (.slice none 0 0)) ((W2.setCell ⟨q, 2, none⟩ (.slice none 0 0)).setCell ⟨q, 3, none⟩ (.slice none 0 0)) := Kept.setCell (F := fun k => k = q) _ (p := ⟨q, 3, none⟩) rfl _
  have k23 := k2.trans k3 (fun _ h => .inl h)
  have hd2 : W2.heap[q]? = some (.cells #[.slice (some ⟨sb, 0, none⟩) (64 * n) (64 * n), .slice (some ⟨nb, 0, none⟩) (64 * n) (64 * n), av, dv, .int .i64 nw, .bool gone] 41 (0, 0)) := by
    rw [hk.block q (h.lt q h.fq) (fun e => e.elim (fun e => h.fs_.2 e.symm) (fun e => h.fn_.2.1 e.symm))]; exact h.hd
  have hd3 := heap_set (i := 2) (v := .slice none 0 0) hd2
  have hd4 := heap_set (i := 3) (v := .slice none 0 0) hd3
  have lt2 : ∀ k, F k → k < W2.heap.size := fun k e => Nat.lt_of_lt_of_le (h.lt k e) hk.size
  refine ⟨⟨fun k e => Nat.lt_of_lt_of_le (lt2 k e) k23.size, h.fq, ss, sn, by simp, by simp, h.n0, h.n1, by simpa using hd4, ?_, ?_, World.ownsRow_nil _ _ _ _, Lst.nil _ _ _, h.fs_, h.fn_, fun k e => by simp [Value.ownBlock] at e, fun k e => by simp [Value.ownBlock] at e, fun k e => e.elim⟩, ?_⟩
  · rw [k23.block sb (lt2 sb h.fs_.1) h.fs_.2]; exact hs
  · rw [k23.block nb (lt2 nb h.fn_.1) h.fn_.2.1]; exact hn
  · exact (hk.mono (G := F) (fun k e => by rcases e with rfl | rfl; exact h.fs_.1; exact h.fn_.1)).trans k23 (fun k e => .inl (by rw [e]; exact h.fq))
set_option maxHeartbeats 3200000 in
theorem rflush_ok (F : Nat → Prop) (w : World) (q n : Nat) (fs fn : Int → List Int) (c : List (Int × List Int)) (nw : Int) (sb nb : Nat) (av dv : Value) (H : Nat → Prop) (h : Rk F w q n fs fn c nw false sb nb av dv H) :
    Calls Tryd.prog 24 #[.pointer (some ⟨q, 0, none⟩)] w fun r w' => r = .returned (.int .i64 0) ∧ Rk F w' q n fn fn [] nw false sb nb (.slice none 0 0) (.slice none 0 0) (fun _ => False) ∧ Kept F w w' := by
  have c5 : w.cell? ⟨q, 5, none⟩ = some (.bool false) := cell_of_block h.hd rfl
  have l1 := conc_len n fs h.ss
  have l2 := conc_len n fn h.sn
  have hn0 := h.n0
  have hD := h.kept (Kept.drew (fun _ => False) w) (fun _ _ e => e)
  obtain ⟨W2, hrun, hs2, hk2⟩ := copy_into (w := w.drew) 3 sb 0 (64 * n) (64 * n) _ 5 hD.hs (.slice (some ⟨nb, 0, none⟩) (64 * n) (64 * n)) (conc n fn) hD.rows.2 (by omega) (by omega) (by simp; omega)
  rw [splice_map, splice_all _ _ (by omega)] at hs2
  have hk2' : Kept (fun k => k = sb ∨ k = nb) w.drew W2 := hk2.mono (fun k e => .inl e)
  have hn2 : W2.heap[nb]? = some (.cells ((conc n fn).map (Value.int .u8)).toArray 5 (0, 0)) := by rw [hk2.block nb (hD.lt nb hD.fn_.1) h.fn_.2.2]; exact hD.hn
  obtain ⟨hR, hK⟩ := hD.cleared hk2' hs2 hn2 h.sn h.sn
  have HRes : Hid (Rk F ((W2.setCell ⟨q, 2, none⟩ (.slice none 0 0)).setCell ⟨q, 3, none⟩ (.slice none 0 0)) q n fn fn [] nw false sb nb (.slice none 0 0) (.slice none 0 0) (fun _ => False) ∧ Kept F w ((W2.setCell ⟨q, 2, none⟩ (.slice none 0 0)).setCell ⟨q, 3, none⟩ (.slice none 0 0))) := mkHid ⟨hR, (Kept.drew F w).trans hK (fun _ e => .inl e)⟩
  have hd2 : W2.heap[q]? = _ := (hk2.block q (hD.lt q hD.fq) (fun e => h.fs_.2 e.symm)).trans hD.hd
  have c0 : w.drew.cell? ⟨q, 0, none⟩ = some (.slice (some ⟨sb, 0, none⟩) (64 * n) (64 * n)) := cell_of_block hD.hd rfl
  have c1 : w.drew.cell? ⟨q, 1, none⟩ = some (.slice (some ⟨nb, 0, none⟩) (64 * n) (64 * n)) := cell_of_block hD.hd rfl
  have d0 : W2.cell? ⟨q, 0, none⟩ = some (.slice (some ⟨sb, 0, none⟩) (64 * n) (64 * n)) := cell_of_block hd2 rfl
  have d1 : W2.cell? ⟨q, 1, none⟩ = some (.slice (some ⟨nb, 0, none⟩) (64 * n) (64 * n)) := cell_of_block hd2 rfl
  have d2 : W2.cell? ⟨q, 2, none⟩ = some av := cell_of_block hd2 rfl
  have d3 : W2.cell? ⟨q, 3, none⟩ = some dv := cell_of_block hd2 rfl
  have z2 : W2.frozen? ⟨q, 2, none⟩ = false := frozen_of_block hd2
  have z3 : W2.frozen? ⟨q, 3, none⟩ = false := frozen_of_block hd2
  generalize hv1 : Value.slice (some ⟨sb, 0, none⟩) (64 * n) (64 * n) = v1 at *
  generalize hv2 : Value.slice (some ⟨nb, 0, none⟩) (64 * n) (64 * n) = v2 at *
  clear h hD hR hK hd2 hs2 hn2 hk2 hk2' hv1 hv2 l1 l2
  have e0 : w.cell? ⟨q, 0, none⟩ = some v1 := c0
  have e1 : w.cell? ⟨q, 1, none⟩ = some v2 := c1
  go_enter Tryd.func24, Tryd.ntmps24
  go_wp2
  go_region_held3 (fun w' => w'.cell? ⟨q, 0, none⟩ = some v1 ∧ w'.cell? ⟨q, 1, none⟩ = some v2) (first | exact ⟨by assumption, by assumption⟩) (fail)
  go_wp2
  go_ret
  exact ⟨rfl, HRes.out.1, HRes.out.2⟩
theorem rflush_lost (F : Nat → Prop) (w : World) (q n : Nat) (fs fn : Int → List Int) (c : List (Int × List Int)) (nw : Int) (sb nb : Nat) (av dv : Value) (H : Nat → Prop) (h : Rk F w q n fs fn c nw true sb nb av dv H) :
    Calls Tryd.prog 24 #[.pointer (some ⟨q, 0, none⟩)] w fun r w' => r = .returned (.int .i64 9) ∧ w' = w := by
  have c5 : w.cell? ⟨q, 5, none⟩ = some (.bool true) := cell_of_block h.hd rfl
  go_enter Tryd.func24, Tryd.ntmps24
  go_wp2
  go_ret
  exact ⟨rfl, rfl⟩
set_option maxHeartbeats 3200000 in
theorem rlose_any (F : Nat → Prop) (w : World) (q n : Nat) (fs fn : Int → List Int) (c : List (Int × List Int)) (nw : Int) (gone : Bool) (sb nb : Nat) (av dv : Value) (H : Nat → Prop) (h : Rk F w q n fs fn c nw gone sb nb av dv H) :
    Calls Tryd.prog 27 #[.pointer (some ⟨q, 0, none⟩)] w fun r w' => r = .returned (.tuple #[]) ∧ Rk F w' q n fs fn [] nw true sb nb (.slice none 0 0) (.slice none 0 0) (fun _ => False) ∧ Kept F w w' := by
  have c5 : w.cell? ⟨q, 5, none⟩ = some (.bool gone) := cell_of_block h.hd rfl
  have c2 : w.cell? ⟨q, 2, none⟩ = some av := cell_of_block h.hd rfl
  have c3 : w.cell? ⟨q, 3, none⟩ = some dv := cell_of_block h.hd rfl
  have z5 : w.frozen? ⟨q, 5, none⟩ = false := frozen_of_block h.hd
  have z2 : w.frozen? ⟨q, 2, none⟩ = false := frozen_of_block h.hd
  have z3 : w.frozen? ⟨q, 3, none⟩ = false := frozen_of_block h.hd
  have k5 : Kept (fun k => k = q) w (w.setCell ⟨q, 5, none⟩ (.bool true)) := Kept.setCell (F := fun k => k = q) w (p := ⟨q, 5, none⟩) rfl _
  have h5 : Rk F (w.setCell ⟨q, 5, none⟩ (.bool true)) q n fs fn c nw true sb nb av dv H := by
    refine ⟨fun k e => Nat.lt_of_lt_of_le (h.lt k e) k5.size, h.fq, h.ss, h.sn, h.sc, h.pc, h.n0, h.n1, by rw [heap_set h.hd]; simp, ?_, ?_, own_keptV h.ha k5 (fun k e => (h.fa k e).2.1), h.hl.kept k5 (fun k e => (h.fh k e).2.1) (fun k e => (h.fd k e).2.1), h.fs_, h.fn_, h.fa, h.fd, h.fh⟩
    · rw [k5.block sb (h.lt sb h.fs_.1) h.fs_.2]; exact h.hs
    · rw [k5.block nb (h.lt nb h.fn_.1) h.fn_.2.1]; exact h.hn
  obtain ⟨hR, hK⟩ := h5.cleared (Kept.refl _ _) h5.hs h5.hn h.ss h.sn
  have HR := mkHid hR
  have HK := mkHid (k5.mono (G := F) (fun k e => by rw [e]; exact h.fq) |>.trans hK (fun _ e => .inl e))
  clear h h5 hR hK
  go_enter Tryd.func27, Tryd.ntmps27
  go_wp2
  go_end0
  exact ⟨rfl, HR.out, HK.out⟩
end Go.Proofs.YtcglonefifldnaaDoor
