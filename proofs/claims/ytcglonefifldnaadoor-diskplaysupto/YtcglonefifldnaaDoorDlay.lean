/- Steps over whole sectors and writes; lay. -/
import Derived.Test.YtcglonefifldnaaDoorMsec
import Derived.Deep.WholeRow
import Derived.Lib.SlBuf
import Derived.Laws.CopyRow
import Derived.Deep.RegionHeld3
import Derived.BigQuiet
namespace Go.Proofs.YtcglonefifldnaaDoor
open Go.ChangeShapes Go.WideShapes Go.ChangeAt Go.RowKit

/-- A new variable of a type whose zero value is known. -/
theorem wpList_alloc_z {P : Program} {w : World} {ops : Array Oper} {rest : List Oper} {o : Oper} {a : Act} {Q : Exit → Act → World → Prop} (hgd : o.guard = none) (t : TypeId) (ho : o.op = .alloc t) (z : Array Value) (hz : (zeroValue t).run P w = .ok (.agg z) w)
    (h : wpList P ops Q rest (a.put o.dst (.pointer (some ⟨w.heap.size, 0, none⟩))) (w.alloc (.cells z t))) : wpList P ops Q (o :: rest) a w := by
  refine wpList_plain hgd fun K hK => ?_
  unfold Oper.wp execOp
  simp only [ho, Instr.alloc, Sem.run_bind, hz, Result.andThen_ok]
  simp [newVar, Value.cells]
  exact hK _ _ h
/-- A whole value into the variable that was made last. -/
theorem wpList_store_new {P : Program} {w : World} {ops : Array Oper} {rest : List Oper} {o : Oper} {a : Act} {Q : Exit → Act → World → Prop} (hgd : o.guard = none) (t : TypeId) (x y : Operand) (ho : o.op = .store t x y) (c : Array Value) (cs : List Value)
    (hx : a.eval x = .pointer (some ⟨w.heap.size, 0, none⟩)) (hy : a.eval y = .agg cs.toArray) (hi : (P.info? t).map (·.size) = some cs.length) (hc : c.size = cs.length) (h1 : ∀ v ∈ cs, v.oneCell' = true)
    (h : wpList P ops Q rest (a.put o.dst undef) (w.alloc (.cells cs.toArray t))) : wpList P ops Q (o :: rest) a (w.alloc (.cells c t)) := by
  refine wpList_plain hgd fun K hK => ?_
  have hr := run_storeAt_new (P := P) w t c cs.toArray (by simpa using hi) (by simpa using hc) (all_oneCell_toArray h1)
  unfold Oper.wp
  simp [execOp, ho, hx, hy, hr, Result.andThen]
  exact hK _ _ h
theorem size65 : (Tryd.prog.info? 65).map (·.size) = some 64 := by kernel_rfl
theorem sizeByte : (Tryd.prog.info? 5).map (·.size) = some 1 := by kernel_rfl
/-- mapUpdate, by its run. -/
theorem step_mapUpdate {P : Program} {ops : Array Oper} {o : Oper} {a : Act} {w : World} {K : Act → World → Prop} {Q : Exit → Act → World → Prop} {E : Prop} (hgd : o.guard = none) (m x v : Operand) (t : TypeId) (hop : o.op = Op.mapUpdate t m x v) (mv xv vv : Value)
    (hm : a.eval m = mv) (hx : a.eval x = xv) (hv : a.eval v = vv) (w' : World) (hrun : (Instr.mapUpdate t mv xv vv).run P w = .ok () w') (h : K (a.put o.dst undef) w') :
    if Region.wanted o (yielded ops a.tmps) = true then Oper.wp P o a w K Q else E := by
  have hw : Region.wanted o (yielded ops a.tmps) = true := by simp [Region.wanted, hgd]
  rw [if_pos hw]
  unfold Oper.wp
  simp [execOp, hop, hm, hx, hv, hrun, Result.andThen]
  exact h
theorem kept_below (F : Nat → Prop) {w w' : World} (hb : Below w.heap.size w w') : Kept F w w' := ⟨hb.os, hb.tape, hb.output, hb.size, fun k hk _ => hb.block k hk⟩
/-- The first bytes of a sector are laid anew. -/
def laid (s bs : List Int) : List Int := bs ++ s.drop bs.length
theorem laid_sec {s bs : List Int} (hs : Sec s) (hb : Byts bs) (hl : bs.length ≤ 64) : Sec (laid s bs) := by
  refine ⟨?_, hb.append fun b hb' => hs.byts b (List.mem_of_mem_drop hb')⟩
  unfold laid
  rw [List.length_append, List.length_drop, hs.len]
  omega
theorem rd_src {w : World} {sb so : Nat} {bs : List Int} (hcell : ∀ k, k < bs.length → w.cell? ⟨sb, so + k, none⟩ = some (.int .u8 (bs.getD k 0))) : ∀ j v, (scells bs)[j]? = some v → w.cell? ((⟨sb, so, none⟩ : Addr).add j) = some v := by
  intro j v hj
  have hjl : j < bs.length := by have := (List.getElem?_eq_some_iff.mp hj).1; rwa [scells, List.length_map] at this
  rw [add_none, hcell j hjl, ← hj]
  simp [scells, List.getD, hjl]
/-- The first bytes of the sector that was made last are laid anew. -/
theorem copy_sec (w : World) (ty : TypeId) (s bs : List Int) (sb so sc : Nat) (hs : Sec s) (hl : bs.length ≤ 64) (hsb : sb < w.heap.size) (hcell : ∀ k, k < bs.length → w.cell? ⟨sb, so + k, none⟩ = some (.int .u8 (bs.getD k 0))) :
    (Builtin.copy_ #[33, 33] ty #[.slice (some ⟨w.heap.size, 0, none⟩) 64 64, .slice (some ⟨sb, so, none⟩) bs.length sc]).run Tryd.prog (w.alloc (.cells (scells s).toArray 65)) = .ok (goInt bs.length) (w.alloc (.cells (scells (laid s bs)).toArray 65)) := by
  have hb : Below w.heap.size w (w.alloc (.cells (scells s).toArray 65)) := (Below.refl _ _).alloc (Nat.le_refl _) _
  have hcl : (scells bs).length = bs.length := by rw [scells, List.length_map]
  have hr := run_copy_row (P := Tryd.prog) (w.alloc (.cells (scells s).toArray 65)) 33 33 ty 5 w.heap.size 0 64 64 ⟨sb, so, none⟩ bs.length sc (scells s).toArray 65 (scells bs) Tryd.underlying33 sizeByte (heap_alloc_new w _) (by rw [hcl]; exact (Nat.min_eq_left hl).symm) (rd_src (fun k hk => (hb.cell (p := ⟨sb, so + k, none⟩) hsb).trans (hcell k hk))) (by rw [hcl, List.size_toArray, hs.slen]; omega) (scells_one _)
  rw [hr, World.setRow_alloc_new, hcl]
  simp [laid, scells]
set_option maxHeartbeats 3200000 in
theorem lay_any (w : World) (p mb : Nat) (f : Int → List Int) (i : Int) (v : Value) (bs : List Int) (hc : w.cell? ⟨p, 1, none⟩ = some (.map (some mb))) (hM : Ms w mb f) (hv : Rd w v bs) (h1 : 1 ≤ bs.length) (hl : bs.length ≤ 64) :
    Calls Tryd.prog 29 #[.pointer (some ⟨p, 0, none⟩), .int .i64 i, v] w fun e w' => e = .returned (.tuple #[]) ∧ Ms w' mb (updI f i (laid (f i) bs)) ∧ Kept (fun j => j = mb) w w' := by
  obtain ⟨sa, sc, rfl, hcap, _, hr⟩ := hv.2
  obtain ⟨sb, so, rfl, hsb, hcell⟩ := hr (by omega)
  have hget := hM.get i
  have HS := mkHid (hM.1 i)
  have hcp := copy_sec w 3 (f i) bs sb so sc (hM.1 i) hl hsb hcell
  have HB := mkHid hv.1
  have HM := mkHid hM
  have hplt := World.block_lt_of_cell? w _ hc
  clear hv hr hcell hM
  go_enter Tryd.func29, Tryd.ntmps29
  go_wp2_with (first | (refine wpList_alloc_z rfl 65 rfl (scells zeros).toArray (zero65 _) ?_) | (refine wpList_store_new rfl 65 (.tmp 6) (.tmp 12) rfl _ (scells (f i)) rfl rfl (by rw [HS.out.slen]; exact size65) (by rw [HS.out.slen]; rfl) (scells_one _) ?_))
  clear hget hcp
  have hL := laid_sec HS.out HB.out hl
  obtain ⟨s', hs'⟩ : ∃ s', s' = laid (f i) bs := ⟨_, rfl⟩
  rw [← hs'] at hL ⊢
  have HS' := mkHid hs'
  clear hs'
  obtain ⟨W1, hW1⟩ : ∃ W1, W1 = w.alloc (.cells (scells s').toArray 65) := ⟨_, rfl⟩
  have hb1 : Below w.heap.size w W1 := by rw [hW1]; exact (Below.refl _ w).alloc (Nat.le_refl _) _
  have hc' : W1.cell? ⟨p, 1, none⟩ = some (.map (some mb)) := (hb1.cell (p := ⟨p, 1, none⟩) hplt).trans hc
  have hrg : W1.rangeAt w.heap.size 0 (scells s') := fun j v hj => by
    rw [hW1, Nat.zero_add, cell_of_row _ w.heap.size j _ _ _ (heap_alloc_new w _)]
    simpa using hj
  have HM1 : Hid (Ms W1 mb f) := mkHid (HM.out.kept (kept_of_below hb1) (by have := HM.out.lt; omega))
  rw [← hW1]
  clear hW1 hc
  have hu65 := Tryd.underlying65
  have hi65 : (Tryd.prog.info? 65).map (·.size) = some (scells s').length := by rw [hL.slen]; exact size65
  obtain ⟨w2, hr2, hM2, hk2⟩ := (HM1.out.kept (Kept.drew (fun _ => False) W1) (fun h => h)).put i s' hL
  unfold sec at hr2
  have HM2 := mkHid hM2
  have hpm : p ≠ mb := fun e => by
    obtain ⟨_, es, cl, hb, _⟩ := HM1.out
    rw [e] at hc'
    simp [World.cell?, hb] at hc'
  have hc2 : w2.cell? ⟨p, 1, none⟩ = some (.map (some mb)) := hk2.cell (show W1.drew.cell? ⟨p, 1, none⟩ = some (.map (some mb)) from hc') hpm
  have hrg2 : w2.rangeAt w.heap.size 0 (scells s') := fun j v hj => hk2.cell (show W1.drew.cell? ⟨w.heap.size, 0 + j, none⟩ = some v from hrg j v hj) (by have := HM.out.lt; simp; omega)
  have HK2 := mkHid hk2
  clear hM2 hk2 hL
  go_region_held (fun w' => w'.cell? ⟨p, 1, none⟩ = some (.map (some mb)) ∧ w'.rangeAt w.heap.size 0 (scells s')) (first | exact ⟨by assumption, by assumption⟩) (fail)
  go_end0
  rw [← HS'.out]
  exact ⟨rfl, HM2.out, (kept_below (fun j => j = mb) hb1).trans ((Kept.drew (fun j => j = mb) W1).trans HK2.out (fun _ h => .inl h)) (fun _ h => .inl h)⟩
end Go.Proofs.YtcglonefifldnaaDoor
