/- A frame is written in pieces. -/
import Derived.Test.YtcbimclgodkflaaDoorWal1
import Derived.Laws.CopyOwn
import Derived.Deep.RegionHeld3
namespace Go.Proofs.YtcbimclgodkflaaDoor
open Go.ChangeShapes Go.WideShapes Go.ChangeAt Go.RowKit
set_option maxRecDepth 100000

theorem Rd.lenS {w : World} {v : Value} {bs : List Int} (h : Rd w v bs) : ∀ (W : World), (Builtin.len_ #[32] 3 #[v]).run Tryd.prog W = .ok (.int .i64 (bs.length : Int)) W := by
  obtain ⟨_, a, c, rfl, _⟩ := h
  intro W
  go_simp
theorem size64 : (Tryd.prog.info? 96).map (·.size) = some 64 := by kernel_rfl
theorem info64 : (Tryd.prog.info? 96).map (fun i => (i.zero, i.size, i.bytes)) = some (some (sec zeros), 64, 64) := by kernel_rfl
theorem zero64 (w : World) : (zeroValue 96).run Tryd.prog w = .ok (sec zeros) w := by
  obtain ⟨i, hi, h1, h2, h3⟩ := info_parts info64
  simp [zeroValue, typeInfo, hi, h1]
def mk64 (m : Int) : List Int := m :: List.replicate 63 0
theorem build64 (w : World) (m : Int) : (Instr.build 96 #[(0, .int .u8 m)]).run Tryd.prog w = .ok (.agg (scells (mk64 m)).toArray) w := by
  kernel_rfl
theorem wpList_build64 {w : World} {ops : Array Oper} {rest : List Oper} {o : Oper} {a : Act} {Q : Exit → Act → World → Prop} (hgd : o.guard = none) (x : Operand) (ho : o.op = .build 96 #[(0, x)]) (m : Int) (hx : a.eval x = .int .u8 m)
    (h : wpList Tryd.prog ops Q rest (a.put o.dst (.agg (scells (mk64 m)).toArray)) w) : wpList Tryd.prog ops Q (o :: rest) a w := by
  refine wpList_plain hgd fun K hK => ?_
  have hb := build64 w m
  unfold Oper.wp execOp
  simp only [ho, List.map_toArray, List.map_cons, List.map_nil, hx, Sem.run_bind, hb, Result.andThen_ok]
  exact hK _ _ h
/-- copy of as many bytes as fit. -/
theorem copy_min {w : World} (ty : TypeId) (g o dLen dCap : Nat) (cur : List Value) (t : TypeId) (hg : w.heap[g]? = some (.cells cur.toArray t (0, 0))) (sv : Value) (bs : List Int) (hs : Rd w sv bs) (hpos : 0 < bs.length) (hfit : o + dLen ≤ cur.length) :
    ∃ W2, (Builtin.copy_ #[32, 32] ty #[.slice (some ⟨g, o, none⟩) dLen dCap, sv]).run Tryd.prog w = .ok (goInt (bs.take dLen).length) W2 ∧ W2.heap[g]? = some (.cells (splice cur o ((bs.take dLen).map (Value.int .u8))).toArray t (0, 0)) ∧ Kept (fun k => k = g) w W2 := by
  obtain ⟨sa, sc, rfl, hcap, _, hr⟩ := hs.2
  obtain ⟨sb, so, rfl, hsb, hcell⟩ := hr hpos
  have hcl : (scells (bs.take dLen)).length = (bs.take dLen).length := by rw [scells, List.length_map]
  have htl : (bs.take dLen).length = Nat.min bs.length dLen := by rw [List.length_take]; exact Nat.min_comm _ _
  have hrun := run_copy_row (P := Tryd.prog) w 32 32 ty 5 g o dLen dCap ⟨sb, so, none⟩ bs.length sc cur.toArray t (scells (bs.take dLen)) Tryd.underlying32 sizeByte hg (by rw [hcl, htl]) (rd_src (fun k hk => by
      have hk2 : k < bs.length := by rw [List.length_take] at hk; omega
      have hk3 : k < dLen := by rw [List.length_take] at hk; omega
      rw [hcell k hk2]
      simp [List.getD, hk2, hk3])) (by rw [hcl, List.length_take]; simp; omega) (scells_one _)
  rw [hcl] at hrun
  refine ⟨_, hrun, ?_, ⟨rfl, rfl, rfl, by simp [World.setRow], fun k _ hk => setRow_other w g k _ hk⟩⟩
  rw [setRow_heap w g cur.toArray _ t (0, 0) hg]
  simp [splice, scells]
theorem splice_sect (m : Int) (fr : List Int) (j : Nat) : splice (scells (mk64 m)) 1 ((piece63 fr j).map (Value.int .u8)) = scells (sect m fr j) := by
  have hl : (piece63 fr j).length ≤ 63 := by unfold piece63; rw [List.length_take]; omega
  unfold splice scells sect mk64
  generalize piece63 fr j = x at *
  simp only [List.map_cons, List.map_replicate, List.map_append]
  have e1 : List.take 1 (Value.int .u8 m :: List.replicate 63 (Value.int .u8 0)) = [Value.int .u8 m] := rfl
  have e2 : List.drop (1 + (List.map (Value.int IntKind.u8) x).length) (Value.int .u8 m :: List.replicate 63 (Value.int .u8 0)) = List.replicate (63 - x.length) (Value.int .u8 0) := by
    rw [List.length_map, Nat.add_comm, List.drop_succ_cons, List.drop_replicate]
  rw [e1, e2]
  rfl
theorem rd_block {w : World} {g : Nat} {t : TypeId} {s : List Int} (hs : Sec s) (h : w.heap[g]? = some (.cells (scells s).toArray t (0, 0))) : Rd w (.slice (some ⟨g, 0, none⟩) 64 64) s := by
  refine ⟨hs.byts, some ⟨g, 0, none⟩, 64, by rw [hs.len], by rw [hs.len]; exact Nat.le_refl _, fun e => by simp at e, fun _ => ⟨g, 0, rfl, (Array.getElem?_eq_some_iff.1 h).1, fun k hk => ?_⟩⟩
  rw [Nat.zero_add]
  exact cell_of_block h (by simp [scells, List.getD, hk])
theorem markOf_bounds (j : Nat) : 0 ≤ markOf j ∧ markOf j ≤ 255 := by unfold markOf; split <;> omega
set_option maxHeartbeats 12800000 in
theorem wwrite_ok (F : Nat → Prop) (w : World) (p n : Nat) (f : Int → List Int) (c : List (Int × List Int)) (nw : Int) (pl : Nat) (v : Value) (fr : List Int) (h : Dk F w p n f c nw false) (hv : Rd w v fr) (hvF : ∀ k, v.ownBlock = some k → ¬ F k) (hvl : ∀ k, v.ownBlock = some k → k < w.heap.size) (hn : pl + npc fr.length ≤ n) (hl : (fr.length : Int) ≤ 1000000) (hn2 : (n : Int) ≤ 1024) (hcl : c.length ≤ 100000000) (hnw : 0 ≤ nw ∧ nw ≤ 100000000) :
    Calls Tryd.prog 43 #[.pointer (some ⟨p, 0, none⟩), .int .i64 (pl : Int), v] w fun e w' => e = .returned .nilIface ∧ ∃ F', Dk F' w' p n f (c ++ writesOf fr (pl : Int) (npc fr.length)) (nw + (npc fr.length : Int)) false ∧ (∀ k, F' k → F k ∨ w.heap.size ≤ k) ∧ Kept F w w' := by
  have hlen := hv.lenS
  have HV := mkHid hv
  have HF := mkHid hvF
  have HVL := mkHid hvl
  have HD := mkHid h
  obtain ⟨K, hK⟩ : ∃ K, K = npc fr.length := ⟨_, rfl⟩
  have hKb : K ≤ 15874 ∧ (∀ j : Nat, (63 * (j : Int) < fr.length ↔ j < K)) := by
    rw [hK]; unfold npc; exact ⟨by omega, fun j => by omega⟩
  rw [← hK] at hn ⊢
  have HKB := mkHid hKb
  clear hv hvF hvl h hK hKb
  go_enter Tryd.func43, Tryd.ntmps43
  go_wp2
  go_loopw [1, 7, 8] (fun pv mv iv wr => ∃ (j : Nat) (F' : Nat → Prop), pv = .int .i64 ((pl : Int) + (j : Int)) ∧ mv = .int .u8 (markOf j) ∧ iv = .int .i64 (63 * (j : Int)) ∧ j ≤ K ∧ Dk F' wr p n f (c ++ writesOf fr (pl : Int) j) (nw + (j : Int)) false ∧ (∀ k, F' k → F k ∨ w.heap.size ≤ k) ∧ Kept F w wr) (fun _ _ iv _ => (fr.length : Int).toNat + 63 - (intOf iv).toNat)
  case atStart => exact ⟨0, F, by simp, rfl, rfl, Nat.zero_le _, by simpa [writesOf] using HD.out, fun k e => .inl e, Kept.refl _ _⟩
  case round =>
    clear HD
    obtain ⟨j, F', rfl, rfl, rfl, hj, hD, hF', hkp⟩ := hrel
    have HFK := mkHid hF'
    have HKP := mkHid hkp
    have HDj := mkHid hD
    have hk3 := HKB.out.2 j
    by_cases hjK : j < K
    · have hlt : 63 * (j : Int) < (fr.length : Int) := hk3.mpr hjK
      have hR := HV.out.kept hkp HF.out
      obtain ⟨v2, s2, r2⟩ := hR.tailS (63 * (j : Int)) (63 * j) (by omega) (by omega)
      obtain ⟨W1, hW1⟩ : ∃ W1, W1 = wr.alloc (.cells (scells (mk64 (markOf j))).toArray 96) := ⟨_, rfl⟩
      have hb1 : Below wr.heap.size wr W1 := by rw [hW1]; exact (Below.refl _ wr).alloc (Nat.le_refl _) _
      have hg1 : W1.drew.heap[wr.heap.size]? = some (.cells (scells (mk64 (markOf j))).toArray 96 (0, 0)) := by rw [hW1]; exact heap_alloc_new wr _
      have hz1 : W1.heap.size = wr.heap.size + 1 := by rw [hW1]; simp
      obtain ⟨W2, hrun, hg2, hk2⟩ := copy_min (w := W1.drew) 3 wr.heap.size 1 63 63 _ 96 hg1 v2 (fr.drop (63 * j)) ((r2.later hb1).drew) (by rw [List.length_drop]; omega) (by simp [scells, mk64])
      have hSec : Sec (sect (markOf j) fr j) := sect_sec (markOf_bounds j) HV.out.1 j
      have e63 : (fr.drop (63 * j)).take 63 = piece63 fr j := rfl
      rw [e63] at hg2 hrun
      rw [splice_sect] at hg2
      have HRS := mkHid (rd_block hSec hg2)
      have HSC := mkHid hSec
      have hb1d : Below wr.heap.size wr W1.drew := hb1.drew
      have hnF : ¬ F' wr.heap.size := fun e => by have := hD.1 _ e; omega
      have HD2 := mkHid ((hD.below hb1d).kept hk2 (fun k e e2 => hnF (e2 ▸ e)))
      have hkw : Kept F w W2 := hkp.trans ((kept_below (fun k => k = wr.heap.size) hb1d).trans hk2 (fun _ e => .inl e)) (fun k e => .inr (by rw [e]; exact hkp.size))
      have HKW := mkHid hkw
      have HS2 : Hid (wr.heap.size ≤ W2.heap.size) := mkHid (by have := hk2.size; have h2 : W1.drew.heap.size = W1.heap.size := rfl; omega)
      have HWS := mkHid (writesOf_succ fr (pl : Int) j)
      have hwl : (c ++ writesOf fr (pl : Int) j).length = c.length + j := by rw [List.length_append, writesOf_len]
      have HJ : Hid (j ≤ 15874) := mkHid (by have := HKB.out.1; omega)
      have hmk : markOf (j + 1) = 0 := rfl
      have HMK := mkHid hmk
      have w1 : IntKind.i64.wrap ((pl : Int) + (j : Int) + 1) = (pl : Int) + (j : Int) + 1 := by rw [IntKind.wrap_i64]; have := HKB.out.1; omega
      have w2 : IntKind.i64.wrap (63 * (j : Int) + 63) = 63 * (j : Int) + 63 := by rw [IntKind.wrap_i64]; have := HKB.out.1; omega
      clear hR r2 hg1 hg2 hk2 hSec e63 hb1d hnF hkw hD hF' hkp hb1 hz1 hmk hk3
      generalize markOf j = mk at *
      go_wp2_with (first
        | (refine wpList_build64 rfl (.tmp 17) rfl mk rfl ?_)
        | (refine wpList_alloc_z rfl 96 rfl (scells zeros).toArray (zero64 _) ?_)
        | (refine wpList_store_new rfl 96 (.tmp 9) (.tmp 18) rfl _ (scells (mk64 mk)) rfl rfl (by have : (scells (mk64 mk)).length = 64 := rfl; rw [this]; exact size64) (by rfl) (scells_one _) ?_))
      rw [← hW1]
      clear hW1
      simp only [Act.put]
      go_region_held3 (fun _ => True) (first | trivial) (fail)
      go_wp2_with (go_at_call 58; refine (write_ok F' W2 p n f _ _ ((pl : Int) + (j : Int)) _ (sect mk fr j) HD2.out (by omega) (by omega) HRS.out HSC.out.len (by have := HJ.out; omega) (by have := HJ.out; omega)).mono ?_; rintro e w5 ⟨rfl, F5, hD5, hF5, hk5⟩; have HD5 := mkHid hD5; have HF5 := mkHid hF5; have HK5 := mkHid hk5; clear hD5 hF5 hk5)
      go_roundw
      case rel => exact ⟨j + 1, F5, by go_num, by rw [HMK.out], by go_num, by omega, by rw [HWS.out, ← List.append_assoc]; have := HD5.out; rwa [show nw + (j : Int) + 1 = nw + ((j + 1 : Nat) : Int) by omega] at this, fun k e => by rcases HF5.out k e with h | h; exact HFK.out k h; (have := HKP.out.size; have := HS2.out; exact .inr (by omega)), HKW.out.trans (HK5.out.mono (G := F') (fun _ e => e)) (fun k e => HFK.out k e)⟩
      case measure => simp [intOf]; omega
    · obtain rfl : j = K := by omega
      have hlt : ¬ 63 * (j : Int) < (fr.length : Int) := fun e => by have := hk3.mp e; omega
      clear hD hF' hkp hk3
      go_wp2
      go_ret
      exact ⟨rfl, F', HDj.out, HFK.out, HKP.out⟩
end Go.Proofs.YtcbimclgodkflaaDoor
