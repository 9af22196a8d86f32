/- The document's Merge: the lists as one. -/
import Derived.Test.YtjlmkmhggkcbhaaDoorMgMath3
import Derived.Test.YtjlmkmhggkcbhaaDoorQleast
import Derived.Test.YtjlmkmhggkcbhaaDoorQmsv
import Derived.Deep.RegionHeld3
namespace Go.Proofs.YtjlmkmhggkcbhaaDoor
open Go.ChangeShapes Go.WideShapes Go.ChangeAt Go.RowKit
set_option maxRecDepth 100000
set_option linter.unusedVariables false

/-- An operation of a drawn region is taken first; its slot is written out. -/
theorem takeD {P : Program} {md : Region.Mode} {ops : Array Oper} {Q : Exit → Act → World → Prop} {S : World → Prop} {fuel : Nat} {listed : Array Bool} {l : List Value} {df : List Deferred} {w : World} {oi : Oper} (i d : Nat) (v : Value) (hi : ops[i]? = some oi) (hd : oi.dst = some d)
    (hs : Region.noSelect ops = true) (hf : Region.free md ops listed i = true) (hr : (Region.ready md ops listed).contains i = true)
    (hQ : ∀ c a w, Q (.panic c) (a.put oi.dst v) w → Q (.panic c) a w) (hy : YieldsIf P ops S oi v ⟨l.toArray, df⟩) (hS : S w)
    (h : wpAnyH P md ops Q S fuel (listed.setIfInBounds i true) ⟨(l.set d v).toArray, df⟩ w) : wpAnyH P md ops Q S (fuel + 1) listed ⟨l.toArray, df⟩ w := by
  refine wpAnyH_take hi hs hf hr hQ hy hS ?_
  rw [hd]
  simpa [Act.put] using h
theorem step_append_srcV {P : Program} {ops : Array Oper} {o : Oper} {a : Act} {w : World} {K : Act → World → Prop} {Q : Exit → Act → World → Prop} {E : Prop} (hgd : o.guard = none) (sl x : Operand) (t tx : TypeId)
    (hop : o.op = .call { callee := .builtin .append, args := #[sl, x], argTypes := #[t, tx] })
    (base : Nat) (e : TypeId) (i : TypeInfo) (ht : P.underlying t = some (.slice e)) (hi : P.info? e = some i) (z : Value) (B : Nat) (hz : i.zero = some z) (hzs : z.cells.size = 1) (hsize : i.size = 1) (hby : i.bytes = B)
    (v : Value) (n : Nat) (xs : List Value) (hs : a.eval sl = v) (hown : w.ownsRow base e 1 v n xs) (xv : Value) (m : Nat) (news : List Value) (hx : a.eval x = xv) (hsrc : Src P 1 tx xv m news w)
    (h63 : n + m ≤ maxLen) (hbytes : (n + m) * B ≤ 140737488355328) (hbase : base ≤ w.heap.size)
    (h : ∀ v' w', w'.ownsRow base e 1 v' (n + m) (xs ++ news) → w.grownBy w' v.ownBlock → (v'.ownBlock = v.ownBlock ∨ v'.ownBlock = some w.heap.size) → K (a.put o.dst v') w') :
    if Region.wanted o (yielded ops a.tmps) = true then Oper.wp P o a w K Q else E := by
  have hw : Region.wanted o (yielded ops a.tmps) = true := by simp [Region.wanted, hgd]
  rw [if_pos hw]
  obtain ⟨v', w', hr, h2, h3, h4⟩ := run_append_own_srcV (P := P) w base t tx o.type e i ht hi z B hz hzs hsize hby v n xs hown xv m news hsrc h63 hbytes hbase
  unfold Oper.wp execOp
  simp only [hop, resolve, invoke, builtin, Sem.run_bind, Sem.run_pure, Result.andThen_ok, List.map_toArray, List.map_cons, List.map_nil, hs, hx, hr]
  exact h v' w' h2 h3 h4
theorem src_int {w' : World} (x : Int) (g : Nat) (h : w'.cell? ⟨g, 0, none⟩ = some (.int .i64 x)) : Src Tryd.prog 1 36 (.slice (some ⟨g, 0, none⟩) 1 1) 1 [.int .i64 x] w' := by
  refine Src.ofSlice _ Tryd.underlying36 _ 1 1 _ rfl (fun j u hj => ?_) (fun u hu => by simp at hu; subst hu; rfl)
  match j, hj with
  | 0, hj => simp at hj; subst hj; simpa [Addr.add] using h
def vI (n : Nat) : Value := .int .i64 (n : Int)
structure R1 (w wr : World) (ov : Value) (g cg : Nat) (ps : List (List Int)) (bs c : List Nat) : Prop where
  ok : okp ps bs
  nx : Nxt ps bs c
  oo : wr.ownsRow w.heap.size 3 1 ov bs.length ((outs ps bs).map (Value.int .i64))
  no : wr.ownsRow w.heap.size 3 1 (.slice (some ⟨g, 0, none⟩) ps.length cg) ps.length (c.map vI)
  ne : ov.ownBlock ≠ some g
  b : Below w.heap.size w wr
theorem R1.late {w wr w' : World} {ov : Value} {g cg : Nat} {ps : List (List Int)} {bs c : List Nat} (h : R1 w wr ov g cg ps bs c) (hb : Below wr.heap.size wr w') : R1 w w' ov g cg ps bs c :=
  ⟨h.ok, h.nx, own_keep h.oo (kept_below (fun _ => False) hb) (fun _ _ => id), own_keep h.no (kept_below (fun _ => False) hb) (fun _ _ => id), h.ne, h.b.trans (hb.mono h.b.size)⟩
theorem drewN_late (w : World) (n : Nat) : Below w.heap.size w (w.drewN n) := ⟨rfl, rfl, rfl, Nat.le_refl _, fun _ _ => rfl⟩
theorem zeros_nat (n : Nat) : (List.replicate n (0 : Int)).map (Value.int .i64) = (List.replicate n (0 : Nat)).map vI := by simp [vI]
set_option maxHeartbeats 3200000 in
theorem refmerge_is (w : World) (v : Value) (ps : List (List Int)) (us : List Value) (h : Lsl w v ps us) (hl : ps.length ≤ 1048576) (ht : tot ps ≤ 1048576) :
    Calls Tryd.prog 17 #[v] w fun e w' => ∃ o a c, e = .returned (.slice a o.length c) ∧ Hid (Mgd ps o ∧ Sl w' (.slice a o.length c) o ∧ Below w.heap.size w w') := by
  obtain ⟨a0, c0, rfl, _, _⟩ := id h
  have H := mkHid h
  have HL := mkHid hl
  have HT := mkHid ht
  have hli : (ps.length : Int) ≤ 1048576 := by omega
  obtain ⟨ii, hii⟩ : ∃ ii, Hid (Tryd.prog.info? 3 = some ii ∧ ii.zero = some (.int .i64 0) ∧ ii.size = 1 ∧ ii.bytes = 8) := by
    obtain ⟨ie, h1, h2, h3, h4⟩ := info_parts infoIntL
    exact ⟨ie, mkHid ⟨h1, h2, h3, h4⟩⟩
  clear h hl ht
  go_enter Tryd.func17, Tryd.ntmps17
  go_wp2_with (first | (refine wpList_make_full _ rfl (.tmp 9) (.tmp 9) 36 rfl w.heap.size 3 ii (.int .i64 0) 1 Tryd.underlying36 hii.out.1 hii.out.2.1 hii.out.2.2.1 .i64 .i64 (ps.length : Int) (ps.length : Int) ps.length rfl rfl rfl rfl (by rw [hii.out.2.2.2]; have := HL.out; omega) (by have := HL.out; unfold maxLen; omega) (Nat.le_refl _) ?_; intro w5 ho5 hg5; rw [ints_made] at ho5; have HO5 := mkHid ho5; have HB5 := mkHid ((Below.refl _ w).grown hg5 (Nat.le_refl _) (fun k hk => by simp at hk)); clear ho5 hg5))
  have hlt5 : w.heap.size < w5.heap.size := (HO5.out.lt w.heap.size rfl).2
  have HR : Hid (R1 w (w5.alloc (.cells #[] 3)) (.slice (some ⟨w5.heap.size, 0, none⟩) 0 0) w.heap.size ps.length ps [] (List.replicate ps.length 0)) := mkHid ⟨trivial, Nxt.start ps, World.ownsRow_made (base := w.heap.size) (e := 3) (size := 1) w5 #[] 0 HB5.out.size (by unfold maxLen; omega) rfl, by rw [← zeros_nat]; exact own_keep HO5.out (kept_below (fun _ => False) ((Below.refl _ w5).alloc (Nat.le_refl _) _)) (fun _ _ => id), by simp [Value.ownBlock]; omega, HB5.out.trans ((Below.refl _ w5).alloc HB5.out.size _)⟩
  clear HO5 HB5 hlt5
  go_loopw [4] (fun ov wr => ∃ bs c, R1 w wr ov w.heap.size ps.length ps bs c) (fun ov _ => tot ps - (match ov with | .slice _ n _ => n | _ => 0))
  case atStart => exact ⟨[], _, HR.out⟩
  case round =>
    clear HR
    obtain ⟨bs, c, hR⟩ := hrel
    have HR := mkHid hR
    obtain ⟨oa, oc, hov⟩ := own_shape hR.oo
    subst hov
    clear hR
    go_wp2
    go_loopw [5, 14] (fun bv iv wx => ∃ (best : Int) (j q : Nat), bv = .int .i64 best ∧ iv = .int .i64 (j : Int) ∧ j ≤ ps.length ∧ Hid (Bto (after ps bs) j best) ∧ wx = wr.drewN q) (fun _ iv _ => ps.length - (intOf iv).toNat)
    case atStart => exact ⟨-1, 0, 0, rfl, rfl, Nat.zero_le _, mkHid (Bto.start _), rfl⟩
    case round =>
      obtain ⟨best, j, q, rfl, rfl, hj, HB, hwx⟩ := hrel
      subst hwx
      by_cases hlt : j < ps.length
      · obtain ⟨lb, lo, a1, c1, rfl, _, x0, hx⟩ := H.out.at HR.out.b j hlt
        have hji : (j : Int) < ps.length := by omega
        have hcl : j < c.length := by rw [HR.out.nx.l]; exact hlt
        have y0 : wr.cell? ⟨w.heap.size, j, none⟩ = some (vI (c.getD j 0)) := own_at HR.out.no j _ (by simp [List.getD, hcl])
        have hle := HR.out.nx.le j hlt
        have hln := HR.out.nx.len hlt
        have hhd := HR.out.nx.hd hlt
        obtain ⟨p, hp⟩ : ∃ p, p = c.getD j 0 := ⟨_, rfl⟩
        obtain ⟨l, hl⟩ : ∃ l, l = (la ps j).length := ⟨_, rfl⟩
        rw [← hp] at y0 hle hln hhd
        rw [← hl] at x0 hx hle hln
        unfold vI at y0
        have hl2 : (l : Int) ≤ 1048576 := by have := la_le_tot ps j; have := HT.out; omega
        have hpi : (p : Int) ≤ l := by omega
        have HHD := mkHid hhd
        have HLN := mkHid hln
        clear hhd hln hcl hp hl
        by_cases hpl : p < l
        · obtain ⟨g1, o1, rfl, hc⟩ := hx (by omega)
          have z0 := hc p hpl
          obtain ⟨x, hxx⟩ : ∃ x, x = (la ps j).getD p 0 := ⟨_, rfl⟩
          rw [← hxx] at z0
          rw [← hxx] at HHD
          have hpli : (p : Int) < l := by omega
          have HPOS : Hid (0 < (la (after ps bs) j).length) := mkHid (by rw [HLN.out]; omega)
          clear hc hx hxx
          rcases HB.out.cases with rfl | ⟨b, rfl, hbj, hbp⟩
          · have HN := mkHid (HB.out.first HPOS.out)
            go_wp2
            go_quiet (fail)
            go_wp2
            go_roundw
            case rel => exact ⟨(j : Int), j + 1, q + nq, rfl, by go_num, by omega, HN, by simp [World.drewN]⟩
            case measure => simp [intOf]; omega
          · have hbl : b < ps.length := by omega
            obtain ⟨lb', lo', a2, c2, e2, _, x2, hx2⟩ := H.out.at HR.out.b b hbl
            simp only [Option.some.injEq, Addr.mk.injEq, and_true] at e2
            obtain ⟨rfl, rfl⟩ := e2
            have hcl : b < c.length := by rw [HR.out.nx.l]; exact hbl
            have y2 : wr.cell? ⟨w.heap.size, b, none⟩ = some (vI (c.getD b 0)) := own_at HR.out.no b _ (by simp [List.getD, hcl])
            have hln2 := HR.out.nx.len hbl
            have hhd2 := HR.out.nx.hd hbl
            rw [hln2] at hbp
            obtain ⟨p2, hp2⟩ : ∃ p2, p2 = c.getD b 0 := ⟨_, rfl⟩
            obtain ⟨l2, hl2'⟩ : ∃ l2, l2 = (la ps b).length := ⟨_, rfl⟩
            rw [← hp2] at y2 hbp hhd2
            rw [← hl2'] at x2 hx2 hbp
            unfold vI at y2
            obtain ⟨g2, o2, rfl, hc2⟩ := hx2 (by omega)
            have z2 := hc2 p2 (by omega)
            obtain ⟨y, hyy⟩ : ∃ y, y = (la ps b).getD p2 0 := ⟨_, rfl⟩
            rw [← hyy] at z2 hhd2
            have HHD2 := mkHid hhd2
            have hbi : (b : Int) < ps.length := by omega
            have hb0 : ¬ (b : Int) < 0 := by omega
            have hp2i : (p2 : Int) < l2 := by omega
            clear hc2 hx2 hyy hhd2 hln2 hcl hp2 hl2' hbp
            by_cases hxy : x < y
            · have HN := mkHid (HB.out.less HPOS.out (by rw [HHD.out, HHD2.out]; exact hxy))
              go_wp2
              go_quiet (fail)
              go_wp2
              go_roundw
              case rel => exact ⟨(j : Int), j + 1, q + nq, rfl, by go_num, by omega, HN, by simp [World.drewN]⟩
              case measure => simp [intOf]; omega
            · have HN := mkHid (HB.out.more (by rw [HHD.out, HHD2.out]; exact hxy))
              go_wp2
              go_quiet (fail)
              go_wp2
              go_roundw
              case rel => exact ⟨(b : Int), j + 1, q + nq, rfl, by go_num, by omega, HN, by simp [World.drewN]⟩
              case measure => simp [intOf]; omega
        · have HN := mkHid (HB.out.skip (by rw [HLN.out]; omega))
          have hpli : ¬ (p : Int) < l := by omega
          clear hx
          go_wp2
          go_quiet (fail)
          go_wp2
          go_roundw
          case rel => exact ⟨best, j + 1, q + nq, rfl, by go_num, by omega, HN, by simp [World.drewN]⟩
          case measure => simp [intOf]; omega
      · obtain rfl : j = ps.length := by omega
        have hal := after_len ps bs
        have HBF : Hid (Bto (after ps bs) (after ps bs).length best) := mkHid (by rw [hal]; exact HB.out)
        clear hal HB
        rcases HBF.out.cases with rfl | ⟨b, rfl, hbj, hbp⟩
        · have HDN := mkHid HBF.out.none
          have HRq := mkHid (HR.out.late (drewN_late wr q))
          go_wp2
          go_ret
          refine ⟨outs ps bs, oa, oc, by rw [outs_len]; rfl, ⟨bs, HR.out.ok, HDN.out, rfl⟩, ?_, HRq.out.b⟩
          have hs := HRq.out.oo
          rw [← outs_len ps bs] at hs
          exact (own_slc hs).sl
        · have hB := HBF.out.bst
          have hbl : b < ps.length := by have := hB.1; rwa [after_len] at this
          have HRq := mkHid (HR.out.late (drewN_late wr q))
          obtain ⟨lb, lo, a2, c2, rfl, _, x2w, hx2⟩ := H.out.at (Below.refl _ _) b hbl
          have hcl : b < c.length := by rw [HR.out.nx.l]; exact hbl
          have y2 : (wr.drewN q).cell? ⟨w.heap.size, b, none⟩ = some (vI (c.getD b 0)) := own_at HRq.out.no b _ (by simp [List.getD, hcl])
          have hln2 := HR.out.nx.len hbl
          have hhd2 := HR.out.nx.hd hbl
          rw [hln2] at hbp
          obtain ⟨p2, hp2⟩ : ∃ p2, p2 = c.getD b 0 := ⟨_, rfl⟩
          obtain ⟨l2, hl2'⟩ : ∃ l2, l2 = (la ps b).length := ⟨_, rfl⟩
          rw [← hp2] at y2 hbp hhd2
          rw [← hl2'] at x2w hx2 hbp
          unfold vI at y2
          obtain ⟨g2, o2, rfl, hc2⟩ := hx2 (by omega)
          have z2w := hc2 p2 (by omega)
          obtain ⟨y, hyy⟩ : ∃ y, y = (la ps b).getD p2 0 := ⟨_, rfl⟩
          rw [← hyy] at z2w hhd2
          have x2 := bcell HRq.out.b x2w
          have z2 := bcell HRq.out.b z2w
          have hll : (l2 : Int) ≤ 1048576 := by have := la_le_tot ps b; have := HT.out; omega
          have htt := tot_after (okp_snoc HR.out.ok hB)
          have HBL : Hid (bs.length + 1 ≤ tot ps) := mkHid (by simp at htt; omega)
          generalize wr.drewN q = w3 at *
          have hb0 : ¬ (b : Int) < 0 := by omega
          have hbi : (b : Int) < ps.length := by omega
          have hp2i : (p2 : Int) < l2 := by omega
          have hww : w.heap.size < w3.heap.size := by have := HRq.out.no.lt w.heap.size rfl; exact this.2
          have HC := mkHid (And.intro hp2 (And.intro hcl (And.intro hB (And.intro hhd2 hbl))))
          have HX2 := mkHid (And.intro x2w z2w)
          clear x2w z2w
          clear hp2 hl2' hyy hhd2 hln2 hbp hcl hB hx2 hc2 htt hbj HBF hj hlt
          go_wp2
          refine wp_region_held_drew (S := fun W => W.cell? ⟨lb, lo + b, none⟩ = some (.slice (some ⟨g2, o2, none⟩) l2 c2) ∧ W.cell? ⟨w.heap.size, b, none⟩ = some (.int .i64 (p2 : Int)) ∧ W.cell? ⟨g2, o2 + p2, none⟩ = some (.int .i64 y)) (by kernel_rfl) ⟨x2, y2, z2⟩ (fun hHeld => ?_)
          refine takeD 0 55 (.slice oa bs.length oc) rfl rfl (by kernel_rfl) (by kernel_rfl) (by kernel_rfl) (fun _ _ _ h => h) (Or.inl ⟨by kernel_rfl, by intro w hSw; (try dsimp only at hSw); go_simp⟩) hHeld ?_
          simp only [List.set_cons_zero, List.set_cons_succ]
          refine takeD 1 56 (.slice (some ⟨lb, lo, none⟩) ps.length c0) rfl rfl (by kernel_rfl) (by kernel_rfl) (by kernel_rfl) (fun _ _ _ h => h) (Or.inl ⟨by kernel_rfl, by intro w hSw; (try dsimp only at hSw); go_simp⟩) hHeld ?_
          simp only [List.set_cons_zero, List.set_cons_succ]
          refine takeD 2 57 (.int .i64 (b : Int)) rfl rfl (by kernel_rfl) (by kernel_rfl) (by kernel_rfl) (fun _ _ _ h => h) (Or.inl ⟨by kernel_rfl, by intro w hSw; (try dsimp only at hSw); go_simp⟩) hHeld ?_
          simp only [List.set_cons_zero, List.set_cons_succ]
          refine takeD 3 58 (.pointer (some ⟨lb, lo + b, none⟩)) rfl rfl (by kernel_rfl) (by kernel_rfl) (by kernel_rfl) (fun _ _ _ h => h) (Or.inl ⟨by kernel_rfl, by intro w hSw; (try dsimp only at hSw); go_simp⟩) hHeld ?_
          simp only [List.set_cons_zero, List.set_cons_succ]
          refine takeD 4 59 (.slice (some ⟨g2, o2, none⟩) l2 c2) rfl rfl (by kernel_rfl) (by kernel_rfl) (by kernel_rfl) (fun _ _ _ h => h) (Or.inl ⟨by kernel_rfl, by intro w hSw; (try dsimp only at hSw); go_simp⟩) hHeld ?_
          simp only [List.set_cons_zero, List.set_cons_succ]
          refine takeD 5 60 (.slice (some ⟨w.heap.size, 0, none⟩) ps.length ps.length) rfl rfl (by kernel_rfl) (by kernel_rfl) (by kernel_rfl) (fun _ _ _ h => h) (Or.inl ⟨by kernel_rfl, by intro w hSw; (try dsimp only at hSw); go_simp⟩) hHeld ?_
          simp only [List.set_cons_zero, List.set_cons_succ]
          refine takeD 6 61 (.int .i64 (b : Int)) rfl rfl (by kernel_rfl) (by kernel_rfl) (by kernel_rfl) (fun _ _ _ h => h) (Or.inl ⟨by kernel_rfl, by intro w hSw; (try dsimp only at hSw); go_simp⟩) hHeld ?_
          simp only [List.set_cons_zero, List.set_cons_succ]
          refine takeD 7 62 (.pointer (some ⟨w.heap.size, b, none⟩)) rfl rfl (by kernel_rfl) (by kernel_rfl) (by kernel_rfl) (fun _ _ _ h => h) (Or.inl ⟨by kernel_rfl, by intro w hSw; (try dsimp only at hSw); go_simp⟩) hHeld ?_
          simp only [List.set_cons_zero, List.set_cons_succ]
          refine takeD 8 63 (.int .i64 (p2 : Int)) rfl rfl (by kernel_rfl) (by kernel_rfl) (by kernel_rfl) (fun _ _ _ h => h) (Or.inl ⟨by kernel_rfl, by intro w hSw; (try dsimp only at hSw); go_simp⟩) hHeld ?_
          simp only [List.set_cons_zero, List.set_cons_succ]
          refine takeD 9 64 (.pointer (some ⟨g2, o2 + p2, none⟩)) rfl rfl (by kernel_rfl) (by kernel_rfl) (by kernel_rfl) (fun _ _ _ h => h) (Or.inl ⟨by kernel_rfl, by intro w hSw; (try dsimp only at hSw); go_simp⟩) hHeld ?_
          simp only [List.set_cons_zero, List.set_cons_succ]
          refine takeD 10 65 (.int .i64 y) rfl rfl (by kernel_rfl) (by kernel_rfl) (by kernel_rfl) (fun _ _ _ h => h) (Or.inl ⟨by kernel_rfl, by intro w hSw; (try dsimp only at hSw); go_simp⟩) hHeld ?_
          simp only [List.set_cons_zero, List.set_cons_succ]
          refine wpAnyH_ready (rs := [11]) (by kernel_rfl) (by simp) (AllReadyH.cons rfl (fun K hK => ?_) AllReadyH.nil)
          go_simp
          obtain ⟨W1, hW1⟩ : ∃ W1, W1 = (w3.alloc (.cells #[.int .i64 y] 3)).drew := ⟨_, rfl⟩
          have hbel3 : Below w3.heap.size w3 W1 := by rw [hW1]; exact ((Below.refl _ w3).alloc (Nat.le_refl _) _).drew
          have hsrc : Src Tryd.prog 1 36 (.slice (some ⟨w3.heap.size, 0, none⟩) 1 1) 1 [.int .i64 y] W1 := src_int y _ (by rw [hW1]; simp [go_sem])
          rw [← hW1]
          clear hW1
          refine hK.out _ _ ⟨bcell hbel3 x2, bcell hbel3 y2, bcell hbel3 z2⟩ (fun hHeld => ?_)
          clear hK K x2 y2 z2
          refine wpAnyH_ready (rs := [12]) (by kernel_rfl) (by simp) (AllReadyH.cons rfl (fun K hK => ?_) AllReadyH.nil)
          refine step_append_srcV (w := W1) rfl (.tmp 55) (.tmp 66) 36 36 rfl w.heap.size 3 ii Tryd.underlying36 hii.out.1 (.int .i64 0) 8 hii.out.2.1 rfl hii.out.2.2.1 hii.out.2.2.2 (.slice oa bs.length oc) bs.length ((outs ps bs).map (Value.int .i64)) (by simp [Act.eval]) (own_keep HRq.out.oo (kept_below (fun _ => False) hbel3) (fun _ _ => id)) (.slice (some ⟨w3.heap.size, 0, none⟩) 1 1) 1 [.int .i64 y] (by simp [Act.eval]) hsrc (by have := HBL.out; have := HT.out; unfold maxLen; omega) (by have := HBL.out; have := HT.out; omega) (Nat.le_trans HRq.out.b.size hbel3.size) ?_
          intro v4 w4 ho4 hg4 hat4
          obtain ⟨oa4, oc4, hsh⟩ := own_shape ho4
          subst hsh
          obtain ⟨hp2, hcl, hB, hhd2, hbl⟩ := HC.out
          have k4 : Kept (fun k => (Value.slice oa bs.length oc).ownBlock = some k) W1 w4 := Kept.grown hg4 (fun k hk => hk)
          have no4 : w4.ownsRow w.heap.size 3 1 (.slice (some ⟨w.heap.size, 0, none⟩) ps.length ps.length) ps.length (c.map vI) := own_keep (own_keep HRq.out.no (kept_below (fun _ => False) hbel3) (fun _ _ => id)) k4 (fun k hk e => by simp [Value.ownBlock] at hk; subst hk; exact HRq.out.ne e)
          have n2 : w4.cell? ⟨w.heap.size, b, none⟩ = some (vI p2) := own_at no4 b _ (by rw [hp2]; simp [List.getD, hcl])
          have f2 : w4.frozen? ⟨w.heap.size, b, none⟩ = false := own_frozen no4 b
          have hne4 : (Value.slice oa4 (bs.length + 1) oc4).ownBlock ≠ some w.heap.size := by
            have := hbel3.size
            rcases hat4 with e | e
            · rw [e]; exact HRq.out.ne
            · rw [e]; simp; omega
          have hb4 : Below w.heap.size w w4 := HRq.out.b.trans ((hbel3.mono HRq.out.b.size).trans (k4.below (fun k hk => (HRq.out.oo.lt k hk).1) (Nat.le_trans HRq.out.b.size hbel3.size)))
          have HN4 : Hid (R1 w (w4.setCell ⟨w.heap.size, b, none⟩ (.int .i64 ((p2 : Int) + 1))) (.slice oa4 (bs.length + 1) oc4) w.heap.size ps.length ps (bs ++ [b]) (c.set b (p2 + 1))) := mkHid (by
            refine ⟨okp_snoc HRq.out.ok hB, ?_, ?_, ?_, hne4, hb4.setCell (Nat.le_refl _) _⟩
            · have := HRq.out.nx.step hB
              rw [← hp2] at this
              exact this
            · have ho5 : w4.ownsRow w.heap.size 3 1 (.slice oa4 (bs.length + 1) oc4) (bs ++ [b]).length ((outs ps (bs ++ [b])).map (Value.int .i64)) := by
                rw [outs_snoc, List.map_append, hhd2, List.length_append]
                exact ho4
              exact own_keep ho5 (Kept.setCell (F := fun k => k = w.heap.size) w4 (p := ⟨w.heap.size, b, none⟩) rfl _) (fun k hk e => by subst e; exact hne4 hk)
            · have := own_set no4 b (vI (p2 + 1))
              rw [← List.map_set] at this
              have e : vI (p2 + 1) = .int .i64 ((p2 : Int) + 1) := by simp [vI]
              rw [e] at this
              exact this)
          unfold vI at n2
          refine hK.out _ _ ⟨bcell hb4 HX2.out.1, n2, bcell hb4 HX2.out.2⟩ (fun hHeld => ?_)
          clear hK K hp2 hhd2 hcl hB ho4 hg4 hat4 k4 no4 hne4 hsrc hbel3 hww
          simp only [Act.put, List.setIfInBounds_toArray]
          refine takeD 13 4 (.slice oa4 (bs.length + 1) oc4) rfl rfl (by kernel_rfl) (by kernel_rfl) (by kernel_rfl) (fun _ _ _ h => h) (Or.inl ⟨by kernel_rfl, by intro w hSw; (try dsimp only at hSw); go_simp⟩) hHeld ?_
          simp only [List.set_cons_zero, List.set_cons_succ]
          refine wpAnyH_done (by kernel_rfl) ?_ _
          clear hHeld
          go_wp2
          go_roundw
          case rel => exact ⟨bs ++ [b], c.set b (p2 + 1), HN4.out⟩
          case measure => simp; have := HBL.out; omega
end Go.Proofs.YtjlmkmhggkcbhaaDoor
